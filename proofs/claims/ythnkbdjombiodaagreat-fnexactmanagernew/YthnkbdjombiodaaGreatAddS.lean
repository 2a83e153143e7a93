/-
  What the model's Add answers; a walk over the dump.
-/
import Derived.Test.YthnkbdjombiodaaGreatPackD
namespace Go.Proofs.YthnkbdjombiodaaGreat
open Go.RowKit
set_option linter.unusedVariables false

set_option maxRecDepth 100000 in
set_option maxHeartbeats 1000000 in
theorem specAdd_any (a b c d : Int) (w : World) :
    Calls Tryz.prog 87 #[rv a b, rv c d] w fun e w' => e = .returned (.tuple #[bothV 1 a b c d, .bool (bothOk 1 a b c d)]) ∧ Below w.heap.size w w' := by
  have hv : ∃ x y, bothV 1 a b c d = rv x y := by unfold bothV; split <;> exact ⟨_, _, rfl⟩
  obtain ⟨x, y, hv⟩ := hv
  have hc := l02Both_any a b c d 1 ((w.alloc (.cells #[.int .i64 a, .int .i64 b] 71)).alloc (.cells #[.int .i64 c, .int .i64 d] 71) |>.alloc (.cells #[.int .i64 0, .int .i64 0] 71)) (by decide)
  rw [hv] at hc ⊢
  go_enter Tryz.func87, Tryz.ntmps87
  go_wp2_with fail
  refine hc.mono ?_
  rintro e w1 ⟨rfl, hb⟩
  have hk : Var w1 71 (w.heap.size + 1 + 1) 0 0 := Var.below (by simpa using var_new ((w.alloc (.cells #[.int .i64 a, .int .i64 b] 71)).alloc (.cells #[.int .i64 c, .int .i64 d] 71)) 71 0 0) hb
  have k0 := hk.c0
  have k1 := hk.c1
  have k2 := hk.f 0
  have k3 := hk.f 1
  have k4 := hk.s0 (.int .i64 x)
  have k5 := hk.s1 (.int .i64 x) (.int .i64 y)
  have HB := hide (below_on (below_al (below_al (below_al (Below.refl _ _) _) _) _) hb)
  clear hb hc hk
  go_wp2
  refine bodyPost_ret (v := .tuple #[rv x y, .bool (bothOk 1 a b c d)]) (by simp [results, Tryz.results87, go_sem, k4, k5]) rfl ⟨rfl, ?_⟩
  repeat (first | exact unhide HB | refine below_al ?_ _ | refine below_sc ?_ _ _ _ (by omega))
end Go.Proofs.YthnkbdjombiodaaGreat
