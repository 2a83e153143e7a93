/-
  What is due to a queue of a total, and the most that it may have: what the program's DueOf and MostOf answer; walks over the dump.
-/
import Derived.Test.YtgallgdmedfgmaaGreatPartI
namespace Go.Proofs.YtgallgdmedfgmaaGreat
open Go.RowKit
set_option linter.unusedVariables false

set_option maxRecDepth 100000 in
set_option maxHeartbeats 1000000 in
theorem mostFn_any (w : World) (q : Q) :
    Calls Tryz.prog 69 #[qv q] w fun e w' => e = .returned (.int .i64 (fieldOf true q)) ∧ Below w.heap.size w w' := by
  go_enter Tryz.func69, Tryz.ntmps69
  go_wp2
  go_ret
  exact ⟨rfl, below_al (Below.refl _ _) _⟩

set_option maxRecDepth 100000 in
set_option maxHeartbeats 1000000 in
theorem implMostOf_any (ao : Option Addr) (len cap : Nat) (l : List Q) (nm : List UInt8) (a b : Int) (w : World) (h : QRow w ao len l) (hl : len ≤ 1048576) (hn : ∀ q ∈ l, q.name.length ≤ 1048576) (hc : len ≤ cap) :
    Calls Tryz.prog 50 #[.slice ao len cap, .string (bs nm), rv a b] w fun e w' => e = .returned (rv (ofR l nm a b true).1 (ofR l nm a b true).2) ∧ Below w.heap.size w w' := by
  have hmf : ∀ (fn : Fn) (first cap : Array Value) (w : World), (Instr.makeFunc fn first cap).run Tryz.prog w = .ok (.func fn first cap) w := fun _ _ _ _ => rfl
  have HB0 := hide (below_al (below_al (Below.refl _ w) (.cells #[.int .i64 a, .int .i64 b] 39)) (.cells #[.int .i64 0, .int .i64 0] 39))
  have HV2 := hide (var_new2 w 39 39 a b 0 0)
  have C := hide (partOf_any 69 (enters_of Tryz.func69 (by kernel_rfl) rfl) true (fun wx q => mostFn_any wx q) ao len cap l nm a b _ (h.below (unhide HB0)) hl hn hc)
  obtain ⟨⟨x, y⟩, hxy⟩ : ∃ p, ofR l nm a b true = p := ⟨_, rfl⟩
  rw [hxy] at C ⊢
  clear hxy h hn
  go_enter Tryz.func50, Tryz.ntmps50
  go_wp2_with fail
  refine (unhide C).mono ?_
  rintro e w1 ⟨rfl, hb⟩
  have V2 := (unhide HV2).below hb
  have k0 := V2.c0
  have k1 := V2.c1
  have k2 := V2.f 0
  have k3 := V2.f 1
  have k4 := V2.s0 (.int .i64 x)
  have k5 := V2.s1 (.int .i64 x) (.int .i64 y)
  have HB := hide (below_on (unhide HB0) hb)
  clear hb V2 HV2 HB0 C
  go_wp2
  refine bodyPost_ret (v := rv x y) (by simp [results, Tryz.results50, go_sem, k4, k5]) rfl ⟨rfl, ?_⟩
  repeat (first | exact unhide HB | refine below_al ?_ _ | refine Below.drew ?_ | refine below_sc ?_ _ _ _ (by omega))
end Go.Proofs.YtgallgdmedfgmaaGreat
