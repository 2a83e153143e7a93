/-
  What the model's DrawAdd answers: two amounts, or what looks like such; a walk over the dump.
-/
import Derived.Test.YtoejklldpceghaaDoorDrawTwo
namespace Go.Proofs.YtoejklldpceghaaDoor
open Go.RowKit
set_option linter.unusedVariables false

set_option maxRecDepth 100000 in
set_option maxHeartbeats 2000000 in
theorem drawAdd_any (B : Nat) (ao : Option Addr) (len cap : Nat) (w : World) (hcode : Code w B ao len) :
    Calls Tryd.prog 5 #[.slice ao len cap] w fun e w' => ∃ a b c d : Int, e = .returned (.tuple #[rv a b, rv c d]) ∧ (I64 a ∧ I64 b ∧ I64 c ∧ I64 d) ∧ Below w.heap.size w w' := by
  have HB0 := hide (below_al (below_al (Below.refl _ w) zz) zz)
  have HK := hide (hcode.below (unhide HB0) hcode.1)
  have V0 := hide ((var_new w 25 0 0).al zz)
  have V1 := hide (var_new2 w 25 25 0 0 0 0)
  clear hcode
  go_enter Tryd.func5, Tryd.ntmps5
  go_wp2_with fail
  refine (l02Two_any B ao len cap _ (unhide HK)).mono ?_
  rintro e w3 ⟨a, b, c, d, rfl, hi, hb⟩
  have V03 := (unhide V0).below hb
  have V13 := (unhide V1).below hb
  have a0 := V03.c0
  have a1 := V03.c1
  have a2 := V03.f 0
  have a3 := V03.f 1
  have b0 := V13.c0
  have b1 := V13.c1
  have b2 := V13.f 0
  have b3 := V13.f 1
  have k4 := V03.s0 (.int .i64 a)
  have k5 := V03.s1 (.int .i64 a) (.int .i64 b)
  have V14 := (V13.other w.heap.size 0 (.int .i64 a) (by omega)).other w.heap.size 1 (.int .i64 b) (by omega)
  have k6 := V14.s0 (.int .i64 c)
  have k7 := V14.s1 (.int .i64 c) (.int .i64 d)
  have HB := hide (below_on (unhide HB0) hb)
  have HI := hide hi
  clear V14 V03 V13 hb hi HK V0 V1
  go_wp2
  refine bodyPost_ret (v := .tuple #[rv a b, rv c d]) (by simp [results, Tryd.results5, go_sem, k4, k5, k6, k7]) rfl ⟨a, b, c, d, rfl, unhide HI, below_sc (below_sc (below_sc (below_sc (unhide HB) _ _ _ (by omega)) _ _ _ (by omega)) _ _ _ (by omega)) _ _ _ (by omega)⟩
end Go.Proofs.YtoejklldpceghaaDoor
