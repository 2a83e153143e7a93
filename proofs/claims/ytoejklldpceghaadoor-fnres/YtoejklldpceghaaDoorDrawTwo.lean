/-
  Two amounts drawn: what the model's l02Two answers; a walk over the dump.
-/
import Derived.Test.YtoejklldpceghaaDoorDrawR
import Derived.Deep.RegionWith
namespace Go.Proofs.YtoejklldpceghaaDoor
open Go.RowKit
set_option linter.unusedVariables false

abbrev zz : Obj := .cells #[.int .i64 0, .int .i64 0] 25
set_option maxRecDepth 100000 in
set_option maxHeartbeats 2000000 in
theorem l02Two_any (B : Nat) (ao : Option Addr) (len cap : Nat) (w : World) (hcode : Code w B ao len) :
    Calls Tryd.prog 25 #[.slice ao len cap] w fun e w' => ∃ a b c d : Int, e = .returned (.tuple #[rv a b, rv c d]) ∧ (I64 a ∧ I64 b ∧ I64 c ∧ I64 d) ∧ Below w.heap.size w w' := by
  have HB0 := hide (below_al (below_al (Below.refl _ w) zz) zz)
  have HK := hide (hcode.below (unhide HB0) hcode.1)
  have V0 := hide ((var_new w 25 0 0).al zz)
  have V1 := hide (var_new2 w 25 25 0 0 0 0)
  clear hcode
  go_enter Tryd.func25, Tryd.ntmps25
  go_wp2_with fail
  refine (new_st B ao len cap _ (unhide HK)).mono ?_
  rintro e w1 ⟨rfl, hs⟩
  have hg := hs.2.2.1
  simp only [World.size_alloc] at hs hg
  have V01 := hide ((unhide V0).grown hg (by omega))
  have V11 := hide ((unhide V1).grown hg (by omega))
  have HS1 := hide hs
  clear hs hg V0 V1
  go_wp2_with fail
  refine (l02Res_st _ (unhide HS1)).mono ?_
  rintro e w2 ⟨a, b, rfl, ha, hb, hs, hg⟩
  have V02 := hide ((((unhide V01).grown hg (by omega)).al (.cells #[.int .i64 a, .int .i64 b] 25)).drew)
  have V12 := hide ((((unhide V11).grown hg (by omega)).al (.cells #[.int .i64 a, .int .i64 b] 25)).drew)
  have V52 := hide ((var_new w2 25 a b).drew)
  have hlt : w.heap.size + 1 + 1 < w2.heap.size := hs.1.lt
  have HS2 := hide ((hs.alloc (.cells #[.int .i64 a, .int .i64 b] 25)).below (Below.refl _ _).drew)
  have AB := hide (And.intro ha hb)
  have l5 := (unhide V52).c0
  have l6 := (unhide V52).c1
  clear hs hg V01 V11 HS1 ha hb
  go_wp2_with fail
  go_region_with (go_at_call 30; refine (l02Res_st _ (unhide HS2)).mono ?_; rintro e w3 ⟨c, d, rfl, hc, hd, hs, hg⟩
                  have V03 := (unhide V02).grown hg (by omega)
                  have V13 := (unhide V12).grown hg (by omega)
                  have V53 := (unhide V52).grown hg (by omega)
                  have a0 := V03.c0
                  have a1 := V03.c1
                  have a2 := V03.f 0
                  have a3 := V03.f 1
                  have b0 := V13.c0
                  have b1 := V13.c1
                  have b2 := V13.f 0
                  have b3 := V13.f 1
                  have m5 := V53.c0
                  have m6 := V53.c1
                  have HS3 := hide hs
                  have CD := hide (And.intro hc hd)
                  have H03 := hide V03
                  have H13 := hide V13
                  clear V03 V13 V53 hs hg hc hd)
  all_goals
    have k4 := (unhide H03).s0 (.int .i64 a)
    have k5 := (unhide H03).s1 (.int .i64 a) (.int .i64 b)
    have V14 := ((unhide H13).other w.heap.size 0 (.int .i64 a) (by omega)).other w.heap.size 1 (.int .i64 b) (by omega)
    have k6 := V14.s0 (.int .i64 c)
    have k7 := V14.s1 (.int .i64 c) (.int .i64 d)
    have HB := hide (below_on (unhide HB0) ((unhide HS3).done (by simp)))
    clear V14 H03 H13 HS3 HS2 V02 V12 V52 HK
    go_wp2
    refine bodyPost_ret (v := .tuple #[rv a b, rv c d]) (by simp [results, Tryd.results25, go_sem, k4, k5, k6, k7]) rfl ⟨a, b, c, d, rfl, ⟨(unhide AB).1, (unhide AB).2, unhide CD⟩, below_sc (below_sc (below_sc (below_sc (unhide HB) _ _ _ (by omega)) _ _ _ (by omega)) _ _ _ (by omega)) _ _ _ (by omega)⟩
end Go.Proofs.YtoejklldpceghaaDoor
