/-
  What the model's DrawShare answers: an amount, or what looks like one, and points; a walk over the dump.
-/
import Derived.Test.YtoejklldpceghaaDoorDrawTwo
namespace Go.Proofs.YtoejklldpceghaaDoor
open Go.RowKit
set_option linter.unusedVariables false

theorem Ints.drew {w : World} {q L : Nat} (h : Ints w q L) : Ints w.drew q L := h
set_option maxRecDepth 100000 in
set_option maxHeartbeats 2000000 in
theorem drawShare_any (B : Nat) (ao : Option Addr) (len cap : Nat) (w : World) (hcode : Code w B ao len) :
    Calls Tryd.prog 10 #[.slice ao len cap] w fun e w' => ∃ a b n : Int, e = .returned (.tuple #[rv a b, .int .i64 n]) ∧ (I64 a ∧ I64 b ∧ I64 n) ∧ Below w.heap.size w w' := by
  have HB0 := hide (below_al (Below.refl _ w) zz)
  have HK := hide (hcode.below (unhide HB0) hcode.1)
  have V0 := hide (var_new w 25 0 0)
  clear hcode
  go_enter Tryd.func10, Tryd.ntmps10
  go_wp2_with fail
  refine (new_st B ao len cap _ (unhide HK)).mono ?_
  rintro e w1 ⟨rfl, hs⟩
  have hg := hs.2.2.1
  simp only [World.size_alloc] at hs hg
  have V01 := hide ((unhide V0).grown hg (by omega))
  have HS1 := hide hs
  clear hs hg V0
  go_wp2_with fail
  refine (l02Res_st _ (unhide HS1)).mono ?_
  rintro e w2 ⟨a, b, rfl, ha, hb, hs, hg⟩
  have V02 := hide ((((unhide V01).grown hg (by omega)).al (.cells #[.int .i64 a, .int .i64 b] 25)).al (.cells #[.int .i64 0, .int .i64 1, .int .i64 5000, .int .i64 3333, .int .i64 10000, .int .i64 10001, .int .i64 (-1)] 3)).drew
  have V52 := hide ((var_new w2 25 a b).drew)
  have V53 := hide (((var_new w2 25 a b).al (.cells #[.int .i64 0, .int .i64 1, .int .i64 5000, .int .i64 3333, .int .i64 10000, .int .i64 10001, .int .i64 (-1)] 3)).drew)
  have hlt : w.heap.size + 1 < w2.heap.size := hs.1.lt
  have HS2 := hide (((hs.alloc (.cells #[.int .i64 a, .int .i64 b] 25)).alloc (.cells #[.int .i64 0, .int .i64 1, .int .i64 5000, .int .i64 3333, .int .i64 10000, .int .i64 10001, .int .i64 (-1)] 3)).below (Below.refl _ _).drew)
  have hq := ints_alloc (w2.alloc (.cells #[.int .i64 a, .int .i64 b] 25)) 3 [0, 1, 5000, 3333, 10000, 10001, -1] (by decide)
  simp only [World.size_alloc] at hq
  have HQ := hide hq.drew
  have hne : Hid (w2.heap.size + 1 ≠ w.heap.size + 1) := hide (by omega)
  have AB := hide (And.intro ha hb)
  have l5 := (unhide V52).c0
  have l6 := (unhide V52).c1
  have l7 := (unhide V53).c0
  have l8 := (unhide V53).c1
  clear hs hg V01 HS1 ha hb V52 hq
  go_wp2_with fail
  go_region_with (go_at_call 31; refine (pickG_st (w2.heap.size + 1) 7 7 _ (unhide HS2) (unhide HQ) (unhide hne) (by decide) (by decide)).mono ?_; rintro e w3 ⟨n, rfl, hn, hs, hg⟩
                  have V03 := (unhide V02).grown hg (by omega)
                  have V54 := (unhide V53).grown hg (by omega)
                  have a0 := V03.c0
                  have a1 := V03.c1
                  have a2 := V03.f 0
                  have a3 := V03.f 1
                  have m5 := V54.c0
                  have m6 := V54.c1
                  have HS3 := hide hs
                  have HN := hide hn
                  have H03 := hide V03
                  clear V03 V54 hs hg hn)
  all_goals
    have k4 := (unhide H03).s0 (.int .i64 a)
    have k5 := (unhide H03).s1 (.int .i64 a) (.int .i64 b)
    have HB := hide (below_on (unhide HB0) ((unhide HS3).done (by simp)))
    clear H03 HS3 HS2 V02 V53 HK
    go_wp2
    refine bodyPost_ret (v := .tuple #[rv a b, .int .i64 n]) (by simp [results, Tryd.results10, go_sem, k4, k5]) rfl ⟨a, b, n, rfl, ⟨(unhide AB).1, (unhide AB).2, unhide HN⟩, below_sc (below_sc (unhide HB) _ _ _ (by omega)) _ _ _ (by omega)⟩
end Go.Proofs.YtoejklldpceghaaDoor
