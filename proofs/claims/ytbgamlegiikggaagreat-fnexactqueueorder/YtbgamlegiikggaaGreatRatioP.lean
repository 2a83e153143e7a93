/-
  What the program's Ratio answers, and the ratio of two amounts at once; walks over the dump.
-/
import Derived.Test.YtbgamlegiikggaaGreatFracI
import Derived.Test.YtbgamlegiikggaaGreatPackD
import Derived.Test.YtbgamlegiikggaaGreatVar4
namespace Go.Proofs.YtbgamlegiikggaaGreat
open Go.RowKit
set_option linter.unusedVariables false

set_option maxRecDepth 100000 in
set_option maxHeartbeats 2000000 in
theorem pairRatio_any (a b c d : Int) (w : World) :
    Calls Tryz.prog 138 #[pv a b c d] w fun e w' => e = .returned (fv (ratio a b c d)) ∧ Below w.heap.size w w' := by
  have HV1 := hide ((var4_new w 66 a b c d).al (.cells #[.int .i64 0, .int .i64 0] 160))
  have HV2 := hide (show Var ((w.alloc (.cells #[.int .i64 a, .int .i64 b, .int .i64 c, .int .i64 d] 66)).alloc (.cells #[.int .i64 0, .int .i64 0] 160)) 160 (w.heap.size + 1) 0 0 by have := var_new (w.alloc (.cells #[.int .i64 a, .int .i64 b, .int .i64 c, .int .i64 d] 66)) 160 0 0; simpa using this)
  have HB0 := hide (below_al (below_al (Below.refl _ w) (.cells #[.int .i64 a, .int .i64 b, .int .i64 c, .int .i64 d] 66)) (.cells #[.int .i64 0, .int .i64 0] 160))
  have hc := hide (pairOk_any a b c d)
  cases h0 : resOk a b && resOk c d
  · rw [show ratio a b c d = (0, 1) by rw [ratio, h0]; rfl]
    go_enter Tryz.func138, Tryz.ntmps138
    go_wp2_with fail
    refine (unhide hc _).mono ?_
    rw [h0]
    rintro e w1 ⟨rfl, hb⟩
    have V2 := (unhide HV2).below hb
    have k0 := V2.c0
    have k1 := V2.c1
    have k2 := V2.f 0
    have k3 := V2.f 1
    have k4 := V2.s0 (.int .i64 0)
    have k5 := V2.s1 (.int .i64 0) (.int .i64 1)
    have HB := hide (below_on (unhide HB0) hb)
    clear hb HV1 HV2 HB0 V2 hc
    go_wp2
    refine bodyPost_ret (v := rv 0 1) (by simp [results, Tryz.results138, go_sem, k4, k5]) rfl ⟨rfl, ?_⟩
    repeat (first | exact unhide HB | refine below_al ?_ _ | refine Below.drew ?_ | refine below_sc ?_ _ _ _ (by omega))
  · have h0' := h0
    simp only [Bool.and_eq_true] at h0'
    obtain ⟨s1, s2⟩ := resOk_small h0'.1
    obtain ⟨s3, s4⟩ := resOk_small h0'.2
    have F1 := part_frac s1 s3
    have F2 := part_frac s2 s4
    have hr : ratio a b c d = if less (part a c).1 (part a c).2 (part b d).1 (part b d).2 then part b d else part a c := by rw [ratio, h0]; rfl
    rw [hr]
    have hp1 := hide (fractionOf_any a c)
    have hp2 := hide (fractionOf_any b d)
    obtain ⟨⟨x1, y1⟩, e1⟩ : ∃ p, part a c = p := ⟨_, rfl⟩
    obtain ⟨⟨x2, y2⟩, e2⟩ : ∃ p, part b d = p := ⟨_, rfl⟩
    rw [e1] at hp1 F1 ⊢
    rw [e2] at hp2 F2 ⊢
    obtain ⟨l, hl⟩ : ∃ l, less x1 y1 x2 y2 = l := ⟨_, rfl⟩
    have hL : ∀ wx, Calls Tryz.prog 103 #[rv x1 y1, rv x2 y2] wx fun e w' => e = .returned (.bool l) ∧ Below wx.heap.size wx w' := fun wx => by have := fracLess_any x1 y1 x2 y2 wx F1 F2; rw [hl] at this; exact this
    have HL := hide hL
    rw [show less (x1, y1).1 (x1, y1).2 (x2, y2).1 (x2, y2).2 = l from hl]
    clear hL hl F1 F2 e1 e2 hr s1 s2 s3 s4 h0'
    go_enter Tryz.func138, Tryz.ntmps138
    go_wp2_with fail
    refine (unhide hc _).mono ?_
    rw [h0]
    rintro e w1 ⟨rfl, hb⟩
    have V1 := (unhide HV1).below hb
    have HV1' := hide V1
    have V2 := hide ((unhide HV2).below hb)
    have a1 := V1.c0
    have a2 := V1.c1
    have a3 := V1.c2
    have a4 := V1.c3
    have HB := hide (below_on (unhide HB0) hb)
    clear hb HV1 HV2 HB0 V1 hc
    go_wp2_with fail
    refine (unhide hp1 _).mono ?_
    rintro e w2 ⟨rfl, hb⟩
    have V3 := hide (((unhide HV1').below hb).al (.cells #[.int .i64 x1, .int .i64 y1] 160))
    have V4 := hide (((unhide V2).below hb).al (.cells #[.int .i64 x1, .int .i64 y1] 160))
    have V5 := hide (var_new w2 160 x1 y1)
    have HB2 := hide (below_al (below_on (unhide HB) hb) (.cells #[.int .i64 x1, .int .i64 y1] 160))
    clear hb HV1' V2 HB hp1 a1 a2 a3 a4
    have a1 := (unhide V3).c0
    have a2 := (unhide V3).c1
    have a3 := (unhide V3).c2
    have a4 := (unhide V3).c3
    go_wp2_with fail
    refine (unhide hp2 _).mono ?_
    rintro e w3 ⟨rfl, hb⟩
    have V6 := hide (((unhide V4).below hb).al (.cells #[.int .i64 x2, .int .i64 y2] 160))
    have V7 := hide (((unhide V5).below hb).al (.cells #[.int .i64 x2, .int .i64 y2] 160))
    have V8 := hide (var_new w3 160 x2 y2)
    have HB3 := hide (below_al (below_on (unhide HB2) hb) (.cells #[.int .i64 x2, .int .i64 y2] 160))
    clear hb V3 V4 V5 HB2 hp2 a1 a2 a3 a4
    have a1 := (unhide V7).c0
    have a2 := (unhide V7).c1
    have a3 := (unhide V8).c0
    have a4 := (unhide V8).c1
    go_wp2_with fail
    refine (unhide HL _).mono ?_
    rintro e w4 ⟨rfl, hb⟩
    have V9 := (unhide V6).below hb
    have V10 := (unhide V7).below hb
    have V11 := (unhide V8).below hb
    have HB4 := hide (below_on (unhide HB3) hb)
    clear hb V6 V7 V8 HB3 HL a1 a2 a3 a4
    have a1 := V10.c0
    have a2 := V10.c1
    have a3 := V11.c0
    have a4 := V11.c1
    have k0 := V9.c0
    have k1 := V9.c1
    have k2 := V9.f 0
    have k3 := V9.f 1
    have k4 := V9.s0 (.int .i64 x1)
    have k5 := V9.s1 (.int .i64 x1) (.int .i64 y1)
    have k6 := V9.s0 (.int .i64 x2)
    have k7 := V9.s1 (.int .i64 x2) (.int .i64 y2)
    clear V9 V10 V11
    cases l with
    | true =>
      go_wp2
      refine bodyPost_ret (v := rv x2 y2) (by simp [results, Tryz.results138, go_sem, k6, k7]) rfl ⟨rfl, ?_⟩
      repeat (first | exact unhide HB4 | refine below_al ?_ _ | refine Below.drew ?_ | refine below_sc ?_ _ _ _ (by omega))
    | false =>
      go_wp2
      refine bodyPost_ret (v := rv x1 y1) (by simp [results, Tryz.results138, go_sem, k4, k5]) rfl ⟨rfl, ?_⟩
      repeat (first | exact unhide HB4 | refine below_al ?_ _ | refine Below.drew ?_ | refine below_sc ?_ _ _ _ (by omega))
end Go.Proofs.YtbgamlegiikggaaGreat
