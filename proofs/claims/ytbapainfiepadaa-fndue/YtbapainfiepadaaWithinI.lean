/-
  Whether one amount is within another: what the program's Within answers; a walk over the dump.
-/
import Derived.Test.YtbapainfiepadaaWithM
import Derived.Test.YtbapainfiepadaaPairI
namespace Go.Proofs.Ytbapainfiepadaa
open Go.RowKit
set_option linter.unusedVariables false

set_option maxRecDepth 100000 in
set_option maxHeartbeats 1000000 in
theorem implWithin_any (a b c d : Int) (w : World) :
    Calls Try.prog 19 #[rv a b, rv c d] w fun e w' => e = .returned (.bool (within a b c d)) ∧ Below w.heap.size w w' := by
  have HV1 := hide ((var_new w 26 a b).al (.cells #[.int .i64 c, .int .i64 d] 26))
  have HV2 := hide (var_new2 w 26 26 a b c d)
  have HB0 := hide (below_al (below_al (Below.refl _ w) (.cells #[.int .i64 a, .int .i64 b] 26)) (.cells #[.int .i64 c, .int .i64 d] 26))
  have hc := hide (pairOk_any a b c d)
  cases h0 : resOk a b && resOk c d
  · rw [show within a b c d = false by rw [within, h0]; rfl]
    go_enter Try.func19, Try.ntmps19
    go_wp2_with fail
    refine (unhide hc _).mono ?_
    rw [h0]
    rintro e w1 ⟨rfl, hb⟩
    have V1 := (unhide HV1).below hb
    have V2 := (unhide HV2).below hb
    have a1 := V1.c0
    have a2 := V1.c1
    have a3 := V2.c0
    have a4 := V2.c1
    have HB := hide (below_on (unhide HB0) hb)
    clear hb HV1 HV2 HB0 V1 V2 hc
    go_wp2
    go_ret
    exact ⟨rfl, unhide HB⟩
  · by_cases h3 : a ≤ c
    · by_cases h4 : b ≤ d
      · rw [show within a b c d = true by rw [within, h0]; simp [h3, h4]]
        go_enter Try.func19, Try.ntmps19
        go_wp2_with fail
        refine (unhide hc _).mono ?_
        rw [h0]
        rintro e w1 ⟨rfl, hb⟩
        have V1 := (unhide HV1).below hb
        have V2 := (unhide HV2).below hb
        have a1 := V1.c0
        have a2 := V1.c1
        have a3 := V2.c0
        have a4 := V2.c1
        have HB := hide (below_on (unhide HB0) hb)
        clear hb HV1 HV2 HB0 V1 V2 hc
        go_wp2
        go_ret
        exact ⟨rfl, unhide HB⟩
      · rw [show within a b c d = false by rw [within, h0]; simp [h4]]
        go_enter Try.func19, Try.ntmps19
        go_wp2_with fail
        refine (unhide hc _).mono ?_
        rw [h0]
        rintro e w1 ⟨rfl, hb⟩
        have V1 := (unhide HV1).below hb
        have V2 := (unhide HV2).below hb
        have a1 := V1.c0
        have a2 := V1.c1
        have a3 := V2.c0
        have a4 := V2.c1
        have HB := hide (below_on (unhide HB0) hb)
        clear hb HV1 HV2 HB0 V1 V2 hc
        go_wp2
        go_ret
        exact ⟨ret_bool (decide_eq_false (by omega)), unhide HB⟩
    · rw [show within a b c d = false by rw [within, h0]; simp [h3]]
      go_enter Try.func19, Try.ntmps19
      go_wp2_with fail
      refine (unhide hc _).mono ?_
      rw [h0]
      rintro e w1 ⟨rfl, hb⟩
      have V1 := (unhide HV1).below hb
      have V2 := (unhide HV2).below hb
      have a1 := V1.c0
      have a2 := V1.c1
      have a3 := V2.c0
      have a4 := V2.c1
      have HB := hide (below_on (unhide HB0) hb)
      clear hb HV1 HV2 HB0 V1 V2 hc
      go_wp2
      go_ret
      exact ⟨rfl, unhide HB⟩
end Go.Proofs.Ytbapainfiepadaa
