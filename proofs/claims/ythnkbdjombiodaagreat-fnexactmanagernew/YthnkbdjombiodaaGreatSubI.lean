/-
  What the program's Sub answers; a walk over the dump.
-/
import Derived.Test.YthnkbdjombiodaaGreatPackD
import Derived.Test.YthnkbdjombiodaaGreatPackG
namespace Go.Proofs.YthnkbdjombiodaaGreat
open Go.RowKit
set_option linter.unusedVariables false

set_option maxRecDepth 100000 in
set_option maxHeartbeats 1000000 in
theorem implSub_any (a b c d : Int) (w : World) :
    Calls Tryz.prog 81 #[rv a b, rv c d] w fun e w' => e = .returned (.tuple #[bothV (-1) a b c d, .bool (bothOk (-1) a b c d)]) ∧ Below w.heap.size w w' := by
  have V1 := ((var_new w 71 a b).al (.cells #[.int .i64 c, .int .i64 d] 71)).al (.cells #[.int .i64 0, .int .i64 0] 71)
  have V2 := (var_new2 w 71 71 a b c d).al (.cells #[.int .i64 0, .int .i64 0] 71)
  have V3 := var_new2 (w.alloc (.cells #[.int .i64 a, .int .i64 b] 71)) 71 71 c d 0 0
  have B3 := below_al (below_al (below_al (Below.refl _ w) (.cells #[.int .i64 a, .int .i64 b] 71)) (.cells #[.int .i64 c, .int .i64 d] 71)) (.cells #[.int .i64 0, .int .i64 0] 71)
  simp at V3
  have HV1 := hide V1
  have HV2 := hide V2
  have HV3 := hide V3
  have HB3 := hide B3
  have hc := hide (pairOk_any a b c d)
  clear V1 V2 V3 B3
  cases h0 : resOk a b && resOk c d
  · have hb : bothOk (-1) a b c d = false := by rw [bothOk, h0]; rfl
    rw [both_no hb, hb]
    go_enter Tryz.func81, Tryz.ntmps81
    go_wp2_with fail
    refine (unhide hc _).mono ?_
    rw [h0]
    rintro e w1 ⟨rfl, hb⟩
    have V3 := (unhide HV3).below hb
    have k2 := V3.f 0
    have k3 := V3.f 1
    have k0 := V3.c0
    have k1 := V3.c1
    have k4 := V3.s0 (.int .i64 0)
    have k5 := V3.s1 (.int .i64 0) (.int .i64 0)
    have HB := hide (below_on (unhide HB3) hb)
    clear hb HV1 HV2 HV3 HB3 V3 hc
    go_wp2
    refine bodyPost_ret (v := .tuple #[rv 0 0, .bool false]) (by simp [results, Tryz.results81, go_sem, k4, k5]) rfl ⟨rfl, ?_⟩
    repeat (first | exact unhide HB | refine below_al ?_ _ | refine Below.drew ?_ | refine below_sc ?_ _ _ _ (by omega))
  · have h0' := h0
    simp only [Bool.and_eq_true] at h0'
    obtain ⟨q1, q2, q3, q4⟩ := resOk_bd h0'.1
    obtain ⟨q5, q6, q7, q8⟩ := resOk_bd h0'.2
    obtain ⟨x, hx⟩ : ∃ x, a - c = x := ⟨_, rfl⟩
    obtain ⟨y, hy⟩ : ∃ y, b - d = y := ⟨_, rfl⟩
    have m3 : IntKind.i64.wrap (a - c) = x := by rw [IntKind.wrap_i64]; omega
    have m4 : IntKind.i64.wrap (b - d) = y := by rw [IntKind.wrap_i64]; omega
    have e1 : bothOk (-1) a b c d = resOk x y := by rw [bothOk, h0, show a + (-1) * c = x by omega, show b + (-1) * d = y by omega]; rfl
    have e2 : bothV (-1) a b c d = orV x y := by rw [bothV, orV, e1, show a + (-1) * c = x by omega, show b + (-1) * d = y by omega]
    obtain ⟨u, v, hv⟩ : ∃ u v, orV x y = rv u v := by unfold orV; split <;> exact ⟨_, _, rfl⟩
    obtain ⟨o, ho⟩ : ∃ o, resOk x y = o := ⟨_, rfl⟩
    have ho2 : ∀ wx, Calls Tryz.prog 103 #[rv x y] wx fun e w' => e = .returned (.tuple #[rv u v, .bool o]) ∧ Below wx.heap.size wx w' := fun wx => by have := or_any x y wx; rw [hv, ho] at this; exact this
    rw [e1, e2, hv, ho]
    have HO := hide ho2
    clear e1 e2 hv ho ho2 h0' q1 q2 q3 q4 q5 q6 q7 q8 hx hy
    go_enter Tryz.func81, Tryz.ntmps81
    go_wp2_with fail
    refine (unhide hc _).mono ?_
    rw [h0]
    rintro e w1 ⟨rfl, hb⟩
    have V1 := (unhide HV1).below hb
    have V2 := (unhide HV2).below hb
    have V3 := hide ((unhide HV3).below hb)
    have a1 := V1.c0
    have a2 := V1.c1
    have a3 := V2.c0
    have a4 := V2.c1
    have HB := hide (below_on (unhide HB3) hb)
    clear hb HV1 HV2 HV3 HB3 V1 V2 hc
    go_wp2_with fail
    refine (unhide HO _).mono ?_
    rintro e w2 ⟨rfl, hb⟩
    have V4 := (unhide V3).below hb
    have k0 := V4.c0
    have k1 := V4.c1
    have k2 := V4.f 0
    have k3 := V4.f 1
    have k4 := V4.s0 (.int .i64 u)
    have k5 := V4.s1 (.int .i64 u) (.int .i64 v)
    have HB2 := hide (below_on (unhide HB) hb)
    clear hb V4 V3 HB HO a1 a2 a3 a4
    go_wp2
    refine bodyPost_ret (v := .tuple #[rv u v, .bool o]) (by simp [results, Tryz.results81, go_sem, k4, k5]) rfl ⟨rfl, ?_⟩
    repeat (first | exact unhide HB2 | refine below_al ?_ _ | refine Below.drew ?_ | refine below_sc ?_ _ _ _ (by omega))
end Go.Proofs.YthnkbdjombiodaaGreat
