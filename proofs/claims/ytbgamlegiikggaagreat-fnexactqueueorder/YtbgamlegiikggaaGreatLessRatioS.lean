/-
  Which of two ratios is less: what the model's LessRatio answers; a walk over the dump.
-/
import Derived.Test.YtbgamlegiikggaaGreatRatioS
namespace Go.Proofs.YtbgamlegiikggaaGreat
open Go.RowKit
set_option linter.unusedVariables false

def lessR (a b c d e f g h : Int) : Bool := less (ratio a b c d).1 (ratio a b c d).2 (ratio e f g h).1 (ratio e f g h).2
set_option maxRecDepth 100000 in
set_option maxHeartbeats 1000000 in
theorem specLessRatio_any (a b c d e f g h : Int) (w : World) :
    Calls Tryz.prog 58 #[rv a b, rv c d, rv e f, rv g h] w fun o w' => o = .returned (.bool (lessR a b c d e f g h)) ∧ Below w.heap.size w w' := by
  obtain ⟨p1, p2⟩ := ratio_small a b c d
  obtain ⟨p3, p4⟩ := ratio_small e f g h
  have V3 := ((var_new ((w.alloc (.cells #[.int .i64 a, .int .i64 b] 64)).alloc (.cells #[.int .i64 c, .int .i64 d] 64)) 64 e f).al (.cells #[.int .i64 g, .int .i64 h] 64))
  have V4 := var_new (((w.alloc (.cells #[.int .i64 a, .int .i64 b] 64)).alloc (.cells #[.int .i64 c, .int .i64 d] 64)).alloc (.cells #[.int .i64 e, .int .i64 f] 64)) 64 g h
  have HV3 := hide V3
  have HV4 := hide V4
  clear V3 V4
  go_enter Tryz.func58, Tryz.ntmps58
  go_wp2_with fail
  refine (specRatio_any _ _ _ _ _).mono ?_
  rintro o w1 ⟨rfl, hb⟩
  have V3 := (unhide HV3).below hb
  have V4 := (unhide HV4).below hb
  simp at V3 V4
  have a1 := V3.c0
  have a2 := V3.c1
  have a3 := V4.c0
  have a4 := V4.c1
  have HB := hide (below_on (below_al (below_al (below_al (below_al (Below.refl _ _) _) _) _) _) hb)
  clear hb HV3 HV4 V3 V4
  go_wp2_with fail
  refine (specRatio_any _ _ _ _ _).mono ?_
  rintro o w2 ⟨rfl, hb⟩
  have HB2 := hide (below_on (unhide HB) hb)
  clear hb HB a1 a2 a3 a4
  go_wp2_with fail
  refine (specLess_any _ _ _ _ _ p1 p2 p3 p4).mono ?_
  rintro o w3 ⟨rfl, rfl⟩
  go_wp2
  go_ret
  exact ⟨rfl, unhide HB2⟩
end Go.Proofs.YtbgamlegiikggaaGreat
