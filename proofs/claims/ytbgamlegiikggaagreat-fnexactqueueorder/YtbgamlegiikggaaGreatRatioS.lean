/-
  Fractions of what is used by what is due: what the model's Ratio answers; walks over the dump.
-/
import Derived.Test.YtbgamlegiikggaaGreatPackC
namespace Go.Proofs.YtbgamlegiikggaaGreat
open Go.RowKit
set_option linter.unusedVariables false

def part (u d : Int) : Int × Int := if 0 < d then (u, d) else if 0 < u then (1, 0) else (0, 1)
def less (a b c d : Int) : Bool := if b = 0 then false else if d = 0 then true else decide (a * d < c * b)
def ratio (a b c d : Int) : Int × Int := if resOk a b && resOk c d then (if less (part a c).1 (part a c).2 (part b d).1 (part b d).2 then part b d else part a c) else (0, 1)
/-- a number of a fraction -/
def Small (x : Int) : Prop := 0 ≤ x ∧ x ≤ 1000000000
theorem small_mul {a b : Int} (ha : Small a) (hb : Small b) : 0 ≤ a * b ∧ a * b ≤ 1000000000000000000 :=
  ⟨Int.mul_nonneg ha.1 hb.1, Int.le_trans (Int.mul_le_mul ha.2 hb.2 hb.1 (by decide)) (by decide)⟩
theorem part_small {u d : Int} (hu : Small u) (hd : Small d) : Small (part u d).1 ∧ Small (part u d).2 := by
  unfold part Small at *
  split
  · exact ⟨hu, hd⟩
  · split <;> simp
theorem resOk_small {a b : Int} (h : resOk a b = true) : Small a ∧ Small b := by
  have := resOk_bd h
  exact ⟨⟨this.1, this.2.1⟩, this.2.2⟩
theorem ratio_small (a b c d : Int) : Small (ratio a b c d).1 ∧ Small (ratio a b c d).2 := by
  unfold ratio
  split
  · rename_i h
    simp only [Bool.and_eq_true] at h
    obtain ⟨s1, s2⟩ := resOk_small h.1
    obtain ⟨s3, s4⟩ := resOk_small h.2
    split
    · exact part_small s2 s4
    · exact part_small s1 s3
  · exact ⟨by unfold Small; simp, by unfold Small; simp⟩
set_option maxHeartbeats 400000 in
theorem specPart_any (u d : Int) (w : World) :
    Calls Tryz.prog 136 #[.int .i64 u, .int .i64 d] w fun e w' => e = .returned (.tuple #[.int .i64 (part u d).1, .int .i64 (part u d).2]) ∧ w' = w := by
  by_cases h1 : 0 < d
  · rw [show part u d = (u, d) from if_pos h1]
    go_enter Tryz.func136, Tryz.ntmps136
    go_wp2
    go_ret2
    exact ⟨rfl, rfl⟩
  · by_cases h2 : 0 < u
    · rw [show part u d = (1, 0) by simp [part, h1, h2]]
      go_enter Tryz.func136, Tryz.ntmps136
      go_wp2
      go_ret2
      exact ⟨rfl, rfl⟩
    · rw [show part u d = (0, 1) by simp [part, h1, h2]]
      go_enter Tryz.func136, Tryz.ntmps136
      go_wp2
      go_ret2
      exact ⟨rfl, rfl⟩
set_option maxHeartbeats 400000 in
theorem specLess_any (a b c d : Int) (w : World) (ha : Small a) (hb : Small b) (hc : Small c) (hd : Small d) :
    Calls Tryz.prog 99 #[.int .i64 a, .int .i64 b, .int .i64 c, .int .i64 d] w fun e w' => e = .returned (.bool (less a b c d)) ∧ w' = w := by
  obtain ⟨m1, m2⟩ := small_mul ha hd
  obtain ⟨m3, m4⟩ := small_mul hc hb
  by_cases h1 : b = 0
  · rw [show less a b c d = false from if_pos h1]
    go_enter Tryz.func99, Tryz.ntmps99
    go_wp2
    go_ret
    exact ⟨rfl, rfl⟩
  · by_cases h2 : d = 0
    · rw [show less a b c d = true by simp [less, h1, h2]]
      go_enter Tryz.func99, Tryz.ntmps99
      go_wp2
      go_ret
      exact ⟨rfl, rfl⟩
    · rw [show less a b c d = decide (a * d < c * b) by simp [less, h1, h2]]
      go_enter Tryz.func99, Tryz.ntmps99
      go_wp2
      go_ret
      exact ⟨rfl, rfl⟩
set_option maxRecDepth 100000 in
set_option maxHeartbeats 1000000 in
theorem specRatio_any (a b c d : Int) (w : World) :
    Calls Tryz.prog 98 #[rv a b, rv c d] w fun e w' => e = .returned (.tuple #[.int .i64 (ratio a b c d).1, .int .i64 (ratio a b c d).2]) ∧ Below w.heap.size w w' := by
  cases h1 : resOk a b
  · rw [show ratio a b c d = (0, 1) by simp [ratio, h1]]
    go_enter Tryz.func98, Tryz.ntmps98
    go_wp2_with (go_at_call 81; refine (specResOk_any _ _ _).mono ?_; rintro e w' ⟨rfl, rfl⟩)
    go_ret2
    refine ⟨rfl, ?_⟩
    repeat (first | exact Below.refl _ _ | refine below_al ?_ _ | refine Below.drew ?_ | refine below_sc ?_ _ _ _ (by omega))
  · cases h2 : resOk c d
    · rw [show ratio a b c d = (0, 1) by simp [ratio, h2]]
      go_enter Tryz.func98, Tryz.ntmps98
      go_wp2_with (go_at_call 81; refine (specResOk_any _ _ _).mono ?_; rintro e w' ⟨rfl, rfl⟩)
      go_ret2
      refine ⟨rfl, ?_⟩
      repeat (first | exact Below.refl _ _ | refine below_al ?_ _ | refine Below.drew ?_ | refine below_sc ?_ _ _ _ (by omega))
    · obtain ⟨s1, s2⟩ := resOk_small h1
      obtain ⟨s3, s4⟩ := resOk_small h2
      obtain ⟨p1, p2⟩ := part_small s1 s3
      obtain ⟨p3, p4⟩ := part_small s2 s4
      cases h3 : less (part a c).1 (part a c).2 (part b d).1 (part b d).2
      · rw [show ratio a b c d = part a c by simp [ratio, h1, h2, h3]]
        go_enter Tryz.func98, Tryz.ntmps98
        go_wp2_with (first | (go_at_call 81; refine (specResOk_any _ _ _).mono ?_; rintro e w' ⟨rfl, rfl⟩) | (go_at_call 136; refine (specPart_any _ _ _).mono ?_; rintro e w' ⟨rfl, rfl⟩) | (go_at_call 99; refine (specLess_any _ _ _ _ _ p1 p2 p3 p4).mono ?_; rintro e w' ⟨rfl, rfl⟩))
        go_ret2
        refine ⟨rfl, ?_⟩
        repeat (first | exact Below.refl _ _ | refine below_al ?_ _ | refine Below.drew ?_ | refine below_sc ?_ _ _ _ (by omega))
      · rw [show ratio a b c d = part b d by simp [ratio, h1, h2, h3]]
        go_enter Tryz.func98, Tryz.ntmps98
        go_wp2_with (first | (go_at_call 81; refine (specResOk_any _ _ _).mono ?_; rintro e w' ⟨rfl, rfl⟩) | (go_at_call 136; refine (specPart_any _ _ _).mono ?_; rintro e w' ⟨rfl, rfl⟩) | (go_at_call 99; refine (specLess_any _ _ _ _ _ p1 p2 p3 p4).mono ?_; rintro e w' ⟨rfl, rfl⟩))
        go_ret2
        refine ⟨rfl, ?_⟩
        repeat (first | exact Below.refl _ _ | refine below_al ?_ _ | refine Below.drew ?_ | refine below_sc ?_ _ _ _ (by omega))
end Go.Proofs.YtbgamlegiikggaaGreat
