/-
  Fractions in the program: fractionOf and the method less; walks over the dump.
-/
import Derived.Test.YtbgamlegiikggaaGreatRatioS
namespace Go.Proofs.YtbgamlegiikggaaGreat
open Go.RowKit
set_option linter.unusedVariables false

abbrev fv (p : Int × Int) : Value := rv p.1 p.2

/-- the cross product tells two fractions apart, also where one is over nothing -/
def Frac (x y : Int) : Prop := Small x ∧ Small y ∧ (y = 0 → x = 1)
theorem part_frac {u d : Int} (hu : Small u) (hd : Small d) : Frac (part u d).1 (part u d).2 := by
  refine ⟨(part_small hu hd).1, (part_small hu hd).2, ?_⟩
  unfold part
  split
  · intro h; simp at h; omega
  · split <;> simp
theorem ratio_frac (a b c d : Int) : Frac (ratio a b c d).1 (ratio a b c d).2 := by
  unfold ratio
  split
  · rename_i h
    simp only [Bool.and_eq_true] at h
    obtain ⟨s1, s2⟩ := resOk_small h.1
    obtain ⟨s3, s4⟩ := resOk_small h.2
    split
    · exact part_frac s2 s4
    · exact part_frac s1 s3
  · exact ⟨by unfold Small; simp, by unfold Small; simp, by simp⟩
theorem less_cross {a b c d : Int} (h1 : Frac a b) (h2 : Frac c d) : less a b c d = decide (a * d < c * b) := by
  obtain ⟨⟨a0, a1⟩, ⟨b0, b1⟩, k1⟩ := h1
  obtain ⟨⟨c0, c1⟩, ⟨d0, d1⟩, k2⟩ := h2
  unfold less
  split
  · rename_i hb
    subst hb
    rw [k1 rfl]
    simp; omega
  · split
    · rename_i hb hd
      subst hd
      rw [k2 rfl]
      simp; omega
    · rfl

set_option maxRecDepth 100000 in
set_option maxHeartbeats 1000000 in
theorem fractionOf_any (u d : Int) (w : World) :
    Calls Tryz.prog 157 #[.int .i64 u, .int .i64 d] w fun e w' => e = .returned (fv (part u d)) ∧ Below w.heap.size w w' := by
  by_cases h1 : 0 < d
  · rw [show part u d = (u, d) from if_pos h1]
    go_enter Tryz.func157, Tryz.ntmps157
    go_wp2
    refine bodyPost_ret (v := rv u d) (by simp [results, Tryz.results157, go_sem]) rfl ⟨rfl, ?_⟩
    repeat (first | exact Below.refl _ _ | refine below_al ?_ _ | refine Below.drew ?_ | refine below_sc ?_ _ _ _ (by omega))
  · by_cases h2 : 0 < u
    · rw [show part u d = (1, 0) by simp [part, h1, h2]]
      go_enter Tryz.func157, Tryz.ntmps157
      go_wp2
      refine bodyPost_ret (v := rv 1 0) (by simp [results, Tryz.results157, go_sem]) rfl ⟨rfl, ?_⟩
      repeat (first | exact Below.refl _ _ | refine below_al ?_ _ | refine Below.drew ?_ | refine below_sc ?_ _ _ _ (by omega))
    · rw [show part u d = (0, 1) by simp [part, h1, h2]]
      go_enter Tryz.func157, Tryz.ntmps157
      go_wp2
      refine bodyPost_ret (v := rv 0 1) (by simp [results, Tryz.results157, go_sem]) rfl ⟨rfl, ?_⟩
      repeat (first | exact Below.refl _ _ | refine below_al ?_ _ | refine Below.drew ?_ | refine below_sc ?_ _ _ _ (by omega))
set_option maxRecDepth 100000 in
set_option maxHeartbeats 1000000 in
theorem fracLess_any (a b c d : Int) (w : World) (h1 : Frac a b) (h2 : Frac c d) :
    Calls Tryz.prog 103 #[rv a b, rv c d] w fun e w' => e = .returned (.bool (less a b c d)) ∧ Below w.heap.size w w' := by
  obtain ⟨m1, m2⟩ := small_mul h1.1 h2.2.1
  obtain ⟨m3, m4⟩ := small_mul h2.1 h1.2.1
  rw [less_cross h1 h2]
  clear h1 h2
  go_enter Tryz.func103, Tryz.ntmps103
  go_wp2
  go_ret
  refine ⟨rfl, ?_⟩
  repeat (first | exact Below.refl _ _ | refine below_al ?_ _ | refine Below.drew ?_ | refine below_sc ?_ _ _ _ (by omega))
end Go.Proofs.YtbgamlegiikggaaGreat
