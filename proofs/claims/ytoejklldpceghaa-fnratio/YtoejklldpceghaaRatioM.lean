/-
  Ratios are in one order; so many as go in go in, and no more: plain mathematics.
-/
import Derived.Test.YtoejklldpceghaaLessRatioS
import Derived.Test.YtoejklldpceghaaTimesS
namespace Go.Proofs.Ytoejklldpceghaa

theorem less_asym {a b c d : Int} (h : less a b c d = true) : less c d a b = false := by
  unfold less at *
  by_cases hb : b = 0
  · simp [hb] at h
  · by_cases hd : d = 0
    · simp [hd]
    · simp only [hb, hd, if_false, decide_eq_true_eq, decide_eq_false_iff_not] at *
      omega
theorem less_irrefl (a b : Int) : less a b a b = false := by
  unfold less
  by_cases hb : b = 0
  · simp [hb]
  · simp [hb]
theorem less_trans {a b c d e f : Int} (hb : Small b) (hd : Small d) (hf : Small f) (h : less a b c d = true) (k : less c d e f = true) : less a b e f = true := by
  unfold less at *
  by_cases b0 : b = 0
  · simp [b0] at h
  · by_cases d0 : d = 0
    · simp [d0] at k
    · by_cases f0 : f = 0
      · simp [b0, f0]
      · simp only [b0, d0, f0, if_false, decide_eq_true_eq] at h k ⊢
        have pb : 0 < b := by have := hb.1; omega
        have pd : 0 < d := by have := hd.1; omega
        have pf : 0 < f := by have := hf.1; omega
        have h1 := Int.mul_lt_mul_of_pos_right h pf
        have h2 := Int.mul_lt_mul_of_pos_right k pb
        have e1 : a * d * f = a * f * d := by rw [Int.mul_assoc, Int.mul_comm d f, ← Int.mul_assoc]
        have e2 : c * b * f = c * f * b := by rw [Int.mul_assoc, Int.mul_comm b f, ← Int.mul_assoc]
        have e3 : e * d * b = e * b * d := by rw [Int.mul_assoc, Int.mul_comm d b, ← Int.mul_assoc]
        have h3 : a * f * d < e * b * d := by rw [← e1, ← e3]; rw [e2] at h1; exact Int.lt_trans h1 h2
        exact Int.lt_of_mul_lt_mul_right h3 (by omega)
theorem lessR_asym {a b c d e f g h : Int} (k : lessR a b c d e f g h = true) : lessR e f g h a b c d = false := less_asym k
theorem lessR_irrefl (a b c d : Int) : lessR a b c d a b c d = false := less_irrefl _ _
theorem lessR_trans {a b c d e f g h i j k l : Int} (h1 : lessR a b c d e f g h = true) (h2 : lessR e f g h i j k l = true) : lessR a b c d i j k l = true :=
  less_trans (ratio_small a b c d).2 (ratio_small e f g h).2 (ratio_small i j k l).2 h1 h2

theorem goIn_le (n a c : Int) : goIn n a c ≤ n := by unfold goIn; split <;> omega
theorem goIn_nonneg {n a c : Int} (hn : 0 ≤ n) (ha : 0 ≤ a) (hc : 0 ≤ c) : 0 ≤ goIn n a c := by
  unfold goIn
  split
  · exact Int.ediv_nonneg ha hc
  · exact hn
theorem goIn_in {n a c : Int} (ha : 0 ≤ a) (hc : 0 ≤ c) : goIn n a c * c ≤ a := by
  unfold goIn
  split
  · exact Int.ediv_mul_le a (by omega)
  · rename_i h
    by_cases h0 : 0 < c
    · have h1 : n ≤ a / c := by
        apply Int.not_lt.1
        intro h2
        exact h ⟨h0, h2⟩
      exact Int.le_trans (Int.mul_le_mul_of_nonneg_right h1 hc) (Int.ediv_mul_le a (by omega))
    · have : c = 0 := by omega
      subst this
      simpa using ha
theorem goIn_more {n a c : Int} (h : goIn n a c < n) : a < (goIn n a c + 1) * c := by
  by_cases k : 0 < c ∧ a / c < n
  · rw [goIn_yes k]
    exact Int.lt_ediv_add_one_mul_self a k.1
  · rw [goIn_no k] at h
    omega
theorem times_no {a b c d : Int} (h : (resOk a b && resOk c d) = false) : times a b c d = -1 := by simp [times, h]
theorem times_yes {a b c d : Int} (h : (resOk a b && resOk c d) = true) : times a b c d = goIn (goIn 1000 a c) b d := by simp [times, h]
theorem times_bd (a b c d : Int) : -1 ≤ times a b c d ∧ times a b c d ≤ 1000 := by
  cases h : (resOk a b && resOk c d)
  · rw [times_no h]; omega
  · rw [times_yes h]
    simp only [Bool.and_eq_true] at h
    obtain ⟨q1, q2, q3, q4⟩ := resOk_bd h.1
    obtain ⟨q5, q6, q7, q8⟩ := resOk_bd h.2
    have h1 := goIn_le 1000 a c
    have h2 := goIn_le (goIn 1000 a c) b d
    have h3 := goIn_nonneg (n := 1000) (by decide) q1 q5
    have h4 := goIn_nonneg h3 q3 q7
    omega
theorem times_neg {a b c d : Int} (h : times a b c d < 0) : (resOk a b && resOk c d) = false := by
  cases k : (resOk a b && resOk c d)
  · rfl
  · rw [times_yes k] at h
    simp only [Bool.and_eq_true] at k
    obtain ⟨q1, q2, q3, q4⟩ := resOk_bd k.1
    obtain ⟨q5, q6, q7, q8⟩ := resOk_bd k.2
    have h4 := goIn_nonneg (goIn_nonneg (n := 1000) (by decide) q1 q5) q3 q7
    omega
theorem times_pos {a b c d : Int} (h : 0 ≤ times a b c d) : (resOk a b && resOk c d) = true := by
  cases k : (resOk a b && resOk c d)
  · rw [times_no k] at h; omega
  · rfl
/-- so many go in, and no more -/
theorem times_fit {a b c d : Int} (h : 0 ≤ times a b c d) (h1 : times a b c d < 1000) :
    times a b c d * c ≤ a ∧ times a b c d * d ≤ b ∧ (a < (times a b c d + 1) * c ∨ b < (times a b c d + 1) * d) := by
  have k := times_pos h
  rw [times_yes k] at *
  simp only [Bool.and_eq_true] at k
  obtain ⟨q1, q2, q3, q4⟩ := resOk_bd k.1
  obtain ⟨q5, q6, q7, q8⟩ := resOk_bd k.2
  have g1 := goIn_le (goIn 1000 a c) b d
  have g2 := goIn_in (n := 1000) q1 q5
  have g3 := goIn_in (n := goIn 1000 a c) q3 q7
  refine ⟨Int.le_trans (Int.mul_le_mul_of_nonneg_right g1 q5) g2, g3, ?_⟩
  by_cases e : goIn (goIn 1000 a c) b d < goIn 1000 a c
  · exact .inr (goIn_more e)
  · have e2 : goIn (goIn 1000 a c) b d = goIn 1000 a c := by omega
    rw [e2] at h1 ⊢
    exact .inl (goIn_more h1)
theorem times_big {a b c d : Int} (h : 0 ≤ times a b c d) : Small c ∧ Small d ∧ Small a ∧ Small b := by
  have k := times_pos h
  simp only [Bool.and_eq_true] at k
  obtain ⟨q1, q2, q3, q4⟩ := resOk_bd k.1
  obtain ⟨q5, q6, q7, q8⟩ := resOk_bd k.2
  exact ⟨⟨q5, q6⟩, ⟨q7, q8⟩, ⟨q1, q2⟩, ⟨q3, q4⟩⟩
end Go.Proofs.Ytoejklldpceghaa
