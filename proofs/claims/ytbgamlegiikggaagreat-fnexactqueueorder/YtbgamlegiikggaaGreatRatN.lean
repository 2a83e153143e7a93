/-
  Of three ratios: what is not less than one that is not less is not less.
-/
import Derived.Test.YtbgamlegiikggaaGreatRatioS
namespace Go.Proofs.YtbgamlegiikggaaGreat
set_option linter.unusedVariables false

theorem less_ntrans {a b c d e f : Int} (hb : Small b) (hd : Small d) (hf : Small f) (h : less c d a b = false) (k : less e f c d = false) : less e f a b = false := by
  unfold less at *
  by_cases f0 : f = 0
  · simp [f0]
  · by_cases d0 : d = 0
    · simp [d0, f0] at k
    · by_cases b0 : b = 0
      · simp [b0, d0] at h
      · simp only [b0, d0, f0, if_false, decide_eq_false_iff_not, Int.not_lt] at h k ⊢
        have pb : 0 ≤ b := hb.1
        have pf : 0 ≤ f := hf.1
        have pd : 0 < d := by have := hd.1; omega
        have h1 := Int.mul_le_mul_of_nonneg_right h pf
        have h2 := Int.mul_le_mul_of_nonneg_right k pb
        have e1 : a * d * f = a * f * d := by rw [Int.mul_assoc, Int.mul_comm d f, ← Int.mul_assoc]
        have e2 : c * b * f = c * f * b := by rw [Int.mul_assoc, Int.mul_comm b f, ← Int.mul_assoc]
        have e3 : e * d * b = e * b * d := by rw [Int.mul_assoc, Int.mul_comm d b, ← Int.mul_assoc]
        have h3 : a * f * d ≤ e * b * d := by rw [← e1, ← e3]; rw [e2] at h1; exact Int.le_trans h1 h2
        exact Int.le_of_mul_le_mul_right h3 pd
end Go.Proofs.YtbgamlegiikggaaGreat
