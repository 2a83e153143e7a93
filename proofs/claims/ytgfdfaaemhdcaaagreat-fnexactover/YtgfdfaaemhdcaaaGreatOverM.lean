/-
  Whether a leaf has more than is due, and what a leaf lacks: in plain words.
-/
import Derived.Test.YtgfdfaaemhdcaaaGreatUsedByM
import Derived.Test.YtgfdfaaemhdcaaaGreatPackC
import Derived.Test.YtgfdfaaemhdcaaaGreatLeafS
namespace Go.Proofs.YtgfdfaaemhdcaaaGreat
open Go.RowKit
set_option linter.unusedVariables false

def dueV (s : St) (x : List UInt8) : Int × Int := ofR s.qs x (totalV s).1 (totalV s).2 false
def overV (s : St) (nm : List UInt8) : Bool := leaf s.qs nm && !within (usedByV s nm).1 (usedByV s nm).2 (dueV s nm).1 (dueV s nm).2
theorem resOk_zero : resOk 0 0 = true := by decide
theorem sumFrom_ok : ∀ (l : List (Int × Int)) (x y : Int), resOk x y = true → resOk (sumFrom l x y).1 (sumFrom l x y).2.1 = true
  | [], x, y, h => h
  | r :: t, x, y, h => by
    rw [sumFrom]
    by_cases hb : bothOk 1 x y r.1 r.2 = true
    · rw [if_pos hb]
      refine sumFrom_ok t _ _ ?_
      simp only [bothOk, Bool.and_eq_true] at hb
      exact hb.2
    · rw [if_neg hb]; exact resOk_zero
theorem sumR_ok (l : List (Int × Int)) : resOk (sumR l).1 (sumR l).2.1 = true := sumFrom_ok l 0 0 resOk_zero
theorem used_ok (s : St) (nm : List UInt8) : resOk (usedByV s nm).1 (usedByV s nm).2 = true := sumR_ok _
theorem shares_ok (a b n : Int) : resOk (shareM a b n) (shareC a b n) = true := by
  by_cases h : shareOk a b n = true
  · have e1 : shareM a b n = a * n / 10000 := by rw [shareM, if_pos h]
    have e2 : shareC a b n = b * n / 10000 := by rw [shareC, if_pos h]
    rw [e1, e2]
    simp only [shareOk, resOk, inB, Bool.and_eq_true, decide_eq_true_eq] at h ⊢
    obtain ⟨⟨⟨h1, h2⟩, h3, h4⟩, h5, h6⟩ := h
    have := mul_bd h1 h2 h5 h6
    have := mul_bd h3 h4 h5 h6
    omega
  · have e1 : shareM a b n = 0 := by rw [shareM, if_neg h]
    have e2 : shareC a b n = 0 := by rw [shareC, if_neg h]
    rw [e1, e2]; exact resOk_zero
theorem ofP_ok (l : List Q) (most : Bool) {t : Int × Int} (h : resOk t.1 t.2 = true) : ∀ p : List (List UInt8), resOk (ofP l most t p).1 (ofP l most t p).2 = true
  | [] => h
  | [_] => h
  | n :: m :: r => shares_ok _ _ _
theorem ofR_ok (l : List Q) (nm : List UInt8) (a b : Int) (most : Bool) : resOk (ofR l nm a b most).1 (ofR l nm a b most).2 = true := by
  rw [ofR]
  split
  · exact resOk_zero
  · rename_i h
    refine ofP_ok l most ?_ _
    cases hr : resOk a b
    · exact absurd (.inr hr) h
    · rfl
theorem due_ok (s : St) (nm : List UInt8) : resOk (dueV s nm).1 (dueV s nm).2 = true := ofR_ok _ _ _ _ _
end Go.Proofs.YtgfdfaaemhdcaaaGreat
