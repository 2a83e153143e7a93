/-
  Queues read from their text, a line each: in plain words.
-/
import Derived.Test.YtfpdhlpbcgobiaaDoorFitsM
import Derived.Test.YtfpdhlpbcgobiaaDoorWordsM
import Derived.Test.YtfpdhlpbcgobiaaDoorReadDecS
namespace Go.Proofs.YtfpdhlpbcgobiaaDoor
open Go.RowKit
set_option linter.unusedVariables false

def zq : Q := ⟨[], [], 0, 0⟩
/-- the queue of four words -/
def qOf (a b c d : List UInt8) : Q := ⟨a, if b = [45] then [] else b, readDec c, readDec d⟩
/-- the queue of a line, as the model reads it -/
def lineS (s : List UInt8) : Q × Bool := match words s with
  | [a, b, c, d] => (qOf a b c d, decide (b ≠ []))
  | _ => (zq, false)
/-- the queue of a line, as the program reads it -/
def lineI (s : List UInt8) : Q × Bool := match words s with
  | [a, b, c, d] => if b = [45] ∨ nameOk b = true then (qOf a b c d, true) else (zq, false)
  | _ => (zq, false)
/-- a line that tells one more queue of the tree -/
def took (acc : List Q) (s : List UInt8) : Bool := (lineS s).2 && fits acc (lineS s).1
theorem okT_names {l : List Q} (h : okT l = true) : ∀ q ∈ l, nameOk q.name = true := fun q hq => (kid_due (okT_iff.1 h).1 q hq).1
theorem fits_parent {l : List Q} {q : Q} (h : okT l = true) (hf : fits l q = true) : q.parent = [] ∨ nameOk q.parent = true := by
  simp only [fits, Bool.and_eq_true] at hf
  have h2 := hf.2
  by_cases h0 : l.length = 0
  · rw [if_pos h0] at h2
    simp only [decide_eq_true_eq] at h2
    exact .inl h2.1
  · rw [if_neg h0] at h2
    simp only [decide_eq_true_eq] at h2
    obtain ⟨x, hx, hn⟩ := place_has h2.1
    exact .inr (hn ▸ okT_names h x hx)
theorem took_I {acc : List Q} (h : okT acc = true) (s : List UInt8) : ((lineI s).2 && fits acc (lineI s).1) = took acc s ∧ (took acc s = true → (lineI s).1 = (lineS s).1) := by
  unfold took lineI lineS
  split
  · rename_i a b c d _
    by_cases hb : b = [45] ∨ nameOk b = true
    · rw [if_pos hb]
      have : b ≠ [] := by
        rcases hb with e | e
        · rw [e]; simp
        · exact nameOk_ne e
      simp [this]
    · rw [if_neg hb]
      have : fits acc (qOf a b c d) = false ∨ b = [] := by
        refine Classical.byContradiction fun hc => ?_
        have hc1 : fits acc (qOf a b c d) = true := by
          cases hf : fits acc (qOf a b c d) with
          | true => rfl
          | false => exact absurd (.inl hf) hc
        have h45 : ¬ b = [45] := fun e => hb (.inl e)
        rcases fits_parent h hc1 with e | e
        · simp only [qOf, if_neg h45] at e
          exact hc (.inr e)
        · simp only [qOf, if_neg h45] at e
          exact hb (.inr e)
      rcases this with e | e
      · simp [e]
      · simp [e]
  · simp
/-- where the first end of a line stands; the length where there is none -/
def nlAt : List UInt8 → Nat
  | [] => 0
  | b :: t => if b = 10 then 0 else nlAt t + 1
theorem nlAt_le : ∀ l : List UInt8, nlAt l ≤ l.length
  | [] => Nat.le_refl _
  | b :: t => by rw [nlAt]; split <;> simp; exact nlAt_le t
theorem nlAt_hit : ∀ (l : List UInt8) (k : Nat) (h : k < l.length), (∀ j (hj : j < k), l[j]'(by omega) ≠ 10) → l[k] = 10 → nlAt l = k
  | b :: t, 0, _, _, e => by simp at e; simp [nlAt, e]
  | b :: t, k + 1, h, hn, e => by
    have h0 := hn 0 (by omega)
    simp at h0
    rw [nlAt, if_neg h0, nlAt_hit t k (by simpa using h) (fun j hj => by have := hn (j + 1) (by omega); simpa using this) (by simpa using e)]
theorem nlAt_none : ∀ (l : List UInt8), (∀ j (hj : j < l.length), l[j] ≠ 10) → nlAt l = l.length
  | [], _ => rfl
  | b :: t, hn => by
    have h0 := hn 0 (by simp)
    simp at h0
    rw [nlAt, if_neg h0, nlAt_none t (fun j hj => by have := hn (j + 1) (by simpa using hj); simpa using this)]; rfl
/-- the lines of s, behind what has been read -/
def readL : Nat → List Q → List UInt8 → List Q × Nat
  | 0, _, _ => ([], 0)
  | n + 1, acc, s => if s = [] ∧ acc ≠ [] then (acc, 0)
    else if nlAt s < s.length ∧ took acc (s.take (nlAt s)) = true then readL n (acc ++ [(lineS (s.take (nlAt s))).1]) (s.drop (nlAt s + 1))
    else ([], acc.length + 1)
def rd (acc : List Q) (s : List UInt8) : List Q × Nat := readL (s.length + 1) acc s
theorem readL_more : ∀ (n m : Nat) (acc : List Q) (s : List UInt8), s.length < n → s.length < m → readL n acc s = readL m acc s
  | 0, _, _, _, h, _ => by omega
  | _ + 1, 0, _, _, _, h => by omega
  | n + 1, m + 1, acc, s, h1, h2 => by
    rw [readL, readL]
    split
    · rfl
    · split
      · rw [readL_more n m _ _ (by simp; omega) (by simp; omega)]
      · rfl
theorem rd_end {acc : List Q} (h : acc ≠ []) : rd acc [] = (acc, 0) := by rw [rd, readL, if_pos ⟨rfl, h⟩]
theorem rd_bad {acc : List Q} {s : List UInt8} (h : ¬ (s = [] ∧ acc ≠ [])) (h2 : ¬ (nlAt s < s.length ∧ took acc (s.take (nlAt s)) = true)) : rd acc s = ([], acc.length + 1) := by
  rw [rd, readL, if_neg h, if_neg h2]
theorem rd_step {acc : List Q} {s : List UInt8} (h : nlAt s < s.length) (h2 : took acc (s.take (nlAt s)) = true) : rd acc s = rd (acc ++ [(lineS (s.take (nlAt s))).1]) (s.drop (nlAt s + 1)) := by
  have hne : ¬ (s = [] ∧ acc ≠ []) := fun e => by rw [e.1] at h; simp at h
  rw [rd, readL, if_neg hne, if_pos ⟨h, h2⟩, rd, readL_more s.length ((s.drop (nlAt s + 1)).length + 1) _ _ (by simp; omega) (by omega)]
theorem took_ok {acc : List Q} {s : List UInt8} (h : okT acc = true) (h2 : took acc s = true) : okT (acc ++ [(lineS s).1]) = true := by
  rw [okT_snoc, h]
  simp only [took, Bool.and_eq_true] at h2
  exact h2.2
theorem took_len {acc : List Q} {s : List UInt8} (h2 : took acc s = true) : acc.length < 20 := by
  simp only [took, fits, Bool.and_eq_true, decide_eq_true_eq] at h2
  exact h2.2.1.1.1.1
theorem readL_ok : ∀ (n : Nat) (acc : List Q) (s : List UInt8), okT acc = true → okT (readL n acc s).1 = true
  | 0, _, _, _ => rfl
  | n + 1, acc, s, h => by
    rw [readL]
    split
    · exact h
    · split
      · rename_i h2
        exact readL_ok n _ _ (took_ok h h2.2)
      · rfl
theorem readL_zero : ∀ (n : Nat) (acc : List Q) (s : List UInt8), s.length < n → (readL n acc s).2 = 0 → (readL n acc s).1 ≠ []
  | 0, _, s, h => by omega
  | n + 1, acc, s, h => by
    rw [readL]
    split
    · rename_i h1; intro _; exact h1.2
    · split
      · rename_i h2
        exact readL_zero n _ _ (by simp; omega)
      · intro e; simp at e
end Go.Proofs.YtfpdhlpbcgobiaaDoor
