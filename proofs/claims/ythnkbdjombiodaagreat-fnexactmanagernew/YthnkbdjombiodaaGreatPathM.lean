/-
  The queue, its parent, and so on up to the first one: in plain words.
-/
import Derived.Test.YthnkbdjombiodaaGreatPackE
namespace Go.Proofs.YthnkbdjombiodaaGreat
open Go.RowKit
set_option linter.unusedVariables false

theorem placeFrom_range (nm : List UInt8) : ∀ (l : List Q) (k : Nat), placeFrom nm l k = -1 ∨ ((k : Int) ≤ placeFrom nm l k ∧ placeFrom nm l k < k + l.length)
  | [], _ => .inl rfl
  | q :: t, k => by
    rw [placeFrom]
    split
    · right; simp; omega
    · rcases placeFrom_range nm t (k + 1) with h | h
      · exact .inl h
      · right; simp; omega
theorem place_range (l : List Q) (nm : List UInt8) : place l nm = -1 ∨ (0 ≤ place l nm ∧ place l nm < l.length) := by
  rcases placeFrom_range nm l 0 with h | h
  · exact .inl h
  · right; unfold place; simp at h; omega
theorem placeFrom_none {nm : List UInt8} : ∀ {l : List Q} {k : Nat}, (∀ q ∈ l, q.name ≠ nm) → placeFrom nm l k = -1
  | [], _, _ => rfl
  | q :: t, k, h => by
    rw [placeFrom, if_neg (h q (by simp))]
    exact placeFrom_none (fun x hx => h x (by simp [hx]))
theorem okFrom_at {l : List Q} : ∀ (m : List Q) (k : Nat), okFrom l m k = true → ∀ i (h : i < m.length), qOk l (k + i) m[i] = true
  | [], _, _, i, h => by simp at h
  | x :: t, k, ho, i, h => by
    rw [okFrom, Bool.and_eq_true] at ho
    cases i with
    | zero => simpa using ho.1
    | succ j =>
      have := okFrom_at t (k + 1) ho.2 j (by simpa using h)
      rw [show k + 1 + j = k + (j + 1) by omega] at this
      simpa using this
theorem ok_at {l : List Q} (h : queuesOk l = true) (i : Nat) (hi : i < l.length) : qOk l i l[i] = true := by
  have h1 : okFrom l l 0 = true := by simp only [queuesOk, Bool.and_eq_true] at h; exact h.1.1
  have := okFrom_at l 0 h1 i hi
  simpa using this
theorem ok_named {l : List Q} (h : queuesOk l = true) : ∀ q ∈ l, q.name ≠ [] := fun q hq e => by
  obtain ⟨i, hi, rfl⟩ := List.mem_iff_getElem.1 hq
  have := ok_at h i hi
  simp [qOk, nameOk, e, inB] at this
/-- whoever's parent stands ahead of it -/
theorem parent_ahead {l : List Q} (h : queuesOk l = true) {i : Nat} (hi : i < l.length) : place l l[i].parent < i := by
  have h1 := ok_at h i hi
  simp only [qOk, Bool.and_eq_true] at h1
  have h2 := h1.2
  by_cases h0 : i = 0
  · rw [if_pos h0] at h2
    simp only [Bool.and_eq_true, decide_eq_true_eq] at h2
    rw [h2.1]
    have : place l [] = -1 := placeFrom_none (ok_named h)
    omega
  · rw [if_neg h0] at h2
    simp only [inB, decide_eq_true_eq] at h2
    omega
/-- from place p on, up to the first one, in at most n steps -/
def pathAt (l : List Q) : Nat → Int → List (List UInt8)
  | 0, _ => []
  | n + 1, p => if h : 0 ≤ p ∧ p.toNat < l.length then l[p.toNat].name :: pathAt l n (place l l[p.toNat].parent) else []
def path (l : List Q) (nm : List UInt8) : List (List UInt8) := if queuesOk l then pathAt l (l.length + 1) (place l nm) else []
theorem pathAt_more {l : List Q} (h : queuesOk l = true) : ∀ (n m : Nat) (p : Int), p < n → p < m → pathAt l n p = pathAt l m p
  | 0, 0, _, _, _ => rfl
  | 0, m + 1, p, h1, h2 => by rw [pathAt, pathAt, dif_neg (by omega)]
  | n + 1, 0, p, h1, h2 => by rw [pathAt, pathAt, dif_neg (by omega)]
  | n + 1, m + 1, p, h1, h2 => by
    rw [pathAt, pathAt]
    split
    · rename_i hp
      have := parent_ahead h hp.2
      rw [pathAt_more h n m _ (by omega) (by omega)]
    · rfl
theorem path_step {l : List Q} (h : queuesOk l = true) {k n : Nat} (hk : k < l.length) (hn : k < n) : pathAt l n k = l[k].name :: pathAt l n (place l l[k].parent) := by
  cases n with
  | zero => omega
  | succ n =>
    have hp := parent_ahead h hk
    rw [pathAt, dif_pos (by simp; exact hk)]
    simp only [Int.toNat_natCast]
    rw [pathAt_more h n (n + 1) _ (by omega) (by omega)]
theorem path_end {l : List Q} {n : Nat} {p : Int} (hp : p < 0) : pathAt l n p = [] := by
  cases n with
  | zero => rfl
  | succ n => rw [pathAt, dif_neg (by omega)]
end Go.Proofs.YthnkbdjombiodaaGreat
