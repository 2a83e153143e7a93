/-
  What is due to a queue of a total, and the most that it may have: in plain words.
-/
import Derived.Test.YtbapainfiepadaaPathM
import Derived.Test.YtbapainfiepadaaShareS
namespace Go.Proofs.Ytbapainfiepadaa
open Go.RowKit
set_option linter.unusedVariables false

def fieldOf (most : Bool) (q : Q) : Int := if most then q.most else q.due
def byName (l : List Q) (n : List UInt8) : Q := l.getD (place l n).toNat ⟨[], [], 0, 0⟩
def ofP (l : List Q) (most : Bool) (t : Int × Int) : List (List UInt8) → Int × Int
  | [] => t
  | [_] => t
  | n :: m :: r => (shareM (ofP l most t (m :: r)).1 (ofP l most t (m :: r)).2 (fieldOf most (byName l n)), shareC (ofP l most t (m :: r)).1 (ofP l most t (m :: r)).2 (fieldOf most (byName l n)))
def ofR (l : List Q) (nm : List UInt8) (a b : Int) (most : Bool) : Int × Int := if path l nm = [] ∨ resOk a b = false then (0, 0) else ofP l most (a, b) (path l nm)
theorem ofP_last (l : List Q) (most : Bool) (t : Int × Int) {p : List (List UInt8)} (h : p ≠ []) : ofP l most t (p.drop (p.length - 1)) = t := by
  have hl : 0 < p.length := List.length_pos_iff.2 h
  rw [List.drop_eq_getElem_cons (by omega), show p.length - 1 + 1 = p.length by omega, List.drop_length]
  rfl
theorem ofP_step (l : List Q) (most : Bool) (t : Int × Int) {p : List (List UInt8)} {j : Nat} (h : j + 1 < p.length) :
    ofP l most t (p.drop j) = (shareM (ofP l most t (p.drop (j + 1))).1 (ofP l most t (p.drop (j + 1))).2 (fieldOf most (byName l p[j])), shareC (ofP l most t (p.drop (j + 1))).1 (ofP l most t (p.drop (j + 1))).2 (fieldOf most (byName l p[j]))) := by
  rw [List.drop_eq_getElem_cons (show j < p.length by omega), List.drop_eq_getElem_cons h, ofP]
theorem pathAt_names {l : List Q} (h : queuesOk l = true) : ∀ (n : Nat) (p : Int), ∀ x ∈ pathAt l n p, ∃ k : Nat, ∃ hk : k < l.length, place l x = k ∧ l[k].name = x
  | 0, _, x, hx => by simp [pathAt] at hx
  | n + 1, p, x, hx => by
    rw [pathAt] at hx
    split at hx
    · rename_i hp
      rcases List.mem_cons.1 hx with rfl | hx
      · refine ⟨p.toNat, hp.2, ?_, rfl⟩
        have := ok_at h p.toNat hp.2
        simp only [qOk, Bool.and_eq_true, decide_eq_true_eq] at this
        exact this.1.1.1.2
      · exact pathAt_names h n _ x hx
    · simp at hx
theorem path_names {l : List Q} {nm : List UInt8} : ∀ x ∈ path l nm, ∃ k : Nat, ∃ hk : k < l.length, place l x = k ∧ byName l x = l[k] := fun x hx => by
  unfold path at hx
  split at hx
  · rename_i h
    obtain ⟨k, hk, h1, h2⟩ := pathAt_names h _ _ x hx
    exact ⟨k, hk, h1, by rw [byName, h1]; simp [List.getD_eq_getElem?_getD, List.getElem?_eq_getElem hk]⟩
  · simp at hx
theorem pathAt_len {l : List Q} : ∀ (n : Nat) (p : Int), (pathAt l n p).length ≤ n
  | 0, _ => by simp [pathAt]
  | n + 1, p => by
    rw [pathAt]
    split
    · have := pathAt_len (l := l) n (place l l[p.toNat].parent); simp; exact this
    · simp
theorem path_len (l : List Q) (nm : List UInt8) : (path l nm).length ≤ l.length + 1 := by
  unfold path; split
  · exact pathAt_len _ _
  · simp
end Go.Proofs.Ytbapainfiepadaa
