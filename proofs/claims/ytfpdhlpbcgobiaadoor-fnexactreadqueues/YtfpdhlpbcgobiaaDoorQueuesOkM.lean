/-
  A tree of queues: what is asked of it, in plain words.
-/
import Derived.Test.YtfpdhlpbcgobiaaDoorQSum
import Derived.Test.YtfpdhlpbcgobiaaDoorNameS
namespace Go.Proofs.YtfpdhlpbcgobiaaDoor
open Go.RowKit
set_option linter.unusedVariables false

/-- a queue at place k of l is as it must be -/
def qOk (l : List Q) (k : Nat) (q : Q) : Bool :=
  nameOk q.name && decide (place l q.name = k) && inB q.most 0 10000 && inB q.due 0 q.most
    && (if k = 0 then decide (q.parent = []) && decide (q.due = 10000) else inB (place l q.parent) 0 ((k : Int) - 1))
def okFrom (l : List Q) : List Q → Nat → Bool
  | [], _ => true
  | q :: t, k => qOk l k q && okFrom l t (k + 1)
def sumsOk (l : List Q) : List Q → Bool
  | [] => true
  | q :: t => decide (kidsSum l q.name ≤ 10000) && sumsOk l t
def queuesOk (l : List Q) : Bool := okFrom l l 0 && sumsOk l l && inB l.length 1 20
theorem okFrom_step {l : List Q} {k : Nat} (h : k < l.length) : okFrom l (l.drop k) k = (qOk l k l[k] && okFrom l (l.drop (k + 1)) (k + 1)) := by
  rw [List.drop_eq_getElem_cons h, okFrom]
theorem okFrom_end {l : List Q} {k : Nat} (h : l.length ≤ k) : okFrom l (l.drop k) k = true := by
  rw [List.drop_of_length_le h]; rfl
theorem sumsOk_step {l : List Q} {k : Nat} (h : k < l.length) : sumsOk l (l.drop k) = (decide (kidsSum l l[k].name ≤ 10000) && sumsOk l (l.drop (k + 1))) := by
  rw [List.drop_eq_getElem_cons h, sumsOk]
theorem sumsOk_end {l : List Q} {k : Nat} (h : l.length ≤ k) : sumsOk l (l.drop k) = true := by
  rw [List.drop_of_length_le h]; rfl
theorem okFrom_due {l : List Q} : ∀ (m : List Q) (k : Nat), okFrom l m k = true → ∀ q ∈ m, 0 ≤ q.due ∧ q.due ≤ 10000
  | [], _, _, q, h => by simp at h
  | x :: t, k, h, q, hq => by
    rw [okFrom, Bool.and_eq_true] at h
    rcases List.mem_cons.1 hq with rfl | hq
    · have := h.1
      simp only [qOk, inB, Bool.and_eq_true, decide_eq_true_eq] at this
      omega
    · exact okFrom_due t (k + 1) h.2 q hq
theorem ok_no1 {l : List Q} (h : okFrom l l 0 = false) : queuesOk l = false := by simp [queuesOk, h]
theorem ok_no2 {l : List Q} (h : sumsOk l l = false) : queuesOk l = false := by simp [queuesOk, h]
theorem ok_yes {l : List Q} (h1 : okFrom l l 0 = true) (h2 : sumsOk l l = true) : queuesOk l = inB l.length 1 20 := by simp [queuesOk, h1, h2]
theorem bs_empty (l : List UInt8) : (bs l).toList.isEmpty = decide (l = []) := by
  rw [ByteArray.toList_eq]
  cases l <;> simp [bs]
end Go.Proofs.YtfpdhlpbcgobiaaDoor
