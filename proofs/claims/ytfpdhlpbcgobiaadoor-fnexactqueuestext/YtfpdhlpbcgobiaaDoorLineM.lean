/-
  The text of queues, a line each: in plain words.
-/
import Derived.Test.YtfpdhlpbcgobiaaDoorFitsM
import Derived.Test.YtfpdhlpbcgobiaaDoorDecM
import Derived.Lib.ItoaLen
namespace Go.Proofs.YtfpdhlpbcgobiaaDoor
open Go.RowKit
set_option linter.unusedVariables false

/-- what stands for the parent -/
def par (q : Q) : List UInt8 := if q.parent = [] then [45] else q.parent
def lineL (q : Q) : List UInt8 := q.name ++ 32 :: (par q ++ 32 :: (Lib.itoa q.due ++ 32 :: (Lib.itoa q.most ++ [10])))
def textL (l : List Q) : List UInt8 := l.flatMap lineL
def qtext (l : List Q) : List UInt8 := if queuesOk l then textL l else []
theorem textL_step {l : List Q} {k : Nat} (h : k < l.length) : textL (l.take (k + 1)) = textL (l.take k) ++ lineL l[k] := by
  rw [List.take_succ_eq_append_getElem h, textL, List.flatMap_append]
  simp [textL]
theorem bs_app (a b : List UInt8) : bs a ++ bs b = bs (a ++ b) := by
  apply WideShapes.bytes_inj
  simp [bs]
theorem sp_eq : (⟨#[32]⟩ : ByteArray) = bs [32] := rfl
theorem nl_eq : (⟨#[10]⟩ : ByteArray) = bs [10] := rfl
theorem line_eq (q : Q) : bs q.name ++ (⟨#[32]⟩ : ByteArray) ++ bs (par q) ++ (⟨#[32]⟩ : ByteArray) ++ bs (Lib.itoa q.due) ++ (⟨#[32]⟩ : ByteArray) ++ bs (Lib.itoa q.most) ++ (⟨#[10]⟩ : ByteArray) = bs (lineL q) := by
  rw [sp_eq, nl_eq]
  simp only [bs_app, lineL]
  congr 1
  simp
theorem text_eq (o : List UInt8) (q : Q) : bs o ++ bs q.name ++ (⟨#[32]⟩ : ByteArray) ++ bs (par q) ++ (⟨#[32]⟩ : ByteArray) ++ bs (Lib.itoa q.due) ++ (⟨#[32]⟩ : ByteArray) ++ bs (Lib.itoa q.most) ++ (⟨#[10]⟩ : ByteArray) = bs (o ++ lineL q) := by
  rw [sp_eq, nl_eq]
  simp only [bs_app, lineL]
  congr 1
  simp
theorem ok_fields {l : List Q} (h : queuesOk l = true) : ∀ q ∈ l, q.name.length ≤ 10 ∧ (par q).length ≤ 10 ∧ 0 ≤ q.due ∧ q.due ≤ 10000 ∧ 0 ≤ q.most ∧ q.most ≤ 10000 := fun q hq => by
  rw [queuesOk_okT, Bool.and_eq_true] at h
  have hk := kid_due (okT_iff.1 h.1).1
  obtain ⟨a, b, c, d⟩ := hk q hq
  have hnm : ∀ n, nameOk n = true → n.length ≤ 10 := fun n hn => by
    simp only [nameOk, inB, Bool.and_eq_true, decide_eq_true_eq] at hn
    omega
  obtain ⟨i, hi, rfl⟩ := List.mem_iff_getElem.1 hq
  have hq2 := (okT_iff.1 h.1).1 i hi
  simp only [qOk, Bool.and_eq_true, inB, decide_eq_true_eq] at hq2
  refine ⟨hnm _ a, ?_, b, c, by omega, by omega⟩
  unfold par
  split
  · simp
  · rcases d with d | ⟨x, hx, hn⟩
    · contradiction
    · rw [← hn]; exact hnm _ (hk x hx).1
theorem itoa_len {n : Int} (h0 : 0 ≤ n) (h1 : n ≤ 10000) : (Lib.itoa n).length ≤ 21 := Lib.itoa_length_le n (by omega) (by omega)
theorem lineL_len {q : Q} (h : q.name.length ≤ 10 ∧ (par q).length ≤ 10 ∧ 0 ≤ q.due ∧ q.due ≤ 10000 ∧ 0 ≤ q.most ∧ q.most ≤ 10000) : (lineL q).length ≤ 66 := by
  have h1 := itoa_len h.2.2.1 h.2.2.2.1
  have h2 := itoa_len h.2.2.2.2.1 h.2.2.2.2.2
  simp only [lineL, List.length_append, List.length_cons, List.length_nil]
  omega
theorem textL_len {l : List Q} (h : queuesOk l = true) : ∀ k, k ≤ l.length → (textL (l.take k)).length ≤ 66 * k
  | 0, _ => by simp [textL]
  | k + 1, hk => by
    rw [textL_step (by omega), List.length_append]
    have := textL_len h k (by omega)
    have := lineL_len (ok_fields h l[k] (List.getElem_mem _))
    omega
theorem ok_len {l : List Q} (h : queuesOk l = true) : l.length ≤ 20 := by
  rw [queuesOk_okT, Bool.and_eq_true] at h
  exact okT_len h.1
end Go.Proofs.YtfpdhlpbcgobiaaDoor
