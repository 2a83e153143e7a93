/-
  The text of an event in plain words: its words, with a blank between two.
-/
import Derived.Test.YtfhnjghjibklcaaDoorOpW
import Derived.Test.YtfhnjghjibklcaaDoorResTextS
import Derived.Lib.Join
import Derived.Lib.ItoaLen
namespace Go.Proofs.YtfhnjghjibklcaaDoor
open Go.RowKit
set_option linter.unusedVariables false

theorem bs_app (a b : List UInt8) : bs a ++ bs b = bs (a ++ b) := by
  apply ByteArray.ext
  simp [bs, ByteArray.data_append]
def resL (a b : Int) : List UInt8 := Lib.itoa a ++ 120 :: Lib.itoa b
theorem resText_bs (a b : Int) : resText a b = bs (resL a b) := rfl
def conL (q : Con) : List UInt8 := Lib.itoa q.id ++ (58 :: (Lib.itoa q.app ++ (58 :: resL q.mem q.cpu)))
def opWords (o : Opv) : List (List UInt8) :=
  if o.kind = 0 then [[115, 117, 98, 109, 105, 116], o.queue]
  else if o.kind = 1 then [[102, 105, 110, 105, 115, 104], Lib.itoa o.app]
  else if o.kind = 2 then [[97, 115, 107], Lib.itoa o.app, resL o.ask.mem o.ask.cpu, Lib.itoa o.ask.count] ++ (if o.ask.node = [] then [] else [o.ask.node])
  else if o.kind = 3 then [[102, 114, 101, 101], Lib.itoa o.cont]
  else if o.kind = 4 then [[106, 111, 105, 110], o.node, resL o.mem o.cpu] ++ o.conts.map conL
  else if o.kind = 5 then [[98, 101, 97, 116], o.node]
  else if o.kind = 6 then [[116, 105, 99, 107]]
  else if o.kind = 7 then [[115, 101, 114, 118, 101], o.queue]
  else []
def opL (o : Opv) : List UInt8 := Lib.join (opWords o) [32]
theorem wf_b {a : Int} (h : (Lit.int .i64 a).wf = true) : -9223372036854775808 ≤ a ∧ a ≤ 9223372036854775807 := by
  have h' := h
  simp [Lit.wf, IntKind.min, IntKind.max] at h'
  exact ⟨of_decide_eq_true h'.1, of_decide_eq_true h'.2⟩
theorem resL_len (a b : Int) (ha : -9223372036854775808 ≤ a ∧ a ≤ 9223372036854775807) (hb : -9223372036854775808 ≤ b ∧ b ≤ 9223372036854775807) : (resL a b).length ≤ 43 := by
  have h1 := Lib.itoa_length_le a ha.1 ha.2
  have h2 := Lib.itoa_length_le b hb.1 hb.2
  simp [resL]; omega
/-- the numbers of a container are such that a machine has -/
def ConB (q : Con) : Prop := (-9223372036854775808 ≤ q.id ∧ q.id ≤ 9223372036854775807) ∧ (-9223372036854775808 ≤ q.app ∧ q.app ≤ 9223372036854775807) ∧ (-9223372036854775808 ≤ q.mem ∧ q.mem ≤ 9223372036854775807) ∧ (-9223372036854775808 ≤ q.cpu ∧ q.cpu ≤ 9223372036854775807)
theorem conL_len (q : Con) (h : ConB q) : (conL q).length ≤ 90 := by
  have h1 := Lib.itoa_length_le q.id h.1.1 h.1.2
  have h2 := Lib.itoa_length_le q.app h.2.1.1 h.2.1.2
  have h3 := resL_len q.mem q.cpu h.2.2.1 h.2.2.2
  simp [conL]; omega
theorem join_snoc (ws : List (List UInt8)) (x : List UInt8) (h : ws ≠ []) : Lib.join (ws ++ [x]) [32] = Lib.join ws [32] ++ (32 :: x) := by
  obtain ⟨a, r, rfl⟩ : ∃ a r, ws = a :: r := by cases ws; exact absurd rfl h; exact ⟨_, _, rfl⟩
  rw [List.cons_append, Lib.join_cons, Lib.join_cons]
  simp [Lib.joinTail]
theorem lens_cons_len (l : List Con) (h : ∀ q ∈ l, ConB q) : Lib.lens (l.map conL) ≤ 90 * l.length := by
  induction l with
  | nil => simp [Lib.lens]
  | cons q r ih =>
    have h1 := conL_len q (h q (by simp))
    have h2 := ih (fun x hx => h x (by simp [hx]))
    simp only [Lib.lens, List.map_cons, List.sum_cons, List.length_cons] at h2 ⊢
    omega
theorem wf_join_len (a : List UInt8) (ws : List (List UInt8)) (n m : Nat) (ha : a.length + Lib.lens ws ≤ n) (hm : ws.length ≤ m) : (Lib.join (a :: ws) [32]).length ≤ n + m := by
  rw [Lib.join_length]
  simp only [Lib.lens, List.map_cons, List.sum_cons, List.length_cons, List.length_nil] at *
  omega
end Go.Proofs.YtfhnjghjibklcaaDoor
