/-
  Lists of queues that a call gathers, one behind the other.
-/
import Derived.Test.YtfpdhlpbcgobiaaDoorMarkQ
import Derived.Test.YtfpdhlpbcgobiaaDoorGrow
import Derived.Laws.AppendOwn
namespace Go.Proofs.YtfpdhlpbcgobiaaDoor
open Go.RowKit
set_option linter.unusedVariables false

abbrev qcell (q : Q) : List Value := [.string (bs q.name), .string (bs q.parent), .int .i64 q.due, .int .i64 q.most]
def qcells : List Q → List Value
  | [] => []
  | q :: t => qcell q ++ qcells t
theorem qcells_app (a : List Q) (q : Q) : qcells (a ++ [q]) = qcells a ++ qcell q := by
  induction a with
  | nil => rfl
  | cons x t ih => rw [List.cons_append, qcells, qcells, ih, List.append_assoc]
theorem qcells_len : ∀ l : List Q, (qcells l).length = l.length * 4
  | [] => rfl
  | q :: t => by rw [qcells, List.length_append, qcells_len t]; simp; omega
theorem qcells_at : ∀ (l : List Q) (i : Nat) (h : i < l.length), (qcells l)[i * 4]? = some (.string (bs l[i].name)) ∧ (qcells l)[i * 4 + 1]? = some (.string (bs l[i].parent)) ∧ (qcells l)[i * 4 + 2]? = some (.int .i64 l[i].due) ∧ (qcells l)[i * 4 + 3]? = some (.int .i64 l[i].most)
  | q :: t, 0, _ => ⟨rfl, rfl, rfl, rfl⟩
  | q :: t, i + 1, h => by
    have e := qcells_at t i (by simpa using h)
    have k : ∀ j, (qcells (q :: t))[(i + 1) * 4 + j]? = (qcells t)[i * 4 + j]? := fun j => by
      rw [qcells, show (i + 1) * 4 + j = (qcell q).length + (i * 4 + j) by simp; omega, List.getElem?_append_right (by omega)]
      congr 1
      omega
    have k0 := k 0
    simp only [Nat.add_zero] at k0
    rw [k0, k 1, k 2, k 3]
    simpa using e
/-- v is a list of these queues, in memory of its own from block B on -/
def QOwn (B : Nat) (w : World) (v : Value) (l : List Q) : Prop := w.ownsRow B 74 4 v l.length (qcells l)
theorem qown_nil (B : Nat) (w : World) : QOwn B w (.slice none 0 0) [] := World.ownsRow_nil _ _ _ _
theorem qown_empty (w : World) : QOwn w.heap.size (w.alloc (.cells #[] 74)) (.slice (some ⟨w.heap.size, 0, none⟩) 0 0) [] :=
  ⟨rfl, .inr ⟨w.heap.size, 0, #[], rfl, Nat.le_refl _, by show (w.heap.push _)[w.heap.size]? = _; simp, Nat.le_refl _, by unfold maxLen; omega, rfl, rfl⟩⟩
theorem QOwn.below {w w' : World} {B : Nat} {v : Value} {l : List Q} (h : QOwn B w v l) (hb : Below w.heap.size w w') : QOwn B w' v l :=
  h.kept (grownBy_below (grownBy_refl w none) hb) (by by_cases e : v.ownBlock = none; exact .inl e; exact .inr e)
theorem QOwn.row {w : World} {B : Nat} {v : Value} {l : List Q} (h : QOwn B w v l) : ∃ ao cap, v = .slice ao l.length cap ∧ QRow w ao l.length l ∧ l.length ≤ cap := by
  rcases h.2 with ⟨rfl, h0⟩ | ⟨g, cap, cur, rfl, h1, h2, h3, h4, h5, h6⟩
  · exact ⟨none, 0, by rw [h0], ⟨rfl, .inl h0⟩, by omega⟩
  · refine ⟨some ⟨g, 0, none⟩, cap, rfl, ⟨rfl, .inr ⟨g, 0, rfl, fun i hi => ?_⟩⟩, h3⟩
    obtain ⟨a, b, c, d⟩ := qcells_at l i hi
    have k : ∀ j (v : Value), j < l.length * 4 → (qcells l)[j]? = some v → w.cell? ⟨g, j, none⟩ = some v := fun j v hj hv => by
      rw [← h6, List.getElem?_take_of_lt hj] at hv
      simp [World.cell?, h2]
      simpa using hv
    unfold QAt
    rw [Nat.zero_add]
    exact ⟨k _ _ (by omega) a, k _ _ (by omega) b, k _ _ (by omega) c, k _ _ (by omega) d⟩
theorem QOwn.some {w : World} {B : Nat} {v : Value} {l : List Q} (h : QOwn B w v l) (hl : l ≠ []) : ∃ g cap, v = .slice (some ⟨g, 0, none⟩) l.length cap ∧ QAny w 74 g cap ∧ QRow w (some ⟨g, 0, none⟩) l.length l ∧ l.length ≤ cap ∧ B ≤ g := by
  obtain ⟨ao, cap, e, hr, hc⟩ := h.row
  rcases h.2 with ⟨rfl, h0⟩ | ⟨g, cap', cur, rfl, h1, h2, h3, h4, h5, h6⟩
  · exact absurd (List.eq_nil_of_length_eq_zero h0) hl
  · simp only [Value.slice.injEq] at e
    obtain ⟨rfl, _, rfl⟩ := e
    exact ⟨g, cap', rfl, ⟨cur, h2, by omega, fun i hi => absurd hi (by simp)⟩, hr, hc, h1⟩
theorem qown_step {w wr w1 : World} {B : Nat} {v v' : Value} {l : List Q} {q : Q} {ob : Obj} (hb : Below B w wr) (hown : QOwn B wr v l)
    (h1 : w1.ownsRow B 74 4 v' (l.length + 1) (qcells l ++ qcell q)) (hg : (wr.alloc ob).grownBy w1 v.ownBlock) (hB : B ≤ wr.heap.size) :
    QOwn B w1 v' (l ++ [q]) ∧ Below B w w1 := by
  refine ⟨?_, (hb.alloc hB ob).grown hg (by simp; omega) ?_⟩
  · unfold QOwn
    rw [qcells_app, List.length_append]
    exact h1
  · intro k hk
    rcases hown.2 with ⟨rfl, _⟩ | ⟨g, cap, cur, rfl, hg', _⟩
    · simp [Value.ownBlock] at hk
    · simp [Value.ownBlock] at hk; omega
theorem Tryd.infoQ : (Tryd.prog.info? 74).map (fun i => (i.zero, i.size, i.bytes)) = some (some (.agg #[.string ByteArray.empty, .string ByteArray.empty, .int .i64 0, .int .i64 0]), 4, 48) := by kernel_rfl
end Go.Proofs.YtfpdhlpbcgobiaaDoor
