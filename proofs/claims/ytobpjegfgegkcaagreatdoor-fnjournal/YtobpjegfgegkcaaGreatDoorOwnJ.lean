/-
  Lists of records that own their memory(mkown.py wrote this).
-/
import Derived.Test.YtobpjegfgegkcaaGreatDoorRcRow
import Derived.Laws.AppendOwn
import Derived.Lib.SliceRun
import Derived.Deep.RegionWith
namespace Go.Proofs.YtobpjegfgegkcaaGreatDoor
open Go.RowKit
set_option linter.unusedVariables false
abbrev jcell (q : Rc) : List Value := [.int .i64 q.kind, .int .i64 q.app, .string (bs q.queue)]
def jcells : List Rc → List Value
  | [] => []
  | q :: t => jcell q ++ jcells t
theorem jcells_app (a : List Rc) (q : Rc) : jcells (a ++ [q]) = jcells a ++ jcell q := by
  induction a with
  | nil => rfl
  | cons x t ih => rw [List.cons_append, jcells, jcells, ih, List.append_assoc]
theorem jcells_at : ∀ (l : List Rc) (i : Nat) (h : i < l.length), (jcells l)[i * 3]? = some (.int .i64 l[i].kind) ∧ (jcells l)[i * 3 + 1]? = some (.int .i64 l[i].app) ∧ (jcells l)[i * 3 + 2]? = some (.string (bs l[i].queue))
  | q :: t, 0, _ => ⟨rfl, rfl, rfl⟩
  | q :: t, i + 1, h => by
    have e := jcells_at t i (by simpa using h)
    have k : ∀ j, (jcells (q :: t))[(i + 1) * 3 + j]? = (jcells t)[i * 3 + j]? := fun j => by
      rw [jcells, show (i + 1) * 3 + j = (jcell q).length + (i * 3 + j) by simp; omega, List.getElem?_append_right (by omega)]
      congr 1
      omega
    have k0 := k 0
    simp only [Nat.add_zero] at k0
    rw [k0, k 1, k 2]
    simpa using e
/-- v is a list of these records, in memory of its own from block B on -/
def JOwn (B : Nat) (w : World) (v : Value) (l : List Rc) : Prop := w.ownsRow B 25 3 v l.length (jcells l)
theorem jown_nil (B : Nat) (w : World) : JOwn B w (.slice none 0 0) [] := World.ownsRow_nil _ _ _ _
theorem jown_empty (w : World) : w.alloc (.cells #[] 25) |>.ownsRow w.heap.size 25 3 (.slice (some ⟨w.heap.size, 0, none⟩) 0 0) 0 [] :=
  ⟨rfl, .inr ⟨w.heap.size, 0, #[], rfl, Nat.le_refl _, by show (w.heap.push _)[w.heap.size]? = _; simp, Nat.le_refl _, by unfold maxLen; omega, rfl, rfl⟩⟩
theorem jown_below {w w' : World} {B : Nat} {v : Value} {l : List Rc} (h : JOwn B w v l) (hb : Below w.heap.size w w') : JOwn B w' v l :=
  World.ownsRow.kept h (grownBy_below (grownBy_refl w none) hb) (by by_cases e : v.ownBlock = none; exact .inl e; exact .inr e)
theorem jown_base {w : World} {B B' : Nat} {v : Value} {l : List Rc} (h : JOwn B w v l) (hb : B' ≤ B) : JOwn B' w v l := by
  obtain ⟨h1, h2⟩ := h
  refine ⟨h1, ?_⟩
  rcases h2 with h2 | ⟨g, cap, cur, a, b, c⟩
  · exact .inl h2
  · exact .inr ⟨g, cap, cur, a, Nat.le_trans hb b, c⟩
theorem jown_row {w : World} {B : Nat} {v : Value} {l : List Rc} (h : JOwn B w v l) : ∃ ao cap, v = .slice ao l.length cap ∧ RcRow w ao l.length l ∧ l.length ≤ cap ∧ (l ≠ [] → ∃ g cur, ao = some ⟨g, 0, none⟩ ∧ B ≤ g ∧ w.heap[g]? = some (.cells cur 25 (0, 0)) ∧ cur.size = cap * 3) := by
  rcases h.2 with ⟨rfl, h0⟩ | ⟨g, cap, cur, rfl, h1, h2, h3, h4, h5, h6⟩
  · exact ⟨none, 0, by rw [h0], ⟨rfl, .inl h0⟩, by omega, fun hn => absurd (List.length_eq_zero_iff.1 h0) hn⟩
  · refine ⟨some ⟨g, 0, none⟩, cap, rfl, ⟨rfl, .inr ⟨g, 0, rfl, fun i hi => ?_⟩⟩, h3, fun _ => ⟨g, cur, rfl, h1, h2, h5⟩⟩
    obtain ⟨a, b, c⟩ := jcells_at l i hi
    have k : ∀ j (v : Value), j < l.length * 3 → (jcells l)[j]? = some v → w.cell? ⟨g, j, none⟩ = some v := fun j v hj hv => by
      rw [← h6, List.getElem?_take_of_lt hj] at hv
      simp [World.cell?, h2]
      simpa using hv
    unfold RcAt
    rw [Nat.zero_add]
    exact ⟨k _ _ (by omega) a, k _ _ (by omega) b, k _ _ (by omega) c⟩
theorem jown_other {w : World} {B : Nat} {v : Value} {l : List Rc} (h : JOwn B w v l) (k j : Nat) (x : Value) (hk : k < B) : JOwn B (w.setCell ⟨k, j, none⟩ x) v l := by
  obtain ⟨h1, h2⟩ := h
  refine ⟨h1, ?_⟩
  rcases h2 with h2 | ⟨g, cap, cur, a, b, c, d⟩
  · exact .inl h2
  · exact .inr ⟨g, cap, cur, a, b, (heap_setCell_other w ⟨k, j, none⟩ g x (show g ≠ k by omega)).trans c, d⟩
theorem Tryz.infoRec : (Tryz.prog.info? 25).map (fun i => (i.zero, i.size, i.bytes)) = some (some (.agg #[.int .i64 0, .int .i64 0, .string ByteArray.empty]), 3, 32) := by kernel_rfl
end Go.Proofs.YtobpjegfgegkcaaGreatDoor
