/-
  A row of queues that a call makes and fills, one by one.
-/
import Derived.Test.YtfpdhlpbcgobiaaDoorQV
import Derived.Laws.MakeOwn
namespace Go.Proofs.YtfpdhlpbcgobiaaDoor
open Go.RowKit
set_option linter.unusedVariables false

/-- block g is a row of n queues, of which the first k are those of l -/
def QBlk (w : World) (t : TypeId) (g n k : Nat) (l : List Q) : Prop :=
  ∃ arr : Array Value, w.heap[g]? = some (.cells arr t (0, 0)) ∧ arr.size = n * 4 ∧ ∀ i (h : i < l.length), i < k → arr[i * 4]? = some (.string (bs l[i].name)) ∧ arr[i * 4 + 1]? = some (.string (bs l[i].parent)) ∧ arr[i * 4 + 2]? = some (.int .i64 l[i].due) ∧ arr[i * 4 + 3]? = some (.int .i64 l[i].most)
theorem QBlk.lt {w : World} {t : TypeId} {g n k : Nat} {l : List Q} (h : QBlk w t g n k l) : g < w.heap.size := let ⟨_, h, _⟩ := h; lt_of_block h
theorem QBlk.below {w w' : World} {t : TypeId} {g n k : Nat} {l : List Q} (h : QBlk w t g n k l) (hb : Below w.heap.size w w') : QBlk w' t g n k l := by
  have hlt := h.lt
  obtain ⟨arr, h1, h2⟩ := h
  exact ⟨arr, (hb.block g hlt).trans h1, h2⟩
theorem QBlk.cell {w : World} {t : TypeId} {g n k : Nat} {l : List Q} (h : QBlk w t g n k l) {j : Nat} (hj : j < n * 4) : ∃ v, w.cell? ⟨g, j, none⟩ = some v := by
  obtain ⟨arr, h1, h2, _⟩ := h
  exact ⟨arr[j]'(by omega), by simp [World.cell?, h1, Array.getElem?_eq_getElem (show j < arr.size by omega)]⟩
theorem QBlk.frozen {w : World} {t : TypeId} {g n k : Nat} {l : List Q} (h : QBlk w t g n k l) (j : Nat) : w.frozen? ⟨g, j, none⟩ = false := by
  obtain ⟨arr, h1, h2, _⟩ := h
  simp [World.frozen?, h1]
theorem QBlk.row {w : World} {t : TypeId} {g n : Nat} {l : List Q} (h : QBlk w t g n n l) (hl : n = l.length) : QRow w (some ⟨g, 0, none⟩) n l := by
  obtain ⟨arr, h1, h2, h3⟩ := h
  refine ⟨hl, .inr ⟨g, 0, rfl, fun i hi => ?_⟩⟩
  obtain ⟨a, b, c, d⟩ := h3 i hi (by omega)
  unfold QAt
  simp only [Nat.zero_add]
  exact ⟨by simp [World.cell?, h1, a], by simp [World.cell?, h1, b], by simp [World.cell?, h1, c], by simp [World.cell?, h1, d]⟩
theorem qblk_made (w : World) (t : TypeId) (z : Array Value) (n : Nat) (l : List Q) : QBlk (w.alloc (.cells (madeCells z (n * 4)) t)) t w.heap.size n 0 l :=
  ⟨madeCells z (n * 4), by show (w.heap.push _)[w.heap.size]? = _; simp, size_madeCells _ _, fun i _ h => absurd h (by omega)⟩
/-- one queue more -/
def putQ (w : World) (g p : Nat) (q : Q) : World := (((w.setCell ⟨g, p, none⟩ (.string (bs q.name))).setCell ⟨g, p + 1, none⟩ (.string (bs q.parent))).setCell ⟨g, p + 2, none⟩ (.int .i64 q.due)).setCell ⟨g, p + 3, none⟩ (.int .i64 q.most)
theorem QBlk.step {w : World} {t : TypeId} {g n k : Nat} {l : List Q} (h : QBlk w t g n k l) (hk : k < n) (hl : k < l.length) : QBlk (putQ w g (k * 4) l[k]) t g n (k + 1) l := by
  obtain ⟨arr, h1, h2, h3⟩ := h
  have e1 := heap_setCell_same w g (k * 4) _ _ (.string (bs l[k].name)) h1
  have e2 := heap_setCell_same _ g (k * 4 + 1) _ _ (.string (bs l[k].parent)) e1
  have e3 := heap_setCell_same _ g (k * 4 + 2) _ _ (.int .i64 l[k].due) e2
  have e4 := heap_setCell_same _ g (k * 4 + 3) _ _ (.int .i64 l[k].most) e3
  refine ⟨_, e4, by simp [h2], fun i hi hik => ?_⟩
  by_cases e : i = k
  · subst e
    have q1 : i * 4 + 3 < arr.size := by omega
    refine ⟨?_, ?_, ?_, ?_⟩ <;> simp [Array.getElem?_setIfInBounds, h2] <;> omega
  · obtain ⟨a, b, c, d⟩ := h3 i hi (by omega)
    refine ⟨?_, ?_, ?_, ?_⟩
    · rw [← a]; simp only [Array.getElem?_setIfInBounds]; repeat rw [if_neg (by omega)]
    · rw [← b]; simp only [Array.getElem?_setIfInBounds]; repeat rw [if_neg (by omega)]
    · rw [← c]; simp only [Array.getElem?_setIfInBounds]; repeat rw [if_neg (by omega)]
    · rw [← d]; simp only [Array.getElem?_setIfInBounds]; repeat rw [if_neg (by omega)]
end Go.Proofs.YtfpdhlpbcgobiaaDoor
