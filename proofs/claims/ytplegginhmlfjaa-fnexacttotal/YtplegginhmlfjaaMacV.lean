/-
  Rows of Machine values: in memory, and rows that a call makes and fills one by one (mkrow.py wrote this).
-/
import Derived.Test.YtplegginhmlfjaaQV
import Derived.Laws.MakeOwn
namespace Go.Proofs.Ytplegginhmlfjaa
open Go.RowKit
set_option linter.unusedVariables false

structure Mac where
  name : List UInt8
  mem : Int
  cpu : Int
  seen : Int
deriving DecidableEq
instance : Inhabited Mac := ⟨⟨[], 0, 0, 0⟩⟩

abbrev macv (q : Mac) : Value := .agg #[.string (bs q.name), .int .i64 q.mem, .int .i64 q.cpu, .int .i64 q.seen]

def MacAt (w : World) (b p : Nat) (q : Mac) : Prop :=
  w.cell? ⟨b, p, none⟩ = some (.string (bs q.name)) ∧ w.cell? ⟨b, p + 1, none⟩ = some (.int .i64 q.mem) ∧ w.cell? ⟨b, p + 2, none⟩ = some (.int .i64 q.cpu) ∧ w.cell? ⟨b, p + 3, none⟩ = some (.int .i64 q.seen)
def MacRow (w : World) (ao : Option Addr) (len : Nat) (l : List Mac) : Prop :=
  len = l.length ∧ (len = 0 ∨ ∃ b off, ao = some ⟨b, off, none⟩ ∧ ∀ i (h : i < l.length), MacAt w b (off + i * 4) l[i])
theorem MacAt.lt {w : World} {b p : Nat} {q : Mac} (h : MacAt w b p q) : b < w.heap.size := cell_lt h.1
theorem MacAt.below {w w' : World} {b p : Nat} {q : Mac} (h : MacAt w b p q) (hb : Below w.heap.size w w') : MacAt w' b p q :=
  ⟨(hb.cell h.lt).trans h.1, (hb.cell h.lt).trans h.2.1, (hb.cell h.lt).trans h.2.2.1, (hb.cell h.lt).trans h.2.2.2⟩
theorem MacRow.below {w w' : World} {ao : Option Addr} {len : Nat} {l : List Mac} (h : MacRow w ao len l) (hb : Below w.heap.size w w') : MacRow w' ao len l := by
  obtain ⟨h1, h2⟩ := h
  refine ⟨h1, ?_⟩
  rcases h2 with h2 | ⟨b, off, h3, h4⟩
  · exact .inl h2
  · exact .inr ⟨b, off, h3, fun i h => (h4 i h).below hb⟩
theorem MacRow.nil (w : World) (ao : Option Addr) : MacRow w ao 0 [] := ⟨rfl, .inl rfl⟩
theorem MacRow.at {w : World} {ao : Option Addr} {len : Nat} {l : List Mac} (h : MacRow w ao len l) {i : Nat} (hi : i < len) : ∃ b off, ao = some ⟨b, off, none⟩ ∧ ∀ (h : i < l.length), MacAt w b (off + i * 4) l[i] := by
  obtain ⟨h1, h2⟩ := h
  rcases h2 with h2 | ⟨b, off, h3, h4⟩
  · omega
  · exact ⟨b, off, h3, fun hi => h4 i hi⟩
/-- block g is a row of n, of which the first k are those of l -/
def MacBlk (w : World) (t : TypeId) (g n k : Nat) (l : List Mac) : Prop :=
  ∃ arr : Array Value, w.heap[g]? = some (.cells arr t (0, 0)) ∧ arr.size = n * 4 ∧ ∀ i (h : i < l.length), i < k → arr[i * 4]? = some (.string (bs l[i].name)) ∧ arr[i * 4 + 1]? = some (.int .i64 l[i].mem) ∧ arr[i * 4 + 2]? = some (.int .i64 l[i].cpu) ∧ arr[i * 4 + 3]? = some (.int .i64 l[i].seen)
theorem MacBlk.lt {w : World} {t : TypeId} {g n k : Nat} {l : List Mac} (h : MacBlk w t g n k l) : g < w.heap.size := let ⟨_, h, _⟩ := h; lt_of_block h
theorem MacBlk.below {w w' : World} {t : TypeId} {g n k : Nat} {l : List Mac} (h : MacBlk w t g n k l) (hb : Below w.heap.size w w') : MacBlk w' t g n k l := by
  have hlt := h.lt
  obtain ⟨arr, h1, h2⟩ := h
  exact ⟨arr, (hb.block g hlt).trans h1, h2⟩
theorem MacBlk.cell {w : World} {t : TypeId} {g n k : Nat} {l : List Mac} (h : MacBlk w t g n k l) {j : Nat} (hj : j < n * 4) : ∃ v, w.cell? ⟨g, j, none⟩ = some v := by
  obtain ⟨arr, h1, h2, _⟩ := h
  exact ⟨arr[j]'(by omega), by simp [World.cell?, h1, Array.getElem?_eq_getElem (show j < arr.size by omega)]⟩
theorem MacBlk.frozen {w : World} {t : TypeId} {g n k : Nat} {l : List Mac} (h : MacBlk w t g n k l) (j : Nat) : w.frozen? ⟨g, j, none⟩ = false := by
  obtain ⟨arr, h1, h2, _⟩ := h
  simp [World.frozen?, h1]
theorem MacBlk.row {w : World} {t : TypeId} {g n : Nat} {l : List Mac} (h : MacBlk w t g n n l) (hl : n = l.length) : MacRow w (some ⟨g, 0, none⟩) n l := by
  obtain ⟨arr, h1, h2, h3⟩ := h
  refine ⟨hl, .inr ⟨g, 0, rfl, fun i hi => ?_⟩⟩
  obtain ⟨a, b, c, d⟩ := h3 i hi (by omega)
  unfold MacAt
  simp only [Nat.zero_add]
  exact ⟨by simp [World.cell?, h1, a], by simp [World.cell?, h1, b], by simp [World.cell?, h1, c], by simp [World.cell?, h1, d]⟩
theorem macblk_made (w : World) (t : TypeId) (z : Array Value) (n : Nat) (l : List Mac) : MacBlk (w.alloc (.cells (madeCells z (n * 4)) t)) t w.heap.size n 0 l :=
  ⟨madeCells z (n * 4), by show (w.heap.push _)[w.heap.size]? = _; simp, size_madeCells _ _, fun i _ h => absurd h (by omega)⟩
/-- one more -/
def putMac (w : World) (g p : Nat) (q : Mac) : World := ((((w.setCell ⟨g, p, none⟩ (.string (bs q.name))).setCell ⟨g, p + 1, none⟩ (.int .i64 q.mem)).setCell ⟨g, p + 2, none⟩ (.int .i64 q.cpu)).setCell ⟨g, p + 3, none⟩ (.int .i64 q.seen))
theorem MacBlk.step {w : World} {t : TypeId} {g n k : Nat} {l : List Mac} (h : MacBlk w t g n k l) (hk : k < n) (hl : k < l.length) : MacBlk (putMac w g (k * 4) l[k]) t g n (k + 1) l := by
  obtain ⟨arr, h1, h2, h3⟩ := h
  have e1 := heap_setCell_same w g (k * 4) _ _ (.string (bs l[k].name)) h1
  have e2 := heap_setCell_same _ g (k * 4 + 1) _ _ (.int .i64 l[k].mem) e1
  have e3 := heap_setCell_same _ g (k * 4 + 2) _ _ (.int .i64 l[k].cpu) e2
  have e4 := heap_setCell_same _ g (k * 4 + 3) _ _ (.int .i64 l[k].seen) e3
  refine ⟨_, e4, by simp [h2], fun i hi hik => ?_⟩
  by_cases e : i = k
  · subst e
    have q1 : i * 4 + 3 < arr.size := by omega
    refine ⟨?_, ?_, ?_, ?_⟩ <;> simp [Array.getElem?_setIfInBounds, h2] <;> omega
  · obtain ⟨a, b, c, d⟩ := h3 i hi (by omega)
    refine ⟨?_, ?_, ?_, ?_⟩
    · rw [← a]; simp only [Array.getElem?_setIfInBounds]; repeat rw [if_neg (by omega)]
    · rw [← b]; simp only [Array.getElem?_setIfInBounds]; repeat rw [if_neg (by omega)]
    · rw [← c]; simp only [Array.getElem?_setIfInBounds]; repeat rw [if_neg (by omega)]
    · rw [← d]; simp only [Array.getElem?_setIfInBounds]; repeat rw [if_neg (by omega)]
end Go.Proofs.Ytplegginhmlfjaa
