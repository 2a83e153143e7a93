/-
  Rows of Ask values: in memory, and rows that a call makes and fills one by one (mkrow.py wrote this).
-/
import Derived.Test.YtplegginhmlfjaaQV
import Derived.Laws.MakeOwn
namespace Go.Proofs.Ytplegginhmlfjaa
open Go.RowKit
set_option linter.unusedVariables false

structure Ask where
  mem : Int
  cpu : Int
  count : Int
  node : List UInt8
  missed : Int
deriving DecidableEq
instance : Inhabited Ask := ⟨⟨0, 0, 0, [], 0⟩⟩

abbrev askv (q : Ask) : Value := .agg #[.int .i64 q.mem, .int .i64 q.cpu, .int .i64 q.count, .string (bs q.node), .int .i64 q.missed]

def AskAt (w : World) (b p : Nat) (q : Ask) : Prop :=
  w.cell? ⟨b, p, none⟩ = some (.int .i64 q.mem) ∧ w.cell? ⟨b, p + 1, none⟩ = some (.int .i64 q.cpu) ∧ w.cell? ⟨b, p + 2, none⟩ = some (.int .i64 q.count) ∧ w.cell? ⟨b, p + 3, none⟩ = some (.string (bs q.node)) ∧ w.cell? ⟨b, p + 4, none⟩ = some (.int .i64 q.missed)
def AskRow (w : World) (ao : Option Addr) (len : Nat) (l : List Ask) : Prop :=
  len = l.length ∧ (len = 0 ∨ ∃ b off, ao = some ⟨b, off, none⟩ ∧ ∀ i (h : i < l.length), AskAt w b (off + i * 5) l[i])
theorem AskAt.lt {w : World} {b p : Nat} {q : Ask} (h : AskAt w b p q) : b < w.heap.size := cell_lt h.1
theorem AskAt.below {w w' : World} {b p : Nat} {q : Ask} (h : AskAt w b p q) (hb : Below w.heap.size w w') : AskAt w' b p q :=
  ⟨(hb.cell h.lt).trans h.1, (hb.cell h.lt).trans h.2.1, (hb.cell h.lt).trans h.2.2.1, (hb.cell h.lt).trans h.2.2.2.1, (hb.cell h.lt).trans h.2.2.2.2⟩
theorem AskRow.below {w w' : World} {ao : Option Addr} {len : Nat} {l : List Ask} (h : AskRow w ao len l) (hb : Below w.heap.size w w') : AskRow w' ao len l := by
  obtain ⟨h1, h2⟩ := h
  refine ⟨h1, ?_⟩
  rcases h2 with h2 | ⟨b, off, h3, h4⟩
  · exact .inl h2
  · exact .inr ⟨b, off, h3, fun i h => (h4 i h).below hb⟩
theorem AskRow.nil (w : World) (ao : Option Addr) : AskRow w ao 0 [] := ⟨rfl, .inl rfl⟩
theorem AskRow.at {w : World} {ao : Option Addr} {len : Nat} {l : List Ask} (h : AskRow w ao len l) {i : Nat} (hi : i < len) : ∃ b off, ao = some ⟨b, off, none⟩ ∧ ∀ (h : i < l.length), AskAt w b (off + i * 5) l[i] := by
  obtain ⟨h1, h2⟩ := h
  rcases h2 with h2 | ⟨b, off, h3, h4⟩
  · omega
  · exact ⟨b, off, h3, fun hi => h4 i hi⟩
/-- block g is a row of n, of which the first k are those of l -/
def AskBlk (w : World) (t : TypeId) (g n k : Nat) (l : List Ask) : Prop :=
  ∃ arr : Array Value, w.heap[g]? = some (.cells arr t (0, 0)) ∧ arr.size = n * 5 ∧ ∀ i (h : i < l.length), i < k → arr[i * 5]? = some (.int .i64 l[i].mem) ∧ arr[i * 5 + 1]? = some (.int .i64 l[i].cpu) ∧ arr[i * 5 + 2]? = some (.int .i64 l[i].count) ∧ arr[i * 5 + 3]? = some (.string (bs l[i].node)) ∧ arr[i * 5 + 4]? = some (.int .i64 l[i].missed)
theorem AskBlk.lt {w : World} {t : TypeId} {g n k : Nat} {l : List Ask} (h : AskBlk w t g n k l) : g < w.heap.size := let ⟨_, h, _⟩ := h; lt_of_block h
theorem AskBlk.below {w w' : World} {t : TypeId} {g n k : Nat} {l : List Ask} (h : AskBlk w t g n k l) (hb : Below w.heap.size w w') : AskBlk w' t g n k l := by
  have hlt := h.lt
  obtain ⟨arr, h1, h2⟩ := h
  exact ⟨arr, (hb.block g hlt).trans h1, h2⟩
theorem AskBlk.cell {w : World} {t : TypeId} {g n k : Nat} {l : List Ask} (h : AskBlk w t g n k l) {j : Nat} (hj : j < n * 5) : ∃ v, w.cell? ⟨g, j, none⟩ = some v := by
  obtain ⟨arr, h1, h2, _⟩ := h
  exact ⟨arr[j]'(by omega), by simp [World.cell?, h1, Array.getElem?_eq_getElem (show j < arr.size by omega)]⟩
theorem AskBlk.frozen {w : World} {t : TypeId} {g n k : Nat} {l : List Ask} (h : AskBlk w t g n k l) (j : Nat) : w.frozen? ⟨g, j, none⟩ = false := by
  obtain ⟨arr, h1, h2, _⟩ := h
  simp [World.frozen?, h1]
theorem AskBlk.row {w : World} {t : TypeId} {g n : Nat} {l : List Ask} (h : AskBlk w t g n n l) (hl : n = l.length) : AskRow w (some ⟨g, 0, none⟩) n l := by
  obtain ⟨arr, h1, h2, h3⟩ := h
  refine ⟨hl, .inr ⟨g, 0, rfl, fun i hi => ?_⟩⟩
  obtain ⟨a, b, c, d, e⟩ := h3 i hi (by omega)
  unfold AskAt
  simp only [Nat.zero_add]
  exact ⟨by simp [World.cell?, h1, a], by simp [World.cell?, h1, b], by simp [World.cell?, h1, c], by simp [World.cell?, h1, d], by simp [World.cell?, h1, e]⟩
theorem askblk_made (w : World) (t : TypeId) (z : Array Value) (n : Nat) (l : List Ask) : AskBlk (w.alloc (.cells (madeCells z (n * 5)) t)) t w.heap.size n 0 l :=
  ⟨madeCells z (n * 5), by show (w.heap.push _)[w.heap.size]? = _; simp, size_madeCells _ _, fun i _ h => absurd h (by omega)⟩
/-- one more -/
def putAsk (w : World) (g p : Nat) (q : Ask) : World := (((((w.setCell ⟨g, p, none⟩ (.int .i64 q.mem)).setCell ⟨g, p + 1, none⟩ (.int .i64 q.cpu)).setCell ⟨g, p + 2, none⟩ (.int .i64 q.count)).setCell ⟨g, p + 3, none⟩ (.string (bs q.node))).setCell ⟨g, p + 4, none⟩ (.int .i64 q.missed))
theorem AskBlk.step {w : World} {t : TypeId} {g n k : Nat} {l : List Ask} (h : AskBlk w t g n k l) (hk : k < n) (hl : k < l.length) : AskBlk (putAsk w g (k * 5) l[k]) t g n (k + 1) l := by
  obtain ⟨arr, h1, h2, h3⟩ := h
  have e1 := heap_setCell_same w g (k * 5) _ _ (.int .i64 l[k].mem) h1
  have e2 := heap_setCell_same _ g (k * 5 + 1) _ _ (.int .i64 l[k].cpu) e1
  have e3 := heap_setCell_same _ g (k * 5 + 2) _ _ (.int .i64 l[k].count) e2
  have e4 := heap_setCell_same _ g (k * 5 + 3) _ _ (.string (bs l[k].node)) e3
  have e5 := heap_setCell_same _ g (k * 5 + 4) _ _ (.int .i64 l[k].missed) e4
  refine ⟨_, e5, by simp [h2], fun i hi hik => ?_⟩
  by_cases e : i = k
  · subst e
    have q1 : i * 5 + 4 < arr.size := by omega
    refine ⟨?_, ?_, ?_, ?_, ?_⟩ <;> simp [Array.getElem?_setIfInBounds, h2] <;> omega
  · obtain ⟨a, b, c, d, e⟩ := h3 i hi (by omega)
    refine ⟨?_, ?_, ?_, ?_, ?_⟩
    · rw [← a]; simp only [Array.getElem?_setIfInBounds]; repeat rw [if_neg (by omega)]
    · rw [← b]; simp only [Array.getElem?_setIfInBounds]; repeat rw [if_neg (by omega)]
    · rw [← c]; simp only [Array.getElem?_setIfInBounds]; repeat rw [if_neg (by omega)]
    · rw [← d]; simp only [Array.getElem?_setIfInBounds]; repeat rw [if_neg (by omega)]
    · rw [← e]; simp only [Array.getElem?_setIfInBounds]; repeat rw [if_neg (by omega)]
end Go.Proofs.Ytplegginhmlfjaa
