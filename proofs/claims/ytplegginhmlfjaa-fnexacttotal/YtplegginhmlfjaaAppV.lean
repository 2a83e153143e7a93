/-
  Rows of App values: in memory, each with its asks, and rows that a call makes and fills one by one.
-/
import Derived.Test.YtplegginhmlfjaaAskV
import Derived.Test.YtplegginhmlfjaaKeptV
namespace Go.Proofs.Ytplegginhmlfjaa
open Go.RowKit
set_option linter.unusedVariables false

structure Appl where
  id : Int
  queue : List UInt8
  asks : List Ask
deriving DecidableEq
instance : Inhabited Appl := ⟨⟨0, [], []⟩⟩

abbrev applv (id : Int) (queue : List UInt8) (ao : Option Addr) (len cap : Nat) : Value := .agg #[.int .i64 id, .string (bs queue), .slice ao len cap]

theorem AskRow.other {w : World} {ao : Option Addr} {len : Nat} {l : List Ask} (h : AskRow w ao len l) (g j : Nat) (v : Value) (hg : ∀ b off, ao = some ⟨b, off, none⟩ → b ≠ g) : AskRow (w.setCell ⟨g, j, none⟩ v) ao len l := by
  obtain ⟨h1, h2⟩ := h
  refine ⟨h1, ?_⟩
  rcases h2 with h2 | ⟨b, off, h3, h4⟩
  · exact .inl h2
  · have hn := hg b off h3
    have hc : ∀ p, (w.setCell ⟨g, j, none⟩ v).cell? ⟨b, p, none⟩ = w.cell? ⟨b, p, none⟩ := fun p => by
      unfold World.cell?; rw [heap_setCell_other w ⟨g, j, none⟩ b v hn]
    refine .inr ⟨b, off, h3, fun i h => ?_⟩
    obtain ⟨a, b, c, d, e⟩ := h4 i h
    exact ⟨by rw [hc]; exact a, by rw [hc]; exact b, by rw [hc]; exact c, by rw [hc]; exact d, by rw [hc]; exact e⟩

def ApplAt (w : World) (b p : Nat) (q : Appl) (ao : Option Addr) (len cap : Nat) : Prop :=
  w.cell? ⟨b, p, none⟩ = some (.int .i64 q.id) ∧ w.cell? ⟨b, p + 1, none⟩ = some (.string (bs q.queue)) ∧ w.cell? ⟨b, p + 2, none⟩ = some (.slice ao len cap) ∧ AskRow w ao len q.asks ∧ len ≤ cap
def ApplRow (w : World) (ao : Option Addr) (len : Nat) (l : List Appl) : Prop :=
  len = l.length ∧ (len = 0 ∨ ∃ b off, ao = some ⟨b, off, none⟩ ∧ ∀ i (h : i < l.length), ∃ ao len cap, ApplAt w b (off + i * 3) l[i] ao len cap)
theorem ApplAt.lt {w : World} {b p : Nat} {q : Appl} {ao : Option Addr} {len cap : Nat} (h : ApplAt w b p q ao len cap) : b < w.heap.size := cell_lt h.1
theorem ApplAt.below {w w' : World} {b p : Nat} {q : Appl} {ao : Option Addr} {len cap : Nat} (h : ApplAt w b p q ao len cap) (hb : Below w.heap.size w w') : ApplAt w' b p q ao len cap :=
  ⟨(hb.cell h.lt).trans h.1, (hb.cell h.lt).trans h.2.1, (hb.cell h.lt).trans h.2.2.1, h.2.2.2.1.below hb, h.2.2.2.2⟩
theorem ApplRow.below {w w' : World} {ao : Option Addr} {len : Nat} {l : List Appl} (h : ApplRow w ao len l) (hb : Below w.heap.size w w') : ApplRow w' ao len l := by
  obtain ⟨h1, h2⟩ := h
  refine ⟨h1, ?_⟩
  rcases h2 with h2 | ⟨b, off, h3, h4⟩
  · exact .inl h2
  · exact .inr ⟨b, off, h3, fun i h => let ⟨x, y, z, hh⟩ := h4 i h; ⟨x, y, z, hh.below hb⟩⟩
theorem ApplRow.nil (w : World) (ao : Option Addr) : ApplRow w ao 0 [] := ⟨rfl, .inl rfl⟩
theorem ApplRow.at {w : World} {ao : Option Addr} {len : Nat} {l : List Appl} (h : ApplRow w ao len l) {i : Nat} (hi : i < len) : ∃ b off, ao = some ⟨b, off, none⟩ ∧ ∀ (h : i < l.length), ∃ ao len cap, ApplAt w b (off + i * 3) l[i] ao len cap := by
  obtain ⟨h1, h2⟩ := h
  rcases h2 with h2 | ⟨b, off, h3, h4⟩
  · omega
  · exact ⟨b, off, h3, fun hi => h4 i hi⟩
/-- asks that stand behind block g -/
def AskOwn (w : World) (g : Nat) (ao : Option Addr) (len cap : Nat) (l : List Ask) : Prop := AskRow w ao len l ∧ len ≤ cap ∧ ∀ b off, ao = some ⟨b, off, none⟩ → g < b
theorem AskOwn.below {w w' : World} {g : Nat} {ao : Option Addr} {len cap : Nat} {l : List Ask} (h : AskOwn w g ao len cap l) (hb : Below w.heap.size w w') : AskOwn w' g ao len cap l := ⟨h.1.below hb, h.2⟩
/-- block g is a row of n, of which the first k are those of l -/
def ApplBlk (w : World) (t : TypeId) (g n k : Nat) (l : List Appl) : Prop :=
  ∃ arr : Array Value, w.heap[g]? = some (.cells arr t (0, 0)) ∧ arr.size = n * 3 ∧ ∀ i (h : i < l.length), i < k → arr[i * 3]? = some (.int .i64 l[i].id) ∧ arr[i * 3 + 1]? = some (.string (bs l[i].queue)) ∧ ∃ ao len cap, arr[i * 3 + 2]? = some (.slice ao len cap) ∧ AskOwn w g ao len cap l[i].asks
theorem ApplBlk.lt {w : World} {t : TypeId} {g n k : Nat} {l : List Appl} (h : ApplBlk w t g n k l) : g < w.heap.size := let ⟨_, h, _⟩ := h; lt_of_block h
theorem ApplBlk.below {w w' : World} {t : TypeId} {g n k : Nat} {l : List Appl} (h : ApplBlk w t g n k l) (hb : Below w.heap.size w w') : ApplBlk w' t g n k l := by
  have hlt := h.lt
  obtain ⟨arr, h1, h2, h3⟩ := h
  exact ⟨arr, (hb.block g hlt).trans h1, h2, fun i h hk => let ⟨a, b, x, y, z, c, d⟩ := h3 i h hk; ⟨a, b, x, y, z, c, d.below hb⟩⟩
theorem ApplBlk.cell {w : World} {t : TypeId} {g n k : Nat} {l : List Appl} (h : ApplBlk w t g n k l) {j : Nat} (hj : j < n * 3) : ∃ v, w.cell? ⟨g, j, none⟩ = some v := by
  obtain ⟨arr, h1, h2, _⟩ := h
  exact ⟨arr[j]'(by omega), by simp [World.cell?, h1, Array.getElem?_eq_getElem (show j < arr.size by omega)]⟩
theorem ApplBlk.frozen {w : World} {t : TypeId} {g n k : Nat} {l : List Appl} (h : ApplBlk w t g n k l) (j : Nat) : w.frozen? ⟨g, j, none⟩ = false := by
  obtain ⟨arr, h1, h2, _⟩ := h
  simp [World.frozen?, h1]
theorem ApplBlk.row {w : World} {t : TypeId} {g n : Nat} {l : List Appl} (h : ApplBlk w t g n n l) (hl : n = l.length) : ApplRow w (some ⟨g, 0, none⟩) n l := by
  obtain ⟨arr, h1, h2, h3⟩ := h
  refine ⟨hl, .inr ⟨g, 0, rfl, fun i hi => ?_⟩⟩
  obtain ⟨a, b, x, y, z, c, d⟩ := h3 i hi (by omega)
  refine ⟨x, y, z, ?_⟩
  unfold ApplAt
  simp only [Nat.zero_add]
  exact ⟨by simp [World.cell?, h1, a], by simp [World.cell?, h1, b], by simp [World.cell?, h1, c], d.1, d.2.1⟩
theorem applblk_made (w : World) (t : TypeId) (z : Array Value) (n : Nat) (l : List Appl) : ApplBlk (w.alloc (.cells (madeCells z (n * 3)) t)) t w.heap.size n 0 l :=
  ⟨madeCells z (n * 3), by show (w.heap.push _)[w.heap.size]? = _; simp, size_madeCells _ _, fun i _ h => absurd h (by omega)⟩
/-- one more -/
def putAppl (w : World) (g p : Nat) (id : Int) (qu : List UInt8) (ao : Option Addr) (len cap : Nat) : World := ((w.setCell ⟨g, p, none⟩ (.int .i64 id)).setCell ⟨g, p + 1, none⟩ (.string (bs qu))).setCell ⟨g, p + 2, none⟩ (.slice ao len cap)
theorem AskOwn.put {w : World} {g : Nat} {ao : Option Addr} {len cap : Nat} {l : List Ask} (h : AskOwn w g ao len cap l) (j : Nat) (v : Value) : AskOwn (w.setCell ⟨g, j, none⟩ v) g ao len cap l :=
  ⟨h.1.other g j v (fun b off e => by have := h.2.2 b off e; omega), h.2⟩
theorem ApplBlk.step {w : World} {t : TypeId} {g n k : Nat} {l : List Appl} (h : ApplBlk w t g n k l) (hk : k < n) (hl : k < l.length) (AO : Option Addr) (LEN CAP : Nat) (ho : AskOwn w g AO LEN CAP l[k].asks) : ApplBlk (putAppl w g (k * 3) l[k].id l[k].queue AO LEN CAP) t g n (k + 1) l := by
  obtain ⟨arr, h1, h2, h3⟩ := h
  have e1 := heap_setCell_same w g (k * 3) _ _ (.int .i64 l[k].id) h1
  have e2 := heap_setCell_same _ g (k * 3 + 1) _ _ (.string (bs l[k].queue)) e1
  have e3 := heap_setCell_same _ g (k * 3 + 2) _ _ (.slice AO LEN CAP) e2
  have hput : ∀ {ao len cap l'}, AskOwn w g ao len cap l' → AskOwn (putAppl w g (k * 3) l[k].id l[k].queue AO LEN CAP) g ao len cap l' := fun h => ((h.put _ _).put _ _).put _ _
  refine ⟨_, e3, by simp [h2], fun i hi hik => ?_⟩
  by_cases e : i = k
  · subst e
    have q1 : i * 3 + 2 < arr.size := by omega
    refine ⟨?_, ?_, AO, LEN, CAP, ?_, hput ho⟩ <;> simp [Array.getElem?_setIfInBounds, h2] <;> omega
  · obtain ⟨a, b, x, y, z, c, d⟩ := h3 i hi (by omega)
    refine ⟨?_, ?_, x, y, z, ?_, hput d⟩
    · rw [← a]; simp only [Array.getElem?_setIfInBounds]; repeat rw [if_neg (by omega)]
    · rw [← b]; simp only [Array.getElem?_setIfInBounds]; repeat rw [if_neg (by omega)]
    · rw [← c]; simp only [Array.getElem?_setIfInBounds]; repeat rw [if_neg (by omega)]
end Go.Proofs.Ytplegginhmlfjaa
