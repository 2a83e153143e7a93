/-
  States and what they are made of: values, rows in memory, and what the laws' own helpers do with them (merge.py wrote this out of templates/st).
-/
import Derived.Test.YtcplnodfcchdhaaGreatPackA
import Derived.Laws.MakeOwn
import Derived.Deep.RegionHeld3
import Derived.Deep.CutBlock
import Derived.Deep.CutRange
/-
  The laws' own toRes and eqRes, with the world behind them; walks over the dump.
-/
namespace Go.Proofs.YtcplnodfcchdhaaGreat
open Go.RowKit
set_option linter.unusedVariables false
end Go.Proofs.YtcplnodfcchdhaaGreat
/-
  Rows of Ask values: in memory, and rows that a call makes and fills one by one (mkrow.py wrote this).
-/
namespace Go.Proofs.YtcplnodfcchdhaaGreat
open Go.RowKit
set_option linter.unusedVariables false
structure Ask where
  mem : Int
  cpu : Int
  count : Int
  node : List UInt8
  missed : Int

abbrev askv (q : Ask) : Value := .agg #[.int .i64 q.mem, .int .i64 q.cpu, .int .i64 q.count, .string (bs q.node), .int .i64 q.missed]

def AskAt (w : World) (b p : Nat) (q : Ask) : Prop :=
  w.cell? ⟨b, p, none⟩ = some (.int .i64 q.mem) ∧ w.cell? ⟨b, p + 1, none⟩ = some (.int .i64 q.cpu) ∧ w.cell? ⟨b, p + 2, none⟩ = some (.int .i64 q.count) ∧ w.cell? ⟨b, p + 3, none⟩ = some (.string (bs q.node)) ∧ w.cell? ⟨b, p + 4, none⟩ = some (.int .i64 q.missed)
def AskRow (w : World) (ao : Option Addr) (len : Nat) (l : List Ask) : Prop :=
  len = l.length ∧ (len = 0 ∨ ∃ b off, ao = some ⟨b, off, none⟩ ∧ ∀ i (h : i < l.length), AskAt w b (off + i * 5) l[i])
theorem AskAt.lt {w : World} {b p : Nat} {q : Ask} (h : AskAt w b p q) : b < w.heap.size := cell_lt h.1
theorem AskAt.below {w w' : World} {b p : Nat} {q : Ask} (h : AskAt w b p q) (hb : Below w.heap.size w w') : AskAt w' b p q :=
  ⟨(hb.cell h.lt).trans h.1, (hb.cell h.lt).trans h.2.1, (hb.cell h.lt).trans h.2.2.1, (hb.cell h.lt).trans h.2.2.2.1, (hb.cell h.lt).trans h.2.2.2.2⟩
theorem AskRow.below {w w' : World} {ao : Option Addr} {len : Nat} {l : List Ask} (h : AskRow w ao len l) (hb : Below w.heap.size w w') : AskRow w' ao len l := by
  obtain ⟨h1, h2⟩ := h
  refine ⟨h1, ?_⟩
  rcases h2 with h2 | ⟨b, off, h3, h4⟩
  · exact .inl h2
  · exact .inr ⟨b, off, h3, fun i h => (h4 i h).below hb⟩
theorem AskRow.nil (w : World) (ao : Option Addr) : AskRow w ao 0 [] := ⟨rfl, .inl rfl⟩
theorem AskRow.at {w : World} {ao : Option Addr} {len : Nat} {l : List Ask} (h : AskRow w ao len l) {i : Nat} (hi : i < len) : ∃ b off, ao = some ⟨b, off, none⟩ ∧ ∀ (h : i < l.length), AskAt w b (off + i * 5) l[i] := by
  obtain ⟨h1, h2⟩ := h
  rcases h2 with h2 | ⟨b, off, h3, h4⟩
  · omega
  · exact ⟨b, off, h3, fun hi => h4 i hi⟩
/-- block g is a row of n, of which the first k are those of l -/
def AskBlk (w : World) (t : TypeId) (g n k : Nat) (l : List Ask) : Prop :=
  ∃ arr : Array Value, w.heap[g]? = some (.cells arr t (0, 0)) ∧ arr.size = n * 5 ∧ ∀ i (h : i < l.length), i < k → arr[i * 5]? = some (.int .i64 l[i].mem) ∧ arr[i * 5 + 1]? = some (.int .i64 l[i].cpu) ∧ arr[i * 5 + 2]? = some (.int .i64 l[i].count) ∧ arr[i * 5 + 3]? = some (.string (bs l[i].node)) ∧ arr[i * 5 + 4]? = some (.int .i64 l[i].missed)
theorem AskBlk.lt {w : World} {t : TypeId} {g n k : Nat} {l : List Ask} (h : AskBlk w t g n k l) : g < w.heap.size := let ⟨_, h, _⟩ := h; lt_of_block h
theorem AskBlk.below {w w' : World} {t : TypeId} {g n k : Nat} {l : List Ask} (h : AskBlk w t g n k l) (hb : Below w.heap.size w w') : AskBlk w' t g n k l := by
  have hlt := h.lt
  obtain ⟨arr, h1, h2⟩ := h
  exact ⟨arr, (hb.block g hlt).trans h1, h2⟩
theorem AskBlk.cell {w : World} {t : TypeId} {g n k : Nat} {l : List Ask} (h : AskBlk w t g n k l) {j : Nat} (hj : j < n * 5) : ∃ v, w.cell? ⟨g, j, none⟩ = some v := by
  obtain ⟨arr, h1, h2, _⟩ := h
  exact ⟨arr[j]'(by omega), by simp [World.cell?, h1, Array.getElem?_eq_getElem (show j < arr.size by omega)]⟩
theorem AskBlk.frozen {w : World} {t : TypeId} {g n k : Nat} {l : List Ask} (h : AskBlk w t g n k l) (j : Nat) : w.frozen? ⟨g, j, none⟩ = false := by
  obtain ⟨arr, h1, h2, _⟩ := h
  simp [World.frozen?, h1]
theorem AskBlk.row {w : World} {t : TypeId} {g n : Nat} {l : List Ask} (h : AskBlk w t g n n l) (hl : n = l.length) : AskRow w (some ⟨g, 0, none⟩) n l := by
  obtain ⟨arr, h1, h2, h3⟩ := h
  refine ⟨hl, .inr ⟨g, 0, rfl, fun i hi => ?_⟩⟩
  obtain ⟨a, b, c, d, e⟩ := h3 i hi (by omega)
  unfold AskAt
  simp only [Nat.zero_add]
  exact ⟨by simp [World.cell?, h1, a], by simp [World.cell?, h1, b], by simp [World.cell?, h1, c], by simp [World.cell?, h1, d], by simp [World.cell?, h1, e]⟩
/-- one more -/
def putAsk (w : World) (g p : Nat) (q : Ask) : World := (((((w.setCell ⟨g, p, none⟩ (.int .i64 q.mem)).setCell ⟨g, p + 1, none⟩ (.int .i64 q.cpu)).setCell ⟨g, p + 2, none⟩ (.int .i64 q.count)).setCell ⟨g, p + 3, none⟩ (.string (bs q.node))).setCell ⟨g, p + 4, none⟩ (.int .i64 q.missed))
theorem AskBlk.step {w : World} {t : TypeId} {g n k : Nat} {l : List Ask} (h : AskBlk w t g n k l) (hk : k < n) (hl : k < l.length) : AskBlk (putAsk w g (k * 5) l[k]) t g n (k + 1) l := by
  obtain ⟨arr, h1, h2, h3⟩ := h
  have e1 := heap_setCell_same w g (k * 5) _ _ (.int .i64 l[k].mem) h1
  have e2 := heap_setCell_same _ g (k * 5 + 1) _ _ (.int .i64 l[k].cpu) e1
  have e3 := heap_setCell_same _ g (k * 5 + 2) _ _ (.int .i64 l[k].count) e2
  have e4 := heap_setCell_same _ g (k * 5 + 3) _ _ (.string (bs l[k].node)) e3
  have e5 := heap_setCell_same _ g (k * 5 + 4) _ _ (.int .i64 l[k].missed) e4
  refine ⟨_, e5, by simp [h2], fun i hi hik => ?_⟩
  by_cases e : i = k
  · subst e
    have q1 : i * 5 + 4 < arr.size := by omega
    refine ⟨?_, ?_, ?_, ?_, ?_⟩ <;> simp [Array.getElem?_setIfInBounds, h2] <;> omega
  · obtain ⟨a, b, c, d, e⟩ := h3 i hi (by omega)
    refine ⟨?_, ?_, ?_, ?_, ?_⟩
    · rw [← a]; simp only [Array.getElem?_setIfInBounds]; repeat rw [if_neg (by omega)]
    · rw [← b]; simp only [Array.getElem?_setIfInBounds]; repeat rw [if_neg (by omega)]
    · rw [← c]; simp only [Array.getElem?_setIfInBounds]; repeat rw [if_neg (by omega)]
    · rw [← d]; simp only [Array.getElem?_setIfInBounds]; repeat rw [if_neg (by omega)]
    · rw [← e]; simp only [Array.getElem?_setIfInBounds]; repeat rw [if_neg (by omega)]
end Go.Proofs.YtcplnodfcchdhaaGreat
/-
  Rows of Machine values: in memory, and rows that a call makes and fills one by one (mkrow.py wrote this).
-/
namespace Go.Proofs.YtcplnodfcchdhaaGreat
open Go.RowKit
set_option linter.unusedVariables false
structure Mac where
  name : List UInt8
  mem : Int
  cpu : Int
  seen : Int

abbrev macv (q : Mac) : Value := .agg #[.string (bs q.name), .int .i64 q.mem, .int .i64 q.cpu, .int .i64 q.seen]

def MacAt (w : World) (b p : Nat) (q : Mac) : Prop :=
  w.cell? ⟨b, p, none⟩ = some (.string (bs q.name)) ∧ w.cell? ⟨b, p + 1, none⟩ = some (.int .i64 q.mem) ∧ w.cell? ⟨b, p + 2, none⟩ = some (.int .i64 q.cpu) ∧ w.cell? ⟨b, p + 3, none⟩ = some (.int .i64 q.seen)
def MacRow (w : World) (ao : Option Addr) (len : Nat) (l : List Mac) : Prop :=
  len = l.length ∧ (len = 0 ∨ ∃ b off, ao = some ⟨b, off, none⟩ ∧ ∀ i (h : i < l.length), MacAt w b (off + i * 4) l[i])
theorem MacAt.lt {w : World} {b p : Nat} {q : Mac} (h : MacAt w b p q) : b < w.heap.size := cell_lt h.1
theorem MacAt.below {w w' : World} {b p : Nat} {q : Mac} (h : MacAt w b p q) (hb : Below w.heap.size w w') : MacAt w' b p q :=
  ⟨(hb.cell h.lt).trans h.1, (hb.cell h.lt).trans h.2.1, (hb.cell h.lt).trans h.2.2.1, (hb.cell h.lt).trans h.2.2.2⟩
theorem MacRow.below {w w' : World} {ao : Option Addr} {len : Nat} {l : List Mac} (h : MacRow w ao len l) (hb : Below w.heap.size w w') : MacRow w' ao len l := by
  obtain ⟨h1, h2⟩ := h
  refine ⟨h1, ?_⟩
  rcases h2 with h2 | ⟨b, off, h3, h4⟩
  · exact .inl h2
  · exact .inr ⟨b, off, h3, fun i h => (h4 i h).below hb⟩
theorem MacRow.nil (w : World) (ao : Option Addr) : MacRow w ao 0 [] := ⟨rfl, .inl rfl⟩
theorem MacRow.at {w : World} {ao : Option Addr} {len : Nat} {l : List Mac} (h : MacRow w ao len l) {i : Nat} (hi : i < len) : ∃ b off, ao = some ⟨b, off, none⟩ ∧ ∀ (h : i < l.length), MacAt w b (off + i * 4) l[i] := by
  obtain ⟨h1, h2⟩ := h
  rcases h2 with h2 | ⟨b, off, h3, h4⟩
  · omega
  · exact ⟨b, off, h3, fun hi => h4 i hi⟩
/-- block g is a row of n, of which the first k are those of l -/
def MacBlk (w : World) (t : TypeId) (g n k : Nat) (l : List Mac) : Prop :=
  ∃ arr : Array Value, w.heap[g]? = some (.cells arr t (0, 0)) ∧ arr.size = n * 4 ∧ ∀ i (h : i < l.length), i < k → arr[i * 4]? = some (.string (bs l[i].name)) ∧ arr[i * 4 + 1]? = some (.int .i64 l[i].mem) ∧ arr[i * 4 + 2]? = some (.int .i64 l[i].cpu) ∧ arr[i * 4 + 3]? = some (.int .i64 l[i].seen)
theorem MacBlk.lt {w : World} {t : TypeId} {g n k : Nat} {l : List Mac} (h : MacBlk w t g n k l) : g < w.heap.size := let ⟨_, h, _⟩ := h; lt_of_block h
theorem MacBlk.below {w w' : World} {t : TypeId} {g n k : Nat} {l : List Mac} (h : MacBlk w t g n k l) (hb : Below w.heap.size w w') : MacBlk w' t g n k l := by
  have hlt := h.lt
  obtain ⟨arr, h1, h2⟩ := h
  exact ⟨arr, (hb.block g hlt).trans h1, h2⟩
theorem MacBlk.cell {w : World} {t : TypeId} {g n k : Nat} {l : List Mac} (h : MacBlk w t g n k l) {j : Nat} (hj : j < n * 4) : ∃ v, w.cell? ⟨g, j, none⟩ = some v := by
  obtain ⟨arr, h1, h2, _⟩ := h
  exact ⟨arr[j]'(by omega), by simp [World.cell?, h1, Array.getElem?_eq_getElem (show j < arr.size by omega)]⟩
theorem MacBlk.frozen {w : World} {t : TypeId} {g n k : Nat} {l : List Mac} (h : MacBlk w t g n k l) (j : Nat) : w.frozen? ⟨g, j, none⟩ = false := by
  obtain ⟨arr, h1, h2, _⟩ := h
  simp [World.frozen?, h1]
theorem MacBlk.row {w : World} {t : TypeId} {g n : Nat} {l : List Mac} (h : MacBlk w t g n n l) (hl : n = l.length) : MacRow w (some ⟨g, 0, none⟩) n l := by
  obtain ⟨arr, h1, h2, h3⟩ := h
  refine ⟨hl, .inr ⟨g, 0, rfl, fun i hi => ?_⟩⟩
  obtain ⟨a, b, c, d⟩ := h3 i hi (by omega)
  unfold MacAt
  simp only [Nat.zero_add]
  exact ⟨by simp [World.cell?, h1, a], by simp [World.cell?, h1, b], by simp [World.cell?, h1, c], by simp [World.cell?, h1, d]⟩
/-- one more -/
def putMac (w : World) (g p : Nat) (q : Mac) : World := ((((w.setCell ⟨g, p, none⟩ (.string (bs q.name))).setCell ⟨g, p + 1, none⟩ (.int .i64 q.mem)).setCell ⟨g, p + 2, none⟩ (.int .i64 q.cpu)).setCell ⟨g, p + 3, none⟩ (.int .i64 q.seen))
theorem MacBlk.step {w : World} {t : TypeId} {g n k : Nat} {l : List Mac} (h : MacBlk w t g n k l) (hk : k < n) (hl : k < l.length) : MacBlk (putMac w g (k * 4) l[k]) t g n (k + 1) l := by
  obtain ⟨arr, h1, h2, h3⟩ := h
  have e1 := heap_setCell_same w g (k * 4) _ _ (.string (bs l[k].name)) h1
  have e2 := heap_setCell_same _ g (k * 4 + 1) _ _ (.int .i64 l[k].mem) e1
  have e3 := heap_setCell_same _ g (k * 4 + 2) _ _ (.int .i64 l[k].cpu) e2
  have e4 := heap_setCell_same _ g (k * 4 + 3) _ _ (.int .i64 l[k].seen) e3
  refine ⟨_, e4, by simp [h2], fun i hi hik => ?_⟩
  by_cases e : i = k
  · subst e
    have q1 : i * 4 + 3 < arr.size := by omega
    refine ⟨?_, ?_, ?_, ?_⟩ <;> simp [Array.getElem?_setIfInBounds, h2] <;> omega
  · obtain ⟨a, b, c, d⟩ := h3 i hi (by omega)
    refine ⟨?_, ?_, ?_, ?_⟩
    · rw [← a]; simp only [Array.getElem?_setIfInBounds]; repeat rw [if_neg (by omega)]
    · rw [← b]; simp only [Array.getElem?_setIfInBounds]; repeat rw [if_neg (by omega)]
    · rw [← c]; simp only [Array.getElem?_setIfInBounds]; repeat rw [if_neg (by omega)]
    · rw [← d]; simp only [Array.getElem?_setIfInBounds]; repeat rw [if_neg (by omega)]
end Go.Proofs.YtcplnodfcchdhaaGreat
/-
  Rows of Cont values: in memory, and rows that a call makes and fills one by one (mkrow.py wrote this).
-/
namespace Go.Proofs.YtcplnodfcchdhaaGreat
open Go.RowKit
set_option linter.unusedVariables false
structure Con where
  id : Int
  app : Int
  node : List UInt8
  mem : Int
  cpu : Int

abbrev conv (q : Con) : Value := .agg #[.int .i64 q.id, .int .i64 q.app, .string (bs q.node), .int .i64 q.mem, .int .i64 q.cpu]

def ConAt (w : World) (b p : Nat) (q : Con) : Prop :=
  w.cell? ⟨b, p, none⟩ = some (.int .i64 q.id) ∧ w.cell? ⟨b, p + 1, none⟩ = some (.int .i64 q.app) ∧ w.cell? ⟨b, p + 2, none⟩ = some (.string (bs q.node)) ∧ w.cell? ⟨b, p + 3, none⟩ = some (.int .i64 q.mem) ∧ w.cell? ⟨b, p + 4, none⟩ = some (.int .i64 q.cpu)
def ConRow (w : World) (ao : Option Addr) (len : Nat) (l : List Con) : Prop :=
  len = l.length ∧ (len = 0 ∨ ∃ b off, ao = some ⟨b, off, none⟩ ∧ ∀ i (h : i < l.length), ConAt w b (off + i * 5) l[i])
theorem ConAt.lt {w : World} {b p : Nat} {q : Con} (h : ConAt w b p q) : b < w.heap.size := cell_lt h.1
theorem ConAt.below {w w' : World} {b p : Nat} {q : Con} (h : ConAt w b p q) (hb : Below w.heap.size w w') : ConAt w' b p q :=
  ⟨(hb.cell h.lt).trans h.1, (hb.cell h.lt).trans h.2.1, (hb.cell h.lt).trans h.2.2.1, (hb.cell h.lt).trans h.2.2.2.1, (hb.cell h.lt).trans h.2.2.2.2⟩
theorem ConRow.below {w w' : World} {ao : Option Addr} {len : Nat} {l : List Con} (h : ConRow w ao len l) (hb : Below w.heap.size w w') : ConRow w' ao len l := by
  obtain ⟨h1, h2⟩ := h
  refine ⟨h1, ?_⟩
  rcases h2 with h2 | ⟨b, off, h3, h4⟩
  · exact .inl h2
  · exact .inr ⟨b, off, h3, fun i h => (h4 i h).below hb⟩
theorem ConRow.nil (w : World) (ao : Option Addr) : ConRow w ao 0 [] := ⟨rfl, .inl rfl⟩
theorem ConRow.at {w : World} {ao : Option Addr} {len : Nat} {l : List Con} (h : ConRow w ao len l) {i : Nat} (hi : i < len) : ∃ b off, ao = some ⟨b, off, none⟩ ∧ ∀ (h : i < l.length), ConAt w b (off + i * 5) l[i] := by
  obtain ⟨h1, h2⟩ := h
  rcases h2 with h2 | ⟨b, off, h3, h4⟩
  · omega
  · exact ⟨b, off, h3, fun hi => h4 i hi⟩
/-- block g is a row of n, of which the first k are those of l -/
def ConBlk (w : World) (t : TypeId) (g n k : Nat) (l : List Con) : Prop :=
  ∃ arr : Array Value, w.heap[g]? = some (.cells arr t (0, 0)) ∧ arr.size = n * 5 ∧ ∀ i (h : i < l.length), i < k → arr[i * 5]? = some (.int .i64 l[i].id) ∧ arr[i * 5 + 1]? = some (.int .i64 l[i].app) ∧ arr[i * 5 + 2]? = some (.string (bs l[i].node)) ∧ arr[i * 5 + 3]? = some (.int .i64 l[i].mem) ∧ arr[i * 5 + 4]? = some (.int .i64 l[i].cpu)
theorem ConBlk.lt {w : World} {t : TypeId} {g n k : Nat} {l : List Con} (h : ConBlk w t g n k l) : g < w.heap.size := let ⟨_, h, _⟩ := h; lt_of_block h
theorem ConBlk.below {w w' : World} {t : TypeId} {g n k : Nat} {l : List Con} (h : ConBlk w t g n k l) (hb : Below w.heap.size w w') : ConBlk w' t g n k l := by
  have hlt := h.lt
  obtain ⟨arr, h1, h2⟩ := h
  exact ⟨arr, (hb.block g hlt).trans h1, h2⟩
theorem ConBlk.cell {w : World} {t : TypeId} {g n k : Nat} {l : List Con} (h : ConBlk w t g n k l) {j : Nat} (hj : j < n * 5) : ∃ v, w.cell? ⟨g, j, none⟩ = some v := by
  obtain ⟨arr, h1, h2, _⟩ := h
  exact ⟨arr[j]'(by omega), by simp [World.cell?, h1, Array.getElem?_eq_getElem (show j < arr.size by omega)]⟩
theorem ConBlk.frozen {w : World} {t : TypeId} {g n k : Nat} {l : List Con} (h : ConBlk w t g n k l) (j : Nat) : w.frozen? ⟨g, j, none⟩ = false := by
  obtain ⟨arr, h1, h2, _⟩ := h
  simp [World.frozen?, h1]
theorem ConBlk.row {w : World} {t : TypeId} {g n : Nat} {l : List Con} (h : ConBlk w t g n n l) (hl : n = l.length) : ConRow w (some ⟨g, 0, none⟩) n l := by
  obtain ⟨arr, h1, h2, h3⟩ := h
  refine ⟨hl, .inr ⟨g, 0, rfl, fun i hi => ?_⟩⟩
  obtain ⟨a, b, c, d, e⟩ := h3 i hi (by omega)
  unfold ConAt
  simp only [Nat.zero_add]
  exact ⟨by simp [World.cell?, h1, a], by simp [World.cell?, h1, b], by simp [World.cell?, h1, c], by simp [World.cell?, h1, d], by simp [World.cell?, h1, e]⟩
/-- one more -/
def putCon (w : World) (g p : Nat) (q : Con) : World := (((((w.setCell ⟨g, p, none⟩ (.int .i64 q.id)).setCell ⟨g, p + 1, none⟩ (.int .i64 q.app)).setCell ⟨g, p + 2, none⟩ (.string (bs q.node))).setCell ⟨g, p + 3, none⟩ (.int .i64 q.mem)).setCell ⟨g, p + 4, none⟩ (.int .i64 q.cpu))
theorem ConBlk.step {w : World} {t : TypeId} {g n k : Nat} {l : List Con} (h : ConBlk w t g n k l) (hk : k < n) (hl : k < l.length) : ConBlk (putCon w g (k * 5) l[k]) t g n (k + 1) l := by
  obtain ⟨arr, h1, h2, h3⟩ := h
  have e1 := heap_setCell_same w g (k * 5) _ _ (.int .i64 l[k].id) h1
  have e2 := heap_setCell_same _ g (k * 5 + 1) _ _ (.int .i64 l[k].app) e1
  have e3 := heap_setCell_same _ g (k * 5 + 2) _ _ (.string (bs l[k].node)) e2
  have e4 := heap_setCell_same _ g (k * 5 + 3) _ _ (.int .i64 l[k].mem) e3
  have e5 := heap_setCell_same _ g (k * 5 + 4) _ _ (.int .i64 l[k].cpu) e4
  refine ⟨_, e5, by simp [h2], fun i hi hik => ?_⟩
  by_cases e : i = k
  · subst e
    have q1 : i * 5 + 4 < arr.size := by omega
    refine ⟨?_, ?_, ?_, ?_, ?_⟩ <;> simp [Array.getElem?_setIfInBounds, h2] <;> omega
  · obtain ⟨a, b, c, d, e⟩ := h3 i hi (by omega)
    refine ⟨?_, ?_, ?_, ?_, ?_⟩
    · rw [← a]; simp only [Array.getElem?_setIfInBounds]; repeat rw [if_neg (by omega)]
    · rw [← b]; simp only [Array.getElem?_setIfInBounds]; repeat rw [if_neg (by omega)]
    · rw [← c]; simp only [Array.getElem?_setIfInBounds]; repeat rw [if_neg (by omega)]
    · rw [← d]; simp only [Array.getElem?_setIfInBounds]; repeat rw [if_neg (by omega)]
    · rw [← e]; simp only [Array.getElem?_setIfInBounds]; repeat rw [if_neg (by omega)]
end Go.Proofs.YtcplnodfcchdhaaGreat
/-
  Rows of App values: in memory, each with its asks, and rows that a call makes and fills one by one.
-/
namespace Go.Proofs.YtcplnodfcchdhaaGreat
open Go.RowKit
set_option linter.unusedVariables false
structure Appl where
  id : Int
  queue : List UInt8
  asks : List Ask

abbrev applv (id : Int) (queue : List UInt8) (ao : Option Addr) (len cap : Nat) : Value := .agg #[.int .i64 id, .string (bs queue), .slice ao len cap]

theorem AskRow.other {w : World} {ao : Option Addr} {len : Nat} {l : List Ask} (h : AskRow w ao len l) (g j : Nat) (v : Value) (hg : ∀ b off, ao = some ⟨b, off, none⟩ → b ≠ g) : AskRow (w.setCell ⟨g, j, none⟩ v) ao len l := by
  obtain ⟨h1, h2⟩ := h
  refine ⟨h1, ?_⟩
  rcases h2 with h2 | ⟨b, off, h3, h4⟩
  · exact .inl h2
  · have hn := hg b off h3
    have hc : ∀ p, (w.setCell ⟨g, j, none⟩ v).cell? ⟨b, p, none⟩ = w.cell? ⟨b, p, none⟩ := fun p => by
      unfold World.cell?; rw [heap_setCell_other w ⟨g, j, none⟩ b v hn]
    refine .inr ⟨b, off, h3, fun i h => ?_⟩
    obtain ⟨a, b, c, d, e⟩ := h4 i h
    exact ⟨by rw [hc]; exact a, by rw [hc]; exact b, by rw [hc]; exact c, by rw [hc]; exact d, by rw [hc]; exact e⟩

def ApplAt (w : World) (b p : Nat) (q : Appl) (ao : Option Addr) (len cap : Nat) : Prop :=
  w.cell? ⟨b, p, none⟩ = some (.int .i64 q.id) ∧ w.cell? ⟨b, p + 1, none⟩ = some (.string (bs q.queue)) ∧ w.cell? ⟨b, p + 2, none⟩ = some (.slice ao len cap) ∧ AskRow w ao len q.asks ∧ len ≤ cap
def ApplRow (w : World) (ao : Option Addr) (len : Nat) (l : List Appl) : Prop :=
  len = l.length ∧ (len = 0 ∨ ∃ b off, ao = some ⟨b, off, none⟩ ∧ ∀ i (h : i < l.length), ∃ ao len cap, ApplAt w b (off + i * 3) l[i] ao len cap)
theorem ApplAt.lt {w : World} {b p : Nat} {q : Appl} {ao : Option Addr} {len cap : Nat} (h : ApplAt w b p q ao len cap) : b < w.heap.size := cell_lt h.1
theorem ApplAt.below {w w' : World} {b p : Nat} {q : Appl} {ao : Option Addr} {len cap : Nat} (h : ApplAt w b p q ao len cap) (hb : Below w.heap.size w w') : ApplAt w' b p q ao len cap :=
  ⟨(hb.cell h.lt).trans h.1, (hb.cell h.lt).trans h.2.1, (hb.cell h.lt).trans h.2.2.1, h.2.2.2.1.below hb, h.2.2.2.2⟩
theorem ApplRow.below {w w' : World} {ao : Option Addr} {len : Nat} {l : List Appl} (h : ApplRow w ao len l) (hb : Below w.heap.size w w') : ApplRow w' ao len l := by
  obtain ⟨h1, h2⟩ := h
  refine ⟨h1, ?_⟩
  rcases h2 with h2 | ⟨b, off, h3, h4⟩
  · exact .inl h2
  · exact .inr ⟨b, off, h3, fun i h => let ⟨x, y, z, hh⟩ := h4 i h; ⟨x, y, z, hh.below hb⟩⟩
theorem ApplRow.nil (w : World) (ao : Option Addr) : ApplRow w ao 0 [] := ⟨rfl, .inl rfl⟩
theorem ApplRow.at {w : World} {ao : Option Addr} {len : Nat} {l : List Appl} (h : ApplRow w ao len l) {i : Nat} (hi : i < len) : ∃ b off, ao = some ⟨b, off, none⟩ ∧ ∀ (h : i < l.length), ∃ ao len cap, ApplAt w b (off + i * 3) l[i] ao len cap := by
  obtain ⟨h1, h2⟩ := h
  rcases h2 with h2 | ⟨b, off, h3, h4⟩
  · omega
  · exact ⟨b, off, h3, fun hi => h4 i hi⟩
/-- asks that stand behind block g -/
def AskOwn (w : World) (g : Nat) (ao : Option Addr) (len cap : Nat) (l : List Ask) : Prop := AskRow w ao len l ∧ len ≤ cap ∧ (∀ b off, ao = some ⟨b, off, none⟩ → g < b) ∧ ∃ b, ao = some ⟨b, 0, none⟩ ∧ cap = len ∧ AskBlk w 96 b len 0 []
theorem AskBlk.other {w : World} {t : TypeId} {g n k : Nat} {l : List Ask} (h : AskBlk w t g n k l) (b j : Nat) (v : Value) (hn : g ≠ b) : AskBlk (w.setCell ⟨b, j, none⟩ v) t g n k l := by
  obtain ⟨arr, h1, h2⟩ := h
  exact ⟨arr, (heap_setCell_other w ⟨b, j, none⟩ g v hn).trans h1, h2⟩
theorem AskBlk.any {w : World} {t : TypeId} {g n k : Nat} {l : List Ask} (h : AskBlk w t g n k l) : AskBlk w t g n 0 [] := by
  obtain ⟨arr, h1, h2, _⟩ := h
  exact ⟨arr, h1, h2, fun i hi => absurd hi (by simp)⟩
theorem AskOwn.below {w w' : World} {g : Nat} {ao : Option Addr} {len cap : Nat} {l : List Ask} (h : AskOwn w g ao len cap l) (hb : Below w.heap.size w w') : AskOwn w' g ao len cap l := ⟨h.1.below hb, h.2.1, h.2.2.1, let ⟨b, e, c, d⟩ := h.2.2.2; ⟨b, e, c, d.below hb⟩⟩
/-- block g is a row of n, of which the first k are those of l -/
def ApplBlk (w : World) (t : TypeId) (g n k : Nat) (l : List Appl) : Prop :=
  ∃ arr : Array Value, w.heap[g]? = some (.cells arr t (0, 0)) ∧ arr.size = n * 3 ∧ ∀ i (h : i < l.length), i < k → arr[i * 3]? = some (.int .i64 l[i].id) ∧ arr[i * 3 + 1]? = some (.string (bs l[i].queue)) ∧ ∃ ao len cap, arr[i * 3 + 2]? = some (.slice ao len cap) ∧ AskOwn w g ao len cap l[i].asks
theorem ApplBlk.lt {w : World} {t : TypeId} {g n k : Nat} {l : List Appl} (h : ApplBlk w t g n k l) : g < w.heap.size := let ⟨_, h, _⟩ := h; lt_of_block h
theorem ApplBlk.below {w w' : World} {t : TypeId} {g n k : Nat} {l : List Appl} (h : ApplBlk w t g n k l) (hb : Below w.heap.size w w') : ApplBlk w' t g n k l := by
  have hlt := h.lt
  obtain ⟨arr, h1, h2, h3⟩ := h
  exact ⟨arr, (hb.block g hlt).trans h1, h2, fun i h hk => let ⟨a, b, x, y, z, c, d⟩ := h3 i h hk; ⟨a, b, x, y, z, c, d.below hb⟩⟩
theorem ApplBlk.cell {w : World} {t : TypeId} {g n k : Nat} {l : List Appl} (h : ApplBlk w t g n k l) {j : Nat} (hj : j < n * 3) : ∃ v, w.cell? ⟨g, j, none⟩ = some v := by
  obtain ⟨arr, h1, h2, _⟩ := h
  exact ⟨arr[j]'(by omega), by simp [World.cell?, h1, Array.getElem?_eq_getElem (show j < arr.size by omega)]⟩
theorem ApplBlk.frozen {w : World} {t : TypeId} {g n k : Nat} {l : List Appl} (h : ApplBlk w t g n k l) (j : Nat) : w.frozen? ⟨g, j, none⟩ = false := by
  obtain ⟨arr, h1, h2, _⟩ := h
  simp [World.frozen?, h1]
theorem ApplBlk.row {w : World} {t : TypeId} {g n : Nat} {l : List Appl} (h : ApplBlk w t g n n l) (hl : n = l.length) : ApplRow w (some ⟨g, 0, none⟩) n l := by
  obtain ⟨arr, h1, h2, h3⟩ := h
  refine ⟨hl, .inr ⟨g, 0, rfl, fun i hi => ?_⟩⟩
  obtain ⟨a, b, x, y, z, c, d⟩ := h3 i hi (by omega)
  refine ⟨x, y, z, ?_⟩
  unfold ApplAt
  simp only [Nat.zero_add]
  exact ⟨by simp [World.cell?, h1, a], by simp [World.cell?, h1, b], by simp [World.cell?, h1, c], d.1, d.2.1⟩
/-- one more -/
def putAppl (w : World) (g p : Nat) (id : Int) (qu : List UInt8) (ao : Option Addr) (len cap : Nat) : World := ((w.setCell ⟨g, p, none⟩ (.int .i64 id)).setCell ⟨g, p + 1, none⟩ (.string (bs qu))).setCell ⟨g, p + 2, none⟩ (.slice ao len cap)
theorem AskOwn.put {w : World} {g : Nat} {ao : Option Addr} {len cap : Nat} {l : List Ask} (h : AskOwn w g ao len cap l) (j : Nat) (v : Value) : AskOwn (w.setCell ⟨g, j, none⟩ v) g ao len cap l :=
  ⟨h.1.other g j v (fun b off e => by have := h.2.2.1 b off e; omega), h.2.1, h.2.2.1, let ⟨b, e, c, d⟩ := h.2.2.2; ⟨b, e, c, d.other g j v (by have := h.2.2.1 b 0 e; omega)⟩⟩
theorem AskOwn.other {w : World} {g : Nat} {ao : Option Addr} {len cap : Nat} {l : List Ask} (h : AskOwn w g ao len cap l) (k j : Nat) (v : Value) (hk : k < g) : AskOwn (w.setCell ⟨k, j, none⟩ v) g ao len cap l :=
  ⟨h.1.other k j v (fun b off e => by have := h.2.2.1 b off e; omega), h.2.1, h.2.2.1, let ⟨b, e, c, d⟩ := h.2.2.2; ⟨b, e, c, d.other k j v (by have := h.2.2.1 b 0 e; omega)⟩⟩
theorem ApplBlk.step {w : World} {t : TypeId} {g n k : Nat} {l : List Appl} (h : ApplBlk w t g n k l) (hk : k < n) (hl : k < l.length) (AO : Option Addr) (LEN CAP : Nat) (ho : AskOwn w g AO LEN CAP l[k].asks) : ApplBlk (putAppl w g (k * 3) l[k].id l[k].queue AO LEN CAP) t g n (k + 1) l := by
  obtain ⟨arr, h1, h2, h3⟩ := h
  have e1 := heap_setCell_same w g (k * 3) _ _ (.int .i64 l[k].id) h1
  have e2 := heap_setCell_same _ g (k * 3 + 1) _ _ (.string (bs l[k].queue)) e1
  have e3 := heap_setCell_same _ g (k * 3 + 2) _ _ (.slice AO LEN CAP) e2
  have hput : ∀ {ao len cap l'}, AskOwn w g ao len cap l' → AskOwn (putAppl w g (k * 3) l[k].id l[k].queue AO LEN CAP) g ao len cap l' := fun h => ((h.put _ _).put _ _).put _ _
  refine ⟨_, e3, by simp [h2], fun i hi hik => ?_⟩
  by_cases e : i = k
  · subst e
    have q1 : i * 3 + 2 < arr.size := by omega
    refine ⟨?_, ?_, AO, LEN, CAP, ?_, hput ho⟩ <;> simp [Array.getElem?_setIfInBounds, h2] <;> omega
  · obtain ⟨a, b, x, y, z, c, d⟩ := h3 i hi (by omega)
    refine ⟨?_, ?_, x, y, z, ?_, hput d⟩
    · rw [← a]; simp only [Array.getElem?_setIfInBounds]; repeat rw [if_neg (by omega)]
    · rw [← b]; simp only [Array.getElem?_setIfInBounds]; repeat rw [if_neg (by omega)]
    · rw [← c]; simp only [Array.getElem?_setIfInBounds]; repeat rw [if_neg (by omega)]
end Go.Proofs.YtcplnodfcchdhaaGreat
/-
  The laws' own toAsk; a walk over the dump.
-/
namespace Go.Proofs.YtcplnodfcchdhaaGreat
open Go.RowKit
set_option linter.unusedVariables false
end Go.Proofs.YtcplnodfcchdhaaGreat
/-
  The laws' own toMachine; a walk over the dump.
-/
namespace Go.Proofs.YtcplnodfcchdhaaGreat
open Go.RowKit
set_option linter.unusedVariables false
end Go.Proofs.YtcplnodfcchdhaaGreat
/-
  The laws' own toCont; a walk over the dump.
-/
namespace Go.Proofs.YtcplnodfcchdhaaGreat
open Go.RowKit
set_option linter.unusedVariables false
end Go.Proofs.YtcplnodfcchdhaaGreat
/-
  The laws' own eqAsk, at the same; a walk over the dump.
-/
namespace Go.Proofs.YtcplnodfcchdhaaGreat
open Go.RowKit
set_option linter.unusedVariables false
end Go.Proofs.YtcplnodfcchdhaaGreat
/-
  The laws' own eqMachine, at the same; a walk over the dump.
-/
namespace Go.Proofs.YtcplnodfcchdhaaGreat
open Go.RowKit
set_option linter.unusedVariables false
end Go.Proofs.YtcplnodfcchdhaaGreat
/-
  The laws' own eqCont, at the same; a walk over the dump.
-/
namespace Go.Proofs.YtcplnodfcchdhaaGreat
open Go.RowKit
set_option linter.unusedVariables false
end Go.Proofs.YtcplnodfcchdhaaGreat
/-
  The laws' own toAskS: rows of Ask values made anew; walks over the dump (mkrow.py wrote this).
-/
namespace Go.Proofs.YtcplnodfcchdhaaGreat
open Go.RowKit
set_option linter.unusedVariables false
end Go.Proofs.YtcplnodfcchdhaaGreat
/-
  The laws' own toMachineS: rows of Machine values made anew; walks over the dump (mkrow.py wrote this).
-/
namespace Go.Proofs.YtcplnodfcchdhaaGreat
open Go.RowKit
set_option linter.unusedVariables false
end Go.Proofs.YtcplnodfcchdhaaGreat
/-
  The laws' own toContS: rows of Cont values made anew; walks over the dump (mkrow.py wrote this).
-/
namespace Go.Proofs.YtcplnodfcchdhaaGreat
open Go.RowKit
set_option linter.unusedVariables false
end Go.Proofs.YtcplnodfcchdhaaGreat
/-
  The laws' own szAsk and szAskS: how much is handed in; walks over the dump (mkrow.py wrote this).
-/
namespace Go.Proofs.YtcplnodfcchdhaaGreat
open Go.RowKit
set_option linter.unusedVariables false
def szAsk (q : Ask) (a : Int) : Int := if a - q.node.length < 0 then -1 else a - q.node.length
/-- not too much -/
def FitAsk (l : List Ask) : Prop := l.length ≤ 1048576 ∧ ∀ q ∈ l, q.node.length ≤ 1048576

end Go.Proofs.YtcplnodfcchdhaaGreat
/-
  The laws' own szMachine and szMachineS: how much is handed in; walks over the dump (mkrow.py wrote this).
-/
namespace Go.Proofs.YtcplnodfcchdhaaGreat
open Go.RowKit
set_option linter.unusedVariables false
/-- not too much -/
def FitMac (l : List Mac) : Prop := l.length ≤ 1048576 ∧ ∀ q ∈ l, q.name.length ≤ 1048576

end Go.Proofs.YtcplnodfcchdhaaGreat
/-
  The laws' own szCont and szContS: how much is handed in; walks over the dump (mkrow.py wrote this).
-/
namespace Go.Proofs.YtcplnodfcchdhaaGreat
open Go.RowKit
set_option linter.unusedVariables false
/-- not too much -/
def FitCon (l : List Con) : Prop := l.length ≤ 1048576 ∧ ∀ q ∈ l, q.node.length ≤ 1048576

end Go.Proofs.YtcplnodfcchdhaaGreat
/-
  The laws' own eqAskS, at rows that hold the same; walks over the dump (mkrow.py wrote this).
-/
namespace Go.Proofs.YtcplnodfcchdhaaGreat
open Go.RowKit
set_option linter.unusedVariables false
/-- the same stands at two places -/
def AskTwo (w0 : World) (b p c r : Nat) (q : Ask) (w : World) : Prop := AskAt w b p q ∧ AskAt w c r q ∧ Below w0.heap.size w0 w
theorem AskTwo.call {w0 w w' : World} {b p c r : Nat} {q : Ask} (h : AskTwo w0 b p c r q w) (hb : Below w.heap.size w w') : AskTwo w0 b p c r q w' := ⟨h.1.below hb, h.2.1.below hb, below_on h.2.2 hb⟩
theorem AskTwo.drew {w0 w : World} {b p c r : Nat} {q : Ask} (h : AskTwo w0 b p c r q w) : AskTwo w0 b p c r q w.drew := h.call (Below.refl _ _).drew
theorem AskTwo.read (w0 : World) (b p c r : Nat) (q : Ask) : ∀ wx, AskTwo w0 b p c r q wx → wx.cell? ⟨b, p, none⟩ = some (.int .i64 q.mem) ∧ wx.cell? ⟨b, p + 1, none⟩ = some (.int .i64 q.cpu) ∧ wx.cell? ⟨b, p + 2, none⟩ = some (.int .i64 q.count) ∧ wx.cell? ⟨b, p + 3, none⟩ = some (.string (bs q.node)) ∧ wx.cell? ⟨b, p + 4, none⟩ = some (.int .i64 q.missed)
    ∧ wx.cell? ⟨c, r, none⟩ = some (.int .i64 q.mem) ∧ wx.cell? ⟨c, r + 1, none⟩ = some (.int .i64 q.cpu) ∧ wx.cell? ⟨c, r + 2, none⟩ = some (.int .i64 q.count) ∧ wx.cell? ⟨c, r + 3, none⟩ = some (.string (bs q.node)) ∧ wx.cell? ⟨c, r + 4, none⟩ = some (.int .i64 q.missed) :=
  fun wx h => ⟨h.1.1, h.1.2.1, h.1.2.2.1, h.1.2.2.2.1, h.1.2.2.2.2, h.2.1.1, h.2.1.2.1, h.2.1.2.2.1, h.2.1.2.2.2.1, h.2.1.2.2.2.2⟩

end Go.Proofs.YtcplnodfcchdhaaGreat
/-
  The laws' own eqMachineS, at rows that hold the same; walks over the dump (mkrow.py wrote this).
-/
namespace Go.Proofs.YtcplnodfcchdhaaGreat
open Go.RowKit
set_option linter.unusedVariables false
/-- the same stands at two places -/
def MacTwo (w0 : World) (b p c r : Nat) (q : Mac) (w : World) : Prop := MacAt w b p q ∧ MacAt w c r q ∧ Below w0.heap.size w0 w
theorem MacTwo.call {w0 w w' : World} {b p c r : Nat} {q : Mac} (h : MacTwo w0 b p c r q w) (hb : Below w.heap.size w w') : MacTwo w0 b p c r q w' := ⟨h.1.below hb, h.2.1.below hb, below_on h.2.2 hb⟩
theorem MacTwo.drew {w0 w : World} {b p c r : Nat} {q : Mac} (h : MacTwo w0 b p c r q w) : MacTwo w0 b p c r q w.drew := h.call (Below.refl _ _).drew
theorem MacTwo.read (w0 : World) (b p c r : Nat) (q : Mac) : ∀ wx, MacTwo w0 b p c r q wx → wx.cell? ⟨b, p, none⟩ = some (.string (bs q.name)) ∧ wx.cell? ⟨b, p + 1, none⟩ = some (.int .i64 q.mem) ∧ wx.cell? ⟨b, p + 2, none⟩ = some (.int .i64 q.cpu) ∧ wx.cell? ⟨b, p + 3, none⟩ = some (.int .i64 q.seen)
    ∧ wx.cell? ⟨c, r, none⟩ = some (.string (bs q.name)) ∧ wx.cell? ⟨c, r + 1, none⟩ = some (.int .i64 q.mem) ∧ wx.cell? ⟨c, r + 2, none⟩ = some (.int .i64 q.cpu) ∧ wx.cell? ⟨c, r + 3, none⟩ = some (.int .i64 q.seen) :=
  fun wx h => ⟨h.1.1, h.1.2.1, h.1.2.2.1, h.1.2.2.2, h.2.1.1, h.2.1.2.1, h.2.1.2.2.1, h.2.1.2.2.2⟩

end Go.Proofs.YtcplnodfcchdhaaGreat
/-
  The laws' own eqContS, at rows that hold the same; walks over the dump (mkrow.py wrote this).
-/
namespace Go.Proofs.YtcplnodfcchdhaaGreat
open Go.RowKit
set_option linter.unusedVariables false
/-- the same stands at two places -/
def ConTwo (w0 : World) (b p c r : Nat) (q : Con) (w : World) : Prop := ConAt w b p q ∧ ConAt w c r q ∧ Below w0.heap.size w0 w
theorem ConTwo.call {w0 w w' : World} {b p c r : Nat} {q : Con} (h : ConTwo w0 b p c r q w) (hb : Below w.heap.size w w') : ConTwo w0 b p c r q w' := ⟨h.1.below hb, h.2.1.below hb, below_on h.2.2 hb⟩
theorem ConTwo.drew {w0 w : World} {b p c r : Nat} {q : Con} (h : ConTwo w0 b p c r q w) : ConTwo w0 b p c r q w.drew := h.call (Below.refl _ _).drew
theorem ConTwo.read (w0 : World) (b p c r : Nat) (q : Con) : ∀ wx, ConTwo w0 b p c r q wx → wx.cell? ⟨b, p, none⟩ = some (.int .i64 q.id) ∧ wx.cell? ⟨b, p + 1, none⟩ = some (.int .i64 q.app) ∧ wx.cell? ⟨b, p + 2, none⟩ = some (.string (bs q.node)) ∧ wx.cell? ⟨b, p + 3, none⟩ = some (.int .i64 q.mem) ∧ wx.cell? ⟨b, p + 4, none⟩ = some (.int .i64 q.cpu)
    ∧ wx.cell? ⟨c, r, none⟩ = some (.int .i64 q.id) ∧ wx.cell? ⟨c, r + 1, none⟩ = some (.int .i64 q.app) ∧ wx.cell? ⟨c, r + 2, none⟩ = some (.string (bs q.node)) ∧ wx.cell? ⟨c, r + 3, none⟩ = some (.int .i64 q.mem) ∧ wx.cell? ⟨c, r + 4, none⟩ = some (.int .i64 q.cpu) :=
  fun wx h => ⟨h.1.1, h.1.2.1, h.1.2.2.1, h.1.2.2.2.1, h.1.2.2.2.2, h.2.1.1, h.2.1.2.1, h.2.1.2.2.1, h.2.1.2.2.2.1, h.2.1.2.2.2.2⟩

end Go.Proofs.YtcplnodfcchdhaaGreat
/-
  The laws' own toApp and toAppS: rows made anew; walks over the dump.
-/
namespace Go.Proofs.YtcplnodfcchdhaaGreat
open Go.RowKit
set_option linter.unusedVariables false
end Go.Proofs.YtcplnodfcchdhaaGreat
/-
  The laws' own szApp and szAppS: how much is handed in; walks over the dump.
-/
namespace Go.Proofs.YtcplnodfcchdhaaGreat
open Go.RowKit
set_option linter.unusedVariables false
/-- what a reading allows of one -/
def ApplBig (q : Appl) : Prop := q.queue.length ≤ 9223372036854775807 ∧ q.asks.length ≤ 9223372036854775807 ∧ ∀ a ∈ q.asks, a.node.length ≤ 9223372036854775807
/-- not too much -/
def FitAppl1 (q : Appl) : Prop := q.queue.length ≤ 1048576 ∧ FitAsk q.asks
def FitAppl (l : List Appl) : Prop := l.length ≤ 1048576 ∧ ∀ q ∈ l, FitAppl1 q

end Go.Proofs.YtcplnodfcchdhaaGreat
/-
  The laws' own eqApp and eqAppS, at rows that hold the same; walks over the dump.
-/
namespace Go.Proofs.YtcplnodfcchdhaaGreat
open Go.RowKit
set_option linter.unusedVariables false
/-- the same stands at two places -/
def ApplTwo (w0 : World) (b p c r : Nat) (q : Appl) (ao bo : Option Addr) (len cap ccap : Nat) (w : World) : Prop := ApplAt w b p q ao len cap ∧ ApplAt w c r q bo len ccap ∧ Below w0.heap.size w0 w
theorem ApplTwo.call {w0 w w' : World} {b p c r : Nat} {q : Appl} {ao bo : Option Addr} {len cap ccap : Nat} (h : ApplTwo w0 b p c r q ao bo len cap ccap w) (hb : Below w.heap.size w w') : ApplTwo w0 b p c r q ao bo len cap ccap w' := ⟨h.1.below hb, h.2.1.below hb, below_on h.2.2 hb⟩
theorem ApplTwo.drew {w0 w : World} {b p c r : Nat} {q : Appl} {ao bo : Option Addr} {len cap ccap : Nat} (h : ApplTwo w0 b p c r q ao bo len cap ccap w) : ApplTwo w0 b p c r q ao bo len cap ccap w.drew := h.call (Below.refl _ _).drew
theorem ApplTwo.read (w0 : World) (b p c r : Nat) (q : Appl) (ao bo : Option Addr) (len cap ccap : Nat) : ∀ wx, ApplTwo w0 b p c r q ao bo len cap ccap wx → wx.cell? ⟨b, p, none⟩ = some (.int .i64 q.id) ∧ wx.cell? ⟨b, p + 1, none⟩ = some (.string (bs q.queue)) ∧ wx.cell? ⟨b, p + 2, none⟩ = some (.slice ao len cap)
    ∧ wx.cell? ⟨c, r, none⟩ = some (.int .i64 q.id) ∧ wx.cell? ⟨c, r + 1, none⟩ = some (.string (bs q.queue)) ∧ wx.cell? ⟨c, r + 2, none⟩ = some (.slice bo len ccap) :=
  fun wx h => ⟨h.1.1, h.1.2.1, h.1.2.2.1, h.2.1.1, h.2.1.2.1, h.2.1.2.2.1⟩

end Go.Proofs.YtcplnodfcchdhaaGreat
/-
  States: values, and what stands behind their slices.
-/
namespace Go.Proofs.YtcplnodfcchdhaaGreat
open Go.RowKit
set_option linter.unusedVariables false
structure St where
  qs : List Q
  clock : Int
  epoch : Int
  next : Int
  serial : Int
  apps : List Appl
  ms : List Mac
  cs : List Con
/-- where the four lists of a state stand -/
structure Sls where
  qa : Option Addr
  ql : Nat
  qc : Nat
  aa : Option Addr
  al : Nat
  ac : Nat
  ma : Option Addr
  ml : Nat
  mc : Nat
  ca : Option Addr
  cl : Nat
  cc : Nat
abbrev svc (x : Sls) (s : St) : Array Value := #[.slice x.qa x.ql x.qc, .int .i64 s.clock, .int .i64 s.epoch, .int .i64 s.next, .int .i64 s.serial, .slice x.aa x.al x.ac, .slice x.ma x.ml x.mc, .slice x.ca x.cl x.cc]
abbrev sv (x : Sls) (s : St) : Value := .agg (svc x s)
def SRow (w : World) (x : Sls) (s : St) : Prop := QRow w x.qa x.ql s.qs ∧ ApplRow w x.aa x.al s.apps ∧ MacRow w x.ma x.ml s.ms ∧ ConRow w x.ca x.cl s.cs
theorem SRow.below {w w' : World} {x : Sls} {s : St} (h : SRow w x s) (hb : Below w.heap.size w w') : SRow w' x s := ⟨h.1.below hb, h.2.1.below hb, h.2.2.1.below hb, h.2.2.2.below hb⟩
/-- the lists that a call made -/
def SOwn4 (w : World) (g1 g2 g3 g4 ql al ml cl : Nat) (s : St) : Prop :=
  QBlk w 59 g1 ql ql s.qs ∧ ApplBlk w 41 g2 al al s.apps ∧ MacBlk w 56 g3 ml ml s.ms ∧ ConBlk w 72 g4 cl cl s.cs
abbrev own4 (g1 g2 g3 g4 ql al ml cl : Nat) : Sls := ⟨some ⟨g1, 0, none⟩, ql, ql, some ⟨g2, 0, none⟩, al, al, some ⟨g3, 0, none⟩, ml, ml, some ⟨g4, 0, none⟩, cl, cl⟩
def SLen (x : Sls) (s : St) : Prop := x.ql = s.qs.length ∧ x.al = s.apps.length ∧ x.ml = s.ms.length ∧ x.cl = s.cs.length
theorem SRow.len {w : World} {x : Sls} {s : St} (h : SRow w x s) : SLen x s := ⟨h.1.1, h.2.1.1, h.2.2.1.1, h.2.2.2.1⟩
theorem SOwn4.below {w w' : World} {g1 g2 g3 g4 ql al ml cl : Nat} {s : St} (h : SOwn4 w g1 g2 g3 g4 ql al ml cl s) (hb : Below w.heap.size w w') : SOwn4 w' g1 g2 g3 g4 ql al ml cl s := ⟨h.1.below hb, h.2.1.below hb, h.2.2.1.below hb, h.2.2.2.below hb⟩
theorem SOwn4.row {w : World} {g1 g2 g3 g4 : Nat} {x : Sls} {s : St} (h : SOwn4 w g1 g2 g3 g4 x.ql x.al x.ml x.cl s) (hl : SLen x s) : SRow w (own4 g1 g2 g3 g4 x.ql x.al x.ml x.cl) s := ⟨h.1.row hl.1, h.2.1.row hl.2.1, h.2.2.1.row hl.2.2.1, h.2.2.2.row hl.2.2.2⟩
theorem QBlk.other {w : World} {t : TypeId} {g n k : Nat} {l : List Q} (h : QBlk w t g n k l) (b j : Nat) (v : Value) (hn : g ≠ b) : QBlk (w.setCell ⟨b, j, none⟩ v) t g n k l := by
  obtain ⟨arr, h1, h2⟩ := h
  exact ⟨arr, (heap_setCell_other w ⟨b, j, none⟩ g v hn).trans h1, h2⟩
theorem MacBlk.other {w : World} {t : TypeId} {g n k : Nat} {l : List Mac} (h : MacBlk w t g n k l) (b j : Nat) (v : Value) (hn : g ≠ b) : MacBlk (w.setCell ⟨b, j, none⟩ v) t g n k l := by
  obtain ⟨arr, h1, h2⟩ := h
  exact ⟨arr, (heap_setCell_other w ⟨b, j, none⟩ g v hn).trans h1, h2⟩
theorem ConBlk.other {w : World} {t : TypeId} {g n k : Nat} {l : List Con} (h : ConBlk w t g n k l) (b j : Nat) (v : Value) (hn : g ≠ b) : ConBlk (w.setCell ⟨b, j, none⟩ v) t g n k l := by
  obtain ⟨arr, h1, h2⟩ := h
  exact ⟨arr, (heap_setCell_other w ⟨b, j, none⟩ g v hn).trans h1, h2⟩
theorem ApplBlk.other {w : World} {t : TypeId} {g n k : Nat} {l : List Appl} (h : ApplBlk w t g n k l) (b j : Nat) (v : Value) (hn : b < g) : ApplBlk (w.setCell ⟨b, j, none⟩ v) t g n k l := by
  obtain ⟨arr, h1, h2, h3⟩ := h
  refine ⟨arr, (heap_setCell_other w ⟨b, j, none⟩ g v (show g ≠ b by omega)).trans h1, h2, fun i hi hk => ?_⟩
  obtain ⟨a, c, x, y, z, d, e⟩ := h3 i hi hk
  exact ⟨a, c, x, y, z, d, e.other b j v hn⟩
theorem SOwn4.other {w : World} {g1 g2 g3 g4 ql al ml cl : Nat} {s : St} (h : SOwn4 w g1 g2 g3 g4 ql al ml cl s) (b j : Nat) (v : Value) (h1 : b < g1) (h2 : b < g2) (h3 : b < g3) (h4 : b < g4) : SOwn4 (w.setCell ⟨b, j, none⟩ v) g1 g2 g3 g4 ql al ml cl s :=
  ⟨h.1.other _ _ _ (by omega), h.2.1.other _ _ _ h2, h.2.2.1.other _ _ _ (by omega), h.2.2.2.other _ _ _ (by omega)⟩
end Go.Proofs.YtcplnodfcchdhaaGreat
/-
  The laws' own szState: how much is handed in; walks over the dump.
-/
namespace Go.Proofs.YtcplnodfcchdhaaGreat
open Go.RowKit
set_option linter.unusedVariables false
/-- not too much -/
def FitSt (s : St) : Prop := FitQ s.qs ∧ FitAppl s.apps ∧ FitMac s.ms ∧ FitCon s.cs
/-- what a reading allows -/
def StBig (x : Sls) (s : St) : Prop := (x.ql ≤ 9223372036854775807 ∧ ∀ q ∈ s.qs, q.name.length ≤ 9223372036854775807 ∧ q.parent.length ≤ 9223372036854775807) ∧ (x.al ≤ 9223372036854775807 ∧ ∀ q ∈ s.apps, ApplBig q) ∧ (x.ml ≤ 9223372036854775807 ∧ ∀ q ∈ s.ms, q.name.length ≤ 9223372036854775807) ∧ (x.cl ≤ 9223372036854775807 ∧ ∀ q ∈ s.cs, q.node.length ≤ 9223372036854775807)

end Go.Proofs.YtcplnodfcchdhaaGreat
/-
  The laws' own toState: a state made anew; a walk over the dump.
-/
namespace Go.Proofs.YtcplnodfcchdhaaGreat
open Go.RowKit
set_option linter.unusedVariables false
end Go.Proofs.YtcplnodfcchdhaaGreat
/-
  The laws' own eqState, at states that hold the same; a walk over the dump.
-/
namespace Go.Proofs.YtcplnodfcchdhaaGreat
open Go.RowKit
set_option linter.unusedVariables false
/-- the two states that are compared stand in two variables; nothing of w has turned -/
def EqHeld (w : World) (x y : Sls) (s : St) (wx : World) : Prop := Blk wx w.heap.size (svc x s) 29 ∧ Blk wx (w.heap.size + 1) (svc y s) 29 ∧ Below w.heap.size w wx
theorem EqHeld.call {w wx wy : World} {x y : Sls} {s : St} (h : EqHeld w x y s wx) (hb : Below wx.heap.size wx wy) : EqHeld w x y s wy := ⟨h.1.below hb, h.2.1.below hb, below_on h.2.2 hb⟩
theorem EqHeld.drew {w wx : World} {x y : Sls} {s : St} (h : EqHeld w x y s wx) : EqHeld w x y s wx.drew := h.call (Below.refl _ _).drew
theorem EqHeld.new (w : World) (x y : Sls) (s : St) : EqHeld w x y s ((w.alloc (.cells (svc x s) 29)).alloc (.cells (svc y s) 29)) :=
  ⟨(blk_new _ _ _).al _, by have := blk_new (w.alloc (.cells (svc x s) 29)) (svc y s) 29; rwa [al_size] at this, below_al (below_al (Below.refl _ _) _) _⟩
theorem EqHeld.read (w : World) (x y : Sls) (s : St) : ∀ wx, EqHeld w x y s wx → (wx.cell? ⟨w.heap.size, 0, none⟩ = some (.slice x.qa x.ql x.qc) ∧ wx.cell? ⟨w.heap.size, 1, none⟩ = some (.int .i64 s.clock) ∧ wx.cell? ⟨w.heap.size, 2, none⟩ = some (.int .i64 s.epoch) ∧ wx.cell? ⟨w.heap.size, 3, none⟩ = some (.int .i64 s.next) ∧ wx.cell? ⟨w.heap.size, 4, none⟩ = some (.int .i64 s.serial) ∧ wx.cell? ⟨w.heap.size, 5, none⟩ = some (.slice x.aa x.al x.ac) ∧ wx.cell? ⟨w.heap.size, 6, none⟩ = some (.slice x.ma x.ml x.mc) ∧ wx.cell? ⟨w.heap.size, 7, none⟩ = some (.slice x.ca x.cl x.cc))
    ∧ wx.cell? ⟨w.heap.size + 1, 0, none⟩ = some (.slice y.qa y.ql y.qc) ∧ wx.cell? ⟨w.heap.size + 1, 1, none⟩ = some (.int .i64 s.clock) ∧ wx.cell? ⟨w.heap.size + 1, 2, none⟩ = some (.int .i64 s.epoch) ∧ wx.cell? ⟨w.heap.size + 1, 3, none⟩ = some (.int .i64 s.next) ∧ wx.cell? ⟨w.heap.size + 1, 4, none⟩ = some (.int .i64 s.serial) ∧ wx.cell? ⟨w.heap.size + 1, 5, none⟩ = some (.slice y.aa y.al y.ac) ∧ wx.cell? ⟨w.heap.size + 1, 6, none⟩ = some (.slice y.ma y.ml y.mc) ∧ wx.cell? ⟨w.heap.size + 1, 7, none⟩ = some (.slice y.ca y.cl y.cc) :=
  fun wx h => ⟨⟨h.1.at 0, h.1.at 1, h.1.at 2, h.1.at 3, h.1.at 4, h.1.at 5, h.1.at 6, h.1.at 7⟩, h.2.1.at 0, h.2.1.at 1, h.2.1.at 2, h.2.1.at 3, h.2.1.at 4, h.2.1.at 5, h.2.1.at 6, h.2.1.at 7⟩

end Go.Proofs.YtcplnodfcchdhaaGreat
/-
  What stands while a law over a state is walked.
-/
namespace Go.Proofs.YtcplnodfcchdhaaGreat
open Go.RowKit
set_option linter.unusedVariables false
end Go.Proofs.YtcplnodfcchdhaaGreat
/-
  An amount among the cells of what came in.
-/
namespace Go.Proofs.YtcplnodfcchdhaaGreat
open Go.ChangeShapes Go.WideShapes Go.ChangeAt Go.RowKit Go.Deep
set_option linter.unusedVariables false
end Go.Proofs.YtcplnodfcchdhaaGreat
/-
  A slice of Ask values that came in: what it holds (mkrow.py wrote this).
-/
namespace Go.Proofs.YtcplnodfcchdhaaGreat
open Go.ChangeShapes Go.WideShapes Go.ChangeAt Go.RowKit Go.Deep
set_option linter.unusedVariables false
def AskFit (q : Ask) : Prop := q.node.length ≤ 9223372036854775807 ∧ (Lit.int .i64 q.mem).wf = true ∧ (Lit.int .i64 q.cpu).wf = true ∧ (Lit.int .i64 q.count).wf = true ∧ (Lit.int .i64 q.missed).wf = true
end Go.Proofs.YtcplnodfcchdhaaGreat
/-
  A slice of Machine values that came in: what it holds (mkrow.py wrote this).
-/
namespace Go.Proofs.YtcplnodfcchdhaaGreat
open Go.ChangeShapes Go.WideShapes Go.ChangeAt Go.RowKit Go.Deep
set_option linter.unusedVariables false
def MacFit (q : Mac) : Prop := q.name.length ≤ 9223372036854775807 ∧ (Lit.int .i64 q.mem).wf = true ∧ (Lit.int .i64 q.cpu).wf = true ∧ (Lit.int .i64 q.seen).wf = true
end Go.Proofs.YtcplnodfcchdhaaGreat
/-
  A slice of Cont values that came in: what it holds (mkrow.py wrote this).
-/
namespace Go.Proofs.YtcplnodfcchdhaaGreat
open Go.ChangeShapes Go.WideShapes Go.ChangeAt Go.RowKit Go.Deep
set_option linter.unusedVariables false
def ConFit (q : Con) : Prop := q.node.length ≤ 9223372036854775807 ∧ (Lit.int .i64 q.id).wf = true ∧ (Lit.int .i64 q.app).wf = true ∧ (Lit.int .i64 q.mem).wf = true ∧ (Lit.int .i64 q.cpu).wf = true
end Go.Proofs.YtcplnodfcchdhaaGreat
/-
  A slice of App values that came in: what it holds.
-/
namespace Go.Proofs.YtcplnodfcchdhaaGreat
open Go.ChangeShapes Go.WideShapes Go.ChangeAt Go.RowKit Go.Deep
set_option linter.unusedVariables false
def ApplFit (q : Appl) : Prop := q.queue.length ≤ 9223372036854775807 ∧ (Lit.int .i64 q.id).wf = true ∧ q.asks.length ≤ 9223372036854775807 ∧ ∀ a ∈ q.asks, AskFit a
theorem ApplFit.big {q : Appl} (h : ApplFit q) : ApplBig q := ⟨h.1, h.2.2.1, fun a ha => (h.2.2.2 a ha).1⟩
end Go.Proofs.YtcplnodfcchdhaaGreat
/-
  A state that comes in as an argument.
-/
namespace Go.Proofs.YtcplnodfcchdhaaGreat
open Go.ChangeShapes Go.WideShapes Go.ChangeAt Go.RowKit Go.Deep
set_option linter.unusedVariables false
/-- what is known of a state that came in -/
def StFit (x : Sls) (s : St) : Prop := (x.ql ≤ 9223372036854775807 ∧ ∀ q ∈ s.qs, QFit q ∧ (Lit.int .i64 q.due).wf = true ∧ (Lit.int .i64 q.most).wf = true) ∧ (x.al ≤ 9223372036854775807 ∧ ∀ q ∈ s.apps, ApplFit q) ∧ (x.ml ≤ 9223372036854775807 ∧ ∀ q ∈ s.ms, MacFit q) ∧ (x.cl ≤ 9223372036854775807 ∧ ∀ q ∈ s.cs, ConFit q) ∧ (Lit.int .i64 s.clock).wf = true ∧ (Lit.int .i64 s.epoch).wf = true ∧ (Lit.int .i64 s.next).wf = true ∧ (Lit.int .i64 s.serial).wf = true
theorem StFit.big {x : Sls} {s : St} (h : StFit x s) : StBig x s := ⟨⟨h.1.1, fun q hq => (h.1.2 q hq).1⟩, ⟨h.2.1.1, fun q hq => (h.2.1.2 q hq).big⟩, ⟨h.2.2.1.1, fun q hq => (h.2.2.1.2 q hq).1⟩, h.2.2.2.1.1, fun q hq => (h.2.2.2.1.2 q hq).1⟩
end Go.Proofs.YtcplnodfcchdhaaGreat
