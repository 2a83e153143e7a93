/-
  Asks and containers, as an event has them: values, rows in memory, and the laws' own eqRes, eqAsk, eqCont, eqContS.
-/
import Derived.Test.YtfhnjghjibklcaaDoorKeptV
import Derived.Test.YtfhnjghjibklcaaDoorQV
import Derived.Laws.MakeOwn
import Derived.Deep.RegionHeld3
/-
  The laws' own toRes and eqRes, with the world behind them; walks over the dump.
-/
namespace Go.Proofs.YtfhnjghjibklcaaDoor
open Go.RowKit
set_option linter.unusedVariables false

set_option maxRecDepth 100000 in
set_option maxHeartbeats 1000000 in
theorem eqRes_ex (a b : Int) (w : World) :
    Calls Tryd.prog 18 #[rv a b, rv a b] w fun e w' => e = .returned (.bool true) ∧ ∃ o1 o2 n, w' = ((w.alloc o1).alloc o2).drewN n := by
  go_enter Tryd.func18, Tryd.ntmps18
  go_wp2
  go_ret
  refine ⟨rfl, ?_⟩
  first | exact ⟨_, _, 0, rfl⟩ | exact ⟨_, _, 1, rfl⟩ | exact ⟨_, _, 2, rfl⟩ | exact ⟨_, _, 3, rfl⟩ | exact ⟨_, _, 4, rfl⟩
end Go.Proofs.YtfhnjghjibklcaaDoor

/-
  Rows of Ask values: in memory, and rows that a call makes and fills one by one (mkrow.py wrote this).
-/
namespace Go.Proofs.YtfhnjghjibklcaaDoor
open Go.RowKit
set_option linter.unusedVariables false

structure Ask where
  mem : Int
  cpu : Int
  count : Int
  node : List UInt8
  missed : Int

abbrev askv (q : Ask) : Value := .agg #[.int .i64 q.mem, .int .i64 q.cpu, .int .i64 q.count, .string (bs q.node), .int .i64 q.missed]

def AskAt (w : World) (b p : Nat) (q : Ask) : Prop :=
  w.cell? ⟨b, p, none⟩ = some (.int .i64 q.mem) ∧ w.cell? ⟨b, p + 1, none⟩ = some (.int .i64 q.cpu) ∧ w.cell? ⟨b, p + 2, none⟩ = some (.int .i64 q.count) ∧ w.cell? ⟨b, p + 3, none⟩ = some (.string (bs q.node)) ∧ w.cell? ⟨b, p + 4, none⟩ = some (.int .i64 q.missed)
def AskRow (w : World) (ao : Option Addr) (len : Nat) (l : List Ask) : Prop :=
  len = l.length ∧ (len = 0 ∨ ∃ b off, ao = some ⟨b, off, none⟩ ∧ ∀ i (h : i < l.length), AskAt w b (off + i * 5) l[i])
theorem AskAt.lt {w : World} {b p : Nat} {q : Ask} (h : AskAt w b p q) : b < w.heap.size := cell_lt h.1
theorem AskAt.below {w w' : World} {b p : Nat} {q : Ask} (h : AskAt w b p q) (hb : Below w.heap.size w w') : AskAt w' b p q :=
  ⟨(hb.cell h.lt).trans h.1, (hb.cell h.lt).trans h.2.1, (hb.cell h.lt).trans h.2.2.1, (hb.cell h.lt).trans h.2.2.2.1, (hb.cell h.lt).trans h.2.2.2.2⟩
theorem AskRow.below {w w' : World} {ao : Option Addr} {len : Nat} {l : List Ask} (h : AskRow w ao len l) (hb : Below w.heap.size w w') : AskRow w' ao len l := by
  obtain ⟨h1, h2⟩ := h
  refine ⟨h1, ?_⟩
  rcases h2 with h2 | ⟨b, off, h3, h4⟩
  · exact .inl h2
  · exact .inr ⟨b, off, h3, fun i h => (h4 i h).below hb⟩
theorem AskRow.nil (w : World) (ao : Option Addr) : AskRow w ao 0 [] := ⟨rfl, .inl rfl⟩
theorem AskRow.at {w : World} {ao : Option Addr} {len : Nat} {l : List Ask} (h : AskRow w ao len l) {i : Nat} (hi : i < len) : ∃ b off, ao = some ⟨b, off, none⟩ ∧ ∀ (h : i < l.length), AskAt w b (off + i * 5) l[i] := by
  obtain ⟨h1, h2⟩ := h
  rcases h2 with h2 | ⟨b, off, h3, h4⟩
  · omega
  · exact ⟨b, off, h3, fun hi => h4 i hi⟩
/-- block g is a row of n, of which the first k are those of l -/
def AskBlk (w : World) (t : TypeId) (g n k : Nat) (l : List Ask) : Prop :=
  ∃ arr : Array Value, w.heap[g]? = some (.cells arr t (0, 0)) ∧ arr.size = n * 5 ∧ ∀ i (h : i < l.length), i < k → arr[i * 5]? = some (.int .i64 l[i].mem) ∧ arr[i * 5 + 1]? = some (.int .i64 l[i].cpu) ∧ arr[i * 5 + 2]? = some (.int .i64 l[i].count) ∧ arr[i * 5 + 3]? = some (.string (bs l[i].node)) ∧ arr[i * 5 + 4]? = some (.int .i64 l[i].missed)
theorem AskBlk.lt {w : World} {t : TypeId} {g n k : Nat} {l : List Ask} (h : AskBlk w t g n k l) : g < w.heap.size := let ⟨_, h, _⟩ := h; lt_of_block h
theorem AskBlk.below {w w' : World} {t : TypeId} {g n k : Nat} {l : List Ask} (h : AskBlk w t g n k l) (hb : Below w.heap.size w w') : AskBlk w' t g n k l := by
  have hlt := h.lt
  obtain ⟨arr, h1, h2⟩ := h
  exact ⟨arr, (hb.block g hlt).trans h1, h2⟩
theorem AskBlk.cell {w : World} {t : TypeId} {g n k : Nat} {l : List Ask} (h : AskBlk w t g n k l) {j : Nat} (hj : j < n * 5) : ∃ v, w.cell? ⟨g, j, none⟩ = some v := by
  obtain ⟨arr, h1, h2, _⟩ := h
  exact ⟨arr[j]'(by omega), by simp [World.cell?, h1, Array.getElem?_eq_getElem (show j < arr.size by omega)]⟩
theorem AskBlk.frozen {w : World} {t : TypeId} {g n k : Nat} {l : List Ask} (h : AskBlk w t g n k l) (j : Nat) : w.frozen? ⟨g, j, none⟩ = false := by
  obtain ⟨arr, h1, h2, _⟩ := h
  simp [World.frozen?, h1]
theorem AskBlk.row {w : World} {t : TypeId} {g n : Nat} {l : List Ask} (h : AskBlk w t g n n l) (hl : n = l.length) : AskRow w (some ⟨g, 0, none⟩) n l := by
  obtain ⟨arr, h1, h2, h3⟩ := h
  refine ⟨hl, .inr ⟨g, 0, rfl, fun i hi => ?_⟩⟩
  obtain ⟨a, b, c, d, e⟩ := h3 i hi (by omega)
  unfold AskAt
  simp only [Nat.zero_add]
  exact ⟨by simp [World.cell?, h1, a], by simp [World.cell?, h1, b], by simp [World.cell?, h1, c], by simp [World.cell?, h1, d], by simp [World.cell?, h1, e]⟩
theorem askblk_made (w : World) (t : TypeId) (z : Array Value) (n : Nat) (l : List Ask) : AskBlk (w.alloc (.cells (madeCells z (n * 5)) t)) t w.heap.size n 0 l :=
  ⟨madeCells z (n * 5), by show (w.heap.push _)[w.heap.size]? = _; simp, size_madeCells _ _, fun i _ h => absurd h (by omega)⟩
/-- one more -/
def putAsk (w : World) (g p : Nat) (q : Ask) : World := (((((w.setCell ⟨g, p, none⟩ (.int .i64 q.mem)).setCell ⟨g, p + 1, none⟩ (.int .i64 q.cpu)).setCell ⟨g, p + 2, none⟩ (.int .i64 q.count)).setCell ⟨g, p + 3, none⟩ (.string (bs q.node))).setCell ⟨g, p + 4, none⟩ (.int .i64 q.missed))
theorem AskBlk.step {w : World} {t : TypeId} {g n k : Nat} {l : List Ask} (h : AskBlk w t g n k l) (hk : k < n) (hl : k < l.length) : AskBlk (putAsk w g (k * 5) l[k]) t g n (k + 1) l := by
  obtain ⟨arr, h1, h2, h3⟩ := h
  have e1 := heap_setCell_same w g (k * 5) _ _ (.int .i64 l[k].mem) h1
  have e2 := heap_setCell_same _ g (k * 5 + 1) _ _ (.int .i64 l[k].cpu) e1
  have e3 := heap_setCell_same _ g (k * 5 + 2) _ _ (.int .i64 l[k].count) e2
  have e4 := heap_setCell_same _ g (k * 5 + 3) _ _ (.string (bs l[k].node)) e3
  have e5 := heap_setCell_same _ g (k * 5 + 4) _ _ (.int .i64 l[k].missed) e4
  refine ⟨_, e5, by simp [h2], fun i hi hik => ?_⟩
  by_cases e : i = k
  · subst e
    have q1 : i * 5 + 4 < arr.size := by omega
    refine ⟨?_, ?_, ?_, ?_, ?_⟩ <;> simp [Array.getElem?_setIfInBounds, h2] <;> omega
  · obtain ⟨a, b, c, d, e⟩ := h3 i hi (by omega)
    refine ⟨?_, ?_, ?_, ?_, ?_⟩
    · rw [← a]; simp only [Array.getElem?_setIfInBounds]; repeat rw [if_neg (by omega)]
    · rw [← b]; simp only [Array.getElem?_setIfInBounds]; repeat rw [if_neg (by omega)]
    · rw [← c]; simp only [Array.getElem?_setIfInBounds]; repeat rw [if_neg (by omega)]
    · rw [← d]; simp only [Array.getElem?_setIfInBounds]; repeat rw [if_neg (by omega)]
    · rw [← e]; simp only [Array.getElem?_setIfInBounds]; repeat rw [if_neg (by omega)]
end Go.Proofs.YtfhnjghjibklcaaDoor

/-
  Rows of Cont values: in memory, and rows that a call makes and fills one by one (mkrow.py wrote this).
-/
namespace Go.Proofs.YtfhnjghjibklcaaDoor
open Go.RowKit
set_option linter.unusedVariables false

structure Con where
  id : Int
  app : Int
  node : List UInt8
  mem : Int
  cpu : Int

abbrev conv (q : Con) : Value := .agg #[.int .i64 q.id, .int .i64 q.app, .string (bs q.node), .int .i64 q.mem, .int .i64 q.cpu]

def ConAt (w : World) (b p : Nat) (q : Con) : Prop :=
  w.cell? ⟨b, p, none⟩ = some (.int .i64 q.id) ∧ w.cell? ⟨b, p + 1, none⟩ = some (.int .i64 q.app) ∧ w.cell? ⟨b, p + 2, none⟩ = some (.string (bs q.node)) ∧ w.cell? ⟨b, p + 3, none⟩ = some (.int .i64 q.mem) ∧ w.cell? ⟨b, p + 4, none⟩ = some (.int .i64 q.cpu)
def ConRow (w : World) (ao : Option Addr) (len : Nat) (l : List Con) : Prop :=
  len = l.length ∧ (len = 0 ∨ ∃ b off, ao = some ⟨b, off, none⟩ ∧ ∀ i (h : i < l.length), ConAt w b (off + i * 5) l[i])
theorem ConAt.lt {w : World} {b p : Nat} {q : Con} (h : ConAt w b p q) : b < w.heap.size := cell_lt h.1
theorem ConAt.below {w w' : World} {b p : Nat} {q : Con} (h : ConAt w b p q) (hb : Below w.heap.size w w') : ConAt w' b p q :=
  ⟨(hb.cell h.lt).trans h.1, (hb.cell h.lt).trans h.2.1, (hb.cell h.lt).trans h.2.2.1, (hb.cell h.lt).trans h.2.2.2.1, (hb.cell h.lt).trans h.2.2.2.2⟩
theorem ConRow.below {w w' : World} {ao : Option Addr} {len : Nat} {l : List Con} (h : ConRow w ao len l) (hb : Below w.heap.size w w') : ConRow w' ao len l := by
  obtain ⟨h1, h2⟩ := h
  refine ⟨h1, ?_⟩
  rcases h2 with h2 | ⟨b, off, h3, h4⟩
  · exact .inl h2
  · exact .inr ⟨b, off, h3, fun i h => (h4 i h).below hb⟩
theorem ConRow.nil (w : World) (ao : Option Addr) : ConRow w ao 0 [] := ⟨rfl, .inl rfl⟩
theorem ConRow.at {w : World} {ao : Option Addr} {len : Nat} {l : List Con} (h : ConRow w ao len l) {i : Nat} (hi : i < len) : ∃ b off, ao = some ⟨b, off, none⟩ ∧ ∀ (h : i < l.length), ConAt w b (off + i * 5) l[i] := by
  obtain ⟨h1, h2⟩ := h
  rcases h2 with h2 | ⟨b, off, h3, h4⟩
  · omega
  · exact ⟨b, off, h3, fun hi => h4 i hi⟩
/-- block g is a row of n, of which the first k are those of l -/
def ConBlk (w : World) (t : TypeId) (g n k : Nat) (l : List Con) : Prop :=
  ∃ arr : Array Value, w.heap[g]? = some (.cells arr t (0, 0)) ∧ arr.size = n * 5 ∧ ∀ i (h : i < l.length), i < k → arr[i * 5]? = some (.int .i64 l[i].id) ∧ arr[i * 5 + 1]? = some (.int .i64 l[i].app) ∧ arr[i * 5 + 2]? = some (.string (bs l[i].node)) ∧ arr[i * 5 + 3]? = some (.int .i64 l[i].mem) ∧ arr[i * 5 + 4]? = some (.int .i64 l[i].cpu)
theorem ConBlk.lt {w : World} {t : TypeId} {g n k : Nat} {l : List Con} (h : ConBlk w t g n k l) : g < w.heap.size := let ⟨_, h, _⟩ := h; lt_of_block h
theorem ConBlk.below {w w' : World} {t : TypeId} {g n k : Nat} {l : List Con} (h : ConBlk w t g n k l) (hb : Below w.heap.size w w') : ConBlk w' t g n k l := by
  have hlt := h.lt
  obtain ⟨arr, h1, h2⟩ := h
  exact ⟨arr, (hb.block g hlt).trans h1, h2⟩
theorem ConBlk.cell {w : World} {t : TypeId} {g n k : Nat} {l : List Con} (h : ConBlk w t g n k l) {j : Nat} (hj : j < n * 5) : ∃ v, w.cell? ⟨g, j, none⟩ = some v := by
  obtain ⟨arr, h1, h2, _⟩ := h
  exact ⟨arr[j]'(by omega), by simp [World.cell?, h1, Array.getElem?_eq_getElem (show j < arr.size by omega)]⟩
theorem ConBlk.frozen {w : World} {t : TypeId} {g n k : Nat} {l : List Con} (h : ConBlk w t g n k l) (j : Nat) : w.frozen? ⟨g, j, none⟩ = false := by
  obtain ⟨arr, h1, h2, _⟩ := h
  simp [World.frozen?, h1]
theorem ConBlk.row {w : World} {t : TypeId} {g n : Nat} {l : List Con} (h : ConBlk w t g n n l) (hl : n = l.length) : ConRow w (some ⟨g, 0, none⟩) n l := by
  obtain ⟨arr, h1, h2, h3⟩ := h
  refine ⟨hl, .inr ⟨g, 0, rfl, fun i hi => ?_⟩⟩
  obtain ⟨a, b, c, d, e⟩ := h3 i hi (by omega)
  unfold ConAt
  simp only [Nat.zero_add]
  exact ⟨by simp [World.cell?, h1, a], by simp [World.cell?, h1, b], by simp [World.cell?, h1, c], by simp [World.cell?, h1, d], by simp [World.cell?, h1, e]⟩
theorem conblk_made (w : World) (t : TypeId) (z : Array Value) (n : Nat) (l : List Con) : ConBlk (w.alloc (.cells (madeCells z (n * 5)) t)) t w.heap.size n 0 l :=
  ⟨madeCells z (n * 5), by show (w.heap.push _)[w.heap.size]? = _; simp, size_madeCells _ _, fun i _ h => absurd h (by omega)⟩
/-- one more -/
def putCon (w : World) (g p : Nat) (q : Con) : World := (((((w.setCell ⟨g, p, none⟩ (.int .i64 q.id)).setCell ⟨g, p + 1, none⟩ (.int .i64 q.app)).setCell ⟨g, p + 2, none⟩ (.string (bs q.node))).setCell ⟨g, p + 3, none⟩ (.int .i64 q.mem)).setCell ⟨g, p + 4, none⟩ (.int .i64 q.cpu))
theorem ConBlk.step {w : World} {t : TypeId} {g n k : Nat} {l : List Con} (h : ConBlk w t g n k l) (hk : k < n) (hl : k < l.length) : ConBlk (putCon w g (k * 5) l[k]) t g n (k + 1) l := by
  obtain ⟨arr, h1, h2, h3⟩ := h
  have e1 := heap_setCell_same w g (k * 5) _ _ (.int .i64 l[k].id) h1
  have e2 := heap_setCell_same _ g (k * 5 + 1) _ _ (.int .i64 l[k].app) e1
  have e3 := heap_setCell_same _ g (k * 5 + 2) _ _ (.string (bs l[k].node)) e2
  have e4 := heap_setCell_same _ g (k * 5 + 3) _ _ (.int .i64 l[k].mem) e3
  have e5 := heap_setCell_same _ g (k * 5 + 4) _ _ (.int .i64 l[k].cpu) e4
  refine ⟨_, e5, by simp [h2], fun i hi hik => ?_⟩
  by_cases e : i = k
  · subst e
    have q1 : i * 5 + 4 < arr.size := by omega
    refine ⟨?_, ?_, ?_, ?_, ?_⟩ <;> simp [Array.getElem?_setIfInBounds, h2] <;> omega
  · obtain ⟨a, b, c, d, e⟩ := h3 i hi (by omega)
    refine ⟨?_, ?_, ?_, ?_, ?_⟩
    · rw [← a]; simp only [Array.getElem?_setIfInBounds]; repeat rw [if_neg (by omega)]
    · rw [← b]; simp only [Array.getElem?_setIfInBounds]; repeat rw [if_neg (by omega)]
    · rw [← c]; simp only [Array.getElem?_setIfInBounds]; repeat rw [if_neg (by omega)]
    · rw [← d]; simp only [Array.getElem?_setIfInBounds]; repeat rw [if_neg (by omega)]
    · rw [← e]; simp only [Array.getElem?_setIfInBounds]; repeat rw [if_neg (by omega)]
end Go.Proofs.YtfhnjghjibklcaaDoor

/-
  The laws' own eqAsk, at the same; a walk over the dump.
-/
namespace Go.Proofs.YtfhnjghjibklcaaDoor
open Go.RowKit
set_option linter.unusedVariables false

set_option maxRecDepth 100000 in
set_option maxHeartbeats 1000000 in
theorem eqAsk_same (q : Ask) (w : World) :
    Calls Tryd.prog 17 #[askv q, askv q] w fun e w' => e = .returned (.bool true) ∧ Below w.heap.size w w' := by
  obtain ⟨x0, x1, x2, x3, x4⟩ := q
  go_enter Tryd.func17, Tryd.ntmps17
  go_wp2_with fail
  refine (eqRes_ex _ _ _).mono ?_
  rintro e w1 ⟨rfl, o1, o2, n, rfl⟩
  go_wp2
  go_ret
  refine ⟨rfl, ?_⟩
  repeat (first | exact Below.refl _ _ | refine below_al ?_ _ | refine Below.drew ?_ | refine below_dn ?_ _ | refine below_sc ?_ _ _ _ (by omega))
end Go.Proofs.YtfhnjghjibklcaaDoor

/-
  The laws' own eqCont, at the same; a walk over the dump.
-/
namespace Go.Proofs.YtfhnjghjibklcaaDoor
open Go.RowKit
set_option linter.unusedVariables false

set_option maxRecDepth 100000 in
set_option maxHeartbeats 1000000 in
theorem eqCont_same (q : Con) (w : World) :
    Calls Tryd.prog 28 #[conv q, conv q] w fun e w' => e = .returned (.bool true) ∧ Below w.heap.size w w' := by
  obtain ⟨x0, x1, x2, x3, x4⟩ := q
  go_enter Tryd.func28, Tryd.ntmps28
  go_wp2_with fail
  refine (eqRes_ex _ _ _).mono ?_
  rintro e w1 ⟨rfl, o1, o2, n, rfl⟩
  go_wp2
  go_ret
  refine ⟨rfl, ?_⟩
  repeat (first | exact Below.refl _ _ | refine below_al ?_ _ | refine Below.drew ?_ | refine below_dn ?_ _ | refine below_sc ?_ _ _ _ (by omega))
end Go.Proofs.YtfhnjghjibklcaaDoor

/-
  The laws' own eqContS, at rows that hold the same; walks over the dump (mkrow.py wrote this).
-/
namespace Go.Proofs.YtfhnjghjibklcaaDoor
open Go.RowKit
set_option linter.unusedVariables false

/-- the same stands at two places -/
def ConTwo (w0 : World) (b p c r : Nat) (q : Con) (w : World) : Prop := ConAt w b p q ∧ ConAt w c r q ∧ Below w0.heap.size w0 w
theorem ConTwo.call {w0 w w' : World} {b p c r : Nat} {q : Con} (h : ConTwo w0 b p c r q w) (hb : Below w.heap.size w w') : ConTwo w0 b p c r q w' := ⟨h.1.below hb, h.2.1.below hb, below_on h.2.2 hb⟩
theorem ConTwo.drew {w0 w : World} {b p c r : Nat} {q : Con} (h : ConTwo w0 b p c r q w) : ConTwo w0 b p c r q w.drew := h.call (Below.refl _ _).drew
theorem ConTwo.read (w0 : World) (b p c r : Nat) (q : Con) : ∀ wx, ConTwo w0 b p c r q wx → wx.cell? ⟨b, p, none⟩ = some (.int .i64 q.id) ∧ wx.cell? ⟨b, p + 1, none⟩ = some (.int .i64 q.app) ∧ wx.cell? ⟨b, p + 2, none⟩ = some (.string (bs q.node)) ∧ wx.cell? ⟨b, p + 3, none⟩ = some (.int .i64 q.mem) ∧ wx.cell? ⟨b, p + 4, none⟩ = some (.int .i64 q.cpu)
    ∧ wx.cell? ⟨c, r, none⟩ = some (.int .i64 q.id) ∧ wx.cell? ⟨c, r + 1, none⟩ = some (.int .i64 q.app) ∧ wx.cell? ⟨c, r + 2, none⟩ = some (.string (bs q.node)) ∧ wx.cell? ⟨c, r + 3, none⟩ = some (.int .i64 q.mem) ∧ wx.cell? ⟨c, r + 4, none⟩ = some (.int .i64 q.cpu) :=
  fun wx h => ⟨h.1.1, h.1.2.1, h.1.2.2.1, h.1.2.2.2.1, h.1.2.2.2.2, h.2.1.1, h.2.1.2.1, h.2.1.2.2.1, h.2.1.2.2.2.1, h.2.1.2.2.2.2⟩

set_option maxRecDepth 100000 in
set_option maxHeartbeats 2000000 in
theorem eqContS_same (ao bo : Option Addr) (len cap ccap : Nat) (l : List Con) (w : World) (h : ConRow w ao len l) (h' : ConRow w bo len l) (hl : len ≤ 1048576) :
    Calls Tryd.prog 19 #[.slice ao len cap, .slice bo len ccap] w fun e w' => e = .returned (.bool true) ∧ Below w.heap.size w w' := by
  have HR := hide h
  have HR' := hide h'
  have HL := hide h.1
  clear h h'
  go_enter Tryd.func19, Tryd.ntmps19
  go_wp2
  go_loopw [5] (fun i wr => ∃ k : Nat, k ≤ len ∧ i = .int .i64 k ∧ Hid (Below w.heap.size w wr)) (fun i _ => len - (intOf i).toNat)
  case atStart => exact ⟨0, Nat.zero_le _, rfl, hide (Below.refl _ _)⟩
  case round =>
    obtain ⟨k, hk, rfl, HB⟩ := hrel
    by_cases hlt : k < len
    · obtain ⟨b, off, rfl, hq⟩ := ((unhide HR).below (unhide HB)).at hlt
      obtain ⟨c, coff, rfl, hq'⟩ := ((unhide HR').below (unhide HB)).at hlt
      have hkl : k < l.length := by have := unhide HL; omega
      have A0 := hide (show ConTwo w b (off + k * 5) c (coff + k * 5) l[k] wr from ⟨hq hkl, hq' hkl, unhide HB⟩)
      obtain ⟨q, hs⟩ : ∃ q, l[k] = q := ⟨_, rfl⟩
      rw [hs] at A0
      have R := ConTwo.read w b (off + k * 5) c (coff + k * 5) q
      have k0 : (0 : Int) ≤ k := by omega
      have k1 : (k : Int) < len := by omega
      clear hq hq' hs hkl
      go_wp2_with fail
      go_region_held3 (fun wx => ConTwo w b (off + k * 5) c (coff + k * 5) q wx)
        (first | (with_reducible assumption) | exact (unhide A0).drew | exact ConTwo.call (by assumption) (by assumption))
        (first
        | (go_at_call 28; refine (eqCont_same _ _).mono ?_; rintro e wt ⟨rfl, hb⟩; have SA := ConTwo.call (w0 := w) (b := b) (p := off + k * 5) (c := c) (r := coff + k * 5) (q := q) (by assumption) hb))
      have HB2 := hide SA.2.2
      clear SA R A0
      go_wp2
      go_roundw
      case rel => exact ⟨k + 1, by omega, by go_num, HB2⟩
      case measure => simp [intOf]; omega
    · go_wp2
      go_ret
      exact ⟨rfl, unhide HB⟩
end Go.Proofs.YtfhnjghjibklcaaDoor
