/-
  Asks and containers, as an event has them: values, rows in memory, and what the laws' own helpers do with them (merge.py wrote this out of templates/op).
-/
import Derived.Test.YthnkbdjombiodaaDoorKeptV
import Derived.Test.YthnkbdjombiodaaDoorQV
import Derived.Laws.MakeOwn
import Derived.Deep.RegionHeld3
import Derived.Test.YthnkbdjombiodaaDoorTxtM
import Derived.ProofKit
import Derived.OpenShut
import Derived.ChangeSame
import Derived.Deep.Slices
import Derived.Lib.ItoaMem
/-
  The laws' own toRes and eqRes, with the world behind them; walks over the dump.
-/
namespace Go.Proofs.YthnkbdjombiodaaDoor
open Go.RowKit
set_option linter.unusedVariables false

set_option maxRecDepth 100000 in
set_option maxHeartbeats 1000000 in
theorem toRes_ex (a b : Int) (w : World) :
    Calls Tryd.prog 32 #[rv a b] w fun e w' => e = .returned (rv a b) ∧ ∃ o1 o2 o3, w' = ((w.alloc o1).alloc o2).alloc o3 := by
  go_enter Tryd.func32, Tryd.ntmps32
  go_wp2
  exact bodyPost_ret (v := rv a b) (by simp [results, Tryd.results32, go_sem]) rfl ⟨rfl, _, _, _, rfl⟩
set_option maxRecDepth 100000 in
set_option maxHeartbeats 1000000 in
theorem eqRes_ex (a b : Int) (w : World) :
    Calls Tryd.prog 38 #[rv a b, rv a b] w fun e w' => e = .returned (.bool true) ∧ ∃ o1 o2 n, w' = ((w.alloc o1).alloc o2).drewN n := by
  go_enter Tryd.func38, Tryd.ntmps38
  go_wp2
  go_ret
  refine ⟨rfl, ?_⟩
  first | exact ⟨_, _, 0, rfl⟩ | exact ⟨_, _, 1, rfl⟩ | exact ⟨_, _, 2, rfl⟩ | exact ⟨_, _, 3, rfl⟩ | exact ⟨_, _, 4, rfl⟩
end Go.Proofs.YthnkbdjombiodaaDoor

/-
  Rows of Ask values: in memory, and rows that a call makes and fills one by one (mkrow.py wrote this).
-/
namespace Go.Proofs.YthnkbdjombiodaaDoor
open Go.RowKit
set_option linter.unusedVariables false

structure Ask where
  mem : Int
  cpu : Int
  count : Int
  node : List UInt8
  missed : Int

abbrev askv (q : Ask) : Value := .agg #[.int .i64 q.mem, .int .i64 q.cpu, .int .i64 q.count, .string (bs q.node), .int .i64 q.missed]

def AskAt (w : World) (b p : Nat) (q : Ask) : Prop :=
  w.cell? ⟨b, p, none⟩ = some (.int .i64 q.mem) ∧ w.cell? ⟨b, p + 1, none⟩ = some (.int .i64 q.cpu) ∧ w.cell? ⟨b, p + 2, none⟩ = some (.int .i64 q.count) ∧ w.cell? ⟨b, p + 3, none⟩ = some (.string (bs q.node)) ∧ w.cell? ⟨b, p + 4, none⟩ = some (.int .i64 q.missed)
def AskRow (w : World) (ao : Option Addr) (len : Nat) (l : List Ask) : Prop :=
  len = l.length ∧ (len = 0 ∨ ∃ b off, ao = some ⟨b, off, none⟩ ∧ ∀ i (h : i < l.length), AskAt w b (off + i * 5) l[i])
theorem AskAt.lt {w : World} {b p : Nat} {q : Ask} (h : AskAt w b p q) : b < w.heap.size := cell_lt h.1
theorem AskAt.below {w w' : World} {b p : Nat} {q : Ask} (h : AskAt w b p q) (hb : Below w.heap.size w w') : AskAt w' b p q :=
  ⟨(hb.cell h.lt).trans h.1, (hb.cell h.lt).trans h.2.1, (hb.cell h.lt).trans h.2.2.1, (hb.cell h.lt).trans h.2.2.2.1, (hb.cell h.lt).trans h.2.2.2.2⟩
theorem AskRow.below {w w' : World} {ao : Option Addr} {len : Nat} {l : List Ask} (h : AskRow w ao len l) (hb : Below w.heap.size w w') : AskRow w' ao len l := by
  obtain ⟨h1, h2⟩ := h
  refine ⟨h1, ?_⟩
  rcases h2 with h2 | ⟨b, off, h3, h4⟩
  · exact .inl h2
  · exact .inr ⟨b, off, h3, fun i h => (h4 i h).below hb⟩
theorem AskRow.nil (w : World) (ao : Option Addr) : AskRow w ao 0 [] := ⟨rfl, .inl rfl⟩
theorem AskRow.at {w : World} {ao : Option Addr} {len : Nat} {l : List Ask} (h : AskRow w ao len l) {i : Nat} (hi : i < len) : ∃ b off, ao = some ⟨b, off, none⟩ ∧ ∀ (h : i < l.length), AskAt w b (off + i * 5) l[i] := by
  obtain ⟨h1, h2⟩ := h
  rcases h2 with h2 | ⟨b, off, h3, h4⟩
  · omega
  · exact ⟨b, off, h3, fun hi => h4 i hi⟩
/-- block g is a row of n, of which the first k are those of l -/
def AskBlk (w : World) (t : TypeId) (g n k : Nat) (l : List Ask) : Prop :=
  ∃ arr : Array Value, w.heap[g]? = some (.cells arr t (0, 0)) ∧ arr.size = n * 5 ∧ ∀ i (h : i < l.length), i < k → arr[i * 5]? = some (.int .i64 l[i].mem) ∧ arr[i * 5 + 1]? = some (.int .i64 l[i].cpu) ∧ arr[i * 5 + 2]? = some (.int .i64 l[i].count) ∧ arr[i * 5 + 3]? = some (.string (bs l[i].node)) ∧ arr[i * 5 + 4]? = some (.int .i64 l[i].missed)
theorem AskBlk.lt {w : World} {t : TypeId} {g n k : Nat} {l : List Ask} (h : AskBlk w t g n k l) : g < w.heap.size := let ⟨_, h, _⟩ := h; lt_of_block h
theorem AskBlk.below {w w' : World} {t : TypeId} {g n k : Nat} {l : List Ask} (h : AskBlk w t g n k l) (hb : Below w.heap.size w w') : AskBlk w' t g n k l := by
  have hlt := h.lt
  obtain ⟨arr, h1, h2⟩ := h
  exact ⟨arr, (hb.block g hlt).trans h1, h2⟩
theorem AskBlk.cell {w : World} {t : TypeId} {g n k : Nat} {l : List Ask} (h : AskBlk w t g n k l) {j : Nat} (hj : j < n * 5) : ∃ v, w.cell? ⟨g, j, none⟩ = some v := by
  obtain ⟨arr, h1, h2, _⟩ := h
  exact ⟨arr[j]'(by omega), by simp [World.cell?, h1, Array.getElem?_eq_getElem (show j < arr.size by omega)]⟩
theorem AskBlk.frozen {w : World} {t : TypeId} {g n k : Nat} {l : List Ask} (h : AskBlk w t g n k l) (j : Nat) : w.frozen? ⟨g, j, none⟩ = false := by
  obtain ⟨arr, h1, h2, _⟩ := h
  simp [World.frozen?, h1]
theorem AskBlk.row {w : World} {t : TypeId} {g n : Nat} {l : List Ask} (h : AskBlk w t g n n l) (hl : n = l.length) : AskRow w (some ⟨g, 0, none⟩) n l := by
  obtain ⟨arr, h1, h2, h3⟩ := h
  refine ⟨hl, .inr ⟨g, 0, rfl, fun i hi => ?_⟩⟩
  obtain ⟨a, b, c, d, e⟩ := h3 i hi (by omega)
  unfold AskAt
  simp only [Nat.zero_add]
  exact ⟨by simp [World.cell?, h1, a], by simp [World.cell?, h1, b], by simp [World.cell?, h1, c], by simp [World.cell?, h1, d], by simp [World.cell?, h1, e]⟩
theorem askblk_made (w : World) (t : TypeId) (z : Array Value) (n : Nat) (l : List Ask) : AskBlk (w.alloc (.cells (madeCells z (n * 5)) t)) t w.heap.size n 0 l :=
  ⟨madeCells z (n * 5), by show (w.heap.push _)[w.heap.size]? = _; simp, size_madeCells _ _, fun i _ h => absurd h (by omega)⟩
/-- one more -/
def putAsk (w : World) (g p : Nat) (q : Ask) : World := (((((w.setCell ⟨g, p, none⟩ (.int .i64 q.mem)).setCell ⟨g, p + 1, none⟩ (.int .i64 q.cpu)).setCell ⟨g, p + 2, none⟩ (.int .i64 q.count)).setCell ⟨g, p + 3, none⟩ (.string (bs q.node))).setCell ⟨g, p + 4, none⟩ (.int .i64 q.missed))
theorem AskBlk.step {w : World} {t : TypeId} {g n k : Nat} {l : List Ask} (h : AskBlk w t g n k l) (hk : k < n) (hl : k < l.length) : AskBlk (putAsk w g (k * 5) l[k]) t g n (k + 1) l := by
  obtain ⟨arr, h1, h2, h3⟩ := h
  have e1 := heap_setCell_same w g (k * 5) _ _ (.int .i64 l[k].mem) h1
  have e2 := heap_setCell_same _ g (k * 5 + 1) _ _ (.int .i64 l[k].cpu) e1
  have e3 := heap_setCell_same _ g (k * 5 + 2) _ _ (.int .i64 l[k].count) e2
  have e4 := heap_setCell_same _ g (k * 5 + 3) _ _ (.string (bs l[k].node)) e3
  have e5 := heap_setCell_same _ g (k * 5 + 4) _ _ (.int .i64 l[k].missed) e4
  refine ⟨_, e5, by simp [h2], fun i hi hik => ?_⟩
  by_cases e : i = k
  · subst e
    have q1 : i * 5 + 4 < arr.size := by omega
    refine ⟨?_, ?_, ?_, ?_, ?_⟩ <;> simp [Array.getElem?_setIfInBounds, h2] <;> omega
  · obtain ⟨a, b, c, d, e⟩ := h3 i hi (by omega)
    refine ⟨?_, ?_, ?_, ?_, ?_⟩
    · rw [← a]; simp only [Array.getElem?_setIfInBounds]; repeat rw [if_neg (by omega)]
    · rw [← b]; simp only [Array.getElem?_setIfInBounds]; repeat rw [if_neg (by omega)]
    · rw [← c]; simp only [Array.getElem?_setIfInBounds]; repeat rw [if_neg (by omega)]
    · rw [← d]; simp only [Array.getElem?_setIfInBounds]; repeat rw [if_neg (by omega)]
    · rw [← e]; simp only [Array.getElem?_setIfInBounds]; repeat rw [if_neg (by omega)]
end Go.Proofs.YthnkbdjombiodaaDoor

/-
  Rows of Cont values: in memory, and rows that a call makes and fills one by one (mkrow.py wrote this).
-/
namespace Go.Proofs.YthnkbdjombiodaaDoor
open Go.RowKit
set_option linter.unusedVariables false

structure Con where
  id : Int
  app : Int
  node : List UInt8
  mem : Int
  cpu : Int

abbrev conv (q : Con) : Value := .agg #[.int .i64 q.id, .int .i64 q.app, .string (bs q.node), .int .i64 q.mem, .int .i64 q.cpu]

def ConAt (w : World) (b p : Nat) (q : Con) : Prop :=
  w.cell? ⟨b, p, none⟩ = some (.int .i64 q.id) ∧ w.cell? ⟨b, p + 1, none⟩ = some (.int .i64 q.app) ∧ w.cell? ⟨b, p + 2, none⟩ = some (.string (bs q.node)) ∧ w.cell? ⟨b, p + 3, none⟩ = some (.int .i64 q.mem) ∧ w.cell? ⟨b, p + 4, none⟩ = some (.int .i64 q.cpu)
def ConRow (w : World) (ao : Option Addr) (len : Nat) (l : List Con) : Prop :=
  len = l.length ∧ (len = 0 ∨ ∃ b off, ao = some ⟨b, off, none⟩ ∧ ∀ i (h : i < l.length), ConAt w b (off + i * 5) l[i])
theorem ConAt.lt {w : World} {b p : Nat} {q : Con} (h : ConAt w b p q) : b < w.heap.size := cell_lt h.1
theorem ConAt.below {w w' : World} {b p : Nat} {q : Con} (h : ConAt w b p q) (hb : Below w.heap.size w w') : ConAt w' b p q :=
  ⟨(hb.cell h.lt).trans h.1, (hb.cell h.lt).trans h.2.1, (hb.cell h.lt).trans h.2.2.1, (hb.cell h.lt).trans h.2.2.2.1, (hb.cell h.lt).trans h.2.2.2.2⟩
theorem ConRow.below {w w' : World} {ao : Option Addr} {len : Nat} {l : List Con} (h : ConRow w ao len l) (hb : Below w.heap.size w w') : ConRow w' ao len l := by
  obtain ⟨h1, h2⟩ := h
  refine ⟨h1, ?_⟩
  rcases h2 with h2 | ⟨b, off, h3, h4⟩
  · exact .inl h2
  · exact .inr ⟨b, off, h3, fun i h => (h4 i h).below hb⟩
theorem ConRow.nil (w : World) (ao : Option Addr) : ConRow w ao 0 [] := ⟨rfl, .inl rfl⟩
theorem ConRow.at {w : World} {ao : Option Addr} {len : Nat} {l : List Con} (h : ConRow w ao len l) {i : Nat} (hi : i < len) : ∃ b off, ao = some ⟨b, off, none⟩ ∧ ∀ (h : i < l.length), ConAt w b (off + i * 5) l[i] := by
  obtain ⟨h1, h2⟩ := h
  rcases h2 with h2 | ⟨b, off, h3, h4⟩
  · omega
  · exact ⟨b, off, h3, fun hi => h4 i hi⟩
/-- block g is a row of n, of which the first k are those of l -/
def ConBlk (w : World) (t : TypeId) (g n k : Nat) (l : List Con) : Prop :=
  ∃ arr : Array Value, w.heap[g]? = some (.cells arr t (0, 0)) ∧ arr.size = n * 5 ∧ ∀ i (h : i < l.length), i < k → arr[i * 5]? = some (.int .i64 l[i].id) ∧ arr[i * 5 + 1]? = some (.int .i64 l[i].app) ∧ arr[i * 5 + 2]? = some (.string (bs l[i].node)) ∧ arr[i * 5 + 3]? = some (.int .i64 l[i].mem) ∧ arr[i * 5 + 4]? = some (.int .i64 l[i].cpu)
theorem ConBlk.lt {w : World} {t : TypeId} {g n k : Nat} {l : List Con} (h : ConBlk w t g n k l) : g < w.heap.size := let ⟨_, h, _⟩ := h; lt_of_block h
theorem ConBlk.below {w w' : World} {t : TypeId} {g n k : Nat} {l : List Con} (h : ConBlk w t g n k l) (hb : Below w.heap.size w w') : ConBlk w' t g n k l := by
  have hlt := h.lt
  obtain ⟨arr, h1, h2⟩ := h
  exact ⟨arr, (hb.block g hlt).trans h1, h2⟩
theorem ConBlk.cell {w : World} {t : TypeId} {g n k : Nat} {l : List Con} (h : ConBlk w t g n k l) {j : Nat} (hj : j < n * 5) : ∃ v, w.cell? ⟨g, j, none⟩ = some v := by
  obtain ⟨arr, h1, h2, _⟩ := h
  exact ⟨arr[j]'(by omega), by simp [World.cell?, h1, Array.getElem?_eq_getElem (show j < arr.size by omega)]⟩
theorem ConBlk.frozen {w : World} {t : TypeId} {g n k : Nat} {l : List Con} (h : ConBlk w t g n k l) (j : Nat) : w.frozen? ⟨g, j, none⟩ = false := by
  obtain ⟨arr, h1, h2, _⟩ := h
  simp [World.frozen?, h1]
theorem ConBlk.row {w : World} {t : TypeId} {g n : Nat} {l : List Con} (h : ConBlk w t g n n l) (hl : n = l.length) : ConRow w (some ⟨g, 0, none⟩) n l := by
  obtain ⟨arr, h1, h2, h3⟩ := h
  refine ⟨hl, .inr ⟨g, 0, rfl, fun i hi => ?_⟩⟩
  obtain ⟨a, b, c, d, e⟩ := h3 i hi (by omega)
  unfold ConAt
  simp only [Nat.zero_add]
  exact ⟨by simp [World.cell?, h1, a], by simp [World.cell?, h1, b], by simp [World.cell?, h1, c], by simp [World.cell?, h1, d], by simp [World.cell?, h1, e]⟩
theorem conblk_made (w : World) (t : TypeId) (z : Array Value) (n : Nat) (l : List Con) : ConBlk (w.alloc (.cells (madeCells z (n * 5)) t)) t w.heap.size n 0 l :=
  ⟨madeCells z (n * 5), by show (w.heap.push _)[w.heap.size]? = _; simp, size_madeCells _ _, fun i _ h => absurd h (by omega)⟩
/-- one more -/
def putCon (w : World) (g p : Nat) (q : Con) : World := (((((w.setCell ⟨g, p, none⟩ (.int .i64 q.id)).setCell ⟨g, p + 1, none⟩ (.int .i64 q.app)).setCell ⟨g, p + 2, none⟩ (.string (bs q.node))).setCell ⟨g, p + 3, none⟩ (.int .i64 q.mem)).setCell ⟨g, p + 4, none⟩ (.int .i64 q.cpu))
theorem ConBlk.step {w : World} {t : TypeId} {g n k : Nat} {l : List Con} (h : ConBlk w t g n k l) (hk : k < n) (hl : k < l.length) : ConBlk (putCon w g (k * 5) l[k]) t g n (k + 1) l := by
  obtain ⟨arr, h1, h2, h3⟩ := h
  have e1 := heap_setCell_same w g (k * 5) _ _ (.int .i64 l[k].id) h1
  have e2 := heap_setCell_same _ g (k * 5 + 1) _ _ (.int .i64 l[k].app) e1
  have e3 := heap_setCell_same _ g (k * 5 + 2) _ _ (.string (bs l[k].node)) e2
  have e4 := heap_setCell_same _ g (k * 5 + 3) _ _ (.int .i64 l[k].mem) e3
  have e5 := heap_setCell_same _ g (k * 5 + 4) _ _ (.int .i64 l[k].cpu) e4
  refine ⟨_, e5, by simp [h2], fun i hi hik => ?_⟩
  by_cases e : i = k
  · subst e
    have q1 : i * 5 + 4 < arr.size := by omega
    refine ⟨?_, ?_, ?_, ?_, ?_⟩ <;> simp [Array.getElem?_setIfInBounds, h2] <;> omega
  · obtain ⟨a, b, c, d, e⟩ := h3 i hi (by omega)
    refine ⟨?_, ?_, ?_, ?_, ?_⟩
    · rw [← a]; simp only [Array.getElem?_setIfInBounds]; repeat rw [if_neg (by omega)]
    · rw [← b]; simp only [Array.getElem?_setIfInBounds]; repeat rw [if_neg (by omega)]
    · rw [← c]; simp only [Array.getElem?_setIfInBounds]; repeat rw [if_neg (by omega)]
    · rw [← d]; simp only [Array.getElem?_setIfInBounds]; repeat rw [if_neg (by omega)]
    · rw [← e]; simp only [Array.getElem?_setIfInBounds]; repeat rw [if_neg (by omega)]
end Go.Proofs.YthnkbdjombiodaaDoor

/-
  The laws' own toAsk; a walk over the dump.
-/
namespace Go.Proofs.YthnkbdjombiodaaDoor
open Go.RowKit
set_option linter.unusedVariables false

set_option maxRecDepth 100000 in
set_option maxHeartbeats 1000000 in
theorem toAsk_any (q : Ask) (w : World) :
    Calls Tryd.prog 31 #[askv q] w fun e w' => e = .returned (askv q) ∧ Below w.heap.size w w' := by
  obtain ⟨x0, x1, x2, x3, x4⟩ := q
  go_enter Tryd.func31, Tryd.ntmps31
  go_wp2_with fail
  refine (toRes_ex _ _ _).mono ?_
  rintro e w1 ⟨rfl, o1, o2, o3, rfl⟩
  go_wp2
  refine bodyPost_ret (v := askv ⟨x0, x1, x2, x3, x4⟩) (by simp [results, Tryd.results31, go_sem]) rfl ⟨rfl, ?_⟩
  repeat (first | exact Below.refl _ _ | refine below_al ?_ _ | refine Below.drew ?_ | refine below_sc ?_ _ _ _ (by omega))
end Go.Proofs.YthnkbdjombiodaaDoor

/-
  The laws' own toCont; a walk over the dump.
-/
namespace Go.Proofs.YthnkbdjombiodaaDoor
open Go.RowKit
set_option linter.unusedVariables false

set_option maxRecDepth 100000 in
set_option maxHeartbeats 1000000 in
theorem toCont_any (q : Con) (w : World) :
    Calls Tryd.prog 54 #[conv q] w fun e w' => e = .returned (conv q) ∧ Below w.heap.size w w' := by
  obtain ⟨x0, x1, x2, x3, x4⟩ := q
  go_enter Tryd.func54, Tryd.ntmps54
  go_wp2_with fail
  refine (toRes_ex _ _ _).mono ?_
  rintro e w1 ⟨rfl, o1, o2, o3, rfl⟩
  go_wp2
  refine bodyPost_ret (v := conv ⟨x0, x1, x2, x3, x4⟩) (by simp [results, Tryd.results54, go_sem]) rfl ⟨rfl, ?_⟩
  repeat (first | exact Below.refl _ _ | refine below_al ?_ _ | refine Below.drew ?_ | refine below_sc ?_ _ _ _ (by omega))
end Go.Proofs.YthnkbdjombiodaaDoor

/-
  The laws' own eqAsk, at the same; a walk over the dump.
-/
namespace Go.Proofs.YthnkbdjombiodaaDoor
open Go.RowKit
set_option linter.unusedVariables false

set_option maxRecDepth 100000 in
set_option maxHeartbeats 1000000 in
theorem eqAsk_same (q : Ask) (w : World) :
    Calls Tryd.prog 37 #[askv q, askv q] w fun e w' => e = .returned (.bool true) ∧ Below w.heap.size w w' := by
  obtain ⟨x0, x1, x2, x3, x4⟩ := q
  go_enter Tryd.func37, Tryd.ntmps37
  go_wp2_with fail
  refine (eqRes_ex _ _ _).mono ?_
  rintro e w1 ⟨rfl, o1, o2, n, rfl⟩
  go_wp2
  go_ret
  refine ⟨rfl, ?_⟩
  repeat (first | exact Below.refl _ _ | refine below_al ?_ _ | refine Below.drew ?_ | refine below_dn ?_ _ | refine below_sc ?_ _ _ _ (by omega))
end Go.Proofs.YthnkbdjombiodaaDoor

/-
  The laws' own eqCont, at the same; a walk over the dump.
-/
namespace Go.Proofs.YthnkbdjombiodaaDoor
open Go.RowKit
set_option linter.unusedVariables false

set_option maxRecDepth 100000 in
set_option maxHeartbeats 1000000 in
theorem eqCont_same (q : Con) (w : World) :
    Calls Tryd.prog 60 #[conv q, conv q] w fun e w' => e = .returned (.bool true) ∧ Below w.heap.size w w' := by
  obtain ⟨x0, x1, x2, x3, x4⟩ := q
  go_enter Tryd.func60, Tryd.ntmps60
  go_wp2_with fail
  refine (eqRes_ex _ _ _).mono ?_
  rintro e w1 ⟨rfl, o1, o2, n, rfl⟩
  go_wp2
  go_ret
  refine ⟨rfl, ?_⟩
  repeat (first | exact Below.refl _ _ | refine below_al ?_ _ | refine Below.drew ?_ | refine below_dn ?_ _ | refine below_sc ?_ _ _ _ (by omega))
end Go.Proofs.YthnkbdjombiodaaDoor

/-
  The laws' own toContS: rows of Cont values made anew; walks over the dump (mkrow.py wrote this).
-/
namespace Go.Proofs.YthnkbdjombiodaaDoor
open Go.RowKit
set_option linter.unusedVariables false

theorem conInfo : (Tryd.prog.info? 57).map (fun i => (i.zero, i.size, i.bytes)) = some (some (conv ⟨0, 0, [], 0, 0⟩), 5, 48) := by kernel_rfl
theorem make_cons (n : Nat) (hn : n ≤ 1048576) (w : World) :
    (Instr.makeSlice 34 (.int .i64 (n : Int)) (.int .i64 (n : Int))).run Tryd.prog w = .ok (.slice (some ⟨w.heap.size, 0, none⟩) n n) (w.alloc (.cells (madeCells (conv ⟨0, 0, [], 0, 0⟩).cells (n * 5)) 57)) := by
  obtain ⟨i, hi, hz⟩ := Option.map_eq_some_iff.1 conInfo
  simp only [Prod.mk.injEq] at hz
  obtain ⟨hz, hs, hb⟩ := hz
  have hr := run_make (P := Tryd.prog) w 34 57 i _ Tryd.underlying34 hi hz .i64 .i64 n n (by omega) (Int.le_refl _) (by rw [hb]; omega) (by omega)
  simp only [Int.toNat_natCast, hs] at hr
  exact hr

set_option maxRecDepth 100000 in
set_option maxHeartbeats 1000000 in
theorem toContS_any (ao : Option Addr) (len cap : Nat) (l : List Con) (w : World) (h : ConRow w ao len l) (hl : len ≤ 1048576) :
    Calls Tryd.prog 33 #[.slice ao len cap] w fun e w' => e = .returned (.slice (some ⟨w.heap.size, 0, none⟩) len len) ∧ ConBlk w' 57 w.heap.size len len l ∧ Below w.heap.size w w' := by
  have HR := hide h
  have HL := hide h.1
  have hmk := make_cons len hl w
  obtain ⟨zs, hzs⟩ : ∃ z, z = (conv ⟨0, 0, [], 0, 0⟩).cells := ⟨_, rfl⟩
  rw [← hzs] at hmk
  clear h hzs
  go_enter Tryd.func33, Tryd.ntmps33
  go_wp2
  clear hmk
  go_loopw [4] (fun i wr => ∃ k : Nat, k ≤ len ∧ i = .int .i64 k ∧ Hid (ConBlk wr 57 w.heap.size len k l) ∧ Hid (Below w.heap.size w wr)) (fun i _ => len - (intOf i).toNat)
  case atStart => exact ⟨0, Nat.zero_le _, rfl, hide (conblk_made w _ _ _ _), hide (below_al (Below.refl _ _) _)⟩
  case round =>
    obtain ⟨k, hk, rfl, HQ, HB⟩ := hrel
    by_cases hlt : k < len
    · obtain ⟨b, off, rfl, hq⟩ := ((unhide HR).below (unhide HB)).at hlt
      have hkl : k < l.length := by have := unhide HL; omega
      obtain ⟨c0, c1, c2, c3, c4⟩ := hq hkl
      obtain ⟨q, hs⟩ : ∃ q, l[k] = q := ⟨_, rfl⟩
      rw [hs] at c0 c1 c2 c3 c4
      have hst : ∀ wx, ConBlk wx 57 w.heap.size len k l → ConBlk (putCon wx w.heap.size (k * 5) q) 57 w.heap.size len (k + 1) l := fun wx hx => by have := hx.step hlt hkl; rw [hs] at this; exact this
      have HST := hide hst
      clear hst hq hs hkl
      go_wp2_with fail
      refine (toCont_any q _).mono ?_
      rintro e w1 ⟨rfl, hb⟩
      have HQ1 := hide ((unhide HQ).below hb)
      have HB1 := hide (below_on (unhide HB) hb)
      clear hb c0 c1 c2 c3 c4
      obtain ⟨v0, d0⟩ := (unhide HQ1).cell (j := k * 5) (by omega)
      obtain ⟨v1, d1⟩ := (unhide HQ1).cell (j := k * 5 + 1) (by omega)
      obtain ⟨v2, d2⟩ := (unhide HQ1).cell (j := k * 5 + 2) (by omega)
      obtain ⟨v3, d3⟩ := (unhide HQ1).cell (j := k * 5 + 3) (by omega)
      obtain ⟨v4, d4⟩ := (unhide HQ1).cell (j := k * 5 + 4) (by omega)
      have f0 := (unhide HQ1).frozen (k * 5)
      have f1 := (unhide HQ1).frozen (k * 5 + 1)
      have f2 := (unhide HQ1).frozen (k * 5 + 2)
      have f3 := (unhide HQ1).frozen (k * 5 + 3)
      have f4 := (unhide HQ1).frozen (k * 5 + 4)
      go_wp2
      go_roundw
      case rel => exact ⟨k + 1, by omega, by go_num, hide (unhide HST _ (unhide HQ1)), hide (below_sc (below_sc (below_sc (below_sc (below_sc (unhide HB1) _ _ _ (by omega)) _ _ _ (by omega)) _ _ _ (by omega)) _ _ _ (by omega)) _ _ _ (by omega))⟩
      case measure => simp [intOf]; omega
    · have hkk : k = len := by omega
      subst hkk
      go_wp2
      go_ret
      exact ⟨rfl, unhide HQ, unhide HB⟩
end Go.Proofs.YthnkbdjombiodaaDoor

/-
  The laws' own szAsk and szAskS: how much is handed in; walks over the dump (mkrow.py wrote this).
-/
namespace Go.Proofs.YthnkbdjombiodaaDoor
open Go.RowKit
set_option linter.unusedVariables false

def szAsk (q : Ask) (a : Int) : Int := if a - q.node.length < 0 then -1 else a - q.node.length
/-- not too much -/
def FitAsk (l : List Ask) : Prop := l.length ≤ 1048576 ∧ ∀ q ∈ l, q.node.length ≤ 1048576

set_option maxRecDepth 100000 in
set_option maxHeartbeats 1000000 in
theorem szAsk_any (q : Ask) (a : Int) (w : World) (ha0 : 0 ≤ a) (ha1 : a ≤ 1048576) (hn : q.node.length ≤ 9223372036854775807) :
    Calls Tryd.prog 28 #[askv q, .int .i64 a] w fun e w' => e = .returned (.int .i64 (szAsk q a)) ∧ Below w.heap.size w w' := by
  obtain ⟨x0, x1, x2, x3, x4⟩ := q
  have z1 := bs_size x3
  simp only at hn
  unfold szAsk
  simp only
  by_cases h1 : a - x3.length < 0
  · rw [if_pos h1]
    go_enter Tryd.func28, Tryd.ntmps28
    go_wp2
    go_ret
    refine ⟨rfl, ?_⟩
    repeat (first | exact Below.refl _ _ | refine below_al ?_ _ | refine Below.drew ?_ | refine below_sc ?_ _ _ _ (by omega))
  · rw [if_neg h1]
    go_enter Tryd.func28, Tryd.ntmps28
    go_wp2
    go_ret
    refine ⟨rfl, ?_⟩
    repeat (first | exact Below.refl _ _ | refine below_al ?_ _ | refine Below.drew ?_ | refine below_sc ?_ _ _ _ (by omega))
theorem szAsk_cases (q : Ask) (a : Int) (ha0 : 0 ≤ a) (ha1 : a ≤ 1048576) : szAsk q a = -1 ∨ (0 ≤ szAsk q a ∧ szAsk q a ≤ a ∧ q.node.length ≤ 1048576) := by
  unfold szAsk
  split
  · exact .inl rfl
  · right; omega

end Go.Proofs.YthnkbdjombiodaaDoor

/-
  The laws' own szCont and szContS: how much is handed in; walks over the dump (mkrow.py wrote this).
-/
namespace Go.Proofs.YthnkbdjombiodaaDoor
open Go.RowKit
set_option linter.unusedVariables false

def szCon (q : Con) (a : Int) : Int := if a - q.node.length < 0 then -1 else a - q.node.length
/-- not too much -/
def FitCon (l : List Con) : Prop := l.length ≤ 1048576 ∧ ∀ q ∈ l, q.node.length ≤ 1048576

set_option maxRecDepth 100000 in
set_option maxHeartbeats 1000000 in
theorem szCont_any (q : Con) (a : Int) (w : World) (ha0 : 0 ≤ a) (ha1 : a ≤ 1048576) (hn : q.node.length ≤ 9223372036854775807) :
    Calls Tryd.prog 53 #[conv q, .int .i64 a] w fun e w' => e = .returned (.int .i64 (szCon q a)) ∧ Below w.heap.size w w' := by
  obtain ⟨x0, x1, x2, x3, x4⟩ := q
  have z1 := bs_size x2
  simp only at hn
  unfold szCon
  simp only
  by_cases h1 : a - x2.length < 0
  · rw [if_pos h1]
    go_enter Tryd.func53, Tryd.ntmps53
    go_wp2
    go_ret
    refine ⟨rfl, ?_⟩
    repeat (first | exact Below.refl _ _ | refine below_al ?_ _ | refine Below.drew ?_ | refine below_sc ?_ _ _ _ (by omega))
  · rw [if_neg h1]
    go_enter Tryd.func53, Tryd.ntmps53
    go_wp2
    go_ret
    refine ⟨rfl, ?_⟩
    repeat (first | exact Below.refl _ _ | refine below_al ?_ _ | refine Below.drew ?_ | refine below_sc ?_ _ _ _ (by omega))
theorem szCon_cases (q : Con) (a : Int) (ha0 : 0 ≤ a) (ha1 : a ≤ 1048576) : szCon q a = -1 ∨ (0 ≤ szCon q a ∧ szCon q a ≤ a ∧ q.node.length ≤ 1048576) := by
  unfold szCon
  split
  · exact .inl rfl
  · right; omega

set_option maxRecDepth 100000 in
set_option maxHeartbeats 1000000 in
theorem szContS_any (ao : Option Addr) (len cap : Nat) (l : List Con) (a0 : Int) (w : World) (h : ConRow w ao len l) (hlen : len ≤ 9223372036854775807) (hm : ∀ q ∈ l, q.node.length ≤ 9223372036854775807) (hA0 : 0 ≤ a0) (hA1 : a0 ≤ 1048576) :
    Calls Tryd.prog 29 #[.slice ao len cap, .int .i64 a0] w fun e w' => ∃ r : Int, e = .returned (.int .i64 r) ∧ (r = -1 ∨ (0 ≤ r ∧ r ≤ a0 ∧ FitCon l)) ∧ Below w.heap.size w w' := by
  have HR := hide h
  have HL := hide h.1
  have HM := hide hm
  clear h hm
  by_cases hbig : (len : Int) ≤ a0
  · have hb1 : ¬ (a0 : Int) - len < 0 := by omega
    go_enter Tryd.func29, Tryd.ntmps29
    go_wp2
    go_loopw [1, 5] (fun s i wr => ∃ (k : Nat) (a : Int), k ≤ len ∧ i = .int .i64 k ∧ s = .int .i64 a ∧ 0 ≤ a ∧ a ≤ a0 ∧ Hid (∀ q ∈ l.take k, q.node.length ≤ 1048576) ∧ Hid (Below w.heap.size w wr)) (fun _ i _ => len - (intOf i).toNat)
    case atStart => exact ⟨0, a0 - len, Nat.zero_le _, rfl, rfl, by omega, by omega, hide (by simp), hide (Below.refl _ _)⟩
    case round =>
      obtain ⟨k, a, hk, rfl, rfl, ha0, ha1, HP, HB⟩ := hrel
      by_cases hlt : k < len
      · obtain ⟨b, off, rfl, hq⟩ := ((unhide HR).below (unhide HB)).at hlt
        have hkl : k < l.length := by have := unhide HL; omega
        obtain ⟨c0, c1, c2, c3, c4⟩ := hq hkl
        have n1 := unhide HM l[k] (List.getElem_mem _)
        have htk := List.take_succ_eq_append_getElem hkl
        obtain ⟨q, hs⟩ : ∃ q, l[k] = q := ⟨_, rfl⟩
        rw [hs] at c0 c1 c2 c3 c4 n1 htk
        have HTK := hide htk
        have C := hide (fun wx => szCont_any q a wx ha0 (by omega) n1)
        obtain ⟨r, hr⟩ : ∃ r, szCon q a = r := ⟨_, rfl⟩
        have hcs := szCon_cases q a ha0 (by omega)
        rw [hr] at C hcs
        have HC := hide hcs
        clear hq hs hkl hr hcs htk n1
        go_wp2_with fail
        refine (unhide C _).mono ?_
        rintro e w1 ⟨rfl, hb⟩
        have HB1 := hide (below_on (unhide HB) hb)
        clear hb C c0 c1 c2 c3 c4
        rcases unhide HC with hr | ⟨r0, r1, r2⟩
        · subst hr
          go_wp2
          go_ret
          exact ⟨-1, rfl, .inl rfl, unhide HB1⟩
        · have HN := hide (show ∀ q ∈ l.take (k + 1), q.node.length ≤ 1048576 by
            rw [unhide HTK]
            intro x hx
            rcases List.mem_append.1 hx with hx | hx
            · exact unhide HP x hx
            · rw [List.mem_singleton.1 hx]; exact r2)
          clear r2 HP HTK HC
          go_wp2
          go_roundw
          case rel => exact ⟨k + 1, r, by omega, by go_num, rfl, by omega, by omega, HN, HB1⟩
          case measure => simp [intOf]; omega
      · have HF := hide (show FitCon l from ⟨by have := unhide HL; omega, fun q hq => unhide HP q (by rw [List.take_of_length_le (by have := unhide HL; omega)]; exact hq)⟩)
        go_wp2
        go_ret
        exact ⟨a, rfl, .inr ⟨ha0, ha1, unhide HF⟩, unhide HB⟩
  · have hb1 : (a0 : Int) - len < 0 := by omega
    go_enter Tryd.func29, Tryd.ntmps29
    go_wp2
    go_ret
    exact ⟨-1, rfl, .inl rfl, Below.refl _ _⟩
end Go.Proofs.YthnkbdjombiodaaDoor

/-
  The laws' own eqContS, at rows that hold the same; walks over the dump (mkrow.py wrote this).
-/
namespace Go.Proofs.YthnkbdjombiodaaDoor
open Go.RowKit
set_option linter.unusedVariables false

/-- the same stands at two places -/
def ConTwo (w0 : World) (b p c r : Nat) (q : Con) (w : World) : Prop := ConAt w b p q ∧ ConAt w c r q ∧ Below w0.heap.size w0 w
theorem ConTwo.call {w0 w w' : World} {b p c r : Nat} {q : Con} (h : ConTwo w0 b p c r q w) (hb : Below w.heap.size w w') : ConTwo w0 b p c r q w' := ⟨h.1.below hb, h.2.1.below hb, below_on h.2.2 hb⟩
theorem ConTwo.drew {w0 w : World} {b p c r : Nat} {q : Con} (h : ConTwo w0 b p c r q w) : ConTwo w0 b p c r q w.drew := h.call (Below.refl _ _).drew
theorem ConTwo.read (w0 : World) (b p c r : Nat) (q : Con) : ∀ wx, ConTwo w0 b p c r q wx → wx.cell? ⟨b, p, none⟩ = some (.int .i64 q.id) ∧ wx.cell? ⟨b, p + 1, none⟩ = some (.int .i64 q.app) ∧ wx.cell? ⟨b, p + 2, none⟩ = some (.string (bs q.node)) ∧ wx.cell? ⟨b, p + 3, none⟩ = some (.int .i64 q.mem) ∧ wx.cell? ⟨b, p + 4, none⟩ = some (.int .i64 q.cpu)
    ∧ wx.cell? ⟨c, r, none⟩ = some (.int .i64 q.id) ∧ wx.cell? ⟨c, r + 1, none⟩ = some (.int .i64 q.app) ∧ wx.cell? ⟨c, r + 2, none⟩ = some (.string (bs q.node)) ∧ wx.cell? ⟨c, r + 3, none⟩ = some (.int .i64 q.mem) ∧ wx.cell? ⟨c, r + 4, none⟩ = some (.int .i64 q.cpu) :=
  fun wx h => ⟨h.1.1, h.1.2.1, h.1.2.2.1, h.1.2.2.2.1, h.1.2.2.2.2, h.2.1.1, h.2.1.2.1, h.2.1.2.2.1, h.2.1.2.2.2.1, h.2.1.2.2.2.2⟩

set_option maxRecDepth 100000 in
set_option maxHeartbeats 2000000 in
theorem eqContS_same (ao bo : Option Addr) (len cap ccap : Nat) (l : List Con) (w : World) (h : ConRow w ao len l) (h' : ConRow w bo len l) (hl : len ≤ 1048576) :
    Calls Tryd.prog 39 #[.slice ao len cap, .slice bo len ccap] w fun e w' => e = .returned (.bool true) ∧ Below w.heap.size w w' := by
  have HR := hide h
  have HR' := hide h'
  have HL := hide h.1
  clear h h'
  go_enter Tryd.func39, Tryd.ntmps39
  go_wp2
  go_loopw [5] (fun i wr => ∃ k : Nat, k ≤ len ∧ i = .int .i64 k ∧ Hid (Below w.heap.size w wr)) (fun i _ => len - (intOf i).toNat)
  case atStart => exact ⟨0, Nat.zero_le _, rfl, hide (Below.refl _ _)⟩
  case round =>
    obtain ⟨k, hk, rfl, HB⟩ := hrel
    by_cases hlt : k < len
    · obtain ⟨b, off, rfl, hq⟩ := ((unhide HR).below (unhide HB)).at hlt
      obtain ⟨c, coff, rfl, hq'⟩ := ((unhide HR').below (unhide HB)).at hlt
      have hkl : k < l.length := by have := unhide HL; omega
      have A0 := hide (show ConTwo w b (off + k * 5) c (coff + k * 5) l[k] wr from ⟨hq hkl, hq' hkl, unhide HB⟩)
      obtain ⟨q, hs⟩ : ∃ q, l[k] = q := ⟨_, rfl⟩
      rw [hs] at A0
      have R := ConTwo.read w b (off + k * 5) c (coff + k * 5) q
      have k0 : (0 : Int) ≤ k := by omega
      have k1 : (k : Int) < len := by omega
      clear hq hq' hs hkl
      go_wp2_with fail
      go_region_held3 (fun wx => ConTwo w b (off + k * 5) c (coff + k * 5) q wx)
        (first | (with_reducible assumption) | exact (unhide A0).drew | exact ConTwo.call (by assumption) (by assumption))
        (first
        | (go_at_call 60; refine (eqCont_same _ _).mono ?_; rintro e wt ⟨rfl, hb⟩; have SA := ConTwo.call (w0 := w) (b := b) (p := off + k * 5) (c := c) (r := coff + k * 5) (q := q) (by assumption) hb))
      have HB2 := hide SA.2.2
      clear SA R A0
      go_wp2
      go_roundw
      case rel => exact ⟨k + 1, by omega, by go_num, HB2⟩
      case measure => simp [intOf]; omega
    · go_wp2
      go_ret
      exact ⟨rfl, unhide HB⟩
end Go.Proofs.YthnkbdjombiodaaDoor

/-
  Cells of what came in.
-/
namespace Go.Proofs.YthnkbdjombiodaaDoor
open Go.ChangeShapes Go.WideShapes Go.ChangeAt Go.RowKit Go.Deep
set_option linter.unusedVariables false
theorem cells_qs : Tryd.prog.cellsOf 9 = 1 := by kernel_rfl
theorem cells_qi : Tryd.prog.cellsOf 3 = 1 := by kernel_rfl
end Go.Proofs.YthnkbdjombiodaaDoor

/-
  An amount among the cells of what came in.
-/
namespace Go.Proofs.YthnkbdjombiodaaDoor
open Go.ChangeShapes Go.WideShapes Go.ChangeAt Go.RowKit Go.Deep
set_option linter.unusedVariables false

theorem cells_lr1 : Tryd.prog.cellsOf 23 = 2 := by kernel_rfl
set_option maxRecDepth 100000 in
theorem open_rescells {H : Type} {enc : TypeId × Value → H} {W : World} {base : Nat} {sp : Nat → Bool} {held : Bool} {fuel : Nat} {cs : List Value} {x : DataW H × List MemPlace}
    (h : DataW.trod enc Tryd.prog W base sp held fuel 23 cs = some x) :
    ∃ a b : Int, cs = [.int .i64 a, .int .i64 b] ∧ (Lit.int .i64 a).wf = true ∧ (Lit.int .i64 b).wf = true := by
  obtain ⟨xs, n, rfl, rfl, hlen, hxs, hf⟩ := DataW.trod_struct Tryd.underlying23 h
  rw [cells_lr1] at hlen
  have hxs : xs.length = 2 := hxs
  match cs, hlen, xs, hxs with
  | [c0, c1], _, [x0, x1], _ =>
    have h0 := hf 0 _ rfl
    have h1 := hf 1 _ rfl
    obtain ⟨d, e2, _, b2⟩ := DataW.trod_int Tryd.underlying3 h0
    obtain ⟨m, e3, _, b3⟩ := DataW.trod_int Tryd.underlying3 h1
    simp [cells_qi] at e2 e3
    subst e2 e3
    exact ⟨d, m, rfl, b2, b3⟩
end Go.Proofs.YthnkbdjombiodaaDoor

/-
  A slice of Ask values that came in: what it holds (mkrow.py wrote this).
-/
namespace Go.Proofs.YthnkbdjombiodaaDoor
open Go.ChangeShapes Go.WideShapes Go.ChangeAt Go.RowKit Go.Deep
set_option linter.unusedVariables false

theorem cells_lAsk : Tryd.prog.cellsOf 25 = 5 := by kernel_rfl
def AskFit (q : Ask) : Prop := q.node.length ≤ 9223372036854775807 ∧ (Lit.int .i64 q.mem).wf = true ∧ (Lit.int .i64 q.cpu).wf = true ∧ (Lit.int .i64 q.count).wf = true ∧ (Lit.int .i64 q.missed).wf = true
set_option maxRecDepth 100000 in
theorem open_ask1 {H : Type} {enc : TypeId × Value → H} {W : World} {base : Nat} {sp : Nat → Bool} {held : Bool} {fuel : Nat} {cs : List Value} {x : DataW H × List MemPlace}
    (h : DataW.trod enc Tryd.prog W base sp held fuel 25 cs = some x) :
    ∃ q : Ask, cs = [.int .i64 q.mem, .int .i64 q.cpu, .int .i64 q.count, .string (bs q.node), .int .i64 q.missed] ∧ AskFit q := by
  obtain ⟨xs, n, rfl, rfl, hlen, hxs, hf⟩ := DataW.trod_struct Tryd.underlying25 h
  rw [cells_lAsk] at hlen
  have hxs : xs.length = 4 := hxs
  match cs, hlen, xs, hxs with
  | [c0, c1, c2, c3, c4], _, [x0, x1, x2, x3], _ =>
    have h0 := hf 0 _ rfl
    have h1 := hf 1 _ rfl
    have h2 := hf 2 _ rfl
    have h3 := hf 3 _ rfl
    obtain ⟨s0, s1, e0, b0, b1⟩ := open_rescells h0
    obtain ⟨s2, e2, _, b2⟩ := DataW.trod_int Tryd.underlying3 h1
    obtain ⟨s3, e3, _, b3⟩ := DataW.trod_string Tryd.underlying9 h2
    obtain ⟨s4, e4, _, b4⟩ := DataW.trod_int Tryd.underlying3 h3
    simp [cells_qs, cells_qi, cells_lr1] at e0 e2 e3 e4
    obtain ⟨q0, q1⟩ := e0
    subst q0 q1 e2 e3 e4
    refine ⟨⟨s0, s1, s2, s3.data.toList, s4⟩, by simp only [bs_back], ?_, b0, b1, b2, b4⟩
    simpa [maxLen] using b3
end Go.Proofs.YthnkbdjombiodaaDoor

/-
  A slice of Cont values that came in: what it holds (mkrow.py wrote this).
-/
namespace Go.Proofs.YthnkbdjombiodaaDoor
open Go.ChangeShapes Go.WideShapes Go.ChangeAt Go.RowKit Go.Deep
set_option linter.unusedVariables false

theorem cells_lCon : Tryd.prog.cellsOf 99 = 5 := by kernel_rfl
def ConFit (q : Con) : Prop := q.node.length ≤ 9223372036854775807 ∧ (Lit.int .i64 q.id).wf = true ∧ (Lit.int .i64 q.app).wf = true ∧ (Lit.int .i64 q.mem).wf = true ∧ (Lit.int .i64 q.cpu).wf = true
set_option maxRecDepth 100000 in
theorem open_con1 {H : Type} {enc : TypeId × Value → H} {W : World} {base : Nat} {sp : Nat → Bool} {held : Bool} {fuel : Nat} {cs : List Value} {x : DataW H × List MemPlace}
    (h : DataW.trod enc Tryd.prog W base sp held fuel 99 cs = some x) :
    ∃ q : Con, cs = [.int .i64 q.id, .int .i64 q.app, .string (bs q.node), .int .i64 q.mem, .int .i64 q.cpu] ∧ ConFit q := by
  obtain ⟨xs, n, rfl, rfl, hlen, hxs, hf⟩ := DataW.trod_struct Tryd.underlying99 h
  rw [cells_lCon] at hlen
  have hxs : xs.length = 4 := hxs
  match cs, hlen, xs, hxs with
  | [c0, c1, c2, c3, c4], _, [x0, x1, x2, x3], _ =>
    have h0 := hf 0 _ rfl
    have h1 := hf 1 _ rfl
    have h2 := hf 2 _ rfl
    have h3 := hf 3 _ rfl
    obtain ⟨s0, e0, _, b0⟩ := DataW.trod_int Tryd.underlying3 h0
    obtain ⟨s1, e1, _, b1⟩ := DataW.trod_int Tryd.underlying3 h1
    obtain ⟨s2, e2, _, b2⟩ := DataW.trod_string Tryd.underlying9 h2
    obtain ⟨s3, s4, e3, b3, b4⟩ := open_rescells h3
    simp [cells_qs, cells_qi, cells_lr1] at e0 e1 e2 e3
    obtain ⟨q3, q4⟩ := e3
    subst e0 e1 e2 q3 q4
    refine ⟨⟨s0, s1, s2.data.toList, s3, s4⟩, by simp only [bs_back], ?_, b0, b1, b3, b4⟩
    simpa [maxLen] using b2
theorem open_cons {H : Type} {enc : TypeId × Value → H} {W : World} {base : Nat} {held : Bool} {ao : Option Addr} {len cap fuel : Nat} {x : DataW H × List MemPlace}
    (hf : DataW.trod enc Tryd.prog W base (fun _ => true) held fuel 26 [.slice ao len cap] = some x) :
    ∃ l : List Con, ConRow W ao len l ∧ len ≤ 9223372036854775807 ∧ ∀ q ∈ l, ConFit q := by
  rcases open_slice Tryd.underlying26 hf with ⟨hcs, _⟩ | ⟨a, len', cap', m, n, D, Pl, hcs, hb, hl, hm, hmm, hx, hel⟩
  · simp at hcs
    obtain ⟨rfl, rfl, rfl⟩ := hcs
    exact ⟨[], ConRow.nil _ _, by omega, by simp⟩
  · simp at hcs
    obtain ⟨rfl, rfl, rfl⟩ := hcs
    simp only [if_true] at hmm
    subst hmm
    rw [cells_lCon] at hel
    have inh : Inhabited Con := ⟨⟨0, 0, [], 0, 0⟩⟩
    obtain ⟨F, hF⟩ := choose_lt (α := Con) (n := len) (p := fun i q => W.cells? base (a.add (i * 5)) 5 = some [.int .i64 q.id, .int .i64 q.app, .string (bs q.node), .int .i64 q.mem, .int .i64 q.cpu] ∧ ConFit q) (fun i hi => by
      obtain ⟨cs', h1, h2⟩ := hel i (by omega)
      obtain ⟨q, rfl, h3⟩ := open_con1 h2
      exact ⟨q, h1, h3⟩)
    refine ⟨(List.range len).map F, ?_, by have : maxLen = 9223372036854775807 := rfl; omega, ?_⟩
    · refine ⟨by simp, ?_⟩
      by_cases h0 : len = 0
      · exact .inl h0
      · right
        obtain ⟨b, off, spot⟩ := a
        have hc0 := (World.cells?_some (hF 0 (by omega)).1).2.2 0 (by omega)
        have hspot : spot = none := by simpa [Addr.add] using World.cell?_spot hc0
        subst hspot
        refine ⟨b, off, rfl, fun i hi => ?_⟩
        have hi' : i < len := by simpa using hi
        obtain ⟨_, _, hc⟩ := World.cells?_some (hF i hi').1
        rw [Lib.add_plain] at hc
        have k0 := hc 0 (by omega)
        have k1 := hc 1 (by omega)
        have k2 := hc 2 (by omega)
        have k3 := hc 3 (by omega)
        have k4 := hc 4 (by omega)
        rw [Lib.add_plain] at k0 k1 k2 k3 k4
        simp only [List.getElem_map, List.getElem_range]
        exact ⟨k0, k1, k2, k3, k4⟩
    · intro q hq
      obtain ⟨i, hi, rfl⟩ := List.mem_map.1 hq
      exact (hF i (by simpa using hi)).2
end Go.Proofs.YthnkbdjombiodaaDoor
