/-
  Several texts of this claim in one: StrS, DecM, MarkT, CelV, Cel, MarkFM, MarkFC, MarkAM, MarkA, KKey (pack.py put them together); each says in its own remark what is proved.
-/
import Derived.Test.YtcplnodfcchdhaaGreatPackA
import Derived.Lib.ItoaLen
import Derived.Laws.IdiomStrings
import Derived.BigQuiet
import Derived.Deep.QuietTactic
import Derived.Deep.RegionWith
import Derived.Test.YtcplnodfcchdhaaGreatStAll
import Derived.Deep.RegionHeld3
import Derived.Maps.OwnSet
import Derived.Maps.Views
import Derived.DeepKeys4
/-
  Slices of texts that a call has made.
-/
namespace Go.Proofs.YtcplnodfcchdhaaGreat
open Go.RowKit
set_option linter.unusedVariables false
/-- block g holds, from its head on, the texts xs, with room for cap -/
def SS (w : World) (g cap : Nat) (xs : List ByteArray) : Prop := w.ownsRow g 9 1 (.slice (some ⟨g, 0, none⟩) xs.length cap) xs.length (xs.map Value.string)
theorem SS.cell {w : World} {g cap : Nat} {xs : List ByteArray} (h : SS w g cap xs) (j : Nat) (hj : j < xs.length) : w.cell? ⟨g, j, none⟩ = some (.string xs[j]) := by
  have := World.ownsRow.cellAt h j (by omega)
  rw [this]; simp [hj]
theorem SS.frozen {w : World} {g cap : Nat} {xs : List ByteArray} (h : SS w g cap xs) (j : Nat) : w.frozen? ⟨g, j, none⟩ = false := World.ownsRow.frozenAt h j
theorem SS.block {w : World} {g cap : Nat} {xs : List ByteArray} (h : SS w g cap xs) : ∃ cur, w.heap[g]? = some (.cells cur 9 (0, 0)) ∧ xs.length ≤ cap ∧ cap ≤ maxLen ∧ cur.size = cap ∧ cur.toList.take xs.length = xs.map Value.string := by
  rcases h.2 with ⟨h1, _⟩ | ⟨g', cap', cur, h1, _, h2, h3, h4, h5, h6⟩
  · simp at h1
  · simp only [Value.slice.injEq, Option.some.injEq, Addr.mk.injEq, and_true, true_and] at h1
    obtain ⟨rfl, rfl⟩ := h1
    exact ⟨cur, h2, h3, h4, by simpa using h5, by simpa using h6⟩
theorem SS.mk {w : World} {g cap : Nat} {xs : List ByteArray} {cur : Array Value} (h : w.heap[g]? = some (.cells cur 9 (0, 0))) (h1 : xs.length ≤ cap) (h2 : cap ≤ maxLen) (h3 : cur.size = cap) (h4 : cur.toList.take xs.length = xs.map Value.string) : SS w g cap xs :=
  ⟨by simp, .inr ⟨g, cap, cur, rfl, Nat.le_refl _, h, h1, h2, by simpa using h3, by simpa using h4⟩⟩
theorem SS.lt {w : World} {g cap : Nat} {xs : List ByteArray} (h : SS w g cap xs) : g < w.heap.size := by
  obtain ⟨cur, h1, _⟩ := h.block
  exact lt_of_block h1
theorem SS.same {w w' : World} {g cap : Nat} {xs : List ByteArray} (h : SS w g cap xs) (hg : w'.heap[g]? = w.heap[g]?) : SS w' g cap xs := by
  obtain ⟨cur, h1, h2, h3, h4, h5⟩ := h.block
  exact SS.mk (hg.trans h1) h2 h3 h4 h5
theorem SS.below {w w' : World} {B g cap : Nat} {xs : List ByteArray} (h : SS w g cap xs) (hb : Below B w w') (hg : g < B) : SS w' g cap xs := h.same (hb.block g hg)
theorem SS.set {w : World} {g cap : Nat} {xs : List ByteArray} (h : SS w g cap xs) (j : Nat) (hj : j < xs.length) (x : ByteArray) : SS (w.setCell ⟨g, j, none⟩ (.string x)) g cap (xs.set j x) := by
  obtain ⟨cur, h1, h2, h3, h4, h5⟩ := h.block
  refine SS.mk (heap_setCell_same w g j cur _ _ h1) (by simpa using h2) h3 (by simpa using h4) ?_
  rw [List.length_set, Array.toList_setIfInBounds, List.take_set, h5, List.map_set]

end Go.Proofs.YtcplnodfcchdhaaGreat

/-
  Decimal digits, one by one.
-/
namespace Go.Proofs.YtcplnodfcchdhaaGreat
open Go.RowKit
/-- the digits of u, none for 0 -/
def dgs (u : Nat) : List UInt8 := if u = 0 then [] else Lib.decDigits u
theorem dgs_zero : dgs 0 = [] := rfl
theorem dgs_pos {u : Nat} (h : u ≠ 0) : dgs u = Lib.decDigits u := by rw [dgs, if_neg h]
theorem dgs_step {u : Nat} (h : u ≠ 0) : dgs u = dgs (u / 10) ++ [UInt8.ofNat (48 + u % 10)] := by
  rw [dgs_pos h, Lib.decDigits]
  by_cases h10 : u < 10
  · rw [dif_pos h10]
    have e : u / 10 = 0 := by omega
    rw [e, dgs_zero, Nat.mod_eq_of_lt h10]; rfl
  · rw [dif_neg h10, dgs_pos (by omega)]
/-- one digit cut out of the ten -/
theorem ten_cut : ∀ d : Nat, d < 10 → (ByteArray.mk #[48, 49, 50, 51, 52, 53, 54, 55, 56, 57]).extract d (d + 1) = ⟨#[UInt8.ofNat (48 + d)]⟩ := by
  intro d h
  match d, h with
  | 0, _ => rfl
  | 1, _ => rfl
  | 2, _ => rfl
  | 3, _ => rfl
  | 4, _ => rfl
  | 5, _ => rfl
  | 6, _ => rfl
  | 7, _ => rfl
  | 8, _ => rfl
  | 9, _ => rfl
  | d + 10, h => exact absurd h (by omega)
end Go.Proofs.YtcplnodfcchdhaaGreat

/-
  The laws' own markText, and marks in a row.
-/
namespace Go.Proofs.YtcplnodfcchdhaaGreat
open Go.RowKit
set_option linter.unusedVariables false
/-- the mark of the number N -/
def mk (N : Nat) : ByteArray := bs (109 :: dgs N)

/-- the marks from k on: n of them -/
def marks (k : Nat) : Nat → List ByteArray
  | 0 => []
  | n + 1 => mk k :: marks (k + 1) n
/-- the first j texts marked -/
def marked (k : Nat) (xs : List ByteArray) (j : Nat) : List ByteArray := (marks k xs.length).take j ++ xs.drop j
end Go.Proofs.YtcplnodfcchdhaaGreat

/-
  Rows of cells that may be written; what a call that marks them leaves alone.
-/
namespace Go.Proofs.YtcplnodfcchdhaaGreat
open Go.RowKit
set_option linter.unusedVariables false
/-- block g is a row of N cells of type t that may be written -/
def Cel (w : World) (t : TypeId) (g N : Nat) : Prop := ∃ arr : Array Value, w.heap[g]? = some (.cells arr t (0, 0)) ∧ arr.size = N
theorem Cel.lt {w : World} {t : TypeId} {g N : Nat} (h : Cel w t g N) : g < w.heap.size := let ⟨_, h, _⟩ := h; lt_of_block h
theorem Cel.of_block {w w' : World} {t : TypeId} {g N : Nat} (h : Cel w t g N) (e : w'.heap[g]? = w.heap[g]?) : Cel w' t g N := by
  obtain ⟨arr, h1, h2⟩ := h
  exact ⟨arr, e.trans h1, h2⟩
theorem Cel.below {w w' : World} {t : TypeId} {g N : Nat} (h : Cel w t g N) (hb : Below w.heap.size w w') : Cel w' t g N := h.of_block (hb.block g h.lt)
theorem Cel.set {w : World} {t : TypeId} {g N : Nat} (h : Cel w t g N) (b j : Nat) (v : Value) : Cel (w.setCell ⟨b, j, none⟩ v) t g N := by
  by_cases e : g = b
  · subst e
    obtain ⟨arr, h1, h2⟩ := h
    exact ⟨_, heap_setCell_same w g j _ _ v h1, by simp [h2]⟩
  · exact h.of_block (heap_setCell_other w ⟨b, j, none⟩ g v e)
theorem Cel.cell {w : World} {t : TypeId} {g N : Nat} (h : Cel w t g N) {j : Nat} (hj : j < N) : ∃ v, w.cell? ⟨g, j, none⟩ = some v := by
  obtain ⟨arr, h1, h2⟩ := h
  exact ⟨arr[j]'(by omega), by simp [World.cell?, h1, Array.getElem?_eq_getElem (show j < arr.size by omega)]⟩
theorem Cel.frozen {w : World} {t : TypeId} {g N : Nat} (h : Cel w t g N) (j : Nat) : w.frozen? ⟨g, j, none⟩ = false := by
  obtain ⟨arr, h1, h2⟩ := h
  simp [World.frozen?, h1]

/-- of all that was there nothing has turned but cells of the blocks from B on to E -/
structure Mkd (B E : Nat) (w w' : World) : Prop where
  os : w'.os = w.os
  tape : w'.tape = w.tape
  output : w'.output = w.output
  size : w.heap.size ≤ w'.heap.size
  block : ∀ k, k < w.heap.size → (k < B ∨ E ≤ k) → w'.heap[k]? = w.heap[k]?
  cel : ∀ t g N, Cel w t g N → Cel w' t g N
theorem Mkd.refl (B E : Nat) (w : World) : Mkd B E w w := ⟨rfl, rfl, rfl, Nat.le_refl _, fun _ _ _ => rfl, fun _ _ _ h => h⟩
theorem Mkd.trans {B E : Nat} {a b c : World} (h : Mkd B E a b) (k : Mkd B E b c) : Mkd B E a c :=
  ⟨k.os.trans h.os, k.tape.trans h.tape, k.output.trans h.output, Nat.le_trans h.size k.size, fun i hi ho => (k.block i (Nat.lt_of_lt_of_le hi h.size) ho).trans (h.block i hi ho), fun t g N x => k.cel t g N (h.cel t g N x)⟩
theorem Mkd.mono {B E B' E' : Nat} {a b : World} (h : Mkd B E a b) (h1 : B' ≤ B) (h2 : E ≤ E') : Mkd B' E' a b :=
  ⟨h.os, h.tape, h.output, h.size, fun i hi ho => h.block i hi (by omega), h.cel⟩
theorem Mkd.of_below {B E : Nat} {w w' : World} (hb : Below w.heap.size w w') : Mkd B E w w' := ⟨hb.os, hb.tape, hb.output, hb.size, fun i hi _ => hb.block i hi, fun t g N x => x.below hb⟩
theorem Mkd.on {B E : Nat} {a w w' : World} (h : Mkd B E a w) (hb : Below w.heap.size w w') : Mkd B E a w' := h.trans (.of_below hb)
theorem Mkd.sc {B E : Nat} {a w : World} (h : Mkd B E a w) (g j : Nat) (v : Value) (h1 : B ≤ g) (h2 : g < E) : Mkd B E a (w.setCell ⟨g, j, none⟩ v) :=
  h.trans ⟨rfl, rfl, rfl, by simp [World.setCell], fun k _ ho => Below.heap_setCell _ _ _ _ (by show k ≠ g; omega), fun t g' N x => x.set g j v⟩
/-- below B all stands -/
theorem Mkd.below {B E : Nat} {a w : World} (h : Mkd B E a w) (hB : B ≤ a.heap.size) : Below B a w := ⟨h.os, h.tape, h.output, h.size, fun k hk => h.block k (by omega) (.inl hk)⟩
theorem Mkd.blk {B E g : Nat} {a w : World} {arr : Array Value} {t : TypeId} (h : Mkd B E a w) (hb : Blk a g arr t) (ho : g < B ∨ E ≤ g) : Blk w g arr t := (h.block g hb.lt ho).trans hb
end Go.Proofs.YtcplnodfcchdhaaGreat

/-
  Rows of cells that may be written, of each kind.
-/
namespace Go.Proofs.YtcplnodfcchdhaaGreat
open Go.RowKit
set_option linter.unusedVariables false
theorem QBlk.cel {w : World} {t : TypeId} {g n k : Nat} {l : List Q} (h : QBlk w t g n k l) : Cel w t g (n * 4) := let ⟨arr, h1, h2, _⟩ := h; ⟨arr, h1, h2⟩
theorem AskBlk.cel {w : World} {t : TypeId} {g n k : Nat} {l : List Ask} (h : AskBlk w t g n k l) : Cel w t g (n * 5) := let ⟨arr, h1, h2, _⟩ := h; ⟨arr, h1, h2⟩
theorem MacBlk.cel {w : World} {t : TypeId} {g n k : Nat} {l : List Mac} (h : MacBlk w t g n k l) : Cel w t g (n * 4) := let ⟨arr, h1, h2, _⟩ := h; ⟨arr, h1, h2⟩
theorem ConBlk.cel {w : World} {t : TypeId} {g n k : Nat} {l : List Con} (h : ConBlk w t g n k l) : Cel w t g (n * 5) := let ⟨arr, h1, h2, _⟩ := h; ⟨arr, h1, h2⟩
theorem ApplBlk.cel {w : World} {t : TypeId} {g n k : Nat} {l : List Appl} (h : ApplBlk w t g n k l) : Cel w t g (n * 3) := let ⟨arr, h1, h2, _⟩ := h; ⟨arr, h1, h2⟩
end Go.Proofs.YtcplnodfcchdhaaGreat

/-
  The laws' own markMachineS, from any number on, and heldMachineS: what is marked in a row, and found again (gmf.py wrote this); walks over the dump.
-/
namespace Go.Proofs.YtcplnodfcchdhaaGreat
open Go.RowKit
set_option linter.unusedVariables false
set_option linter.unusedSimpArgs false
def markM (k j : Nat) : Mac := ⟨109 :: dgs (k + 4 * j), (k : Int) + 4 * (j : Int) + 1, (k : Int) + 4 * (j : Int) + 1 + 1, (k : Int) + 4 * (j : Int) + 1 + 1 + 1⟩
def marksM (k n : Nat) : List Mac := (List.range n).map (markM k)
theorem MacBlk.next {w : World} {t : TypeId} {g n k : Nat} {l : List Mac} (h : MacBlk w t g n k l) (c : ∀ hk : k < l.length, MacAt w g (k * 4) l[k]) : MacBlk w t g n (k + 1) l := by
  obtain ⟨arr, h1, h2, h3⟩ := h
  refine ⟨arr, h1, h2, fun i hi hik => ?_⟩
  by_cases e : i = k
  · subst e
    obtain ⟨c0, c1, c2, c3⟩ := c hi
    simp [World.cell?, h1] at c0 c1 c2 c3
    exact ⟨c0, c1, c2, c3⟩
  · exact h3 i hi (by omega)
/-- one stands at a place; of w0 nothing has turned -/
def MacOne (w0 : World) (b p : Nat) (q : Mac) (w : World) : Prop := MacAt w b p q ∧ Below w0.heap.size w0 w
theorem MacOne.call {w0 w w' : World} {b p : Nat} {q : Mac} (h : MacOne w0 b p q w) (hb : Below w.heap.size w w') : MacOne w0 b p q w' := ⟨h.1.below hb, below_on h.2 hb⟩
theorem MacOne.drew {w0 w : World} {b p : Nat} {q : Mac} (h : MacOne w0 b p q w) : MacOne w0 b p q w.drew := h.call (Below.refl _ _).drew
theorem MacOne.read (w0 : World) (b p : Nat) (q : Mac) : ∀ wx, MacOne w0 b p q wx → wx.cell? ⟨b, p, none⟩ = some (.string (bs q.name)) ∧ wx.cell? ⟨b, p + 1, none⟩ = some (.int .i64 q.mem) ∧ wx.cell? ⟨b, p + 2, none⟩ = some (.int .i64 q.cpu) ∧ wx.cell? ⟨b, p + 3, none⟩ = some (.int .i64 q.seen) := fun wx h => h.1
end Go.Proofs.YtcplnodfcchdhaaGreat

/-
  The laws' own markContS, from any number on, and heldContS: what is marked in a row, and found again (gmf.py wrote this); walks over the dump.
-/
namespace Go.Proofs.YtcplnodfcchdhaaGreat
open Go.RowKit
set_option linter.unusedVariables false
set_option linter.unusedSimpArgs false
def markC (k j : Nat) : Con := ⟨(k : Int) + 5 * (j : Int), (k : Int) + 5 * (j : Int) + 1, 109 :: dgs (k + 5 * j + 1 + 1), (k : Int) + 5 * (j : Int) + 1 + 1 + 1, (k : Int) + 5 * (j : Int) + 1 + 1 + 1 + 1⟩
def marksC (k n : Nat) : List Con := (List.range n).map (markC k)
theorem ConBlk.next {w : World} {t : TypeId} {g n k : Nat} {l : List Con} (h : ConBlk w t g n k l) (c : ∀ hk : k < l.length, ConAt w g (k * 5) l[k]) : ConBlk w t g n (k + 1) l := by
  obtain ⟨arr, h1, h2, h3⟩ := h
  refine ⟨arr, h1, h2, fun i hi hik => ?_⟩
  by_cases e : i = k
  · subst e
    obtain ⟨c0, c1, c2, c3, c4⟩ := c hi
    simp [World.cell?, h1] at c0 c1 c2 c3 c4
    exact ⟨c0, c1, c2, c3, c4⟩
  · exact h3 i hi (by omega)
/-- one stands at a place; of w0 nothing has turned -/
def ConOne (w0 : World) (b p : Nat) (q : Con) (w : World) : Prop := ConAt w b p q ∧ Below w0.heap.size w0 w
theorem ConOne.call {w0 w w' : World} {b p : Nat} {q : Con} (h : ConOne w0 b p q w) (hb : Below w.heap.size w w') : ConOne w0 b p q w' := ⟨h.1.below hb, below_on h.2 hb⟩
theorem ConOne.drew {w0 w : World} {b p : Nat} {q : Con} (h : ConOne w0 b p q w) : ConOne w0 b p q w.drew := h.call (Below.refl _ _).drew
theorem ConOne.read (w0 : World) (b p : Nat) (q : Con) : ∀ wx, ConOne w0 b p q wx → wx.cell? ⟨b, p, none⟩ = some (.int .i64 q.id) ∧ wx.cell? ⟨b, p + 1, none⟩ = some (.int .i64 q.app) ∧ wx.cell? ⟨b, p + 2, none⟩ = some (.string (bs q.node)) ∧ wx.cell? ⟨b, p + 3, none⟩ = some (.int .i64 q.mem) ∧ wx.cell? ⟨b, p + 4, none⟩ = some (.int .i64 q.cpu) := fun wx h => h.1
end Go.Proofs.YtcplnodfcchdhaaGreat

/-
  The laws' own markAskS, from any number on, and heldAskS: what is marked in a row of asks, and found again; walks over the dump.
-/
namespace Go.Proofs.YtcplnodfcchdhaaGreat
open Go.RowKit
set_option linter.unusedVariables false
/-- the ask of marks at place j, from k on -/
def markA (k j : Nat) : Ask := ⟨(k : Int) + 5 * (j : Int), (k : Int) + 5 * (j : Int) + 1, (k : Int) + 5 * (j : Int) + 1 + 1, 109 :: dgs (k + 5 * j + 1 + 1 + 1), (k : Int) + 5 * (j : Int) + 1 + 1 + 1 + 1⟩
def marksA (k n : Nat) : List Ask := (List.range n).map (markA k)
theorem AskBlk.next {w : World} {t : TypeId} {g n k : Nat} {l : List Ask} (h : AskBlk w t g n k l) (c : ∀ hk : k < l.length, AskAt w g (k * 5) l[k]) : AskBlk w t g n (k + 1) l := by
  obtain ⟨arr, h1, h2, h3⟩ := h
  refine ⟨arr, h1, h2, fun i hi hik => ?_⟩
  by_cases e : i = k
  · subst e
    obtain ⟨c0, c1, c2, c3, c4⟩ := c hi
    simp [World.cell?, h1] at c0 c1 c2 c3 c4
    exact ⟨c0, c1, c2, c3, c4⟩
  · exact h3 i hi (by omega)
theorem cellKeep {w : World} {g p q : Nat} {u v : Value} (h : w.cell? ⟨g, p, none⟩ = some u) (hne : q ≠ p) : (w.setCell ⟨g, q, none⟩ v).cell? ⟨g, p, none⟩ = some u :=
  (World.cell?_setCell_other _ _ _ _ (fun e => hne (congrArg Addr.off e))).trans h
theorem cellBel {w w' : World} {g p : Nat} {u : Value} (h : w.cell? ⟨g, p, none⟩ = some u) (hb : Below w.heap.size w w') : w'.cell? ⟨g, p, none⟩ = some u := (hb.cell (cell_lt h)).trans h

end Go.Proofs.YtcplnodfcchdhaaGreat

/-
  Whether the marks of asks stand: the laws' own heldAskS; walks over the dump.
-/
namespace Go.Proofs.YtcplnodfcchdhaaGreat
open Go.RowKit
set_option linter.unusedVariables false
/-- an ask stands at a place; of w0 nothing has turned -/
def AskOne (w0 : World) (b p : Nat) (q : Ask) (w : World) : Prop := AskAt w b p q ∧ Below w0.heap.size w0 w
theorem AskOne.call {w0 w w' : World} {b p : Nat} {q : Ask} (h : AskOne w0 b p q w) (hb : Below w.heap.size w w') : AskOne w0 b p q w' := ⟨h.1.below hb, below_on h.2 hb⟩
theorem AskOne.drew {w0 w : World} {b p : Nat} {q : Ask} (h : AskOne w0 b p q w) : AskOne w0 b p q w.drew := h.call (Below.refl _ _).drew
theorem AskOne.read (w0 : World) (b p : Nat) (q : Ask) : ∀ wx, AskOne w0 b p q wx → wx.cell? ⟨b, p, none⟩ = some (.int .i64 q.mem) ∧ wx.cell? ⟨b, p + 1, none⟩ = some (.int .i64 q.cpu) ∧ wx.cell? ⟨b, p + 2, none⟩ = some (.int .i64 q.count) ∧ wx.cell? ⟨b, p + 3, none⟩ = some (.string (bs q.node)) ∧ wx.cell? ⟨b, p + 4, none⟩ = some (.int .i64 q.missed) :=
  fun wx h => h.1
end Go.Proofs.YtcplnodfcchdhaaGreat

/-
  Keys of name and number: the keys of the maps.
-/
namespace Go.Proofs.YtcplnodfcchdhaaGreat
open Go.RowKit Go.Maps
set_option linter.unusedVariables false
abbrev keyv (nm : List UInt8) (k : Int) : Value := .agg #[.string (bs nm), .int .i64 k]
theorem keyLaidOut : laidOutB Tryz.prog = true := by kernel_rfl
theorem keyRow : (69 : TypeId) < Tryz.prog.types.size := of_decide_eq_true (by kernel_rfl)
theorem keyWide : (match Tryz.prog.underlying 69 with | some (.array _ _) | some (.struct _) => true | _ => false) = true := by kernel_rfl
set_option maxRecDepth 100000 in
theorem keyLaw : Keyed Tryz.prog 69 := Keyed.of_law (deep_law_laid keyLaidOut (m := 3) (by omega) keyRow (by kernel_rfl) keyWide)
theorem keyKeyType : Tryz.prog.keyType 69 = true := by kernel_rfl
theorem keyCells : Tryz.prog.cellsOf 69 = 2 := by kernel_rfl
theorem keyIntCells : Tryz.prog.cellsOf 3 = 1 := by kernel_rfl
theorem keyStrCells : Tryz.prog.cellsOf 9 = 1 := by kernel_rfl
theorem keyTypesMany : ∃ m, Tryz.prog.types.size + 1 = m + 2 := ⟨Tryz.prog.types.size - 1, by have : 3 ≤ Tryz.prog.types.size := of_decide_eq_true (by kernel_rfl); omega⟩
theorem klits_int (n : Nat) {a : Int} (h : (Lit.int .i64 a).wf = true) : Tryz.prog.keyLits (n + 1) 3 [.int .i64 a] = some [.int .i64 a] := by
  simp [Program.keyLits, Tryz.underlying3, h]
theorem klits_str (n : Nat) {s : ByteArray} (h : s.size ≤ maxLen) : Tryz.prog.keyLits (n + 1) 9 [.string s] = some [.string s.data.toList] := by
  simp [Program.keyLits, Tryz.underlying9, h]
theorem keyKey {nm : List UInt8} {k : Int} (hn : nm.length ≤ 9223372036854775807) (hk : (Lit.int .i64 k).wf = true) : ∃ kl, keyOf Tryz.prog 69 (keyv nm k) = some kl := by
  obtain ⟨m, hm⟩ := keyTypesMany
  have hs : (bs nm).size ≤ maxLen := by rw [bs_size]; exact hn
  have h : Tryz.prog.keyLits (m + 2) 69 [.string (bs nm), .int .i64 k] = some [.string (bs nm).data.toList, .int .i64 k] := by
    have h := Tryz.underlying69
    unfold Program.keyLits
    simp [h, keyCells, keyIntCells, keyStrCells, klits_int m hk, klits_str m hs]
  have hu := Tryz.underlying69
  have hk : keyOf Tryz.prog 69 (keyv nm k) = if Tryz.prog.keyType 69 && (keyv nm k).formed Tryz.prog 69 then (Tryz.prog.keyLits (Tryz.prog.types.size + 1) 69 (keyv nm k).cells.toList).map (fun ls => .string (keyBytes ls)) else none := by
    unfold keyOf
    rw [hu]
  rw [hk, if_pos (by simp [keyKeyType, Value.formed, hu, keyCells]), hm, show (keyv nm k).cells.toList = [.string (bs nm), .int .i64 k] from rfl, h]
  exact ⟨_, rfl⟩
theorem bs_data (s : ByteArray) : bs s.data.toList = s := by simp [bs]
end Go.Proofs.YtcplnodfcchdhaaGreat
