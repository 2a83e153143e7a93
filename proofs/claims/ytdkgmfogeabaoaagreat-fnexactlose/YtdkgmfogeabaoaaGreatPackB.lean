/-
  Several texts of this claim in one: StrS, DecM, MarkT, Cel, MarkFM, MarkFC, MarkA, KKey, AKey, MarkP, MarkQ, MarkH, HeldQ, MarkZ (pack.py put them together); each says in its own remark what is proved.
-/
import Derived.Test.YtdkgmfogeabaoaaGreatPackA
import Derived.Lib.ItoaLen
import Derived.Laws.IdiomStrings
import Derived.BigQuiet
import Derived.Deep.QuietTactic
import Derived.Deep.RegionWith
import Derived.Test.YtdkgmfogeabaoaaGreatStAll
import Derived.Deep.RegionHeld3
import Derived.Maps.OwnSet
import Derived.Maps.Views
import Derived.DeepKeys4
import Derived.Deep.Slices
/-
  Slices of texts that a call has made.
-/
namespace Go.Proofs.YtdkgmfogeabaoaaGreat
open Go.RowKit
set_option linter.unusedVariables false

/-- block g holds, from its head on, the texts xs, with room for cap -/
def SS (w : World) (g cap : Nat) (xs : List ByteArray) : Prop := w.ownsRow g 9 1 (.slice (some ⟨g, 0, none⟩) xs.length cap) xs.length (xs.map Value.string)
theorem SS.cell {w : World} {g cap : Nat} {xs : List ByteArray} (h : SS w g cap xs) (j : Nat) (hj : j < xs.length) : w.cell? ⟨g, j, none⟩ = some (.string xs[j]) := by
  have := World.ownsRow.cellAt h j (by omega)
  rw [this]; simp [hj]
theorem SS.frozen {w : World} {g cap : Nat} {xs : List ByteArray} (h : SS w g cap xs) (j : Nat) : w.frozen? ⟨g, j, none⟩ = false := World.ownsRow.frozenAt h j
theorem SS.block {w : World} {g cap : Nat} {xs : List ByteArray} (h : SS w g cap xs) : ∃ cur, w.heap[g]? = some (.cells cur 9 (0, 0)) ∧ xs.length ≤ cap ∧ cap ≤ maxLen ∧ cur.size = cap ∧ cur.toList.take xs.length = xs.map Value.string := by
  rcases h.2 with ⟨h1, _⟩ | ⟨g', cap', cur, h1, _, h2, h3, h4, h5, h6⟩
  · simp at h1
  · simp only [Value.slice.injEq, Option.some.injEq, Addr.mk.injEq, and_true, true_and] at h1
    obtain ⟨rfl, rfl⟩ := h1
    exact ⟨cur, h2, h3, h4, by simpa using h5, by simpa using h6⟩
theorem SS.mk {w : World} {g cap : Nat} {xs : List ByteArray} {cur : Array Value} (h : w.heap[g]? = some (.cells cur 9 (0, 0))) (h1 : xs.length ≤ cap) (h2 : cap ≤ maxLen) (h3 : cur.size = cap) (h4 : cur.toList.take xs.length = xs.map Value.string) : SS w g cap xs :=
  ⟨by simp, .inr ⟨g, cap, cur, rfl, Nat.le_refl _, h, h1, h2, by simpa using h3, by simpa using h4⟩⟩
theorem SS.lt {w : World} {g cap : Nat} {xs : List ByteArray} (h : SS w g cap xs) : g < w.heap.size := by
  obtain ⟨cur, h1, _⟩ := h.block
  exact lt_of_block h1
theorem SS.same {w w' : World} {g cap : Nat} {xs : List ByteArray} (h : SS w g cap xs) (hg : w'.heap[g]? = w.heap[g]?) : SS w' g cap xs := by
  obtain ⟨cur, h1, h2, h3, h4, h5⟩ := h.block
  exact SS.mk (hg.trans h1) h2 h3 h4 h5
theorem SS.below {w w' : World} {B g cap : Nat} {xs : List ByteArray} (h : SS w g cap xs) (hb : Below B w w') (hg : g < B) : SS w' g cap xs := h.same (hb.block g hg)
theorem SS.set {w : World} {g cap : Nat} {xs : List ByteArray} (h : SS w g cap xs) (j : Nat) (hj : j < xs.length) (x : ByteArray) : SS (w.setCell ⟨g, j, none⟩ (.string x)) g cap (xs.set j x) := by
  obtain ⟨cur, h1, h2, h3, h4, h5⟩ := h.block
  refine SS.mk (heap_setCell_same w g j cur _ _ h1) (by simpa using h2) h3 (by simpa using h4) ?_
  rw [List.length_set, Array.toList_setIfInBounds, List.take_set, h5, List.map_set]

end Go.Proofs.YtdkgmfogeabaoaaGreat

/-
  Decimal digits, one by one.
-/
namespace Go.Proofs.YtdkgmfogeabaoaaGreat
open Go.RowKit

/-- the digits of u, none for 0 -/
def dgs (u : Nat) : List UInt8 := if u = 0 then [] else Lib.decDigits u
theorem dgs_zero : dgs 0 = [] := rfl
theorem dgs_pos {u : Nat} (h : u ≠ 0) : dgs u = Lib.decDigits u := by rw [dgs, if_neg h]
theorem dgs_step {u : Nat} (h : u ≠ 0) : dgs u = dgs (u / 10) ++ [UInt8.ofNat (48 + u % 10)] := by
  rw [dgs_pos h, Lib.decDigits]
  by_cases h10 : u < 10
  · rw [dif_pos h10]
    have e : u / 10 = 0 := by omega
    rw [e, dgs_zero, Nat.mod_eq_of_lt h10]; rfl
  · rw [dif_neg h10, dgs_pos (by omega)]
/-- one digit cut out of the ten -/
theorem ten_cut : ∀ d : Nat, d < 10 → (ByteArray.mk #[48, 49, 50, 51, 52, 53, 54, 55, 56, 57]).extract d (d + 1) = ⟨#[UInt8.ofNat (48 + d)]⟩ := by
  intro d h
  match d, h with
  | 0, _ => rfl
  | 1, _ => rfl
  | 2, _ => rfl
  | 3, _ => rfl
  | 4, _ => rfl
  | 5, _ => rfl
  | 6, _ => rfl
  | 7, _ => rfl
  | 8, _ => rfl
  | 9, _ => rfl
  | d + 10, h => exact absurd h (by omega)
end Go.Proofs.YtdkgmfogeabaoaaGreat

/-
  The laws' own markText, and marks in a row.
-/
namespace Go.Proofs.YtdkgmfogeabaoaaGreat
open Go.RowKit
set_option linter.unusedVariables false

/-- the sign of a digit -/
def dch (d : Nat) : UInt8 := UInt8.ofNat (48 + d)
/-- the mark of the number N -/
def mk (N : Nat) : ByteArray := bs (109 :: dgs N)

set_option maxRecDepth 100000 in
set_option maxHeartbeats 1000000 in
theorem markText_any (N : Nat) (w : World) (h0 : 0 < N) (hN : (N : Int) ≤ 9223372036854775807) :
    Calls Tryz.prog 46 #[.int .i64 (N : Int)] w fun e w' => e = .returned (.string (mk N)) ∧ Below w.heap.size w w' := by
  have hlen2 : (dgs N).length ≤ 20 := by rw [dgs_pos (by omega), Lib.decDigits_length]; exact Lib.nDigits_le20 N (by omega)
  have hcv : ∀ (wr : World) (x : Nat), x < 10 → (convert 125 9 (.slice (some ⟨wr.heap.size, 0, none⟩) 1 1)).run Tryz.prog (wr.alloc (.cells #[.int .u8 (48 + (x : Int))] 5)) = .ok (.string ⟨#[dch x]⟩) (wr.alloc (.cells #[.int .u8 (48 + (x : Int))] 5)) := by
    intro wr x hx
    refine run_convert_bytes_back _ 125 9 5 ⟨wr.heap.size, 0, none⟩ 1 [dch x] Tryz.underlying125 Tryz.underlying5 Tryz.underlying9 (fun j hj => ?_)
    match j, hj with
    | 0, _ => simp [Addr.add, dch]; omega
  go_enter Tryz.func46, Tryz.ntmps46
  go_wp2
  go_loopw [0, 3] (fun m o wr => ∃ (u : Nat) (l : List UInt8), u ≤ N ∧ m = .int .i64 (u : Int) ∧ o = .string (bs l) ∧ dgs u ++ l = dgs N ∧ Below w.heap.size w wr) (fun m _ _ => (intOf m).toNat)
  case atStart => exact ⟨N, [], Nat.le_refl _, rfl, rfl, by simp, Below.refl _ _⟩
  case round =>
    obtain ⟨u, l, hu, rfl, rfl, hcat, hbel⟩ := hrel
    have hl : l.length ≤ 20 := by have := congrArg List.length hcat; simp only [List.length_append] at this; omega
    have hl2 : (bs l).size ≤ 20 := by rw [bs_size]; exact hl
    have hsz := hbel.size
    have HC := hide hcat
    have HB := hide hbel
    clear hcat hl hbel
    by_cases hu0 : u = 0
    · subst hu0
      clear hcv
      go_wp2
      go_ret
      exact ⟨ret_str (by rw [cons_bs, mk]; exact congrArg bs (congrArg (fun t => 109 :: t) (unhide HC))), unhide HB⟩
    · have hcw := hcv wr (u % 10) (by omega)
      rw [show ((u % 10 : Nat) : Int) = (u : Int) % 10 from by omega] at hcw
      clear hcv
      have hcs : (ByteArray.mk #[dch (u % 10)]).size = 1 := rfl
      go_wp2
      go_roundw
      case rel => exact ⟨u / 10, dch (u % 10) :: l, by omega, by go_num, str_eq (cons_bs _ _), by rw [← unhide HC, dgs_step hu0, dch]; simp, (unhide HB).alloc hsz _⟩
      case measure => simp [intOf]; omega

theorem markText_int (x : Int) (w : World) (h0 : 0 < x) (hN : x ≤ 9223372036854775807) :
    Calls Tryz.prog 46 #[.int .i64 x] w fun e w' => e = .returned (.string (mk x.toNat)) ∧ Below w.heap.size w w' := by
  obtain ⟨N, rfl⟩ := Int.eq_ofNat_of_zero_le (a := x) (by omega)
  rw [Int.toNat_natCast]
  exact markText_any N w (by omega) hN
/-- the marks from k on: n of them -/
def marks (k : Nat) : Nat → List ByteArray
  | 0 => []
  | n + 1 => mk k :: marks (k + 1) n
theorem marks_len : ∀ (n k : Nat), (marks k n).length = n
  | 0, _ => rfl
  | n + 1, k => by rw [marks, List.length_cons, marks_len n]
theorem marks_at : ∀ (n k j : Nat) (h : j < n), (marks k n)[j]? = some (mk (k + j))
  | 0, _, _, h => by omega
  | n + 1, k, 0, _ => by simp [marks]
  | n + 1, k, j + 1, h => by
    rw [marks, List.getElem?_cons_succ, marks_at n (k + 1) j (by omega)]
    rw [show k + 1 + j = k + (j + 1) from by omega]
/-- the first j texts marked -/
def marked (k : Nat) (xs : List ByteArray) (j : Nat) : List ByteArray := (marks k xs.length).take j ++ xs.drop j
theorem marked_len (k : Nat) (xs : List ByteArray) (j : Nat) : (marked k xs j).length = xs.length := by
  simp [marked, marks_len]; omega
theorem marked_zero (k : Nat) (xs : List ByteArray) : marked k xs 0 = xs := by simp [marked]
theorem marked_all (k : Nat) (xs : List ByteArray) : marked k xs xs.length = marks k xs.length := by
  simp [marked]; rw [List.take_of_length_le (by rw [marks_len]; exact Nat.le_refl _)]
theorem marked_set (k : Nat) (xs : List ByteArray) (j : Nat) (h : j < xs.length) : (marked k xs j).set j (mk (k + j)) = marked k xs (j + 1) := by
  have hm : j < (marks k xs.length).length := by rw [marks_len]; exact h
  have e : (marks k xs.length)[j] = mk (k + j) := by
    have := marks_at xs.length k j h
    rw [List.getElem?_eq_getElem hm] at this
    exact Option.some.inj this
  rw [marked, marked, List.set_append_right _ _ (by simp; omega), List.take_succ_eq_append_getElem hm, e]
  rw [List.length_take, marks_len, show j - min j xs.length = 0 from by omega, List.drop_eq_getElem_cons h, List.set_cons_zero, List.append_assoc]
  rfl
end Go.Proofs.YtdkgmfogeabaoaaGreat

/-
  Rows of cells that may be written; what a call that marks them leaves alone.
-/
namespace Go.Proofs.YtdkgmfogeabaoaaGreat
open Go.RowKit
set_option linter.unusedVariables false

/-- block g is a row of N cells of type t that may be written -/
def Cel (w : World) (t : TypeId) (g N : Nat) : Prop := ∃ arr : Array Value, w.heap[g]? = some (.cells arr t (0, 0)) ∧ arr.size = N
theorem Cel.lt {w : World} {t : TypeId} {g N : Nat} (h : Cel w t g N) : g < w.heap.size := let ⟨_, h, _⟩ := h; lt_of_block h
theorem Cel.of_block {w w' : World} {t : TypeId} {g N : Nat} (h : Cel w t g N) (e : w'.heap[g]? = w.heap[g]?) : Cel w' t g N := by
  obtain ⟨arr, h1, h2⟩ := h
  exact ⟨arr, e.trans h1, h2⟩
theorem Cel.below {w w' : World} {t : TypeId} {g N : Nat} (h : Cel w t g N) (hb : Below w.heap.size w w') : Cel w' t g N := h.of_block (hb.block g h.lt)
theorem Cel.set {w : World} {t : TypeId} {g N : Nat} (h : Cel w t g N) (b j : Nat) (v : Value) : Cel (w.setCell ⟨b, j, none⟩ v) t g N := by
  by_cases e : g = b
  · subst e
    obtain ⟨arr, h1, h2⟩ := h
    exact ⟨_, heap_setCell_same w g j _ _ v h1, by simp [h2]⟩
  · exact h.of_block (heap_setCell_other w ⟨b, j, none⟩ g v e)
theorem Cel.cell {w : World} {t : TypeId} {g N : Nat} (h : Cel w t g N) {j : Nat} (hj : j < N) : ∃ v, w.cell? ⟨g, j, none⟩ = some v := by
  obtain ⟨arr, h1, h2⟩ := h
  exact ⟨arr[j]'(by omega), by simp [World.cell?, h1, Array.getElem?_eq_getElem (show j < arr.size by omega)]⟩
theorem Cel.frozen {w : World} {t : TypeId} {g N : Nat} (h : Cel w t g N) (j : Nat) : w.frozen? ⟨g, j, none⟩ = false := by
  obtain ⟨arr, h1, h2⟩ := h
  simp [World.frozen?, h1]
theorem QBlk.cel {w : World} {t : TypeId} {g n k : Nat} {l : List Q} (h : QBlk w t g n k l) : Cel w t g (n * 4) := let ⟨arr, h1, h2, _⟩ := h; ⟨arr, h1, h2⟩
theorem AskBlk.cel {w : World} {t : TypeId} {g n k : Nat} {l : List Ask} (h : AskBlk w t g n k l) : Cel w t g (n * 5) := let ⟨arr, h1, h2, _⟩ := h; ⟨arr, h1, h2⟩
theorem MacBlk.cel {w : World} {t : TypeId} {g n k : Nat} {l : List Mac} (h : MacBlk w t g n k l) : Cel w t g (n * 4) := let ⟨arr, h1, h2, _⟩ := h; ⟨arr, h1, h2⟩
theorem ConBlk.cel {w : World} {t : TypeId} {g n k : Nat} {l : List Con} (h : ConBlk w t g n k l) : Cel w t g (n * 5) := let ⟨arr, h1, h2, _⟩ := h; ⟨arr, h1, h2⟩
theorem ApplBlk.cel {w : World} {t : TypeId} {g n k : Nat} {l : List Appl} (h : ApplBlk w t g n k l) : Cel w t g (n * 3) := let ⟨arr, h1, h2, _⟩ := h; ⟨arr, h1, h2⟩

/-- of all that was there nothing has turned but cells of the blocks from B on to E -/
structure Mkd (B E : Nat) (w w' : World) : Prop where
  os : w'.os = w.os
  tape : w'.tape = w.tape
  output : w'.output = w.output
  size : w.heap.size ≤ w'.heap.size
  block : ∀ k, k < w.heap.size → (k < B ∨ E ≤ k) → w'.heap[k]? = w.heap[k]?
  cel : ∀ t g N, Cel w t g N → Cel w' t g N
theorem Mkd.refl (B E : Nat) (w : World) : Mkd B E w w := ⟨rfl, rfl, rfl, Nat.le_refl _, fun _ _ _ => rfl, fun _ _ _ h => h⟩
theorem Mkd.trans {B E : Nat} {a b c : World} (h : Mkd B E a b) (k : Mkd B E b c) : Mkd B E a c :=
  ⟨k.os.trans h.os, k.tape.trans h.tape, k.output.trans h.output, Nat.le_trans h.size k.size, fun i hi ho => (k.block i (Nat.lt_of_lt_of_le hi h.size) ho).trans (h.block i hi ho), fun t g N x => k.cel t g N (h.cel t g N x)⟩
theorem Mkd.mono {B E B' E' : Nat} {a b : World} (h : Mkd B E a b) (h1 : B' ≤ B) (h2 : E ≤ E') : Mkd B' E' a b :=
  ⟨h.os, h.tape, h.output, h.size, fun i hi ho => h.block i hi (by omega), h.cel⟩
theorem Mkd.of_below {B E : Nat} {w w' : World} (hb : Below w.heap.size w w') : Mkd B E w w' := ⟨hb.os, hb.tape, hb.output, hb.size, fun i hi _ => hb.block i hi, fun t g N x => x.below hb⟩
theorem Mkd.on {B E : Nat} {a w w' : World} (h : Mkd B E a w) (hb : Below w.heap.size w w') : Mkd B E a w' := h.trans (.of_below hb)
theorem Mkd.sc {B E : Nat} {a w : World} (h : Mkd B E a w) (g j : Nat) (v : Value) (h1 : B ≤ g) (h2 : g < E) : Mkd B E a (w.setCell ⟨g, j, none⟩ v) :=
  h.trans ⟨rfl, rfl, rfl, by simp [World.setCell], fun k _ ho => Below.heap_setCell _ _ _ _ (by show k ≠ g; omega), fun t g' N x => x.set g j v⟩
/-- below B all stands -/
theorem Mkd.below {B E : Nat} {a w : World} (h : Mkd B E a w) (hB : B ≤ a.heap.size) : Below B a w := ⟨h.os, h.tape, h.output, h.size, fun k hk => h.block k (by omega) (.inl hk)⟩
theorem Mkd.blk {B E g : Nat} {a w : World} {arr : Array Value} {t : TypeId} (h : Mkd B E a w) (hb : Blk a g arr t) (ho : g < B ∨ E ≤ g) : Blk w g arr t := (h.block g hb.lt ho).trans hb
end Go.Proofs.YtdkgmfogeabaoaaGreat

/-
  The laws' own markMachineS, from any number on, and heldMachineS: what is marked in a row, and found again (gmf.py wrote this); walks over the dump.
-/
namespace Go.Proofs.YtdkgmfogeabaoaaGreat
open Go.RowKit
set_option linter.unusedVariables false
set_option linter.unusedSimpArgs false

def markM (k j : Nat) : Mac := ⟨109 :: dgs (k + 4 * j), (k : Int) + 4 * (j : Int) + 1, (k : Int) + 4 * (j : Int) + 1 + 1, (k : Int) + 4 * (j : Int) + 1 + 1 + 1⟩
def marksM (k n : Nat) : List Mac := (List.range n).map (markM k)
theorem marksM_len (k n : Nat) : (marksM k n).length = n := by simp [marksM]
theorem marksM_at (k n j : Nat) (h : j < (marksM k n).length) : (marksM k n)[j] = markM k j := by simp [marksM]
theorem MacBlk.tail {w : World} {t : TypeId} {g n k : Nat} {l : List Mac} (h : MacBlk w t g n k l) {p : Nat} (hp : k * 4 ≤ p) (v : Value) : MacBlk (w.setCell ⟨g, p, none⟩ v) t g n k l := by
  obtain ⟨arr, h1, h2, h3⟩ := h
  refine ⟨_, heap_setCell_same w g p _ _ v h1, by simp [h2], fun i hi hik => ?_⟩
  obtain ⟨a, b, c, d⟩ := h3 i hi hik
  refine ⟨?_, ?_, ?_, ?_⟩
  · rw [← a, Array.getElem?_setIfInBounds, if_neg (by omega)]
  · rw [← b, Array.getElem?_setIfInBounds, if_neg (by omega)]
  · rw [← c, Array.getElem?_setIfInBounds, if_neg (by omega)]
  · rw [← d, Array.getElem?_setIfInBounds, if_neg (by omega)]
theorem MacBlk.next {w : World} {t : TypeId} {g n k : Nat} {l : List Mac} (h : MacBlk w t g n k l) (c : ∀ hk : k < l.length, MacAt w g (k * 4) l[k]) : MacBlk w t g n (k + 1) l := by
  obtain ⟨arr, h1, h2, h3⟩ := h
  refine ⟨arr, h1, h2, fun i hi hik => ?_⟩
  by_cases e : i = k
  · subst e
    obtain ⟨c0, c1, c2, c3⟩ := c hi
    simp [World.cell?, h1] at c0 c1 c2 c3
    exact ⟨c0, c1, c2, c3⟩
  · exact h3 i hi (by omega)
theorem MacBlk.rowOf {w : World} {t : TypeId} {g c n : Nat} {l : List Mac} (h : MacBlk w t g c n l) (hl : n = l.length) : MacRow w (some ⟨g, 0, none⟩) n l := by
  obtain ⟨arr, h1, h2, h3⟩ := h
  refine ⟨hl, .inr ⟨g, 0, rfl, fun i hi => ?_⟩⟩
  obtain ⟨a, b, c, d⟩ := h3 i hi (by omega)
  unfold MacAt
  simp only [Nat.zero_add]
  exact ⟨by simp [World.cell?, h1, a], by simp [World.cell?, h1, b], by simp [World.cell?, h1, c], by simp [World.cell?, h1, d]⟩
theorem cellKeepM {w : World} {g p q : Nat} {u v : Value} (h : w.cell? ⟨g, p, none⟩ = some u) (hne : q ≠ p) : (w.setCell ⟨g, q, none⟩ v).cell? ⟨g, p, none⟩ = some u :=
  (World.cell?_setCell_other _ _ _ _ (fun e => hne (congrArg Addr.off e))).trans h
theorem cellBelM {w w' : World} {g p : Nat} {u : Value} (h : w.cell? ⟨g, p, none⟩ = some u) (hb : Below w.heap.size w w') : w'.cell? ⟨g, p, none⟩ = some u := (hb.cell (cell_lt h)).trans h

set_option maxRecDepth 100000 in
set_option maxHeartbeats 4000000 in
theorem markMachineS_full (g n c K : Nat) {d : Nat} (w : World) (h : Cel w 103 g (c * 4)) (hc : n ≤ c) (hn : n ≤ 1048576) (h0 : 0 < K) (h1 : K ≤ 1000000000000000) :
    Calls Tryz.prog 45 #[.slice (some ⟨g, 0, none⟩) n d, .int .i64 (K : Int)] w fun e w' => e = .returned (.int .i64 ((K : Int) + 4 * (n : Int))) ∧ MacRow w' (some ⟨g, 0, none⟩) n (marksM K n) ∧ Mkd g (g + 1) w w' := by
  have HQ0 := hide (show MacBlk w 103 g c 0 (marksM K n) by obtain ⟨arr, h1, h2⟩ := h; exact ⟨arr, h1, h2, fun i _ h => absurd h (by omega)⟩)
  clear h
  go_enter Tryz.func45, Tryz.ntmps45
  go_wp2
  go_loopw [1, 5] (fun s i wr => ∃ (j : Nat) (k : Int), j ≤ n ∧ i = .int .i64 j ∧ s = .int .i64 k ∧ k = (K : Int) + 4 * (j : Int) ∧ Hid (MacBlk wr 103 g c j (marksM K n)) ∧ Hid (Mkd g (g + 1) w wr)) (fun _ i _ => n - (intOf i).toNat)
  case atStart => exact ⟨0, K, Nat.zero_le _, rfl, rfl, by omega, HQ0, hide (Mkd.refl _ _ _)⟩
  case round =>
    obtain ⟨j, k, hj, rfl, rfl, hk, HQ, HG⟩ := hrel
    by_cases hlt : j < n
    · have HK := hide hk
      have hk0 : 0 < k := by omega
      have hk1 : k ≤ 1000000010000000 := by omega
      clear hk
      go_wp2_with fail
      refine (markText_int (k) _ (by omega) (by omega)).mono ?_
      rintro e w1 ⟨rfl, hb⟩
      have HQt := hide ((unhide HQ).below hb)
      have HGt := hide ((unhide HG).on hb)
      clear HQ HG hb
      obtain ⟨v0, d0⟩ := (unhide HQt).cell (j := j * 4) (by omega)
      have f0 := (unhide HQt).frozen (j * 4)
      have Z0_1 := hide (World.cell?_setCell_same _ ⟨g, j * 4, none⟩ (.string (mk (k).toNat)) d0)
      have HQ1z := hide ((unhide HQt).tail (p := j * 4) (by omega) (.string (mk (k).toNat)))
      have HG1z := hide ((unhide HGt).sc g (j * 4) (.string (mk (k).toNat)) (Nat.le_refl _) (by omega))
      obtain ⟨v1, d1⟩ := (unhide HQ1z).cell (j := j * 4 + 1) (by omega)
      have f1 := (unhide HQ1z).frozen (j * 4 + 1)
      have Z0_2 := hide (cellKeepM (q := j * 4 + 1) (v := .int .i64 (k + 1)) (unhide Z0_1) (by omega))
      have Z1_3 := hide (World.cell?_setCell_same _ ⟨g, j * 4 + 1, none⟩ (.int .i64 (k + 1)) d1)
      have HQ2z := hide ((unhide HQ1z).tail (p := j * 4 + 1) (by omega) (.int .i64 (k + 1)))
      have HG2z := hide ((unhide HG1z).sc g (j * 4 + 1) (.int .i64 (k + 1)) (Nat.le_refl _) (by omega))
      obtain ⟨v2, d2⟩ := (unhide HQ2z).cell (j := j * 4 + 2) (by omega)
      have f2 := (unhide HQ2z).frozen (j * 4 + 2)
      have Z0_4 := hide (cellKeepM (q := j * 4 + 2) (v := .int .i64 (k + 1 + 1)) (unhide Z0_2) (by omega))
      have Z1_5 := hide (cellKeepM (q := j * 4 + 2) (v := .int .i64 (k + 1 + 1)) (unhide Z1_3) (by omega))
      have Z2_6 := hide (World.cell?_setCell_same _ ⟨g, j * 4 + 2, none⟩ (.int .i64 (k + 1 + 1)) d2)
      have HQ3z := hide ((unhide HQ2z).tail (p := j * 4 + 2) (by omega) (.int .i64 (k + 1 + 1)))
      have HG3z := hide ((unhide HG2z).sc g (j * 4 + 2) (.int .i64 (k + 1 + 1)) (Nat.le_refl _) (by omega))
      obtain ⟨v3, d3⟩ := (unhide HQ3z).cell (j := j * 4 + 3) (by omega)
      have f3 := (unhide HQ3z).frozen (j * 4 + 3)
      have HN := hide (show MacBlk _ 103 g c (j + 1) (marksM K n) from ((unhide HQ3z).tail (p := j * 4 + 3) (by omega) (.int .i64 (k + 1 + 1 + 1))).next (fun hj' => by
        rw [marksM_at]
        have e1 : (k).toNat = K + 4 * j := by have := unhide HK; omega
        have e3 := unhide HK
        have y0 := cellKeepM (q := j * 4 + 3) (v := .int .i64 (k + 1 + 1 + 1)) (unhide Z0_4) (by omega)
        have y1 := cellKeepM (q := j * 4 + 3) (v := .int .i64 (k + 1 + 1 + 1)) (unhide Z1_5) (by omega)
        have y2 := cellKeepM (q := j * 4 + 3) (v := .int .i64 (k + 1 + 1 + 1)) (unhide Z2_6) (by omega)
        have y3 := World.cell?_setCell_same _ ⟨g, j * 4 + 3, none⟩ (.int .i64 (k + 1 + 1 + 1)) d3
        refine ⟨y0.trans ?_, y1.trans ?_, y2.trans ?_, y3.trans ?_⟩
        · rw [e1]; rfl
        · rw [e3]; rfl
        · rw [e3]; rfl
        · rw [e3]; rfl))
      have HGn := hide ((unhide HG3z).sc g (j * 4 + 3) (.int .i64 (k + 1 + 1 + 1)) (Nat.le_refl _) (by omega))
      clear HQt HGt Z0_1 HQ1z HG1z Z0_2 Z1_3 HQ2z HG2z HG3z Z0_4 Z1_5 Z2_6
      go_wp2
      go_roundw
      case rel => exact ⟨j + 1, k + 1 + 1 + 1 + 1, by omega, by go_num, by go_num, by have := unhide HK; omega, HN, HGn⟩
      case measure => simp [intOf]; omega
    · have hjn : j = n := by omega
      subst hjn
      go_wp2
      go_ret
      exact ⟨ret_int (by omega), (unhide HQ).rowOf (by rw [marksM_len]), unhide HG⟩

/-- one stands at a place; of w0 nothing has turned -/
def MacOne (w0 : World) (b p : Nat) (q : Mac) (w : World) : Prop := MacAt w b p q ∧ Below w0.heap.size w0 w
theorem MacOne.call {w0 w w' : World} {b p : Nat} {q : Mac} (h : MacOne w0 b p q w) (hb : Below w.heap.size w w') : MacOne w0 b p q w' := ⟨h.1.below hb, below_on h.2 hb⟩
theorem MacOne.drew {w0 w : World} {b p : Nat} {q : Mac} (h : MacOne w0 b p q w) : MacOne w0 b p q w.drew := h.call (Below.refl _ _).drew
theorem MacOne.read (w0 : World) (b p : Nat) (q : Mac) : ∀ wx, MacOne w0 b p q wx → wx.cell? ⟨b, p, none⟩ = some (.string (bs q.name)) ∧ wx.cell? ⟨b, p + 1, none⟩ = some (.int .i64 q.mem) ∧ wx.cell? ⟨b, p + 2, none⟩ = some (.int .i64 q.cpu) ∧ wx.cell? ⟨b, p + 3, none⟩ = some (.int .i64 q.seen) := fun wx h => h.1
set_option maxRecDepth 100000 in
set_option maxHeartbeats 2000000 in
theorem heldMachineS_any (ao : Option Addr) (n c K : Nat) (w : World) (h : MacRow w ao n (marksM K n)) (hn : n ≤ 1048576) (h0 : 0 < K) (h1 : K ≤ 1000000000000000) :
    Calls Tryz.prog 49 #[.slice ao n c, .int .i64 (K : Int)] w fun e w' => e = .returned (.int .i64 ((K : Int) + 4 * (n : Int))) ∧ Below w.heap.size w w' := by
  have HR := hide h
  clear h
  go_enter Tryz.func49, Tryz.ntmps49
  go_wp2
  go_loopw [1, 5] (fun s i wr => ∃ (j : Nat) (k : Int), j ≤ n ∧ i = .int .i64 j ∧ s = .int .i64 k ∧ k = (K : Int) + 4 * (j : Int) ∧ Hid (Below w.heap.size w wr)) (fun _ i _ => n - (intOf i).toNat)
  case atStart => exact ⟨0, K, Nat.zero_le _, rfl, rfl, by omega, hide (Below.refl _ _)⟩
  case round =>
    obtain ⟨j, k, hj, rfl, rfl, hk, HB⟩ := hrel
    by_cases hlt : j < n
    · obtain ⟨b, off, rfl, hq⟩ := ((unhide HR).below (unhide HB)).at hlt
      have hqq := hq (by rw [marksM_len]; exact hlt)
      rw [marksM_at] at hqq
      have T0 : ∀ wx, Calls Tryz.prog 46 #[.int .i64 (k)] wx fun e w' => e = .returned (.string (bs (markM K j).name)) ∧ Below wx.heap.size wx w' := fun wx => by
        have := markText_int (k) wx (by omega) (by omega)
        rw [show (k).toNat = K + 4 * j by omega] at this
        exact this
      have h_1 : (markM K j).mem = k + 1 := by rw [hk]; rfl
      have h_2 : (markM K j).cpu = k + 1 + 1 := by rw [hk]; rfl
      have h_3 : (markM K j).seen = k + 1 + 1 + 1 := by rw [hk]; rfl
      obtain ⟨q, hqe⟩ : ∃ q, markM K j = q := ⟨_, rfl⟩
      rw [hqe] at hqq T0 h_1 h_2 h_3
      have A0 := hide (show MacOne w b (off + j * 4) q wr from ⟨hqq, unhide HB⟩)
      have C0 := hide T0
      have HK := hide hk
      have H_1 := hide h_1
      have H_2 := hide h_2
      have H_3 := hide h_3
      have R := MacOne.read w b (off + j * 4) q
      have R' := hide R
      obtain ⟨_, _, _, _⟩ := R _ (unhide A0)
      have j0 : (0 : Int) ≤ j := by omega
      have j1 : (j : Int) < n := by omega
      have hk0 : 0 < k := by omega
      have hk1 : k ≤ 1000000010000000 := by omega
      clear hq hqq T0 hqe hk h_1 h_2 h_3 R
      go_wp2_with fail
      have R := unhide R'
      go_region_held3 (fun wx => MacOne w b (off + j * 4) q wx)
        (first | (with_reducible assumption) | exact (unhide A0).drew | exact MacOne.call (by assumption) (by assumption))
        (first
        | (go_at_call 46; refine (unhide C0 _).mono ?_; rintro e wt ⟨rfl, hb⟩; have SA := MacOne.call (w0 := w) (b := b) (p := off + j * 4) (q := q) (by assumption) hb))
      obtain ⟨_, r1, r2, r3⟩ := R _ SA
      rw [unhide H_1] at r1
      rw [unhide H_2] at r2
      rw [unhide H_3] at r3
      have HB2 := hide SA.2
      clear SA A0 R C0 R'
      go_wp2
      go_roundw
      case rel => exact ⟨j + 1, k + 1 + 1 + 1 + 1, by omega, by go_num, by go_num, by have := unhide HK; omega, HB2⟩
      case measure => simp [intOf]; omega
    · have hjn : j = n := by omega
      subst hjn
      go_wp2
      go_ret
      exact ⟨ret_int (by omega), unhide HB⟩
end Go.Proofs.YtdkgmfogeabaoaaGreat

/-
  The laws' own markContS, from any number on, and heldContS: what is marked in a row, and found again (gmf.py wrote this); walks over the dump.
-/
namespace Go.Proofs.YtdkgmfogeabaoaaGreat
open Go.RowKit
set_option linter.unusedVariables false
set_option linter.unusedSimpArgs false

def markC (k j : Nat) : Con := ⟨(k : Int) + 5 * (j : Int), (k : Int) + 5 * (j : Int) + 1, 109 :: dgs (k + 5 * j + 1 + 1), (k : Int) + 5 * (j : Int) + 1 + 1 + 1, (k : Int) + 5 * (j : Int) + 1 + 1 + 1 + 1⟩
def marksC (k n : Nat) : List Con := (List.range n).map (markC k)
theorem marksC_len (k n : Nat) : (marksC k n).length = n := by simp [marksC]
theorem marksC_at (k n j : Nat) (h : j < (marksC k n).length) : (marksC k n)[j] = markC k j := by simp [marksC]
theorem ConBlk.tail {w : World} {t : TypeId} {g n k : Nat} {l : List Con} (h : ConBlk w t g n k l) {p : Nat} (hp : k * 5 ≤ p) (v : Value) : ConBlk (w.setCell ⟨g, p, none⟩ v) t g n k l := by
  obtain ⟨arr, h1, h2, h3⟩ := h
  refine ⟨_, heap_setCell_same w g p _ _ v h1, by simp [h2], fun i hi hik => ?_⟩
  obtain ⟨a, b, c, d, e⟩ := h3 i hi hik
  refine ⟨?_, ?_, ?_, ?_, ?_⟩
  · rw [← a, Array.getElem?_setIfInBounds, if_neg (by omega)]
  · rw [← b, Array.getElem?_setIfInBounds, if_neg (by omega)]
  · rw [← c, Array.getElem?_setIfInBounds, if_neg (by omega)]
  · rw [← d, Array.getElem?_setIfInBounds, if_neg (by omega)]
  · rw [← e, Array.getElem?_setIfInBounds, if_neg (by omega)]
theorem ConBlk.next {w : World} {t : TypeId} {g n k : Nat} {l : List Con} (h : ConBlk w t g n k l) (c : ∀ hk : k < l.length, ConAt w g (k * 5) l[k]) : ConBlk w t g n (k + 1) l := by
  obtain ⟨arr, h1, h2, h3⟩ := h
  refine ⟨arr, h1, h2, fun i hi hik => ?_⟩
  by_cases e : i = k
  · subst e
    obtain ⟨c0, c1, c2, c3, c4⟩ := c hi
    simp [World.cell?, h1] at c0 c1 c2 c3 c4
    exact ⟨c0, c1, c2, c3, c4⟩
  · exact h3 i hi (by omega)
theorem ConBlk.rowOf {w : World} {t : TypeId} {g c n : Nat} {l : List Con} (h : ConBlk w t g c n l) (hl : n = l.length) : ConRow w (some ⟨g, 0, none⟩) n l := by
  obtain ⟨arr, h1, h2, h3⟩ := h
  refine ⟨hl, .inr ⟨g, 0, rfl, fun i hi => ?_⟩⟩
  obtain ⟨a, b, c, d, e⟩ := h3 i hi (by omega)
  unfold ConAt
  simp only [Nat.zero_add]
  exact ⟨by simp [World.cell?, h1, a], by simp [World.cell?, h1, b], by simp [World.cell?, h1, c], by simp [World.cell?, h1, d], by simp [World.cell?, h1, e]⟩
theorem cellKeepC {w : World} {g p q : Nat} {u v : Value} (h : w.cell? ⟨g, p, none⟩ = some u) (hne : q ≠ p) : (w.setCell ⟨g, q, none⟩ v).cell? ⟨g, p, none⟩ = some u :=
  (World.cell?_setCell_other _ _ _ _ (fun e => hne (congrArg Addr.off e))).trans h
theorem cellBelC {w w' : World} {g p : Nat} {u : Value} (h : w.cell? ⟨g, p, none⟩ = some u) (hb : Below w.heap.size w w') : w'.cell? ⟨g, p, none⟩ = some u := (hb.cell (cell_lt h)).trans h

set_option maxRecDepth 100000 in
set_option maxHeartbeats 4000000 in
theorem markContS_full (g n c K : Nat) {d : Nat} (w : World) (h : Cel w 61 g (c * 5)) (hc : n ≤ c) (hn : n ≤ 1048576) (h0 : 0 < K) (h1 : K ≤ 1000000000000000) :
    Calls Tryz.prog 16 #[.slice (some ⟨g, 0, none⟩) n d, .int .i64 (K : Int)] w fun e w' => e = .returned (.int .i64 ((K : Int) + 5 * (n : Int))) ∧ ConRow w' (some ⟨g, 0, none⟩) n (marksC K n) ∧ Mkd g (g + 1) w w' := by
  have HQ0 := hide (show ConBlk w 61 g c 0 (marksC K n) by obtain ⟨arr, h1, h2⟩ := h; exact ⟨arr, h1, h2, fun i _ h => absurd h (by omega)⟩)
  clear h
  go_enter Tryz.func16, Tryz.ntmps16
  go_wp2
  go_loopw [1, 5] (fun s i wr => ∃ (j : Nat) (k : Int), j ≤ n ∧ i = .int .i64 j ∧ s = .int .i64 k ∧ k = (K : Int) + 5 * (j : Int) ∧ Hid (ConBlk wr 61 g c j (marksC K n)) ∧ Hid (Mkd g (g + 1) w wr)) (fun _ i _ => n - (intOf i).toNat)
  case atStart => exact ⟨0, K, Nat.zero_le _, rfl, rfl, by omega, HQ0, hide (Mkd.refl _ _ _)⟩
  case round =>
    obtain ⟨j, k, hj, rfl, rfl, hk, HQ, HG⟩ := hrel
    by_cases hlt : j < n
    · have HK := hide hk
      have hk0 : 0 < k := by omega
      have hk1 : k ≤ 1000000010000000 := by omega
      clear hk
      obtain ⟨v0, d0⟩ := (unhide HQ).cell (j := j * 5) (by omega)
      have f0 := (unhide HQ).frozen (j * 5)
      have X0_1 := hide (World.cell?_setCell_same _ ⟨g, j * 5, none⟩ (.int .i64 (k)) d0)
      have HQ1 := hide ((unhide HQ).tail (p := j * 5) (by omega) (.int .i64 (k)))
      have HG1 := hide ((unhide HG).sc g (j * 5) (.int .i64 (k)) (Nat.le_refl _) (by omega))
      obtain ⟨v1, d1⟩ := (unhide HQ1).cell (j := j * 5 + 1) (by omega)
      have f1 := (unhide HQ1).frozen (j * 5 + 1)
      have X0_2 := hide (cellKeepC (q := j * 5 + 1) (v := .int .i64 (k + 1)) (unhide X0_1) (by omega))
      have X1_3 := hide (World.cell?_setCell_same _ ⟨g, j * 5 + 1, none⟩ (.int .i64 (k + 1)) d1)
      have HQ2 := hide ((unhide HQ1).tail (p := j * 5 + 1) (by omega) (.int .i64 (k + 1)))
      have HG2 := hide ((unhide HG1).sc g (j * 5 + 1) (.int .i64 (k + 1)) (Nat.le_refl _) (by omega))
      clear HQ HG X0_1 HQ1 HG1
      go_wp2_with fail
      refine (markText_int (k + 1 + 1) _ (by omega) (by omega)).mono ?_
      rintro e w1 ⟨rfl, hb⟩
      have HQt := hide ((unhide HQ2).below hb)
      have HGt := hide ((unhide HG2).on hb)
      have Y0 := hide (cellBelC (unhide X0_2) hb)
      have Y1 := hide (cellBelC (unhide X1_3) hb)
      clear HQ2 HG2 X0_2 X1_3 hb d0 f0 d1 f1
      obtain ⟨v2, d2⟩ := (unhide HQt).cell (j := j * 5 + 2) (by omega)
      have f2 := (unhide HQt).frozen (j * 5 + 2)
      have Z0_4 := hide (cellKeepC (q := j * 5 + 2) (v := .string (mk (k + 1 + 1).toNat)) (unhide Y0) (by omega))
      have Z1_5 := hide (cellKeepC (q := j * 5 + 2) (v := .string (mk (k + 1 + 1).toNat)) (unhide Y1) (by omega))
      have Z2_6 := hide (World.cell?_setCell_same _ ⟨g, j * 5 + 2, none⟩ (.string (mk (k + 1 + 1).toNat)) d2)
      have HQ3z := hide ((unhide HQt).tail (p := j * 5 + 2) (by omega) (.string (mk (k + 1 + 1).toNat)))
      have HG3z := hide ((unhide HGt).sc g (j * 5 + 2) (.string (mk (k + 1 + 1).toNat)) (Nat.le_refl _) (by omega))
      obtain ⟨v3, d3⟩ := (unhide HQ3z).cell (j := j * 5 + 3) (by omega)
      have f3 := (unhide HQ3z).frozen (j * 5 + 3)
      have Z0_7 := hide (cellKeepC (q := j * 5 + 3) (v := .int .i64 (k + 1 + 1 + 1)) (unhide Z0_4) (by omega))
      have Z1_8 := hide (cellKeepC (q := j * 5 + 3) (v := .int .i64 (k + 1 + 1 + 1)) (unhide Z1_5) (by omega))
      have Z2_9 := hide (cellKeepC (q := j * 5 + 3) (v := .int .i64 (k + 1 + 1 + 1)) (unhide Z2_6) (by omega))
      have Z3_10 := hide (World.cell?_setCell_same _ ⟨g, j * 5 + 3, none⟩ (.int .i64 (k + 1 + 1 + 1)) d3)
      have HQ4z := hide ((unhide HQ3z).tail (p := j * 5 + 3) (by omega) (.int .i64 (k + 1 + 1 + 1)))
      have HG4z := hide ((unhide HG3z).sc g (j * 5 + 3) (.int .i64 (k + 1 + 1 + 1)) (Nat.le_refl _) (by omega))
      obtain ⟨v4, d4⟩ := (unhide HQ4z).cell (j := j * 5 + 4) (by omega)
      have f4 := (unhide HQ4z).frozen (j * 5 + 4)
      have HN := hide (show ConBlk _ 61 g c (j + 1) (marksC K n) from ((unhide HQ4z).tail (p := j * 5 + 4) (by omega) (.int .i64 (k + 1 + 1 + 1 + 1))).next (fun hj' => by
        rw [marksC_at]
        have e1 : (k + 1 + 1).toNat = K + 5 * j + 1 + 1 := by have := unhide HK; omega
        have e3 := unhide HK
        have y0 := cellKeepC (q := j * 5 + 4) (v := .int .i64 (k + 1 + 1 + 1 + 1)) (unhide Z0_7) (by omega)
        have y1 := cellKeepC (q := j * 5 + 4) (v := .int .i64 (k + 1 + 1 + 1 + 1)) (unhide Z1_8) (by omega)
        have y2 := cellKeepC (q := j * 5 + 4) (v := .int .i64 (k + 1 + 1 + 1 + 1)) (unhide Z2_9) (by omega)
        have y3 := cellKeepC (q := j * 5 + 4) (v := .int .i64 (k + 1 + 1 + 1 + 1)) (unhide Z3_10) (by omega)
        have y4 := World.cell?_setCell_same _ ⟨g, j * 5 + 4, none⟩ (.int .i64 (k + 1 + 1 + 1 + 1)) d4
        refine ⟨y0.trans ?_, y1.trans ?_, y2.trans ?_, y3.trans ?_, y4.trans ?_⟩
        · rw [e3]; rfl
        · rw [e3]; rfl
        · rw [e1]; rfl
        · rw [e3]; rfl
        · rw [e3]; rfl))
      have HGn := hide ((unhide HG4z).sc g (j * 5 + 4) (.int .i64 (k + 1 + 1 + 1 + 1)) (Nat.le_refl _) (by omega))
      clear Y0 Y1 HQt HGt Z0_4 Z1_5 Z2_6 HQ3z HG3z HG4z Z0_7 Z1_8 Z2_9 Z3_10
      go_wp2
      go_roundw
      case rel => exact ⟨j + 1, k + 1 + 1 + 1 + 1 + 1, by omega, by go_num, by go_num, by have := unhide HK; omega, HN, HGn⟩
      case measure => simp [intOf]; omega
    · have hjn : j = n := by omega
      subst hjn
      go_wp2
      go_ret
      exact ⟨ret_int (by omega), (unhide HQ).rowOf (by rw [marksC_len]), unhide HG⟩

/-- one stands at a place; of w0 nothing has turned -/
def ConOne (w0 : World) (b p : Nat) (q : Con) (w : World) : Prop := ConAt w b p q ∧ Below w0.heap.size w0 w
theorem ConOne.call {w0 w w' : World} {b p : Nat} {q : Con} (h : ConOne w0 b p q w) (hb : Below w.heap.size w w') : ConOne w0 b p q w' := ⟨h.1.below hb, below_on h.2 hb⟩
theorem ConOne.drew {w0 w : World} {b p : Nat} {q : Con} (h : ConOne w0 b p q w) : ConOne w0 b p q w.drew := h.call (Below.refl _ _).drew
theorem ConOne.read (w0 : World) (b p : Nat) (q : Con) : ∀ wx, ConOne w0 b p q wx → wx.cell? ⟨b, p, none⟩ = some (.int .i64 q.id) ∧ wx.cell? ⟨b, p + 1, none⟩ = some (.int .i64 q.app) ∧ wx.cell? ⟨b, p + 2, none⟩ = some (.string (bs q.node)) ∧ wx.cell? ⟨b, p + 3, none⟩ = some (.int .i64 q.mem) ∧ wx.cell? ⟨b, p + 4, none⟩ = some (.int .i64 q.cpu) := fun wx h => h.1
set_option maxRecDepth 100000 in
set_option maxHeartbeats 2000000 in
theorem heldContS_any (ao : Option Addr) (n c K : Nat) (w : World) (h : ConRow w ao n (marksC K n)) (hn : n ≤ 1048576) (h0 : 0 < K) (h1 : K ≤ 1000000000000000) :
    Calls Tryz.prog 18 #[.slice ao n c, .int .i64 (K : Int)] w fun e w' => e = .returned (.int .i64 ((K : Int) + 5 * (n : Int))) ∧ Below w.heap.size w w' := by
  have HR := hide h
  clear h
  go_enter Tryz.func18, Tryz.ntmps18
  go_wp2
  go_loopw [1, 5] (fun s i wr => ∃ (j : Nat) (k : Int), j ≤ n ∧ i = .int .i64 j ∧ s = .int .i64 k ∧ k = (K : Int) + 5 * (j : Int) ∧ Hid (Below w.heap.size w wr)) (fun _ i _ => n - (intOf i).toNat)
  case atStart => exact ⟨0, K, Nat.zero_le _, rfl, rfl, by omega, hide (Below.refl _ _)⟩
  case round =>
    obtain ⟨j, k, hj, rfl, rfl, hk, HB⟩ := hrel
    by_cases hlt : j < n
    · obtain ⟨b, off, rfl, hq⟩ := ((unhide HR).below (unhide HB)).at hlt
      have hqq := hq (by rw [marksC_len]; exact hlt)
      rw [marksC_at] at hqq
      have T0 : ∀ wx, Calls Tryz.prog 46 #[.int .i64 (k + 1 + 1)] wx fun e w' => e = .returned (.string (bs (markC K j).node)) ∧ Below wx.heap.size wx w' := fun wx => by
        have := markText_int (k + 1 + 1) wx (by omega) (by omega)
        rw [show (k + 1 + 1).toNat = K + 5 * j + 1 + 1 by omega] at this
        exact this
      have h_0 : (markC K j).id = k := by rw [hk]; rfl
      have h_1 : (markC K j).app = k + 1 := by rw [hk]; rfl
      have h_3 : (markC K j).mem = k + 1 + 1 + 1 := by rw [hk]; rfl
      have h_4 : (markC K j).cpu = k + 1 + 1 + 1 + 1 := by rw [hk]; rfl
      obtain ⟨q, hqe⟩ : ∃ q, markC K j = q := ⟨_, rfl⟩
      rw [hqe] at hqq T0 h_0 h_1 h_3 h_4
      have A0 := hide (show ConOne w b (off + j * 5) q wr from ⟨hqq, unhide HB⟩)
      have C0 := hide T0
      have HK := hide hk
      have H_0 := hide h_0
      have H_1 := hide h_1
      have H_3 := hide h_3
      have H_4 := hide h_4
      have R := ConOne.read w b (off + j * 5) q
      have R' := hide R
      obtain ⟨r0, r1, _, _, _⟩ := R _ (unhide A0)
      rw [h_0] at r0
      rw [h_1] at r1
      have j0 : (0 : Int) ≤ j := by omega
      have j1 : (j : Int) < n := by omega
      have hk0 : 0 < k := by omega
      have hk1 : k ≤ 1000000010000000 := by omega
      have hw1 : IntKind.i64.wrap (k + 1) = k + 1 := by rw [IntKind.wrap_i64]; omega
      have hw2 : IntKind.i64.wrap (k + 1 + 1) = k + 1 + 1 := by rw [IntKind.wrap_i64]; omega
      clear hq hqq T0 hqe hk h_0 h_1 h_3 h_4 R
      go_wp2_with fail
      have R := unhide R'
      clear r0 r1
      go_region_held3 (fun wx => ConOne w b (off + j * 5) q wx)
        (first | (with_reducible assumption) | exact (unhide A0).drew | exact ConOne.call (by assumption) (by assumption))
        (first
        | (go_at_call 46; refine (unhide C0 _).mono ?_; rintro e wt ⟨rfl, hb⟩; have SA := ConOne.call (w0 := w) (b := b) (p := off + j * 5) (q := q) (by assumption) hb))
      obtain ⟨_, _, _, r3, r4⟩ := R _ SA
      rw [unhide H_3] at r3
      rw [unhide H_4] at r4
      have HB2 := hide SA.2
      clear SA A0 R C0 R'
      go_wp2
      go_roundw
      case rel => exact ⟨j + 1, k + 1 + 1 + 1 + 1 + 1, by omega, by go_num, by go_num, by have := unhide HK; omega, HB2⟩
      case measure => simp [intOf]; omega
    · have hjn : j = n := by omega
      subst hjn
      go_wp2
      go_ret
      exact ⟨ret_int (by omega), unhide HB⟩
end Go.Proofs.YtdkgmfogeabaoaaGreat

/-
  The laws' own markAskS, from any number on, and heldAskS: what is marked in a row of asks, and found again; walks over the dump.
-/
namespace Go.Proofs.YtdkgmfogeabaoaaGreat
open Go.RowKit
set_option linter.unusedVariables false

/-- the ask of marks at place j, from k on -/
def markA (k j : Nat) : Ask := ⟨(k : Int) + 5 * (j : Int), (k : Int) + 5 * (j : Int) + 1, (k : Int) + 5 * (j : Int) + 1 + 1, 109 :: dgs (k + 5 * j + 1 + 1 + 1), (k : Int) + 5 * (j : Int) + 1 + 1 + 1 + 1⟩
def marksA (k n : Nat) : List Ask := (List.range n).map (markA k)
theorem marksA_len (k n : Nat) : (marksA k n).length = n := by simp [marksA]
theorem marksA_at (k n j : Nat) (h : j < (marksA k n).length) : (marksA k n)[j] = markA k j := by simp [marksA]
theorem AskBlk.tail {w : World} {t : TypeId} {g n k : Nat} {l : List Ask} (h : AskBlk w t g n k l) {p : Nat} (hp : k * 5 ≤ p) (v : Value) : AskBlk (w.setCell ⟨g, p, none⟩ v) t g n k l := by
  obtain ⟨arr, h1, h2, h3⟩ := h
  refine ⟨_, heap_setCell_same w g p _ _ v h1, by simp [h2], fun i hi hik => ?_⟩
  obtain ⟨a, b, c, d, e⟩ := h3 i hi hik
  refine ⟨?_, ?_, ?_, ?_, ?_⟩
  · rw [← a, Array.getElem?_setIfInBounds, if_neg (by omega)]
  · rw [← b, Array.getElem?_setIfInBounds, if_neg (by omega)]
  · rw [← c, Array.getElem?_setIfInBounds, if_neg (by omega)]
  · rw [← d, Array.getElem?_setIfInBounds, if_neg (by omega)]
  · rw [← e, Array.getElem?_setIfInBounds, if_neg (by omega)]
theorem AskBlk.next {w : World} {t : TypeId} {g n k : Nat} {l : List Ask} (h : AskBlk w t g n k l) (c : ∀ hk : k < l.length, AskAt w g (k * 5) l[k]) : AskBlk w t g n (k + 1) l := by
  obtain ⟨arr, h1, h2, h3⟩ := h
  refine ⟨arr, h1, h2, fun i hi hik => ?_⟩
  by_cases e : i = k
  · subst e
    obtain ⟨c0, c1, c2, c3, c4⟩ := c hi
    simp [World.cell?, h1] at c0 c1 c2 c3 c4
    exact ⟨c0, c1, c2, c3, c4⟩
  · exact h3 i hi (by omega)
theorem AskBlk.rowOf {w : World} {t : TypeId} {g c n : Nat} {l : List Ask} (h : AskBlk w t g c n l) (hl : n = l.length) : AskRow w (some ⟨g, 0, none⟩) n l := by
  obtain ⟨arr, h1, h2, h3⟩ := h
  refine ⟨hl, .inr ⟨g, 0, rfl, fun i hi => ?_⟩⟩
  obtain ⟨a, b, c, d, e⟩ := h3 i hi (by omega)
  unfold AskAt
  simp only [Nat.zero_add]
  exact ⟨by simp [World.cell?, h1, a], by simp [World.cell?, h1, b], by simp [World.cell?, h1, c], by simp [World.cell?, h1, d], by simp [World.cell?, h1, e]⟩
theorem cellKeep {w : World} {g p q : Nat} {u v : Value} (h : w.cell? ⟨g, p, none⟩ = some u) (hne : q ≠ p) : (w.setCell ⟨g, q, none⟩ v).cell? ⟨g, p, none⟩ = some u :=
  (World.cell?_setCell_other _ _ _ _ (fun e => hne (congrArg Addr.off e))).trans h
theorem cellBel {w w' : World} {g p : Nat} {u : Value} (h : w.cell? ⟨g, p, none⟩ = some u) (hb : Below w.heap.size w w') : w'.cell? ⟨g, p, none⟩ = some u := (hb.cell (cell_lt h)).trans h

set_option maxRecDepth 100000 in
set_option maxHeartbeats 4000000 in
theorem markAskS_from (g n c K : Nat) {d : Nat} (w : World) (h : Cel w 144 g (c * 5)) (hc : n ≤ c) (hn : n ≤ 1048576) (h0 : 0 < K) (h1 : K ≤ 1000000000000000) :
    Calls Tryz.prog 86 #[.slice (some ⟨g, 0, none⟩) n d, .int .i64 (K : Int)] w fun e w' => e = .returned (.int .i64 ((K : Int) + 5 * (n : Int))) ∧ AskRow w' (some ⟨g, 0, none⟩) n (marksA K n) ∧ Mkd g (g + 1) w w' := by
  have HQ0 := hide (show AskBlk w 144 g c 0 (marksA K n) by obtain ⟨arr, h1, h2⟩ := h; exact ⟨arr, h1, h2, fun i _ h => absurd h (by omega)⟩)
  clear h
  go_enter Tryz.func86, Tryz.ntmps86
  go_wp2
  go_loopw [1, 5] (fun s i wr => ∃ (j : Nat) (k : Int), j ≤ n ∧ i = .int .i64 j ∧ s = .int .i64 k ∧ k = (K : Int) + 5 * (j : Int) ∧ Hid (AskBlk wr 144 g c j (marksA K n)) ∧ Hid (Mkd g (g + 1) w wr)) (fun _ i _ => n - (intOf i).toNat)
  case atStart => exact ⟨0, K, Nat.zero_le _, rfl, rfl, by omega, HQ0, hide (Mkd.refl _ _ _)⟩
  case round =>
    obtain ⟨j, k, hj, rfl, rfl, hk, HQ, HG⟩ := hrel
    by_cases hlt : j < n
    · have HK := hide hk
      have hk0 : 0 < k := by omega
      have hk1 : k ≤ 1000000010000000 := by omega
      clear hk
      obtain ⟨v0, d0⟩ := (unhide HQ).cell (j := j * 5) (by omega)
      have f0 := (unhide HQ).frozen (j * 5)
      have X0 := hide (World.cell?_setCell_same wr ⟨g, j * 5, none⟩ (.int .i64 k) d0)
      have HQ1 := hide ((unhide HQ).tail (p := j * 5) (by omega) (.int .i64 k))
      have HG1 := hide ((unhide HG).sc g (j * 5) (.int .i64 k) (Nat.le_refl _) (by omega))
      obtain ⟨v1, d1⟩ := (unhide HQ1).cell (j := j * 5 + 1) (by omega)
      have f1 := (unhide HQ1).frozen (j * 5 + 1)
      have X1 := hide (World.cell?_setCell_same _ ⟨g, j * 5 + 1, none⟩ (.int .i64 (k + 1)) d1)
      have X01 := hide (cellKeep (q := j * 5 + 1) (v := .int .i64 (k + 1)) (unhide X0) (by omega))
      have HQ2 := hide ((unhide HQ1).tail (p := j * 5 + 1) (by omega) (.int .i64 (k + 1)))
      have HG2 := hide ((unhide HG1).sc g (j * 5 + 1) (.int .i64 (k + 1)) (Nat.le_refl _) (by omega))
      obtain ⟨v2, d2⟩ := (unhide HQ2).cell (j := j * 5 + 2) (by omega)
      have f2 := (unhide HQ2).frozen (j * 5 + 2)
      have X2 := hide (World.cell?_setCell_same _ ⟨g, j * 5 + 2, none⟩ (.int .i64 (k + 1 + 1)) d2)
      have X02 := hide (cellKeep (q := j * 5 + 2) (v := .int .i64 (k + 1 + 1)) (unhide X01) (by omega))
      have X12 := hide (cellKeep (q := j * 5 + 2) (v := .int .i64 (k + 1 + 1)) (unhide X1) (by omega))
      have HQ3 := hide ((unhide HQ2).tail (p := j * 5 + 2) (by omega) (.int .i64 (k + 1 + 1)))
      have HG3 := hide ((unhide HG2).sc g (j * 5 + 2) (.int .i64 (k + 1 + 1)) (Nat.le_refl _) (by omega))
      clear X0 X1 X01 HQ HG
      go_wp2_with fail
      refine (markText_int (k + 1 + 1 + 1) _ (by omega) (by omega)).mono ?_
      rintro e w1 ⟨rfl, hb⟩
      have HQ4 := hide ((unhide HQ3).below hb)
      have HG4 := hide ((unhide HG3).on hb)
      have Y0 := hide (cellBel (unhide X02) hb)
      have Y1 := hide (cellBel (unhide X12) hb)
      have Y2 := hide (cellBel (unhide X2) hb)
      clear hb d0 f0 d1 f1 d2 f2 X2 X02 X12 HQ1 HQ2 HQ3 HG1 HG2 HG3
      obtain ⟨v3, d3⟩ := (unhide HQ4).cell (j := j * 5 + 3) (by omega)
      have f3 := (unhide HQ4).frozen (j * 5 + 3)
      have Z0 := hide (cellKeep (q := j * 5 + 3) (v := .string (mk (k + 1 + 1 + 1).toNat)) (unhide Y0) (by omega))
      have Z1 := hide (cellKeep (q := j * 5 + 3) (v := .string (mk (k + 1 + 1 + 1).toNat)) (unhide Y1) (by omega))
      have Z2 := hide (cellKeep (q := j * 5 + 3) (v := .string (mk (k + 1 + 1 + 1).toNat)) (unhide Y2) (by omega))
      have Z3 := hide (World.cell?_setCell_same w1 ⟨g, j * 5 + 3, none⟩ (.string (mk (k + 1 + 1 + 1).toNat)) d3)
      have HQ5 := hide ((unhide HQ4).tail (p := j * 5 + 3) (by omega) (.string (mk (k + 1 + 1 + 1).toNat)))
      have HG5 := hide ((unhide HG4).sc g (j * 5 + 3) (.string (mk (k + 1 + 1 + 1).toNat)) (Nat.le_refl _) (by omega))
      obtain ⟨v4, d4⟩ := (unhide HQ5).cell (j := j * 5 + 4) (by omega)
      have f4 := (unhide HQ5).frozen (j * 5 + 4)
      have HN := hide (show AskBlk _ 144 g c (j + 1) (marksA K n) from ((unhide HQ5).tail (p := j * 5 + 4) (by omega) (.int .i64 (k + 1 + 1 + 1 + 1))).next (fun hj' => by
        rw [marksA_at]
        have e1 : (k + 1 + 1 + 1).toNat = K + 5 * j + 1 + 1 + 1 := by have := unhide HK; omega
        have e3 := unhide HK
        have y0 := cellKeep (q := j * 5 + 4) (v := .int .i64 (k + 1 + 1 + 1 + 1)) (unhide Z0) (by omega)
        have y1 := cellKeep (q := j * 5 + 4) (v := .int .i64 (k + 1 + 1 + 1 + 1)) (unhide Z1) (by omega)
        have y2 := cellKeep (q := j * 5 + 4) (v := .int .i64 (k + 1 + 1 + 1 + 1)) (unhide Z2) (by omega)
        have y3 := cellKeep (q := j * 5 + 4) (v := .int .i64 (k + 1 + 1 + 1 + 1)) (unhide Z3) (by omega)
        have y4 := World.cell?_setCell_same _ ⟨g, j * 5 + 4, none⟩ (.int .i64 (k + 1 + 1 + 1 + 1)) d4
        refine ⟨y0.trans ?_, y1.trans ?_, y2.trans ?_, y3.trans ?_, y4.trans ?_⟩
        · rw [e3]; rfl
        · rw [e3]; rfl
        · rw [e3]; rfl
        · rw [e1]; rfl
        · rw [e3]; rfl))
      have HG6 := hide ((unhide HG5).sc g (j * 5 + 4) (.int .i64 (k + 1 + 1 + 1 + 1)) (Nat.le_refl _) (by omega))
      clear HQ4 HG4 HG5 Y0 Y1 Y2 Z0 Z1 Z2 Z3
      go_wp2
      go_roundw
      case rel => exact ⟨j + 1, k + 1 + 1 + 1 + 1 + 1, by omega, by go_num, by go_num, by have := unhide HK; omega, HN, HG6⟩
      case measure => simp [intOf]; omega
    · have hjn : j = n := by omega
      subst hjn
      go_wp2
      go_ret
      exact ⟨ret_int (by omega), (unhide HQ).rowOf (by rw [marksA_len]), unhide HG⟩

set_option maxRecDepth 100000 in
set_option maxHeartbeats 1000000 in
theorem markAskS_nil (K : Int) (w : World) :
    Calls Tryz.prog 86 #[.slice none 0 0, .int .i64 K] w fun e w' => e = .returned (.int .i64 K) ∧ Below w.heap.size w w' := by
  go_enter Tryz.func86, Tryz.ntmps86
  go_wp2
  go_loopw [1, 5] (fun s i wr => i = .int .i64 0 ∧ s = .int .i64 K ∧ Hid (Below w.heap.size w wr)) (fun _ _ _ => 0)
  case atStart => exact ⟨rfl, rfl, hide (Below.refl _ _)⟩
  case round =>
    obtain ⟨rfl, rfl, HB⟩ := hrel
    go_wp2
    go_ret
    exact ⟨rfl, unhide HB⟩

/-- an ask stands at a place; of w0 nothing has turned -/
def AskOne (w0 : World) (b p : Nat) (q : Ask) (w : World) : Prop := AskAt w b p q ∧ Below w0.heap.size w0 w
theorem AskOne.call {w0 w w' : World} {b p : Nat} {q : Ask} (h : AskOne w0 b p q w) (hb : Below w.heap.size w w') : AskOne w0 b p q w' := ⟨h.1.below hb, below_on h.2 hb⟩
theorem AskOne.drew {w0 w : World} {b p : Nat} {q : Ask} (h : AskOne w0 b p q w) : AskOne w0 b p q w.drew := h.call (Below.refl _ _).drew
theorem AskOne.read (w0 : World) (b p : Nat) (q : Ask) : ∀ wx, AskOne w0 b p q wx → wx.cell? ⟨b, p, none⟩ = some (.int .i64 q.mem) ∧ wx.cell? ⟨b, p + 1, none⟩ = some (.int .i64 q.cpu) ∧ wx.cell? ⟨b, p + 2, none⟩ = some (.int .i64 q.count) ∧ wx.cell? ⟨b, p + 3, none⟩ = some (.string (bs q.node)) ∧ wx.cell? ⟨b, p + 4, none⟩ = some (.int .i64 q.missed) :=
  fun wx h => h.1
set_option maxRecDepth 100000 in
set_option maxHeartbeats 2000000 in
theorem heldAskS_any (ao : Option Addr) (n c K : Nat) (w : World) (h : AskRow w ao n (marksA K n)) (hn : n ≤ 1048576) (h0 : 0 < K) (h1 : K ≤ 1000000000000000) :
    Calls Tryz.prog 87 #[.slice ao n c, .int .i64 (K : Int)] w fun e w' => e = .returned (.int .i64 ((K : Int) + 5 * (n : Int))) ∧ Below w.heap.size w w' := by
  have HR := hide h
  clear h
  go_enter Tryz.func87, Tryz.ntmps87
  go_wp2
  go_loopw [1, 5] (fun s i wr => ∃ (j : Nat) (k : Int), j ≤ n ∧ i = .int .i64 j ∧ s = .int .i64 k ∧ k = (K : Int) + 5 * (j : Int) ∧ Hid (Below w.heap.size w wr)) (fun _ i _ => n - (intOf i).toNat)
  case atStart => exact ⟨0, K, Nat.zero_le _, rfl, rfl, by omega, hide (Below.refl _ _)⟩
  case round =>
    obtain ⟨j, k, hj, rfl, rfl, hk, HB⟩ := hrel
    by_cases hlt : j < n
    · obtain ⟨b, off, rfl, hq⟩ := ((unhide HR).below (unhide HB)).at hlt
      have hqq := hq (by rw [marksA_len]; exact hlt)
      rw [marksA_at] at hqq
      have T0 : ∀ wx, Calls Tryz.prog 46 #[.int .i64 (k + 1 + 1 + 1)] wx fun e w' => e = .returned (.string (bs (markA K j).node)) ∧ Below wx.heap.size wx w' := fun wx => by
        have := markText_int (k + 1 + 1 + 1) wx (by omega) (by omega)
        rw [show (k + 1 + 1 + 1).toNat = K + 5 * j + 1 + 1 + 1 by omega] at this
        exact this
      have hd : (markA K j).mem = k := by rw [hk]; rfl
      have hm : (markA K j).cpu = k + 1 := by rw [hk]; rfl
      have hp : (markA K j).count = k + 1 + 1 := by rw [hk]; rfl
      have hr : (markA K j).missed = k + 1 + 1 + 1 + 1 := by rw [hk]; rfl
      obtain ⟨q, hqe⟩ : ∃ q, markA K j = q := ⟨_, rfl⟩
      rw [hqe] at hqq T0 hd hm hp hr
      have A0 := hide (show AskOne w b (off + j * 5) q wr from ⟨hqq, unhide HB⟩)
      have C0 := hide T0
      have HK := hide hk
      have HR4 := hide hr
      have R := AskOne.read w b (off + j * 5) q
      have R' := hide R
      obtain ⟨r0, r1, r2, _, _⟩ := R _ (unhide A0)
      rw [hd] at r0
      rw [hm] at r1
      rw [hp] at r2
      have j0 : (0 : Int) ≤ j := by omega
      have j1 : (j : Int) < n := by omega
      have hk0 : 0 < k := by omega
      have hk1 : k ≤ 1000000010000000 := by omega
      have hw1 : IntKind.i64.wrap (k + 1) = k + 1 := by rw [IntKind.wrap_i64]; omega
      have hw2 : IntKind.i64.wrap (k + 1 + 1) = k + 1 + 1 := by rw [IntKind.wrap_i64]; omega
      have hw3 : IntKind.i64.wrap (k + 1 + 1 + 1) = k + 1 + 1 + 1 := by rw [IntKind.wrap_i64]; omega
      clear hq hqq T0 hqe hk hd hm hp hr R
      go_wp2_with fail
      have R := unhide R'
      clear r0 r1 r2
      go_region_held3 (fun wx => AskOne w b (off + j * 5) q wx)
        (first | (with_reducible assumption) | exact (unhide A0).drew | exact AskOne.call (by assumption) (by assumption))
        (first
        | (go_at_call 46; refine (unhide C0 _).mono ?_; rintro e wt ⟨rfl, hb⟩; have SA := AskOne.call (w0 := w) (b := b) (p := off + j * 5) (q := q) (by assumption) hb))
      obtain ⟨_, _, _, _, r4⟩ := R _ SA
      rw [unhide HR4] at r4
      have HB2 := hide SA.2
      clear SA A0 R C0 R'
      go_wp2
      go_roundw
      case rel => exact ⟨j + 1, k + 1 + 1 + 1 + 1 + 1, by omega, by go_num, by go_num, by have := unhide HK; omega, HB2⟩
      case measure => simp [intOf]; omega
    · have hjn : j = n := by omega
      subst hjn
      go_wp2
      go_ret
      exact ⟨ret_int (by omega), unhide HB⟩
end Go.Proofs.YtdkgmfogeabaoaaGreat

/-
  Keys of name and number: the keys of the maps.
-/
namespace Go.Proofs.YtdkgmfogeabaoaaGreat
open Go.RowKit Go.Maps
set_option linter.unusedVariables false

abbrev keyv (nm : List UInt8) (k : Int) : Value := .agg #[.string (bs nm), .int .i64 k]
theorem keyLaidOut : laidOutB Tryz.prog = true := by kernel_rfl
theorem keyRow : (164 : TypeId) < Tryz.prog.types.size := of_decide_eq_true (by kernel_rfl)
theorem keyWide : (match Tryz.prog.underlying 164 with | some (.array _ _) | some (.struct _) => true | _ => false) = true := by kernel_rfl
set_option maxRecDepth 100000 in
theorem keyLaw : Keyed Tryz.prog 164 := Keyed.of_law (deep_law_laid keyLaidOut (m := 3) (by omega) keyRow (by kernel_rfl) keyWide)
theorem keyKeyType : Tryz.prog.keyType 164 = true := by kernel_rfl
theorem keyCells : Tryz.prog.cellsOf 164 = 2 := by kernel_rfl
theorem keyIntCells : Tryz.prog.cellsOf 3 = 1 := by kernel_rfl
theorem keyStrCells : Tryz.prog.cellsOf 9 = 1 := by kernel_rfl
theorem keyTypesMany : ∃ m, Tryz.prog.types.size + 1 = m + 2 := ⟨Tryz.prog.types.size - 1, by have : 3 ≤ Tryz.prog.types.size := of_decide_eq_true (by kernel_rfl); omega⟩
theorem klits_int (n : Nat) {a : Int} (h : (Lit.int .i64 a).wf = true) : Tryz.prog.keyLits (n + 1) 3 [.int .i64 a] = some [.int .i64 a] := by
  simp [Program.keyLits, Tryz.underlying3, h]
theorem klits_str (n : Nat) {s : ByteArray} (h : s.size ≤ maxLen) : Tryz.prog.keyLits (n + 1) 9 [.string s] = some [.string s.data.toList] := by
  simp [Program.keyLits, Tryz.underlying9, h]
theorem keyKey {nm : List UInt8} {k : Int} (hn : nm.length ≤ 9223372036854775807) (hk : (Lit.int .i64 k).wf = true) : ∃ kl, keyOf Tryz.prog 164 (keyv nm k) = some kl := by
  obtain ⟨m, hm⟩ := keyTypesMany
  have hs : (bs nm).size ≤ maxLen := by rw [bs_size]; exact hn
  have h : Tryz.prog.keyLits (m + 2) 164 [.string (bs nm), .int .i64 k] = some [.string (bs nm).data.toList, .int .i64 k] := by
    have h := Tryz.underlying164
    unfold Program.keyLits
    simp [h, keyCells, keyIntCells, keyStrCells, klits_int m hk, klits_str m hs]
  have hu := Tryz.underlying164
  have hk : keyOf Tryz.prog 164 (keyv nm k) = if Tryz.prog.keyType 164 && (keyv nm k).formed Tryz.prog 164 then (Tryz.prog.keyLits (Tryz.prog.types.size + 1) 164 (keyv nm k).cells.toList).map (fun ls => .string (keyBytes ls)) else none := by
    unfold keyOf
    rw [hu]
  rw [hk, if_pos (by simp [keyKeyType, Value.formed, hu, keyCells]), hm, show (keyv nm k).cells.toList = [.string (bs nm), .int .i64 k] from rfl, h]
  exact ⟨_, rfl⟩
theorem bs_data (s : ByteArray) : bs s.data.toList = s := by simp [bs]
end Go.Proofs.YtdkgmfogeabaoaaGreat

/-
  The map of applications by a key of name and number: its elements, and what it is known to hold; rows of applications as they stand in memory.
-/
namespace Go.Proofs.YtdkgmfogeabaoaaGreat
open Go.RowKit Go.Maps
set_option linter.unusedVariables false

/-- an application as it stands: its number, its queue, where its asks stand -/
structure AV where
  id : Int
  queue : List UInt8
  ao : Option Addr
  len : Nat
  cap : Nat
abbrev avv (v : AV) : Value := .agg #[.int .i64 v.id, .string (bs v.queue), .slice v.ao v.len v.cap]
def AVAt (w : World) (b p : Nat) (v : AV) : Prop :=
  w.cell? ⟨b, p, none⟩ = some (.int .i64 v.id) ∧ w.cell? ⟨b, p + 1, none⟩ = some (.string (bs v.queue)) ∧ w.cell? ⟨b, p + 2, none⟩ = some (.slice v.ao v.len v.cap)
theorem AVAt.lt {w : World} {b p : Nat} {v : AV} (h : AVAt w b p v) : b < w.heap.size := cell_lt h.1
theorem AVAt.below {w w' : World} {b p : Nat} {v : AV} (h : AVAt w b p v) (hb : Below w.heap.size w w') : AVAt w' b p v :=
  ⟨(hb.cell h.lt).trans h.1, (hb.cell h.lt).trans h.2.1, (hb.cell h.lt).trans h.2.2⟩
def AVRow (w : World) (ao : Option Addr) (len : Nat) (l : List AV) : Prop :=
  len = l.length ∧ (len = 0 ∨ ∃ b off, ao = some ⟨b, off, none⟩ ∧ ∀ i (h : i < l.length), AVAt w b (off + i * 3) l[i])
theorem AVRow.below {w w' : World} {ao : Option Addr} {len : Nat} {l : List AV} (h : AVRow w ao len l) (hb : Below w.heap.size w w') : AVRow w' ao len l := by
  obtain ⟨h1, h2⟩ := h
  refine ⟨h1, ?_⟩
  rcases h2 with h2 | ⟨b, off, h3, h4⟩
  · exact .inl h2
  · exact .inr ⟨b, off, h3, fun i h => (h4 i h).below hb⟩
theorem AVRow.at {w : World} {ao : Option Addr} {len : Nat} {l : List AV} (h : AVRow w ao len l) {i : Nat} (hi : i < len) : ∃ b off, ao = some ⟨b, off, none⟩ ∧ ∀ (h : i < l.length), AVAt w b (off + i * 3) l[i] := by
  obtain ⟨h1, h2⟩ := h
  rcases h2 with h2 | ⟨b, off, h3, h4⟩
  · omega
  · exact ⟨b, off, h3, fun hi => h4 i hi⟩
/-- these heads are those of these applications -/
def Heads (w : World) (hs : List AV) (l : List Appl) : Prop :=
  hs.length = l.length ∧ ∀ i (h : i < hs.length) (h' : i < l.length), hs[i].id = l[i].id ∧ hs[i].queue = l[i].queue ∧ AskRow w hs[i].ao hs[i].len l[i].asks ∧ hs[i].len ≤ hs[i].cap
theorem ApplRow.heads {w : World} {ao : Option Addr} {len : Nat} {l : List Appl} (h : ApplRow w ao len l) : ∃ hs, AVRow w ao len hs ∧ Heads w hs l := by
  obtain ⟨h1, h2⟩ := h
  by_cases h0 : len = 0
  · have hl : l = [] := List.length_eq_zero_iff.1 (by omega)
    subst hl
    exact ⟨[], ⟨by simpa using h0, .inl h0⟩, rfl, fun i h => by simp at h⟩
  · rcases h2 with h2 | ⟨b, off, h3, h4⟩
    · exact absurd h2 h0
    · have inh : Inhabited AV := ⟨⟨0, [], none, 0, 0⟩⟩
      obtain ⟨F, hF⟩ := Go.Deep.choose_lt (α := AV) (n := l.length) (p := fun i v => ∀ hi : i < l.length, AVAt w b (off + i * 3) v ∧ v.id = l[i].id ∧ v.queue = l[i].queue ∧ AskRow w v.ao v.len l[i].asks ∧ v.len ≤ v.cap) (fun i hi => by
        obtain ⟨x, y, z, a, c, d, e, f⟩ := h4 i hi
        exact ⟨⟨l[i].id, l[i].queue, x, y, z⟩, fun _ => ⟨⟨a, c, d⟩, rfl, rfl, e, f⟩⟩)
      refine ⟨(List.range l.length).map F, ⟨by simpa using h1, .inr ⟨b, off, h3, fun i hi => ?_⟩⟩, by simp, fun i hi hi' => ?_⟩
      · have hi' : i < l.length := by simpa using hi
        simpa using (hF i hi' hi').1
      · simpa using (hF i hi' hi').2

def addrD : Option Addr → DataW Unit
  | none => .agg []
  | some ⟨b, o, none⟩ => .agg [.lit (.int .i64 b), .lit (.int .i64 o)]
  | some ⟨b, o, some k⟩ => .agg [.lit (.int .i64 b), .lit (.int .i64 o), .lit (.int .i64 k)]
theorem addrD_inj {a b : Option Addr} (h : addrD a = addrD b) : a = b := by
  match a, b with
  | none, none => rfl
  | none, some ⟨x, y, none⟩ => simp [addrD] at h
  | none, some ⟨x, y, some z⟩ => simp [addrD] at h
  | some ⟨x, y, none⟩, none => simp [addrD] at h
  | some ⟨x, y, some z⟩, none => simp [addrD] at h
  | some ⟨x, y, none⟩, some ⟨x', y', none⟩ => simp [addrD] at h; obtain ⟨h1, h2⟩ := h; (have e1 : x = x' := (by omega)); (have e2 : y = y' := (by omega)); subst e1 e2; rfl
  | some ⟨x, y, none⟩, some ⟨x', y', some z'⟩ => simp [addrD] at h
  | some ⟨x, y, some z⟩, some ⟨x', y', none⟩ => simp [addrD] at h
  | some ⟨x, y, some z⟩, some ⟨x', y', some z'⟩ => simp [addrD] at h; obtain ⟨h1, h2, h3⟩ := h; (have e1 : x = x' := (by omega)); (have e2 : y = y' := (by omega)); (have e3 : z = z' := (by omega)); subst e1 e2 e3; rfl
/-- how an application reads -/
def ad (v : AV) : DataW Unit := .agg [.lit (.int .i64 v.id), .lit (.string v.queue), addrD v.ao, .lit (.int .i64 v.len), .lit (.int .i64 v.cap)]
theorem ad_inj {a b : AV} (h : ad a = ad b) : a = b := by
  obtain ⟨a1, a2, a3, a4, a5⟩ := a
  obtain ⟨b1, b2, b3, b4, b5⟩ := b
  simp [ad] at h
  obtain ⟨h1, h2, h3, h4, h5⟩ := h
  have e3 := addrD_inj h3
  have e4 : a4 = b4 := by omega
  have e5 : a5 = b5 := by omega
  subst h1 h2 e3 e4 e5
  rfl
def appElem : Value → Option (DataW Unit × List MemPlace)
  | .agg cs => match cs.toList with
    | [.int .i64 x, .string s, .slice ao len cap] => some (ad ⟨x, s.data.toList, ao, len, cap⟩, [])
    | _ => none
  | _ => none
theorem appElem_mk (v : AV) : appElem (avv v) = some (ad v, []) := by
  obtain ⟨x, qu, ao, len, cap⟩ := v
  simp [appElem, bs]
theorem appElem_shape {v : Value} {y : DataW Unit × List MemPlace} (h : appElem v = some y) : ∃ c, v = avv c := by
  unfold appElem at h
  split at h
  · rename_i cs
    split at h
    · rename_i x s ao len cap e
      have e2 : cs = #[.int .i64 x, .string s, .slice ao len cap] := by cases cs; simpa using e
      exact ⟨⟨x, s.data.toList, ao, len, cap⟩, by rw [e2]; simp [avv, bs_data]⟩
    · cases h
  · cases h
theorem appElem_inv {v : Value} {m : AV} {ps : List MemPlace} (h : appElem v = some (ad m, ps)) : v = avv m := by
  obtain ⟨c, rfl⟩ := appElem_shape h
  rw [appElem_mk] at h
  have := ad_inj (congrArg Prod.fst (Option.some.inj h))
  rw [show c = m from this]
def findA (id : Int) (l : List AV) : Option AV := l.find? (fun v => decide (v.id = id))
theorem findA_id {id : Int} {l : List AV} {v : AV} (h : findA id l = some v) : v.id = id := by simpa using List.find?_some h
/-- the map holds, for every number, the first application of the list that has it, where it is kept -/
def KnownA (l : List AV) (keep : Lit → AV → Bool) (D : DataW Unit) : Prop :=
  (∀ kl, Maps.has D kl = true → ∃ v, findA v.id l = some v ∧ keyOf Tryz.prog 164 (keyv [] v.id) = some kl ∧ ∀ zd, D.atKey kl zd = ad v) ∧
  (∀ v kl, findA v.id l = some v → keyOf Tryz.prog 164 (keyv [] v.id) = some kl → Maps.has D kl = keep kl v)
abbrev allA : Lit → AV → Bool := fun _ _ => true
theorem knownA_empty : KnownA [] allA (.map []) := ⟨fun kl h => by simp [Maps.has] at h, fun v kl h => by simp [findA] at h⟩
theorem KnownA.put {l : List AV} {D : DataW Unit} (h : KnownA l allA D) (hD : IsMap D) {m : AV} {kl : Lit} (hk : keyOf Tryz.prog 164 (keyv [] m.id) = some kl) : KnownA (m :: l) allA (D.put kl (ad m)) := by
  have hne : ∀ (kl' : Lit) (v : AV), kl' ≠ kl → keyOf Tryz.prog 164 (keyv [] v.id) = some kl' → ¬ m.id = v.id := fun kl' v e hv e' => e (by rw [← e'] at hv; rw [hk] at hv; exact (Option.some.inj hv).symm)
  refine ⟨fun kl' hh => ?_, fun v kl' h1 h2 => ?_⟩
  · by_cases e : kl' = kl
    · subst e
      exact ⟨m, by simp [findA], hk, fun zd => atKey_put_same hD (keyLaw.key hk) _ _⟩
    · rw [has_put_other e] at hh
      obtain ⟨v, h1, h2, h3⟩ := h.1 kl' hh
      exact ⟨v, by have := hne kl' v e h2; simpa [findA, this] using h1, h2, fun zd => by rw [atKey_put_other e]; exact h3 zd⟩
  · by_cases e : kl' = kl
    · subst e
      exact has_put_same hD (keyLaw.key hk) _
    · rw [has_put_other e]
      exact h.2 v kl' (by have := hne kl' v e h2; simpa [findA, this] using h1) h2
theorem keyv_inj {a b : Int} {kl : Lit} (h1 : keyOf Tryz.prog 164 (keyv [] a) = some kl) (h2 : keyOf Tryz.prog 164 (keyv [] b) = some kl) : a = b := by
  have := keyLaw.inj h1 h2
  simpa [keyv] using this
theorem KnownA.look {l : List AV} {keep : Lit → AV → Bool} {D : DataW Unit} (h : KnownA l keep D) {id : Int} {kl : Lit} (hk : keyOf Tryz.prog 164 (keyv [] id) = some kl) :
    (findA id l = none → Maps.has D kl = false) ∧ ∀ v, findA id l = some v → Maps.has D kl = keep kl v ∧ (Maps.has D kl = true → ∀ zd, D.atKey kl zd = ad v) := by
  refine ⟨fun hf => ?_, fun v hf => ?_⟩
  · cases hh : Maps.has D kl with
    | false => rfl
    | true =>
      obtain ⟨v, h1, h2, _⟩ := h.1 kl hh
      rw [← keyv_inj hk h2] at h1
      rw [hf] at h1
      cases h1
  · have hv := findA_id hf
    rw [← hv] at hf hk
    refine ⟨h.2 v kl hf hk, fun hh => ?_⟩
    obtain ⟨u, h1, h2, h3⟩ := h.1 kl hh
    have e := keyv_inj hk h2
    rw [← e, hf] at h1
    cases h1
    exact h3
/-- the step of a range that takes an application out that is not kept -/
theorem KnownA.strike {l : List AV} {left : Lit → Bool} {keep : AV → Bool} {D : DataW Unit} (h : KnownA l (fun kl v => left kl || keep v) D) {v : AV} {kl : Lit} (hf : findA v.id l = some v) (hk : keyOf Tryz.prog 164 (keyv [] v.id) = some kl) (hn : keep v = false) :
    KnownA l (fun z u => (left z && !z.sameKey kl) || keep u) (D.del kl) := by
  refine ⟨fun kl' hh => ?_, fun u kl' h1 h2 => ?_⟩
  · by_cases e : kl' = kl
    · subst e
      rw [has_del_same] at hh
      cases hh
    · rw [has_del_other e] at hh
      obtain ⟨u, h1, h2, h3⟩ := h.1 kl' hh
      exact ⟨u, h1, h2, fun zd => by rw [atKey_del_other e]; exact h3 zd⟩
  · by_cases e : kl' = kl
    · subst e
      have e2 := keyv_inj hk h2
      rw [← e2, hf] at h1
      cases h1
      rw [has_del_same]
      simp [hn, WideAt.sameKey_self (keyLaw.key hk)]
    · rw [has_del_other e, h.2 u kl' h1 h2]
      simp [sameKey_ne e]
theorem KnownA.stay {l : List AV} {left : Lit → Bool} {keep : AV → Bool} {D : DataW Unit} (h : KnownA l (fun kl v => left kl || keep v) D) {v : AV} {kl : Lit} (hf : findA v.id l = some v) (hk : keyOf Tryz.prog 164 (keyv [] v.id) = some kl) (hn : keep v = true) :
    KnownA l (fun z u => (left z && !z.sameKey kl) || keep u) D := by
  refine ⟨h.1, fun u kl' h1 h2 => ?_⟩
  by_cases e : kl' = kl
  · subst e
    have e2 := keyv_inj hk h2
    rw [← e2, hf] at h1
    cases h1
    rw [h.2 v kl' hf hk]
    simp [hn]
  · rw [h.2 u kl' h1 h2]
    simp [sameKey_ne e]
def optB (o : Option AV) (f : AV → Bool) : Bool := match o with
  | none => false
  | some v => f v
theorem appZero (w : World) : (zeroValue 95).run Tryz.prog w = .ok (avv ⟨0, [], none, 0, 0⟩) w := by kernel_rfl
/-- what a look-up finds -/
theorem lookA {w : World} {bm n : Nat} {l : List AV} {keep : Lit → AV → Bool} {D : DataW Unit} (hown : w.ownsMap Tryz.prog 164 appElem bm n D) (hk : KnownA l keep D) {id : Int} {kl : Lit} (hkey : keyOf Tryz.prog 164 (keyv [] id) = some kl) :
    ∃ v : AV, (Instr.lookup 157 (.map (some bm)) (keyv [] id) true).run Tryz.prog w = .ok (.tuple #[avv v, .bool (optB (findA id l) (keep kl))]) w ∧ (∀ u, findA id l = some u → keep kl u = true → v = u) ∧ (findA id l = none → v = ⟨0, [], none, 0, 0⟩) := by
  obtain ⟨v, ps, hrun, hv⟩ := hown.look_ok keyLaw Tryz.underlying157 (appZero w) (appElem_mk ⟨0, [], none, 0, 0⟩) hkey
  obtain ⟨h1, h2⟩ := hk.look hkey
  cases hf : findA id l with
  | none =>
    have hh := h1 hf
    rw [atKey_of_not_has hh] at hv
    rw [appElem_inv hv, hh] at hrun
    exact ⟨_, hrun, (fun u e => by cases e), fun _ => rfl⟩
  | some u =>
    obtain ⟨ha, hb⟩ := h2 u hf
    obtain ⟨c, rfl⟩ := appElem_shape hv
    rw [ha] at hrun
    refine ⟨c, hrun, fun u' e hu => ?_, (fun e => by cases e)⟩
    cases e
    rw [hb (ha.trans hu)] at hv
    rw [appElem_mk] at hv
    exact ad_inj (congrArg Prod.fst (Option.some.inj hv))
end Go.Proofs.YtdkgmfogeabaoaaGreat

/-
  The laws' own markAppS and heldAppS over applications whose asks lie in blocks of their own: what is marked, and found again; walks over the dump.
-/
namespace Go.Proofs.YtdkgmfogeabaoaaGreat
open Go.RowKit
set_option linter.unusedVariables false

/-- the number behind the marks of these applications -/
def endM : Nat → List AV → Nat
  | K, [] => K
  | K, v :: t => endM (K + 2 + 5 * v.len) t
/-- the heads as they are marked from K on -/
def hsM : Nat → List AV → List AV
  | _, [] => []
  | K, v :: t => ⟨(K : Int), 109 :: dgs (K + 1), v.ao, v.len, v.cap⟩ :: hsM (K + 2 + 5 * v.len) t
/-- the asks bear their marks -/
def AsksM (w : World) : Nat → List AV → Prop
  | _, [] => True
  | K, v :: t => AskRow w v.ao v.len (marksA (K + 2) v.len) ∧ AsksM w (K + 2 + 5 * v.len) t
theorem hsM_len : ∀ (l : List AV) (K : Nat), (hsM K l).length = l.length
  | [], _ => rfl
  | v :: t, K => by simp [hsM, hsM_len t]
theorem AsksM.below {w w' : World} (hb : Below w.heap.size w w') : ∀ (l : List AV) (K : Nat), AsksM w K l → AsksM w' K l
  | [], _, _ => trivial
  | v :: t, K, h => ⟨h.1.below hb, AsksM.below hb t _ h.2⟩
theorem endM_ge : ∀ (l : List AV) (K : Nat), K ≤ endM K l
  | [], K => Nat.le_refl _
  | v :: t, K => by have := endM_ge t (K + 2 + 5 * v.len); rw [endM]; omega
theorem hsM_step : ∀ (l : List AV) (K j : Nat) (h : j < l.length), hsM K l = hsM K (l.take j) ++ (⟨(endM K (l.take j) : Int), 109 :: dgs (endM K (l.take j) + 1), l[j].ao, l[j].len, l[j].cap⟩ :: hsM (endM K (l.take j) + 2 + 5 * l[j].len) (l.drop (j + 1)))
  | v :: t, K, 0, _ => by simp [hsM, endM]
  | v :: t, K, j + 1, h => by
    have := hsM_step t (K + 2 + 5 * v.len) j (by simpa using h)
    simp only [List.take_succ_cons, hsM, endM, List.cons_append, List.getElem_cons_succ, List.drop_succ_cons]
    rw [this]
theorem endM_step : ∀ (l : List AV) (K j : Nat) (h : j < l.length), endM K (l.take (j + 1)) = endM K (l.take j) + 2 + 5 * l[j].len
  | v :: t, K, 0, _ => by simp [endM]
  | v :: t, K, j + 1, h => by
    have := endM_step t (K + 2 + 5 * v.len) j (by simpa using h)
    simp only [List.take_succ_cons, endM, List.getElem_cons_succ]
    exact this
theorem AsksM_at {w : World} : ∀ (l : List AV) (K j : Nat) (h : j < l.length), AsksM w K l → AskRow w l[j].ao l[j].len (marksA (endM K (l.take j) + 2) l[j].len)
  | v :: t, K, 0, _, h => by simpa [endM] using h.1
  | v :: t, K, j + 1, hj, h => by
    have := AsksM_at t (K + 2 + 5 * v.len) j (by simpa using hj) h.2
    simpa [endM] using this
theorem hsM_at : ∀ (l : List AV) (K j : Nat) (h : j < l.length) (h' : j < (hsM K l).length), (hsM K l)[j] = ⟨(endM K (l.take j) : Int), 109 :: dgs (endM K (l.take j) + 1), l[j].ao, l[j].len, l[j].cap⟩
  | v :: t, K, 0, _, _ => by simp [hsM, endM]
  | v :: t, K, j + 1, h, h' => by
    have := hsM_at t (K + 2 + 5 * v.len) j (by simpa using h) (by simpa [hsM] using h')
    simp only [hsM, List.getElem_cons_succ, List.take_succ_cons, endM]
    exact this
/-- one application's head stands; of w0 nothing has turned -/
def AVOne (w0 : World) (b p : Nat) (q : AV) (w : World) : Prop := AVAt w b p q ∧ Below w0.heap.size w0 w
theorem AVOne.call {w0 w w' : World} {b p : Nat} {q : AV} (h : AVOne w0 b p q w) (hb : Below w.heap.size w w') : AVOne w0 b p q w' := ⟨h.1.below hb, below_on h.2 hb⟩
theorem AVOne.drew {w0 w : World} {b p : Nat} {q : AV} (h : AVOne w0 b p q w) : AVOne w0 b p q w.drew := h.call (Below.refl _ _).drew
theorem AVOne.read (w0 : World) (b p : Nat) (q : AV) : ∀ wx, AVOne w0 b p q wx → wx.cell? ⟨b, p, none⟩ = some (.int .i64 q.id) ∧ wx.cell? ⟨b, p + 1, none⟩ = some (.string (bs q.queue)) ∧ wx.cell? ⟨b, p + 2, none⟩ = some (.slice q.ao q.len q.cap) := fun wx h => h.1

set_option maxRecDepth 100000 in
set_option maxHeartbeats 4000000 in
theorem heldAppS_any (ao : Option Addr) (n c K : Nat) (hs : List AV) (w : World) (h : AVRow w ao n (hsM K hs)) (ha : AsksM w K hs) (hn : n ≤ 1048576) (hk : ∀ v ∈ hs, v.len ≤ 1048576) (h0 : 0 < K) (h1 : endM K hs ≤ 100000000000000) :
    Calls Tryz.prog 48 #[.slice ao n c, .int .i64 (K : Int)] w fun e w' => e = .returned (.int .i64 (endM K hs : Int)) ∧ Below w.heap.size w w' := by
  have HR := hide h
  have HA := hide ha
  have HLN := hide (show n = hs.length by rw [h.1, hsM_len])
  have HV := hide hk
  have HE := hide (show ∀ j, endM K (hs.take j) ≤ endM K hs from fun j => by
    have : ∀ (l : List AV) (K j : Nat), endM K (l.take j) ≤ endM K l := by
      intro l
      induction l with
      | nil => intro K j; simp [endM]
      | cons v t ih =>
        intro K j
        cases j with
        | zero => simp only [List.take_zero, endM]; have := endM_ge t (K + 2 + 5 * v.len); omega
        | succ j => simp only [List.take_succ_cons, endM]; exact ih _ _
    exact this hs K j)
  have HG := hide (fun j => endM_ge (hs.take j) K)
  clear h ha hk
  go_enter Tryz.func48, Tryz.ntmps48
  go_wp2
  go_loopw [1, 5] (fun s i wr => ∃ (j : Nat) (k : Nat), j ≤ n ∧ i = .int .i64 j ∧ s = .int .i64 (k : Int) ∧ Hid (k = endM K (hs.take j)) ∧ Hid (Below w.heap.size w wr)) (fun _ i _ => n - (intOf i).toNat)
  case atStart => exact ⟨0, K, Nat.zero_le _, rfl, rfl, hide (by simp [endM]), hide (Below.refl _ _)⟩
  case round =>
    obtain ⟨j, k, hj, rfl, rfl, HK, HB⟩ := hrel
    by_cases hlt : j < n
    · have hjl : j < hs.length := by have := unhide HLN; omega
      obtain ⟨b, off, rfl, hq⟩ := ((unhide HR).below (unhide HB)).at hlt
      have hqq := hq (by rw [hsM_len]; exact hjl)
      rw [hsM_at hs K j hjl] at hqq
      have hrow := (AsksM_at hs K j hjl (unhide HA)).below (unhide HB)
      have hvl := unhide HV _ (List.getElem_mem hjl)
      have hst := endM_step hs K j hjl
      have hle := unhide HE (j + 1)
      have hgk := unhide HG j
      rw [← unhide HK] at hqq hrow hst hgk
      obtain ⟨⟨vi, vq, va, vl, vc⟩, hv⟩ : ∃ v, hs[j] = v := ⟨_, rfl⟩
      rw [hv] at hqq hrow hst hvl
      simp only at hqq hrow hst hvl
      rw [hst] at hle
      have HN := hide (show (k + 2 + 5 * vl : Nat) = endM K (hs.take (j + 1)) from hst.symm)
      have C0 := hide (show ∀ wx, Calls Tryz.prog 46 #[.int .i64 ((k : Int) + 1)] wx fun e w' => e = .returned (.string (bs (109 :: dgs (k + 1)))) ∧ Below wx.heap.size wx w' from fun wx => by
        have := markText_int ((k : Int) + 1) wx (by omega) (by omega)
        rw [show ((k : Int) + 1).toNat = k + 1 by omega] at this
        exact this)
      have C1 := hide (fun wx (hb : Below wr.heap.size wr wx) => by have := heldAskS_any va vl vc (k + 2) wx (hrow.below hb) hvl (by omega) (by omega); rw [show ((k + 2 : Nat) : Int) = (k : Int) + 1 + 1 by omega] at this; exact this)
      have A0 := hide (show AVOne wr b (off + j * 3) ⟨(k : Int), 109 :: dgs (k + 1), va, vl, vc⟩ wr from ⟨hqq, Below.refl _ _⟩)
      have R := AVOne.read wr b (off + j * 3) ⟨(k : Int), 109 :: dgs (k + 1), va, vl, vc⟩
      simp only at R
      have R' := hide R
      obtain ⟨r0, _, _⟩ := R _ (unhide A0)
      have j0 : (0 : Int) ≤ j := by omega
      have j1 : (j : Int) < n := by omega
      have hk0 : 0 < k := by omega
      have hk1 : k ≤ 100000000000000 := by omega
      have hw1 : IntKind.i64.wrap ((k : Int) + 1) = (k : Int) + 1 := by rw [IntKind.wrap_i64]; omega
      clear hq hqq hrow hst hv hle hgk R hjl
      go_wp2_with fail
      have R := unhide R'
      clear r0
      go_region_held3 (fun wx => AVOne wr b (off + j * 3) ⟨(k : Int), 109 :: dgs (k + 1), va, vl, vc⟩ wx)
        (first | (with_reducible assumption) | exact (unhide A0).drew | exact AVOne.call (by assumption) (by assumption))
        (first
        | (go_at_call 46; refine (unhide C0 _).mono ?_; rintro e wt ⟨rfl, hb⟩; have SA := AVOne.call (w0 := wr) (b := b) (p := off + j * 3) (q := ⟨(k : Int), 109 :: dgs (k + 1), va, vl, vc⟩) (by assumption) hb))
      obtain ⟨_, _, r2⟩ := R _ SA
      have HS2 := hide SA.2
      clear SA A0 R C0 R'
      go_wp2_with fail
      refine (unhide C1 _ (unhide HS2)).mono ?_
      rintro e w3 ⟨rfl, hb⟩
      have HB3 := hide (below_on (below_on (unhide HB) (unhide HS2)) hb)
      clear hb HS2 C1 r2
      have hkn : ¬ ((k : Int) + 1 + 1 + 5 * (vl : Int)) < 0 := by omega
      go_wp2
      go_roundw
      case rel => exact ⟨j + 1, k + 2 + 5 * vl, by omega, by go_num, by refine congrArg _ ?_; omega, HN, HB3⟩
      case measure => simp [intOf]; omega
    · have hjn : j = n := by omega
      have hke : k = endM K hs := by rw [unhide HK, List.take_of_length_le (by have := unhide HLN; omega)]
      have j1 : ¬ (j : Int) < n := by omega
      go_wp2
      go_ret
      exact ⟨rfl, unhide HB⟩
end Go.Proofs.YtdkgmfogeabaoaaGreat

/-
  The laws' own markQueueS: it writes into the row that it is handed, and into nothing else; a walk over the dump.
-/
namespace Go.Proofs.YtdkgmfogeabaoaaGreat
open Go.RowKit
set_option linter.unusedVariables false

/-- block g is a row of n queues -/
def QAny (w : World) (t : TypeId) (g n : Nat) : Prop := QBlk w t g n 0 []
theorem QBlk.any {w : World} {t : TypeId} {g n k : Nat} {l : List Q} (h : QBlk w t g n k l) : QAny w t g n := by
  obtain ⟨arr, h1, h2, _⟩ := h
  exact ⟨arr, h1, h2, fun i hi => absurd hi (by simp)⟩
theorem QAny.set {w : World} {t : TypeId} {g n : Nat} (h : QAny w t g n) (j : Nat) (v : Value) : QAny (w.setCell ⟨g, j, none⟩ v) t g n := by
  obtain ⟨arr, h1, h2, _⟩ := h
  exact ⟨_, heap_setCell_same w g j _ _ v h1, by simp [h2], fun i hi => absurd hi (by simp)⟩
set_option maxRecDepth 100000 in
set_option maxHeartbeats 2000000 in
theorem markQueueS_any (g n : Nat) (w : World) (h : QAny w 99 g n) (hn : n ≤ 1048576) :
    Calls Tryz.prog 43 #[.slice (some ⟨g, 0, none⟩) n n, .int .i64 1] w fun e w' => e = .returned (.int .i64 (1 + 4 * (n : Int))) ∧ w.grownBy w' (some g) := by
  have HQ0 := hide h
  clear h
  go_enter Tryz.func43, Tryz.ntmps43
  go_wp2
  go_loopw [1, 5] (fun s i wr => ∃ (j : Nat) (k : Int), j ≤ n ∧ i = .int .i64 j ∧ s = .int .i64 k ∧ k = 1 + 4 * (j : Int) ∧ Hid (QAny wr 99 g n) ∧ Hid (w.grownBy wr (some g))) (fun _ i _ => n - (intOf i).toNat)
  case atStart => exact ⟨0, 1, Nat.zero_le _, rfl, rfl, by omega, HQ0, hide (grownBy_refl _ _)⟩
  case round =>
    obtain ⟨j, k, hj, rfl, rfl, hk, HQ, HG⟩ := hrel
    by_cases hlt : j < n
    · have HK := hide hk
      have hk0 : 0 < k := by omega
      have hk1 : k ≤ 4194305 := by omega
      clear hk
      go_wp2_with fail
      refine (markText_int k _ hk0 (by omega)).mono ?_
      rintro e w1 ⟨rfl, hb⟩
      have HQ1 := hide (show QAny w1 99 g n from QBlk.below (unhide HQ) hb)
      have HG1 := hide (grownBy_below (unhide HG) hb)
      obtain ⟨v0, d0⟩ := QBlk.cell (unhide HQ1) (j := j * 4) (by omega)
      have f0 := QBlk.frozen (unhide HQ1) (j * 4)
      have HQ1' := hide ((unhide HQ1).set (j * 4) (.string (mk k.toNat)))
      have HG1' := hide (grownBy_set (unhide HG1) (j * 4) (.string (mk k.toNat)))
      clear hb HQ HG
      go_wp2_with fail
      refine (markText_int (k + 1) _ (by omega) (by omega)).mono ?_
      rintro e w2 ⟨rfl, hb⟩
      have HQ2 := hide (show QAny w2 99 g n from QBlk.below (unhide HQ1') hb)
      have HG2 := hide (grownBy_below (unhide HG1') hb)
      obtain ⟨v1, d1⟩ := QBlk.cell (unhide HQ2) (j := j * 4 + 1) (by omega)
      have f1 := QBlk.frozen (unhide HQ2) (j * 4 + 1)
      have HQ3 := hide ((unhide HQ2).set (j * 4 + 1) (.string (mk (k + 1).toNat)))
      have HG3 := hide (grownBy_set (unhide HG2) (j * 4 + 1) (.string (mk (k + 1).toNat)))
      obtain ⟨v2, d2⟩ := QBlk.cell (unhide HQ3) (j := j * 4 + 2) (by omega)
      have f2 := QBlk.frozen (unhide HQ3) (j * 4 + 2)
      have HQ4 := hide ((unhide HQ3).set (j * 4 + 2) (.int .i64 (k + 1 + 1)))
      have HG4 := hide (grownBy_set (unhide HG3) (j * 4 + 2) (.int .i64 (k + 1 + 1)))
      obtain ⟨v3, d3⟩ := QBlk.cell (unhide HQ4) (j := j * 4 + 3) (by omega)
      have f3 := QBlk.frozen (unhide HQ4) (j * 4 + 3)
      clear hb d0 f0 HQ1 HG1 HQ1' HG1' HQ2 HG2
      go_wp2
      go_roundw
      case rel => exact ⟨j + 1, k + 1 + 1 + 1 + 1, by omega, by go_num, by go_num, by have := unhide HK; omega, hide ((unhide HQ4).set _ _), hide (grownBy_set (unhide HG4) _ _)⟩
      case measure => simp [intOf]; omega
    · have hjn : j = n := by omega
      subst hjn
      go_wp2
      go_ret
      exact ⟨ret_int (by omega), unhide HG⟩
end Go.Proofs.YtdkgmfogeabaoaaGreat

/-
  The laws' own markQueueS and heldQueueS: what is marked in a row of queues, and found again; walks over the dump.
-/
namespace Go.Proofs.YtdkgmfogeabaoaaGreat
open Go.RowKit
set_option linter.unusedVariables false

/-- the queue of marks at place j -/
def markQ (j : Nat) : Q := ⟨109 :: dgs (1 + 4 * j), 109 :: dgs (1 + 4 * j + 1), 1 + 4 * (j : Int) + 1 + 1, 1 + 4 * (j : Int) + 1 + 1 + 1⟩
def marksQ (n : Nat) : List Q := (List.range n).map markQ
theorem marksQ_len (n : Nat) : (marksQ n).length = n := by simp [marksQ]
theorem marksQ_at (n j : Nat) (h : j < (marksQ n).length) : (marksQ n)[j] = markQ j := by simp [marksQ]
theorem QBlk.tail {w : World} {t : TypeId} {g n k : Nat} {l : List Q} (h : QBlk w t g n k l) {p : Nat} (hp : k * 4 ≤ p) (v : Value) : QBlk (w.setCell ⟨g, p, none⟩ v) t g n k l := by
  obtain ⟨arr, h1, h2, h3⟩ := h
  refine ⟨_, heap_setCell_same w g p _ _ v h1, by simp [h2], fun i hi hik => ?_⟩
  obtain ⟨a, b, c, d⟩ := h3 i hi hik
  refine ⟨?_, ?_, ?_, ?_⟩
  · rw [← a, Array.getElem?_setIfInBounds, if_neg (by omega)]
  · rw [← b, Array.getElem?_setIfInBounds, if_neg (by omega)]
  · rw [← c, Array.getElem?_setIfInBounds, if_neg (by omega)]
  · rw [← d, Array.getElem?_setIfInBounds, if_neg (by omega)]
theorem QBlk.next {w : World} {t : TypeId} {g n k : Nat} {l : List Q} (h : QBlk w t g n k l) (c : ∀ hk : k < l.length, QAt w g (k * 4) l[k]) : QBlk w t g n (k + 1) l := by
  obtain ⟨arr, h1, h2, h3⟩ := h
  refine ⟨arr, h1, h2, fun i hi hik => ?_⟩
  by_cases e : i = k
  · subst e
    obtain ⟨c0, c1, c2, c3⟩ := c hi
    simp [World.cell?, h1] at c0 c1 c2 c3
    exact ⟨c0, c1, c2, c3⟩
  · exact h3 i hi (by omega)
theorem QBlk.rowOf {w : World} {t : TypeId} {g c n : Nat} {l : List Q} (h : QBlk w t g c n l) (hl : n = l.length) : QRow w (some ⟨g, 0, none⟩) n l := by
  obtain ⟨arr, h1, h2, h3⟩ := h
  refine ⟨hl, .inr ⟨g, 0, rfl, fun i hi => ?_⟩⟩
  obtain ⟨a, b, c, d⟩ := h3 i hi (by omega)
  unfold QAt
  simp only [Nat.zero_add]
  exact ⟨by simp [World.cell?, h1, a], by simp [World.cell?, h1, b], by simp [World.cell?, h1, c], by simp [World.cell?, h1, d]⟩
theorem cell_keep {w : World} {g p q : Nat} {u v : Value} (h : w.cell? ⟨g, p, none⟩ = some u) (hne : q ≠ p) : (w.setCell ⟨g, q, none⟩ v).cell? ⟨g, p, none⟩ = some u :=
  (World.cell?_setCell_other _ _ _ _ (fun e => hne (congrArg Addr.off e))).trans h
theorem cell_bel {w w' : World} {g p : Nat} {u : Value} (h : w.cell? ⟨g, p, none⟩ = some u) (hb : Below w.heap.size w w') : w'.cell? ⟨g, p, none⟩ = some u := (hb.cell (cell_lt h)).trans h
set_option maxRecDepth 100000 in
set_option maxHeartbeats 2000000 in
theorem markQueueS_full (g n c : Nat) {d : Nat} (w : World) (h : QAny w 99 g c) (hc : n ≤ c) (hn : n ≤ 1048576) :
    Calls Tryz.prog 43 #[.slice (some ⟨g, 0, none⟩) n d, .int .i64 1] w fun e w' => e = .returned (.int .i64 (1 + 4 * (n : Int))) ∧ QBlk w' 99 g c n (marksQ n) ∧ w.grownBy w' (some g) := by
  have HQ0 := hide (show QBlk w 99 g c 0 (marksQ n) by obtain ⟨arr, h1, h2, _⟩ := h; exact ⟨arr, h1, h2, fun i _ h => absurd h (by omega)⟩)
  clear h
  go_enter Tryz.func43, Tryz.ntmps43
  go_wp2
  go_loopw [1, 5] (fun s i wr => ∃ (j : Nat) (k : Int), j ≤ n ∧ i = .int .i64 j ∧ s = .int .i64 k ∧ k = 1 + 4 * (j : Int) ∧ Hid (QBlk wr 99 g c j (marksQ n)) ∧ Hid (w.grownBy wr (some g))) (fun _ i _ => n - (intOf i).toNat)
  case atStart => exact ⟨0, 1, Nat.zero_le _, rfl, rfl, by omega, HQ0, hide (grownBy_refl _ _)⟩
  case round =>
    obtain ⟨j, k, hj, rfl, rfl, hk, HQ, HG⟩ := hrel
    by_cases hlt : j < n
    · have HK := hide hk
      have hk0 : 0 < k := by omega
      have hk1 : k ≤ 4194305 := by omega
      clear hk
      go_wp2_with fail
      refine (markText_int k _ hk0 (by omega)).mono ?_
      rintro e w1 ⟨rfl, hb⟩
      have HQ1 := hide ((unhide HQ).below hb)
      have HG1 := hide (grownBy_below (unhide HG) hb)
      obtain ⟨v0, d0⟩ := (unhide HQ1).cell (j := j * 4) (by omega)
      have f0 := (unhide HQ1).frozen (j * 4)
      have HQ1' := hide ((unhide HQ1).tail (p := j * 4) (by omega) (.string (mk k.toNat)))
      have X0 := hide (World.cell?_setCell_same w1 ⟨g, j * 4, none⟩ (.string (mk k.toNat)) d0)
      have HG1' := hide (grownBy_set (unhide HG1) (j * 4) (.string (mk k.toNat)))
      clear hb HQ HG
      go_wp2_with fail
      refine (markText_int (k + 1) _ (by omega) (by omega)).mono ?_
      rintro e w2 ⟨rfl, hb⟩
      have HQ2 := hide ((unhide HQ1').below hb)
      have HG2 := hide (grownBy_below (unhide HG1') hb)
      have X02 := hide (cell_bel (unhide X0) hb)
      obtain ⟨v1, d1⟩ := (unhide HQ2).cell (j := j * 4 + 1) (by omega)
      have f1 := (unhide HQ2).frozen (j * 4 + 1)
      have X1 := hide (World.cell?_setCell_same w2 ⟨g, j * 4 + 1, none⟩ (.string (mk (k + 1).toNat)) d1)
      have X03 := hide (cell_keep (q := j * 4 + 1) (v := .string (mk (k + 1).toNat)) (unhide X02) (by omega))
      have HQ3 := hide ((unhide HQ2).tail (p := j * 4 + 1) (by omega) (.string (mk (k + 1).toNat)))
      have HG3 := hide (grownBy_set (unhide HG2) (j * 4 + 1) (.string (mk (k + 1).toNat)))
      obtain ⟨v2, d2⟩ := (unhide HQ3).cell (j := j * 4 + 2) (by omega)
      have f2 := (unhide HQ3).frozen (j * 4 + 2)
      have X2 := hide (World.cell?_setCell_same _ ⟨g, j * 4 + 2, none⟩ (.int .i64 (k + 1 + 1)) d2)
      have X04 := hide (cell_keep (q := j * 4 + 2) (v := .int .i64 (k + 1 + 1)) (unhide X03) (by omega))
      have X14 := hide (cell_keep (q := j * 4 + 2) (v := .int .i64 (k + 1 + 1)) (unhide X1) (by omega))
      have HQ4 := hide ((unhide HQ3).tail (p := j * 4 + 2) (by omega) (.int .i64 (k + 1 + 1)))
      have HG4 := hide (grownBy_set (unhide HG3) (j * 4 + 2) (.int .i64 (k + 1 + 1)))
      obtain ⟨v3, d3⟩ := (unhide HQ4).cell (j := j * 4 + 3) (by omega)
      have f3 := (unhide HQ4).frozen (j * 4 + 3)
      have HN := hide (show QBlk _ 99 g c (j + 1) (marksQ n) from ((unhide HQ4).tail (p := j * 4 + 3) (by omega) (.int .i64 (k + 1 + 1 + 1))).next (fun hj' => by
        rw [marksQ_at]
        have e1 : k.toNat = 1 + 4 * j := by have := unhide HK; omega
        have e2 : (k + 1).toNat = 1 + 4 * j + 1 := by have := unhide HK; omega
        have e3 := unhide HK
        have y0 := cell_keep (q := j * 4 + 3) (v := .int .i64 (k + 1 + 1 + 1)) (unhide X04) (by omega)
        have y1 := cell_keep (q := j * 4 + 3) (v := .int .i64 (k + 1 + 1 + 1)) (unhide X14) (by omega)
        have y2 := cell_keep (q := j * 4 + 3) (v := .int .i64 (k + 1 + 1 + 1)) (unhide X2) (by omega)
        have y3 := World.cell?_setCell_same _ ⟨g, j * 4 + 3, none⟩ (.int .i64 (k + 1 + 1 + 1)) d3
        refine ⟨y0.trans ?_, y1.trans ?_, y2.trans ?_, y3.trans ?_⟩
        · rw [e1]; rfl
        · rw [e2]; rfl
        · rw [e3]; rfl
        · rw [e3]; rfl))
      clear hb d0 f0 HQ1 HG1 HQ1' HG1' HQ2 HG2 X0 X02 X1 X03 X2 X04 X14
      go_wp2
      go_roundw
      case rel => exact ⟨j + 1, k + 1 + 1 + 1 + 1, by omega, by go_num, by go_num, by have := unhide HK; omega, HN, hide (grownBy_set (unhide HG4) _ _)⟩
      case measure => simp [intOf]; omega
    · have hjn : j = n := by omega
      subst hjn
      go_wp2
      go_ret
      exact ⟨ret_int (by omega), unhide HQ, unhide HG⟩
end Go.Proofs.YtdkgmfogeabaoaaGreat

/-
  The laws' own heldQueueS: the marks are found again; a walk over the dump.
-/
namespace Go.Proofs.YtdkgmfogeabaoaaGreat
open Go.RowKit
set_option linter.unusedVariables false

/-- a queue stands at a place; of w0 nothing has turned -/
def QOne (w0 : World) (b p : Nat) (q : Q) (w : World) : Prop := QAt w b p q ∧ Below w0.heap.size w0 w
theorem QOne.call {w0 w w' : World} {b p : Nat} {q : Q} (h : QOne w0 b p q w) (hb : Below w.heap.size w w') : QOne w0 b p q w' := ⟨h.1.below hb, below_on h.2 hb⟩
theorem QOne.drew {w0 w : World} {b p : Nat} {q : Q} (h : QOne w0 b p q w) : QOne w0 b p q w.drew := h.call (Below.refl _ _).drew
theorem QOne.read (w0 : World) (b p : Nat) (q : Q) : ∀ wx, QOne w0 b p q wx → wx.cell? ⟨b, p, none⟩ = some (.string (bs q.name)) ∧ wx.cell? ⟨b, p + 1, none⟩ = some (.string (bs q.parent)) ∧ wx.cell? ⟨b, p + 2, none⟩ = some (.int .i64 q.due) ∧ wx.cell? ⟨b, p + 3, none⟩ = some (.int .i64 q.most) :=
  fun wx h => ⟨h.1.1, h.1.2.1, h.1.2.2.1, h.1.2.2.2⟩
set_option maxRecDepth 100000 in
set_option maxHeartbeats 2000000 in
theorem heldQueueS_any (g n c : Nat) (w : World) (h : QRow w (some ⟨g, 0, none⟩) n (marksQ n)) (hn : n ≤ 1048576) :
    Calls Tryz.prog 47 #[.slice (some ⟨g, 0, none⟩) n c, .int .i64 1] w fun e w' => e = .returned (.int .i64 (1 + 4 * (n : Int))) ∧ Below w.heap.size w w' := by
  have HR := hide h
  clear h
  go_enter Tryz.func47, Tryz.ntmps47
  go_wp2
  go_loopw [1, 5] (fun s i wr => ∃ (j : Nat) (k : Int), j ≤ n ∧ i = .int .i64 j ∧ s = .int .i64 k ∧ k = 1 + 4 * (j : Int) ∧ Hid (Below w.heap.size w wr)) (fun _ i _ => n - (intOf i).toNat)
  case atStart => exact ⟨0, 1, Nat.zero_le _, rfl, rfl, by omega, hide (Below.refl _ _)⟩
  case round =>
    obtain ⟨j, k, hj, rfl, rfl, hk, HB⟩ := hrel
    by_cases hlt : j < n
    · obtain ⟨b, off, e, hq⟩ := ((unhide HR).below (unhide HB)).at hlt
      simp only [Option.some.injEq, Addr.mk.injEq, and_true] at e
      obtain ⟨rfl, rfl⟩ := e
      have hqq := hq (by rw [marksQ_len]; exact hlt)
      rw [marksQ_at] at hqq
      have T0 : ∀ wx, Calls Tryz.prog 46 #[.int .i64 k] wx fun e w' => e = .returned (.string (bs (markQ j).name)) ∧ Below wx.heap.size wx w' := fun wx => by
        have := markText_int k wx (by omega) (by omega)
        rw [show k.toNat = 1 + 4 * j by omega] at this
        exact this
      have T1 : ∀ wx, Calls Tryz.prog 46 #[.int .i64 (k + 1)] wx fun e w' => e = .returned (.string (bs (markQ j).parent)) ∧ Below wx.heap.size wx w' := fun wx => by
        have := markText_int (k + 1) wx (by omega) (by omega)
        rw [show (k + 1).toNat = 1 + 4 * j + 1 by omega] at this
        exact this
      have hd : (markQ j).due = k + 1 + 1 := by rw [hk]; rfl
      have hm : (markQ j).most = k + 1 + 1 + 1 := by rw [hk]; rfl
      obtain ⟨q, hqe⟩ : ∃ q, markQ j = q := ⟨_, rfl⟩
      rw [hqe] at hqq T0 T1 hd hm
      have A0 := hide (show QOne w g (0 + j * 4) q wr from ⟨hqq, unhide HB⟩)
      have C0 := hide T0
      have C1 := hide T1
      have HK := hide hk
      have HD := hide hd
      have HM := hide hm
      have R := QOne.read w g (0 + j * 4) q
      simp only [Nat.zero_add] at A0 R
      have j0 : (0 : Int) ≤ j := by omega
      have j1 : (j : Int) < n := by omega
      have hk0 : 0 < k := by omega
      have hk1 : k ≤ 4194305 := by omega
      have hw1 : IntKind.i64.wrap (k + 1) = k + 1 := by rw [IntKind.wrap_i64]; omega
      clear hq hqq T0 T1 hqe hk hd hm
      go_wp2_with fail
      go_region_held3 (fun wx => QOne w g (j * 4) q wx)
        (first | (with_reducible assumption) | exact (unhide A0).drew | exact QOne.call (by assumption) (by assumption))
        (first
        | (go_at_call 46; refine (unhide C0 _).mono ?_; rintro e wt ⟨rfl, hb⟩; have SA := QOne.call (w0 := w) (b := g) (p := j * 4) (q := q) (by assumption) hb))
      have A1 := hide SA
      clear SA A0
      go_wp2_with fail
      go_region_held3 (fun wx => QOne w g (j * 4) q wx)
        (first | (with_reducible assumption) | exact (unhide A1).drew | exact QOne.call (by assumption) (by assumption))
        (first
        | (go_at_call 46; refine (unhide C1 _).mono ?_; rintro e wt2 ⟨rfl, hb⟩; have SA := QOne.call (w0 := w) (b := g) (p := j * 4) (q := q) (by assumption) hb))
      obtain ⟨_, _, r2, r3⟩ := R _ SA
      rw [unhide HD] at r2
      rw [unhide HM] at r3
      have HB2 := hide SA.2
      clear SA A1 R C0 C1
      go_wp2
      go_roundw
      case rel => exact ⟨j + 1, k + 1 + 1 + 1 + 1, by omega, by go_num, by go_num, by have := unhide HK; omega, HB2⟩
      case measure => simp [intOf]; omega
    · have hjn : j = n := by omega
      subst hjn
      go_wp2
      go_ret
      exact ⟨ret_int (by omega), unhide HB⟩
end Go.Proofs.YtdkgmfogeabaoaaGreat

/-
  The laws' own marks at a list without a queue; walks over the dump.
-/
namespace Go.Proofs.YtdkgmfogeabaoaaGreat
open Go.RowKit
set_option linter.unusedVariables false

set_option maxRecDepth 100000 in
set_option maxHeartbeats 1000000 in
theorem markQueueS_zero (ao : Option Addr) (c : Nat) (w : World) :
    Calls Tryz.prog 43 #[.slice ao 0 c, .int .i64 1] w fun e w' => e = .returned (.int .i64 1) ∧ w = w' := by
  go_enter Tryz.func43, Tryz.ntmps43
  go_wp2
  go_loopw [1, 5] (fun s i wr => i = .int .i64 0 ∧ s = .int .i64 1 ∧ wr = w) (fun _ _ _ => 0)
  case atStart => exact ⟨rfl, rfl, rfl⟩
  case round =>
    obtain ⟨rfl, rfl, rfl⟩ := hrel
    go_wp2
    go_ret
    exact ⟨rfl, rfl⟩
set_option maxRecDepth 100000 in
set_option maxHeartbeats 1000000 in
theorem heldQueueS_zero (ao : Option Addr) (c : Nat) (w : World) :
    Calls Tryz.prog 47 #[.slice ao 0 c, .int .i64 1] w fun e w' => e = .returned (.int .i64 1) ∧ w = w' := by
  go_enter Tryz.func47, Tryz.ntmps47
  go_wp2
  go_loopw [1, 5] (fun s i wr => i = .int .i64 0 ∧ s = .int .i64 1 ∧ wr = w) (fun _ _ _ => 0)
  case atStart => exact ⟨rfl, rfl, rfl⟩
  case round =>
    obtain ⟨rfl, rfl, rfl⟩ := hrel
    go_wp2
    go_ret
    exact ⟨rfl, rfl⟩
end Go.Proofs.YtdkgmfogeabaoaaGreat
