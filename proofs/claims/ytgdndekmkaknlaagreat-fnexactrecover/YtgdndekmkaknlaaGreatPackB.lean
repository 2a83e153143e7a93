/-
  Several texts of this claim in one: StrS, DecM, MarkT, CelV, Cel, MarkFM, MarkFC, MarkAM, MarkA (pack.py put them together); each says in its own remark what is proved.
-/
import Derived.Test.YtgdndekmkaknlaaGreatPackA
import Derived.Lib.ItoaLen
import Derived.Laws.IdiomStrings
import Derived.BigQuiet
import Derived.Deep.QuietTactic
import Derived.Deep.RegionWith
import Derived.Test.YtgdndekmkaknlaaGreatStAll
import Derived.Deep.RegionHeld3
/-
  Slices of texts that a call has made.
-/
namespace Go.Proofs.YtgdndekmkaknlaaGreat
open Go.RowKit
set_option linter.unusedVariables false
/-- block g holds, from its head on, the texts xs, with room for cap -/
def SS (w : World) (g cap : Nat) (xs : List ByteArray) : Prop := w.ownsRow g 9 1 (.slice (some ⟨g, 0, none⟩) xs.length cap) xs.length (xs.map Value.string)
theorem SS.cell {w : World} {g cap : Nat} {xs : List ByteArray} (h : SS w g cap xs) (j : Nat) (hj : j < xs.length) : w.cell? ⟨g, j, none⟩ = some (.string xs[j]) := by
  have := World.ownsRow.cellAt h j (by omega)
  rw [this]; simp [hj]
theorem SS.frozen {w : World} {g cap : Nat} {xs : List ByteArray} (h : SS w g cap xs) (j : Nat) : w.frozen? ⟨g, j, none⟩ = false := World.ownsRow.frozenAt h j
theorem SS.block {w : World} {g cap : Nat} {xs : List ByteArray} (h : SS w g cap xs) : ∃ cur, w.heap[g]? = some (.cells cur 9 (0, 0)) ∧ xs.length ≤ cap ∧ cap ≤ maxLen ∧ cur.size = cap ∧ cur.toList.take xs.length = xs.map Value.string := by
  rcases h.2 with ⟨h1, _⟩ | ⟨g', cap', cur, h1, _, h2, h3, h4, h5, h6⟩
  · simp at h1
  · simp only [Value.slice.injEq, Option.some.injEq, Addr.mk.injEq, and_true, true_and] at h1
    obtain ⟨rfl, rfl⟩ := h1
    exact ⟨cur, h2, h3, h4, by simpa using h5, by simpa using h6⟩
theorem SS.mk {w : World} {g cap : Nat} {xs : List ByteArray} {cur : Array Value} (h : w.heap[g]? = some (.cells cur 9 (0, 0))) (h1 : xs.length ≤ cap) (h2 : cap ≤ maxLen) (h3 : cur.size = cap) (h4 : cur.toList.take xs.length = xs.map Value.string) : SS w g cap xs :=
  ⟨by simp, .inr ⟨g, cap, cur, rfl, Nat.le_refl _, h, h1, h2, by simpa using h3, by simpa using h4⟩⟩
theorem SS.lt {w : World} {g cap : Nat} {xs : List ByteArray} (h : SS w g cap xs) : g < w.heap.size := by
  obtain ⟨cur, h1, _⟩ := h.block
  exact lt_of_block h1
theorem SS.same {w w' : World} {g cap : Nat} {xs : List ByteArray} (h : SS w g cap xs) (hg : w'.heap[g]? = w.heap[g]?) : SS w' g cap xs := by
  obtain ⟨cur, h1, h2, h3, h4, h5⟩ := h.block
  exact SS.mk (hg.trans h1) h2 h3 h4 h5
theorem SS.below {w w' : World} {B g cap : Nat} {xs : List ByteArray} (h : SS w g cap xs) (hb : Below B w w') (hg : g < B) : SS w' g cap xs := h.same (hb.block g hg)
theorem SS.set {w : World} {g cap : Nat} {xs : List ByteArray} (h : SS w g cap xs) (j : Nat) (hj : j < xs.length) (x : ByteArray) : SS (w.setCell ⟨g, j, none⟩ (.string x)) g cap (xs.set j x) := by
  obtain ⟨cur, h1, h2, h3, h4, h5⟩ := h.block
  refine SS.mk (heap_setCell_same w g j cur _ _ h1) (by simpa using h2) h3 (by simpa using h4) ?_
  rw [List.length_set, Array.toList_setIfInBounds, List.take_set, h5, List.map_set]

end Go.Proofs.YtgdndekmkaknlaaGreat

/-
  Decimal digits, one by one.
-/
namespace Go.Proofs.YtgdndekmkaknlaaGreat
open Go.RowKit
/-- the digits of u, none for 0 -/
def dgs (u : Nat) : List UInt8 := if u = 0 then [] else Lib.decDigits u
theorem dgs_zero : dgs 0 = [] := rfl
theorem dgs_pos {u : Nat} (h : u ≠ 0) : dgs u = Lib.decDigits u := by rw [dgs, if_neg h]
theorem dgs_step {u : Nat} (h : u ≠ 0) : dgs u = dgs (u / 10) ++ [UInt8.ofNat (48 + u % 10)] := by
  rw [dgs_pos h, Lib.decDigits]
  by_cases h10 : u < 10
  · rw [dif_pos h10]
    have e : u / 10 = 0 := by omega
    rw [e, dgs_zero, Nat.mod_eq_of_lt h10]; rfl
  · rw [dif_neg h10, dgs_pos (by omega)]
end Go.Proofs.YtgdndekmkaknlaaGreat

/-
  The laws' own markText, and marks in a row.
-/
namespace Go.Proofs.YtgdndekmkaknlaaGreat
open Go.RowKit
set_option linter.unusedVariables false
/-- the sign of a digit -/
def dch (d : Nat) : UInt8 := UInt8.ofNat (48 + d)
/-- the mark of the number N -/
def mk (N : Nat) : ByteArray := bs (109 :: dgs N)

set_option maxRecDepth 100000 in
set_option maxHeartbeats 1000000 in
theorem markText_any (N : Nat) (w : World) (h0 : 0 < N) (hN : (N : Int) ≤ 9223372036854775807) :
    Calls Tryz.prog 24 #[.int .i64 (N : Int)] w fun e w' => e = .returned (.string (mk N)) ∧ Below w.heap.size w w' := by
  have hlen2 : (dgs N).length ≤ 20 := by rw [dgs_pos (by omega), Lib.decDigits_length]; exact Lib.nDigits_le20 N (by omega)
  have hcv : ∀ (wr : World) (x : Nat), x < 10 → (convert 106 9 (.slice (some ⟨wr.heap.size, 0, none⟩) 1 1)).run Tryz.prog (wr.alloc (.cells #[.int .u8 (48 + (x : Int))] 5)) = .ok (.string ⟨#[dch x]⟩) (wr.alloc (.cells #[.int .u8 (48 + (x : Int))] 5)) := by
    intro wr x hx
    refine run_convert_bytes_back _ 106 9 5 ⟨wr.heap.size, 0, none⟩ 1 [dch x] Tryz.underlying106 Tryz.underlying5 Tryz.underlying9 (fun j hj => ?_)
    match j, hj with
    | 0, _ => simp [Addr.add, dch]; omega
  go_enter Tryz.func24, Tryz.ntmps24
  go_wp2
  go_loopw [0, 3] (fun m o wr => ∃ (u : Nat) (l : List UInt8), u ≤ N ∧ m = .int .i64 (u : Int) ∧ o = .string (bs l) ∧ dgs u ++ l = dgs N ∧ Below w.heap.size w wr) (fun m _ _ => (intOf m).toNat)
  case atStart => exact ⟨N, [], Nat.le_refl _, rfl, rfl, by simp, Below.refl _ _⟩
  case round =>
    obtain ⟨u, l, hu, rfl, rfl, hcat, hbel⟩ := hrel
    have hl : l.length ≤ 20 := by have := congrArg List.length hcat; simp only [List.length_append] at this; omega
    have hl2 : (bs l).size ≤ 20 := by rw [bs_size]; exact hl
    have hsz := hbel.size
    have HC := hide hcat
    have HB := hide hbel
    clear hcat hl hbel
    by_cases hu0 : u = 0
    · subst hu0
      clear hcv
      go_wp2
      go_ret
      exact ⟨ret_str (by rw [cons_bs, mk]; exact congrArg bs (congrArg (fun t => 109 :: t) (unhide HC))), unhide HB⟩
    · have hcw := hcv wr (u % 10) (by omega)
      rw [show ((u % 10 : Nat) : Int) = (u : Int) % 10 from by omega] at hcw
      clear hcv
      have hcs : (ByteArray.mk #[dch (u % 10)]).size = 1 := rfl
      go_wp2
      go_roundw
      case rel => exact ⟨u / 10, dch (u % 10) :: l, by omega, by go_num, str_eq (cons_bs _ _), by rw [← unhide HC, dgs_step hu0, dch]; simp, (unhide HB).alloc hsz _⟩
      case measure => simp [intOf]; omega

theorem markText_int (x : Int) (w : World) (h0 : 0 < x) (hN : x ≤ 9223372036854775807) :
    Calls Tryz.prog 24 #[.int .i64 x] w fun e w' => e = .returned (.string (mk x.toNat)) ∧ Below w.heap.size w w' := by
  obtain ⟨N, rfl⟩ := Int.eq_ofNat_of_zero_le (a := x) (by omega)
  rw [Int.toNat_natCast]
  exact markText_any N w (by omega) hN
/-- the marks from k on: n of them -/
def marks (k : Nat) : Nat → List ByteArray
  | 0 => []
  | n + 1 => mk k :: marks (k + 1) n
/-- the first j texts marked -/
def marked (k : Nat) (xs : List ByteArray) (j : Nat) : List ByteArray := (marks k xs.length).take j ++ xs.drop j
end Go.Proofs.YtgdndekmkaknlaaGreat

/-
  Rows of cells that may be written; what a call that marks them leaves alone.
-/
namespace Go.Proofs.YtgdndekmkaknlaaGreat
open Go.RowKit
set_option linter.unusedVariables false
/-- block g is a row of N cells of type t that may be written -/
def Cel (w : World) (t : TypeId) (g N : Nat) : Prop := ∃ arr : Array Value, w.heap[g]? = some (.cells arr t (0, 0)) ∧ arr.size = N
theorem Cel.lt {w : World} {t : TypeId} {g N : Nat} (h : Cel w t g N) : g < w.heap.size := let ⟨_, h, _⟩ := h; lt_of_block h
theorem Cel.of_block {w w' : World} {t : TypeId} {g N : Nat} (h : Cel w t g N) (e : w'.heap[g]? = w.heap[g]?) : Cel w' t g N := by
  obtain ⟨arr, h1, h2⟩ := h
  exact ⟨arr, e.trans h1, h2⟩
theorem Cel.below {w w' : World} {t : TypeId} {g N : Nat} (h : Cel w t g N) (hb : Below w.heap.size w w') : Cel w' t g N := h.of_block (hb.block g h.lt)
theorem Cel.set {w : World} {t : TypeId} {g N : Nat} (h : Cel w t g N) (b j : Nat) (v : Value) : Cel (w.setCell ⟨b, j, none⟩ v) t g N := by
  by_cases e : g = b
  · subst e
    obtain ⟨arr, h1, h2⟩ := h
    exact ⟨_, heap_setCell_same w g j _ _ v h1, by simp [h2]⟩
  · exact h.of_block (heap_setCell_other w ⟨b, j, none⟩ g v e)
theorem Cel.cell {w : World} {t : TypeId} {g N : Nat} (h : Cel w t g N) {j : Nat} (hj : j < N) : ∃ v, w.cell? ⟨g, j, none⟩ = some v := by
  obtain ⟨arr, h1, h2⟩ := h
  exact ⟨arr[j]'(by omega), by simp [World.cell?, h1, Array.getElem?_eq_getElem (show j < arr.size by omega)]⟩
theorem Cel.frozen {w : World} {t : TypeId} {g N : Nat} (h : Cel w t g N) (j : Nat) : w.frozen? ⟨g, j, none⟩ = false := by
  obtain ⟨arr, h1, h2⟩ := h
  simp [World.frozen?, h1]

/-- of all that was there nothing has turned but cells of the blocks from B on to E -/
structure Mkd (B E : Nat) (w w' : World) : Prop where
  os : w'.os = w.os
  tape : w'.tape = w.tape
  output : w'.output = w.output
  size : w.heap.size ≤ w'.heap.size
  block : ∀ k, k < w.heap.size → (k < B ∨ E ≤ k) → w'.heap[k]? = w.heap[k]?
  cel : ∀ t g N, Cel w t g N → Cel w' t g N
theorem Mkd.refl (B E : Nat) (w : World) : Mkd B E w w := ⟨rfl, rfl, rfl, Nat.le_refl _, fun _ _ _ => rfl, fun _ _ _ h => h⟩
theorem Mkd.trans {B E : Nat} {a b c : World} (h : Mkd B E a b) (k : Mkd B E b c) : Mkd B E a c :=
  ⟨k.os.trans h.os, k.tape.trans h.tape, k.output.trans h.output, Nat.le_trans h.size k.size, fun i hi ho => (k.block i (Nat.lt_of_lt_of_le hi h.size) ho).trans (h.block i hi ho), fun t g N x => k.cel t g N (h.cel t g N x)⟩
theorem Mkd.mono {B E B' E' : Nat} {a b : World} (h : Mkd B E a b) (h1 : B' ≤ B) (h2 : E ≤ E') : Mkd B' E' a b :=
  ⟨h.os, h.tape, h.output, h.size, fun i hi ho => h.block i hi (by omega), h.cel⟩
theorem Mkd.of_below {B E : Nat} {w w' : World} (hb : Below w.heap.size w w') : Mkd B E w w' := ⟨hb.os, hb.tape, hb.output, hb.size, fun i hi _ => hb.block i hi, fun t g N x => x.below hb⟩
theorem Mkd.on {B E : Nat} {a w w' : World} (h : Mkd B E a w) (hb : Below w.heap.size w w') : Mkd B E a w' := h.trans (.of_below hb)
theorem Mkd.sc {B E : Nat} {a w : World} (h : Mkd B E a w) (g j : Nat) (v : Value) (h1 : B ≤ g) (h2 : g < E) : Mkd B E a (w.setCell ⟨g, j, none⟩ v) :=
  h.trans ⟨rfl, rfl, rfl, by simp [World.setCell], fun k _ ho => Below.heap_setCell _ _ _ _ (by show k ≠ g; omega), fun t g' N x => x.set g j v⟩
/-- below B all stands -/
theorem Mkd.below {B E : Nat} {a w : World} (h : Mkd B E a w) (hB : B ≤ a.heap.size) : Below B a w := ⟨h.os, h.tape, h.output, h.size, fun k hk => h.block k (by omega) (.inl hk)⟩
theorem Mkd.blk {B E g : Nat} {a w : World} {arr : Array Value} {t : TypeId} (h : Mkd B E a w) (hb : Blk a g arr t) (ho : g < B ∨ E ≤ g) : Blk w g arr t := (h.block g hb.lt ho).trans hb
end Go.Proofs.YtgdndekmkaknlaaGreat

/-
  Rows of cells that may be written, of each kind.
-/
namespace Go.Proofs.YtgdndekmkaknlaaGreat
open Go.RowKit
set_option linter.unusedVariables false
theorem QBlk.cel {w : World} {t : TypeId} {g n k : Nat} {l : List Q} (h : QBlk w t g n k l) : Cel w t g (n * 4) := let ⟨arr, h1, h2, _⟩ := h; ⟨arr, h1, h2⟩
theorem AskBlk.cel {w : World} {t : TypeId} {g n k : Nat} {l : List Ask} (h : AskBlk w t g n k l) : Cel w t g (n * 5) := let ⟨arr, h1, h2, _⟩ := h; ⟨arr, h1, h2⟩
theorem MacBlk.cel {w : World} {t : TypeId} {g n k : Nat} {l : List Mac} (h : MacBlk w t g n k l) : Cel w t g (n * 4) := let ⟨arr, h1, h2, _⟩ := h; ⟨arr, h1, h2⟩
theorem ConBlk.cel {w : World} {t : TypeId} {g n k : Nat} {l : List Con} (h : ConBlk w t g n k l) : Cel w t g (n * 5) := let ⟨arr, h1, h2, _⟩ := h; ⟨arr, h1, h2⟩
theorem ApplBlk.cel {w : World} {t : TypeId} {g n k : Nat} {l : List Appl} (h : ApplBlk w t g n k l) : Cel w t g (n * 3) := let ⟨arr, h1, h2, _⟩ := h; ⟨arr, h1, h2⟩
end Go.Proofs.YtgdndekmkaknlaaGreat

/-
  The laws' own markMachineS, from any number on, and heldMachineS: what is marked in a row, and found again (gmf.py wrote this); walks over the dump.
-/
namespace Go.Proofs.YtgdndekmkaknlaaGreat
open Go.RowKit
set_option linter.unusedVariables false
set_option linter.unusedSimpArgs false
def markM (k j : Nat) : Mac := ⟨109 :: dgs (k + 4 * j), (k : Int) + 4 * (j : Int) + 1, (k : Int) + 4 * (j : Int) + 1 + 1, (k : Int) + 4 * (j : Int) + 1 + 1 + 1⟩
def marksM (k n : Nat) : List Mac := (List.range n).map (markM k)
theorem marksM_len (k n : Nat) : (marksM k n).length = n := by simp [marksM]
theorem marksM_at (k n j : Nat) (h : j < (marksM k n).length) : (marksM k n)[j] = markM k j := by simp [marksM]
theorem MacBlk.tail {w : World} {t : TypeId} {g n k : Nat} {l : List Mac} (h : MacBlk w t g n k l) {p : Nat} (hp : k * 4 ≤ p) (v : Value) : MacBlk (w.setCell ⟨g, p, none⟩ v) t g n k l := by
  obtain ⟨arr, h1, h2, h3⟩ := h
  refine ⟨_, heap_setCell_same w g p _ _ v h1, by simp [h2], fun i hi hik => ?_⟩
  obtain ⟨a, b, c, d⟩ := h3 i hi hik
  refine ⟨?_, ?_, ?_, ?_⟩
  · rw [← a, Array.getElem?_setIfInBounds, if_neg (by omega)]
  · rw [← b, Array.getElem?_setIfInBounds, if_neg (by omega)]
  · rw [← c, Array.getElem?_setIfInBounds, if_neg (by omega)]
  · rw [← d, Array.getElem?_setIfInBounds, if_neg (by omega)]
theorem MacBlk.next {w : World} {t : TypeId} {g n k : Nat} {l : List Mac} (h : MacBlk w t g n k l) (c : ∀ hk : k < l.length, MacAt w g (k * 4) l[k]) : MacBlk w t g n (k + 1) l := by
  obtain ⟨arr, h1, h2, h3⟩ := h
  refine ⟨arr, h1, h2, fun i hi hik => ?_⟩
  by_cases e : i = k
  · subst e
    obtain ⟨c0, c1, c2, c3⟩ := c hi
    simp [World.cell?, h1] at c0 c1 c2 c3
    exact ⟨c0, c1, c2, c3⟩
  · exact h3 i hi (by omega)
theorem MacBlk.rowOf {w : World} {t : TypeId} {g c n : Nat} {l : List Mac} (h : MacBlk w t g c n l) (hl : n = l.length) : MacRow w (some ⟨g, 0, none⟩) n l := by
  obtain ⟨arr, h1, h2, h3⟩ := h
  refine ⟨hl, .inr ⟨g, 0, rfl, fun i hi => ?_⟩⟩
  obtain ⟨a, b, c, d⟩ := h3 i hi (by omega)
  unfold MacAt
  simp only [Nat.zero_add]
  exact ⟨by simp [World.cell?, h1, a], by simp [World.cell?, h1, b], by simp [World.cell?, h1, c], by simp [World.cell?, h1, d]⟩
theorem cellKeepM {w : World} {g p q : Nat} {u v : Value} (h : w.cell? ⟨g, p, none⟩ = some u) (hne : q ≠ p) : (w.setCell ⟨g, q, none⟩ v).cell? ⟨g, p, none⟩ = some u :=
  (World.cell?_setCell_other _ _ _ _ (fun e => hne (congrArg Addr.off e))).trans h
set_option maxRecDepth 100000 in
set_option maxHeartbeats 4000000 in
theorem markMachineS_full (g n c K : Nat) {d : Nat} (w : World) (h : Cel w 102 g (c * 4)) (hc : n ≤ c) (hn : n ≤ 1048576) (h0 : 0 < K) (h1 : K ≤ 1000000000000000) :
    Calls Tryz.prog 26 #[.slice (some ⟨g, 0, none⟩) n d, .int .i64 (K : Int)] w fun e w' => e = .returned (.int .i64 ((K : Int) + 4 * (n : Int))) ∧ MacRow w' (some ⟨g, 0, none⟩) n (marksM K n) ∧ Mkd g (g + 1) w w' := by
  have HQ0 := hide (show MacBlk w 102 g c 0 (marksM K n) by obtain ⟨arr, h1, h2⟩ := h; exact ⟨arr, h1, h2, fun i _ h => absurd h (by omega)⟩)
  clear h
  go_enter Tryz.func26, Tryz.ntmps26
  go_wp2
  go_loopw [1, 5] (fun s i wr => ∃ (j : Nat) (k : Int), j ≤ n ∧ i = .int .i64 j ∧ s = .int .i64 k ∧ k = (K : Int) + 4 * (j : Int) ∧ Hid (MacBlk wr 102 g c j (marksM K n)) ∧ Hid (Mkd g (g + 1) w wr)) (fun _ i _ => n - (intOf i).toNat)
  case atStart => exact ⟨0, K, Nat.zero_le _, rfl, rfl, by omega, HQ0, hide (Mkd.refl _ _ _)⟩
  case round =>
    obtain ⟨j, k, hj, rfl, rfl, hk, HQ, HG⟩ := hrel
    by_cases hlt : j < n
    · have HK := hide hk
      have hk0 : 0 < k := by omega
      have hk1 : k ≤ 1000000010000000 := by omega
      clear hk
      go_wp2_with fail
      refine (markText_int (k) _ (by omega) (by omega)).mono ?_
      rintro e w1 ⟨rfl, hb⟩
      have HQt := hide ((unhide HQ).below hb)
      have HGt := hide ((unhide HG).on hb)
      clear HQ HG hb
      obtain ⟨v0, d0⟩ := (unhide HQt).cell (j := j * 4) (by omega)
      have f0 := (unhide HQt).frozen (j * 4)
      have Z0_1 := hide (World.cell?_setCell_same _ ⟨g, j * 4, none⟩ (.string (mk (k).toNat)) d0)
      have HQ1z := hide ((unhide HQt).tail (p := j * 4) (by omega) (.string (mk (k).toNat)))
      have HG1z := hide ((unhide HGt).sc g (j * 4) (.string (mk (k).toNat)) (Nat.le_refl _) (by omega))
      obtain ⟨v1, d1⟩ := (unhide HQ1z).cell (j := j * 4 + 1) (by omega)
      have f1 := (unhide HQ1z).frozen (j * 4 + 1)
      have Z0_2 := hide (cellKeepM (q := j * 4 + 1) (v := .int .i64 (k + 1)) (unhide Z0_1) (by omega))
      have Z1_3 := hide (World.cell?_setCell_same _ ⟨g, j * 4 + 1, none⟩ (.int .i64 (k + 1)) d1)
      have HQ2z := hide ((unhide HQ1z).tail (p := j * 4 + 1) (by omega) (.int .i64 (k + 1)))
      have HG2z := hide ((unhide HG1z).sc g (j * 4 + 1) (.int .i64 (k + 1)) (Nat.le_refl _) (by omega))
      obtain ⟨v2, d2⟩ := (unhide HQ2z).cell (j := j * 4 + 2) (by omega)
      have f2 := (unhide HQ2z).frozen (j * 4 + 2)
      have Z0_4 := hide (cellKeepM (q := j * 4 + 2) (v := .int .i64 (k + 1 + 1)) (unhide Z0_2) (by omega))
      have Z1_5 := hide (cellKeepM (q := j * 4 + 2) (v := .int .i64 (k + 1 + 1)) (unhide Z1_3) (by omega))
      have Z2_6 := hide (World.cell?_setCell_same _ ⟨g, j * 4 + 2, none⟩ (.int .i64 (k + 1 + 1)) d2)
      have HQ3z := hide ((unhide HQ2z).tail (p := j * 4 + 2) (by omega) (.int .i64 (k + 1 + 1)))
      have HG3z := hide ((unhide HG2z).sc g (j * 4 + 2) (.int .i64 (k + 1 + 1)) (Nat.le_refl _) (by omega))
      obtain ⟨v3, d3⟩ := (unhide HQ3z).cell (j := j * 4 + 3) (by omega)
      have f3 := (unhide HQ3z).frozen (j * 4 + 3)
      have HN := hide (show MacBlk _ 102 g c (j + 1) (marksM K n) from ((unhide HQ3z).tail (p := j * 4 + 3) (by omega) (.int .i64 (k + 1 + 1 + 1))).next (fun hj' => by
        rw [marksM_at]
        have e1 : (k).toNat = K + 4 * j := by have := unhide HK; omega
        have e3 := unhide HK
        have y0 := cellKeepM (q := j * 4 + 3) (v := .int .i64 (k + 1 + 1 + 1)) (unhide Z0_4) (by omega)
        have y1 := cellKeepM (q := j * 4 + 3) (v := .int .i64 (k + 1 + 1 + 1)) (unhide Z1_5) (by omega)
        have y2 := cellKeepM (q := j * 4 + 3) (v := .int .i64 (k + 1 + 1 + 1)) (unhide Z2_6) (by omega)
        have y3 := World.cell?_setCell_same _ ⟨g, j * 4 + 3, none⟩ (.int .i64 (k + 1 + 1 + 1)) d3
        refine ⟨y0.trans ?_, y1.trans ?_, y2.trans ?_, y3.trans ?_⟩
        · rw [e1]; rfl
        · rw [e3]; rfl
        · rw [e3]; rfl
        · rw [e3]; rfl))
      have HGn := hide ((unhide HG3z).sc g (j * 4 + 3) (.int .i64 (k + 1 + 1 + 1)) (Nat.le_refl _) (by omega))
      clear HQt HGt Z0_1 HQ1z HG1z Z0_2 Z1_3 HQ2z HG2z HG3z Z0_4 Z1_5 Z2_6
      go_wp2
      go_roundw
      case rel => exact ⟨j + 1, k + 1 + 1 + 1 + 1, by omega, by go_num, by go_num, by have := unhide HK; omega, HN, HGn⟩
      case measure => simp [intOf]; omega
    · have hjn : j = n := by omega
      subst hjn
      go_wp2
      go_ret
      exact ⟨ret_int (by omega), (unhide HQ).rowOf (by rw [marksM_len]), unhide HG⟩

/-- one stands at a place; of w0 nothing has turned -/
def MacOne (w0 : World) (b p : Nat) (q : Mac) (w : World) : Prop := MacAt w b p q ∧ Below w0.heap.size w0 w
theorem MacOne.call {w0 w w' : World} {b p : Nat} {q : Mac} (h : MacOne w0 b p q w) (hb : Below w.heap.size w w') : MacOne w0 b p q w' := ⟨h.1.below hb, below_on h.2 hb⟩
theorem MacOne.drew {w0 w : World} {b p : Nat} {q : Mac} (h : MacOne w0 b p q w) : MacOne w0 b p q w.drew := h.call (Below.refl _ _).drew
theorem MacOne.read (w0 : World) (b p : Nat) (q : Mac) : ∀ wx, MacOne w0 b p q wx → wx.cell? ⟨b, p, none⟩ = some (.string (bs q.name)) ∧ wx.cell? ⟨b, p + 1, none⟩ = some (.int .i64 q.mem) ∧ wx.cell? ⟨b, p + 2, none⟩ = some (.int .i64 q.cpu) ∧ wx.cell? ⟨b, p + 3, none⟩ = some (.int .i64 q.seen) := fun wx h => h.1
set_option maxRecDepth 100000 in
set_option maxHeartbeats 2000000 in
theorem heldMachineS_any (ao : Option Addr) (n c K : Nat) (w : World) (h : MacRow w ao n (marksM K n)) (hn : n ≤ 1048576) (h0 : 0 < K) (h1 : K ≤ 1000000000000000) :
    Calls Tryz.prog 30 #[.slice ao n c, .int .i64 (K : Int)] w fun e w' => e = .returned (.int .i64 ((K : Int) + 4 * (n : Int))) ∧ Below w.heap.size w w' := by
  have HR := hide h
  clear h
  go_enter Tryz.func30, Tryz.ntmps30
  go_wp2
  go_loopw [1, 5] (fun s i wr => ∃ (j : Nat) (k : Int), j ≤ n ∧ i = .int .i64 j ∧ s = .int .i64 k ∧ k = (K : Int) + 4 * (j : Int) ∧ Hid (Below w.heap.size w wr)) (fun _ i _ => n - (intOf i).toNat)
  case atStart => exact ⟨0, K, Nat.zero_le _, rfl, rfl, by omega, hide (Below.refl _ _)⟩
  case round =>
    obtain ⟨j, k, hj, rfl, rfl, hk, HB⟩ := hrel
    by_cases hlt : j < n
    · obtain ⟨b, off, rfl, hq⟩ := ((unhide HR).below (unhide HB)).at hlt
      have hqq := hq (by rw [marksM_len]; exact hlt)
      rw [marksM_at] at hqq
      have T0 : ∀ wx, Calls Tryz.prog 24 #[.int .i64 (k)] wx fun e w' => e = .returned (.string (bs (markM K j).name)) ∧ Below wx.heap.size wx w' := fun wx => by
        have := markText_int (k) wx (by omega) (by omega)
        rw [show (k).toNat = K + 4 * j by omega] at this
        exact this
      have h_1 : (markM K j).mem = k + 1 := by rw [hk]; rfl
      have h_2 : (markM K j).cpu = k + 1 + 1 := by rw [hk]; rfl
      have h_3 : (markM K j).seen = k + 1 + 1 + 1 := by rw [hk]; rfl
      obtain ⟨q, hqe⟩ : ∃ q, markM K j = q := ⟨_, rfl⟩
      rw [hqe] at hqq T0 h_1 h_2 h_3
      have A0 := hide (show MacOne w b (off + j * 4) q wr from ⟨hqq, unhide HB⟩)
      have C0 := hide T0
      have HK := hide hk
      have H_1 := hide h_1
      have H_2 := hide h_2
      have H_3 := hide h_3
      have R := MacOne.read w b (off + j * 4) q
      have R' := hide R
      obtain ⟨_, _, _, _⟩ := R _ (unhide A0)
      have j0 : (0 : Int) ≤ j := by omega
      have j1 : (j : Int) < n := by omega
      have hk0 : 0 < k := by omega
      have hk1 : k ≤ 1000000010000000 := by omega
      clear hq hqq T0 hqe hk h_1 h_2 h_3 R
      go_wp2_with fail
      have R := unhide R'
      go_region_held3 (fun wx => MacOne w b (off + j * 4) q wx)
        (first | (with_reducible assumption) | exact (unhide A0).drew | exact MacOne.call (by assumption) (by assumption))
        (first
        | (go_at_call 24; refine (unhide C0 _).mono ?_; rintro e wt ⟨rfl, hb⟩; have SA := MacOne.call (w0 := w) (b := b) (p := off + j * 4) (q := q) (by assumption) hb))
      obtain ⟨_, r1, r2, r3⟩ := R _ SA
      rw [unhide H_1] at r1
      rw [unhide H_2] at r2
      rw [unhide H_3] at r3
      have HB2 := hide SA.2
      clear SA A0 R C0 R'
      go_wp2
      go_roundw
      case rel => exact ⟨j + 1, k + 1 + 1 + 1 + 1, by omega, by go_num, by go_num, by have := unhide HK; omega, HB2⟩
      case measure => simp [intOf]; omega
    · have hjn : j = n := by omega
      subst hjn
      go_wp2
      go_ret
      exact ⟨ret_int (by omega), unhide HB⟩
end Go.Proofs.YtgdndekmkaknlaaGreat

/-
  The laws' own markContS, from any number on, and heldContS: what is marked in a row, and found again (gmf.py wrote this); walks over the dump.
-/
namespace Go.Proofs.YtgdndekmkaknlaaGreat
open Go.RowKit
set_option linter.unusedVariables false
set_option linter.unusedSimpArgs false
def markC (k j : Nat) : Con := ⟨(k : Int) + 5 * (j : Int), (k : Int) + 5 * (j : Int) + 1, 109 :: dgs (k + 5 * j + 1 + 1), (k : Int) + 5 * (j : Int) + 1 + 1 + 1, (k : Int) + 5 * (j : Int) + 1 + 1 + 1 + 1⟩
def marksC (k n : Nat) : List Con := (List.range n).map (markC k)
theorem marksC_len (k n : Nat) : (marksC k n).length = n := by simp [marksC]
theorem marksC_at (k n j : Nat) (h : j < (marksC k n).length) : (marksC k n)[j] = markC k j := by simp [marksC]
theorem ConBlk.tail {w : World} {t : TypeId} {g n k : Nat} {l : List Con} (h : ConBlk w t g n k l) {p : Nat} (hp : k * 5 ≤ p) (v : Value) : ConBlk (w.setCell ⟨g, p, none⟩ v) t g n k l := by
  obtain ⟨arr, h1, h2, h3⟩ := h
  refine ⟨_, heap_setCell_same w g p _ _ v h1, by simp [h2], fun i hi hik => ?_⟩
  obtain ⟨a, b, c, d, e⟩ := h3 i hi hik
  refine ⟨?_, ?_, ?_, ?_, ?_⟩
  · rw [← a, Array.getElem?_setIfInBounds, if_neg (by omega)]
  · rw [← b, Array.getElem?_setIfInBounds, if_neg (by omega)]
  · rw [← c, Array.getElem?_setIfInBounds, if_neg (by omega)]
  · rw [← d, Array.getElem?_setIfInBounds, if_neg (by omega)]
  · rw [← e, Array.getElem?_setIfInBounds, if_neg (by omega)]
theorem ConBlk.next {w : World} {t : TypeId} {g n k : Nat} {l : List Con} (h : ConBlk w t g n k l) (c : ∀ hk : k < l.length, ConAt w g (k * 5) l[k]) : ConBlk w t g n (k + 1) l := by
  obtain ⟨arr, h1, h2, h3⟩ := h
  refine ⟨arr, h1, h2, fun i hi hik => ?_⟩
  by_cases e : i = k
  · subst e
    obtain ⟨c0, c1, c2, c3, c4⟩ := c hi
    simp [World.cell?, h1] at c0 c1 c2 c3 c4
    exact ⟨c0, c1, c2, c3, c4⟩
  · exact h3 i hi (by omega)
theorem ConBlk.rowOf {w : World} {t : TypeId} {g c n : Nat} {l : List Con} (h : ConBlk w t g c n l) (hl : n = l.length) : ConRow w (some ⟨g, 0, none⟩) n l := by
  obtain ⟨arr, h1, h2, h3⟩ := h
  refine ⟨hl, .inr ⟨g, 0, rfl, fun i hi => ?_⟩⟩
  obtain ⟨a, b, c, d, e⟩ := h3 i hi (by omega)
  unfold ConAt
  simp only [Nat.zero_add]
  exact ⟨by simp [World.cell?, h1, a], by simp [World.cell?, h1, b], by simp [World.cell?, h1, c], by simp [World.cell?, h1, d], by simp [World.cell?, h1, e]⟩
theorem cellKeepC {w : World} {g p q : Nat} {u v : Value} (h : w.cell? ⟨g, p, none⟩ = some u) (hne : q ≠ p) : (w.setCell ⟨g, q, none⟩ v).cell? ⟨g, p, none⟩ = some u :=
  (World.cell?_setCell_other _ _ _ _ (fun e => hne (congrArg Addr.off e))).trans h
theorem cellBelC {w w' : World} {g p : Nat} {u : Value} (h : w.cell? ⟨g, p, none⟩ = some u) (hb : Below w.heap.size w w') : w'.cell? ⟨g, p, none⟩ = some u := (hb.cell (cell_lt h)).trans h

set_option maxRecDepth 100000 in
set_option maxHeartbeats 4000000 in
theorem markContS_full (g n c K : Nat) {d : Nat} (w : World) (h : Cel w 105 g (c * 5)) (hc : n ≤ c) (hn : n ≤ 1048576) (h0 : 0 < K) (h1 : K ≤ 1000000000000000) :
    Calls Tryz.prog 27 #[.slice (some ⟨g, 0, none⟩) n d, .int .i64 (K : Int)] w fun e w' => e = .returned (.int .i64 ((K : Int) + 5 * (n : Int))) ∧ ConRow w' (some ⟨g, 0, none⟩) n (marksC K n) ∧ Mkd g (g + 1) w w' := by
  have HQ0 := hide (show ConBlk w 105 g c 0 (marksC K n) by obtain ⟨arr, h1, h2⟩ := h; exact ⟨arr, h1, h2, fun i _ h => absurd h (by omega)⟩)
  clear h
  go_enter Tryz.func27, Tryz.ntmps27
  go_wp2
  go_loopw [1, 5] (fun s i wr => ∃ (j : Nat) (k : Int), j ≤ n ∧ i = .int .i64 j ∧ s = .int .i64 k ∧ k = (K : Int) + 5 * (j : Int) ∧ Hid (ConBlk wr 105 g c j (marksC K n)) ∧ Hid (Mkd g (g + 1) w wr)) (fun _ i _ => n - (intOf i).toNat)
  case atStart => exact ⟨0, K, Nat.zero_le _, rfl, rfl, by omega, HQ0, hide (Mkd.refl _ _ _)⟩
  case round =>
    obtain ⟨j, k, hj, rfl, rfl, hk, HQ, HG⟩ := hrel
    by_cases hlt : j < n
    · have HK := hide hk
      have hk0 : 0 < k := by omega
      have hk1 : k ≤ 1000000010000000 := by omega
      clear hk
      obtain ⟨v0, d0⟩ := (unhide HQ).cell (j := j * 5) (by omega)
      have f0 := (unhide HQ).frozen (j * 5)
      have X0_1 := hide (World.cell?_setCell_same _ ⟨g, j * 5, none⟩ (.int .i64 (k)) d0)
      have HQ1 := hide ((unhide HQ).tail (p := j * 5) (by omega) (.int .i64 (k)))
      have HG1 := hide ((unhide HG).sc g (j * 5) (.int .i64 (k)) (Nat.le_refl _) (by omega))
      obtain ⟨v1, d1⟩ := (unhide HQ1).cell (j := j * 5 + 1) (by omega)
      have f1 := (unhide HQ1).frozen (j * 5 + 1)
      have X0_2 := hide (cellKeepC (q := j * 5 + 1) (v := .int .i64 (k + 1)) (unhide X0_1) (by omega))
      have X1_3 := hide (World.cell?_setCell_same _ ⟨g, j * 5 + 1, none⟩ (.int .i64 (k + 1)) d1)
      have HQ2 := hide ((unhide HQ1).tail (p := j * 5 + 1) (by omega) (.int .i64 (k + 1)))
      have HG2 := hide ((unhide HG1).sc g (j * 5 + 1) (.int .i64 (k + 1)) (Nat.le_refl _) (by omega))
      clear HQ HG X0_1 HQ1 HG1
      go_wp2_with fail
      refine (markText_int (k + 1 + 1) _ (by omega) (by omega)).mono ?_
      rintro e w1 ⟨rfl, hb⟩
      have HQt := hide ((unhide HQ2).below hb)
      have HGt := hide ((unhide HG2).on hb)
      have Y0 := hide (cellBelC (unhide X0_2) hb)
      have Y1 := hide (cellBelC (unhide X1_3) hb)
      clear HQ2 HG2 X0_2 X1_3 hb d0 f0 d1 f1
      obtain ⟨v2, d2⟩ := (unhide HQt).cell (j := j * 5 + 2) (by omega)
      have f2 := (unhide HQt).frozen (j * 5 + 2)
      have Z0_4 := hide (cellKeepC (q := j * 5 + 2) (v := .string (mk (k + 1 + 1).toNat)) (unhide Y0) (by omega))
      have Z1_5 := hide (cellKeepC (q := j * 5 + 2) (v := .string (mk (k + 1 + 1).toNat)) (unhide Y1) (by omega))
      have Z2_6 := hide (World.cell?_setCell_same _ ⟨g, j * 5 + 2, none⟩ (.string (mk (k + 1 + 1).toNat)) d2)
      have HQ3z := hide ((unhide HQt).tail (p := j * 5 + 2) (by omega) (.string (mk (k + 1 + 1).toNat)))
      have HG3z := hide ((unhide HGt).sc g (j * 5 + 2) (.string (mk (k + 1 + 1).toNat)) (Nat.le_refl _) (by omega))
      obtain ⟨v3, d3⟩ := (unhide HQ3z).cell (j := j * 5 + 3) (by omega)
      have f3 := (unhide HQ3z).frozen (j * 5 + 3)
      have Z0_7 := hide (cellKeepC (q := j * 5 + 3) (v := .int .i64 (k + 1 + 1 + 1)) (unhide Z0_4) (by omega))
      have Z1_8 := hide (cellKeepC (q := j * 5 + 3) (v := .int .i64 (k + 1 + 1 + 1)) (unhide Z1_5) (by omega))
      have Z2_9 := hide (cellKeepC (q := j * 5 + 3) (v := .int .i64 (k + 1 + 1 + 1)) (unhide Z2_6) (by omega))
      have Z3_10 := hide (World.cell?_setCell_same _ ⟨g, j * 5 + 3, none⟩ (.int .i64 (k + 1 + 1 + 1)) d3)
      have HQ4z := hide ((unhide HQ3z).tail (p := j * 5 + 3) (by omega) (.int .i64 (k + 1 + 1 + 1)))
      have HG4z := hide ((unhide HG3z).sc g (j * 5 + 3) (.int .i64 (k + 1 + 1 + 1)) (Nat.le_refl _) (by omega))
      obtain ⟨v4, d4⟩ := (unhide HQ4z).cell (j := j * 5 + 4) (by omega)
      have f4 := (unhide HQ4z).frozen (j * 5 + 4)
      have HN := hide (show ConBlk _ 105 g c (j + 1) (marksC K n) from ((unhide HQ4z).tail (p := j * 5 + 4) (by omega) (.int .i64 (k + 1 + 1 + 1 + 1))).next (fun hj' => by
        rw [marksC_at]
        have e1 : (k + 1 + 1).toNat = K + 5 * j + 1 + 1 := by have := unhide HK; omega
        have e3 := unhide HK
        have y0 := cellKeepC (q := j * 5 + 4) (v := .int .i64 (k + 1 + 1 + 1 + 1)) (unhide Z0_7) (by omega)
        have y1 := cellKeepC (q := j * 5 + 4) (v := .int .i64 (k + 1 + 1 + 1 + 1)) (unhide Z1_8) (by omega)
        have y2 := cellKeepC (q := j * 5 + 4) (v := .int .i64 (k + 1 + 1 + 1 + 1)) (unhide Z2_9) (by omega)
        have y3 := cellKeepC (q := j * 5 + 4) (v := .int .i64 (k + 1 + 1 + 1 + 1)) (unhide Z3_10) (by omega)
        have y4 := World.cell?_setCell_same _ ⟨g, j * 5 + 4, none⟩ (.int .i64 (k + 1 + 1 + 1 + 1)) d4
        refine ⟨y0.trans ?_, y1.trans ?_, y2.trans ?_, y3.trans ?_, y4.trans ?_⟩
        · rw [e3]; rfl
        · rw [e3]; rfl
        · rw [e1]; rfl
        · rw [e3]; rfl
        · rw [e3]; rfl))
      have HGn := hide ((unhide HG4z).sc g (j * 5 + 4) (.int .i64 (k + 1 + 1 + 1 + 1)) (Nat.le_refl _) (by omega))
      clear Y0 Y1 HQt HGt Z0_4 Z1_5 Z2_6 HQ3z HG3z HG4z Z0_7 Z1_8 Z2_9 Z3_10
      go_wp2
      go_roundw
      case rel => exact ⟨j + 1, k + 1 + 1 + 1 + 1 + 1, by omega, by go_num, by go_num, by have := unhide HK; omega, HN, HGn⟩
      case measure => simp [intOf]; omega
    · have hjn : j = n := by omega
      subst hjn
      go_wp2
      go_ret
      exact ⟨ret_int (by omega), (unhide HQ).rowOf (by rw [marksC_len]), unhide HG⟩

/-- one stands at a place; of w0 nothing has turned -/
def ConOne (w0 : World) (b p : Nat) (q : Con) (w : World) : Prop := ConAt w b p q ∧ Below w0.heap.size w0 w
theorem ConOne.call {w0 w w' : World} {b p : Nat} {q : Con} (h : ConOne w0 b p q w) (hb : Below w.heap.size w w') : ConOne w0 b p q w' := ⟨h.1.below hb, below_on h.2 hb⟩
theorem ConOne.drew {w0 w : World} {b p : Nat} {q : Con} (h : ConOne w0 b p q w) : ConOne w0 b p q w.drew := h.call (Below.refl _ _).drew
theorem ConOne.read (w0 : World) (b p : Nat) (q : Con) : ∀ wx, ConOne w0 b p q wx → wx.cell? ⟨b, p, none⟩ = some (.int .i64 q.id) ∧ wx.cell? ⟨b, p + 1, none⟩ = some (.int .i64 q.app) ∧ wx.cell? ⟨b, p + 2, none⟩ = some (.string (bs q.node)) ∧ wx.cell? ⟨b, p + 3, none⟩ = some (.int .i64 q.mem) ∧ wx.cell? ⟨b, p + 4, none⟩ = some (.int .i64 q.cpu) := fun wx h => h.1
set_option maxRecDepth 100000 in
set_option maxHeartbeats 2000000 in
theorem heldContS_any (ao : Option Addr) (n c K : Nat) (w : World) (h : ConRow w ao n (marksC K n)) (hn : n ≤ 1048576) (h0 : 0 < K) (h1 : K ≤ 1000000000000000) :
    Calls Tryz.prog 31 #[.slice ao n c, .int .i64 (K : Int)] w fun e w' => e = .returned (.int .i64 ((K : Int) + 5 * (n : Int))) ∧ Below w.heap.size w w' := by
  have HR := hide h
  clear h
  go_enter Tryz.func31, Tryz.ntmps31
  go_wp2
  go_loopw [1, 5] (fun s i wr => ∃ (j : Nat) (k : Int), j ≤ n ∧ i = .int .i64 j ∧ s = .int .i64 k ∧ k = (K : Int) + 5 * (j : Int) ∧ Hid (Below w.heap.size w wr)) (fun _ i _ => n - (intOf i).toNat)
  case atStart => exact ⟨0, K, Nat.zero_le _, rfl, rfl, by omega, hide (Below.refl _ _)⟩
  case round =>
    obtain ⟨j, k, hj, rfl, rfl, hk, HB⟩ := hrel
    by_cases hlt : j < n
    · obtain ⟨b, off, rfl, hq⟩ := ((unhide HR).below (unhide HB)).at hlt
      have hqq := hq (by rw [marksC_len]; exact hlt)
      rw [marksC_at] at hqq
      have T0 : ∀ wx, Calls Tryz.prog 24 #[.int .i64 (k + 1 + 1)] wx fun e w' => e = .returned (.string (bs (markC K j).node)) ∧ Below wx.heap.size wx w' := fun wx => by
        have := markText_int (k + 1 + 1) wx (by omega) (by omega)
        rw [show (k + 1 + 1).toNat = K + 5 * j + 1 + 1 by omega] at this
        exact this
      have h_0 : (markC K j).id = k := by rw [hk]; rfl
      have h_1 : (markC K j).app = k + 1 := by rw [hk]; rfl
      have h_3 : (markC K j).mem = k + 1 + 1 + 1 := by rw [hk]; rfl
      have h_4 : (markC K j).cpu = k + 1 + 1 + 1 + 1 := by rw [hk]; rfl
      obtain ⟨q, hqe⟩ : ∃ q, markC K j = q := ⟨_, rfl⟩
      rw [hqe] at hqq T0 h_0 h_1 h_3 h_4
      have A0 := hide (show ConOne w b (off + j * 5) q wr from ⟨hqq, unhide HB⟩)
      have C0 := hide T0
      have HK := hide hk
      have H_0 := hide h_0
      have H_1 := hide h_1
      have H_3 := hide h_3
      have H_4 := hide h_4
      have R := ConOne.read w b (off + j * 5) q
      have R' := hide R
      obtain ⟨r0, r1, _, _, _⟩ := R _ (unhide A0)
      rw [h_0] at r0
      rw [h_1] at r1
      have j0 : (0 : Int) ≤ j := by omega
      have j1 : (j : Int) < n := by omega
      have hk0 : 0 < k := by omega
      have hk1 : k ≤ 1000000010000000 := by omega
      have hw1 : IntKind.i64.wrap (k + 1) = k + 1 := by rw [IntKind.wrap_i64]; omega
      have hw2 : IntKind.i64.wrap (k + 1 + 1) = k + 1 + 1 := by rw [IntKind.wrap_i64]; omega
      clear hq hqq T0 hqe hk h_0 h_1 h_3 h_4 R
      go_wp2_with fail
      have R := unhide R'
      clear r0 r1
      go_region_held3 (fun wx => ConOne w b (off + j * 5) q wx)
        (first | (with_reducible assumption) | exact (unhide A0).drew | exact ConOne.call (by assumption) (by assumption))
        (first
        | (go_at_call 24; refine (unhide C0 _).mono ?_; rintro e wt ⟨rfl, hb⟩; have SA := ConOne.call (w0 := w) (b := b) (p := off + j * 5) (q := q) (by assumption) hb))
      obtain ⟨_, _, _, r3, r4⟩ := R _ SA
      rw [unhide H_3] at r3
      rw [unhide H_4] at r4
      have HB2 := hide SA.2
      clear SA A0 R C0 R'
      go_wp2
      go_roundw
      case rel => exact ⟨j + 1, k + 1 + 1 + 1 + 1 + 1, by omega, by go_num, by go_num, by have := unhide HK; omega, HB2⟩
      case measure => simp [intOf]; omega
    · have hjn : j = n := by omega
      subst hjn
      go_wp2
      go_ret
      exact ⟨ret_int (by omega), unhide HB⟩
end Go.Proofs.YtgdndekmkaknlaaGreat

/-
  The laws' own markAskS, from any number on, and heldAskS: what is marked in a row of asks, and found again; walks over the dump.
-/
namespace Go.Proofs.YtgdndekmkaknlaaGreat
open Go.RowKit
set_option linter.unusedVariables false
/-- the ask of marks at place j, from k on -/
def markA (k j : Nat) : Ask := ⟨(k : Int) + 5 * (j : Int), (k : Int) + 5 * (j : Int) + 1, (k : Int) + 5 * (j : Int) + 1 + 1, 109 :: dgs (k + 5 * j + 1 + 1 + 1), (k : Int) + 5 * (j : Int) + 1 + 1 + 1 + 1⟩
def marksA (k n : Nat) : List Ask := (List.range n).map (markA k)
theorem marksA_len (k n : Nat) : (marksA k n).length = n := by simp [marksA]
theorem marksA_at (k n j : Nat) (h : j < (marksA k n).length) : (marksA k n)[j] = markA k j := by simp [marksA]
theorem AskBlk.tail {w : World} {t : TypeId} {g n k : Nat} {l : List Ask} (h : AskBlk w t g n k l) {p : Nat} (hp : k * 5 ≤ p) (v : Value) : AskBlk (w.setCell ⟨g, p, none⟩ v) t g n k l := by
  obtain ⟨arr, h1, h2, h3⟩ := h
  refine ⟨_, heap_setCell_same w g p _ _ v h1, by simp [h2], fun i hi hik => ?_⟩
  obtain ⟨a, b, c, d, e⟩ := h3 i hi hik
  refine ⟨?_, ?_, ?_, ?_, ?_⟩
  · rw [← a, Array.getElem?_setIfInBounds, if_neg (by omega)]
  · rw [← b, Array.getElem?_setIfInBounds, if_neg (by omega)]
  · rw [← c, Array.getElem?_setIfInBounds, if_neg (by omega)]
  · rw [← d, Array.getElem?_setIfInBounds, if_neg (by omega)]
  · rw [← e, Array.getElem?_setIfInBounds, if_neg (by omega)]
theorem AskBlk.next {w : World} {t : TypeId} {g n k : Nat} {l : List Ask} (h : AskBlk w t g n k l) (c : ∀ hk : k < l.length, AskAt w g (k * 5) l[k]) : AskBlk w t g n (k + 1) l := by
  obtain ⟨arr, h1, h2, h3⟩ := h
  refine ⟨arr, h1, h2, fun i hi hik => ?_⟩
  by_cases e : i = k
  · subst e
    obtain ⟨c0, c1, c2, c3, c4⟩ := c hi
    simp [World.cell?, h1] at c0 c1 c2 c3 c4
    exact ⟨c0, c1, c2, c3, c4⟩
  · exact h3 i hi (by omega)
theorem AskBlk.rowOf {w : World} {t : TypeId} {g c n : Nat} {l : List Ask} (h : AskBlk w t g c n l) (hl : n = l.length) : AskRow w (some ⟨g, 0, none⟩) n l := by
  obtain ⟨arr, h1, h2, h3⟩ := h
  refine ⟨hl, .inr ⟨g, 0, rfl, fun i hi => ?_⟩⟩
  obtain ⟨a, b, c, d, e⟩ := h3 i hi (by omega)
  unfold AskAt
  simp only [Nat.zero_add]
  exact ⟨by simp [World.cell?, h1, a], by simp [World.cell?, h1, b], by simp [World.cell?, h1, c], by simp [World.cell?, h1, d], by simp [World.cell?, h1, e]⟩
theorem cellKeep {w : World} {g p q : Nat} {u v : Value} (h : w.cell? ⟨g, p, none⟩ = some u) (hne : q ≠ p) : (w.setCell ⟨g, q, none⟩ v).cell? ⟨g, p, none⟩ = some u :=
  (World.cell?_setCell_other _ _ _ _ (fun e => hne (congrArg Addr.off e))).trans h
theorem cellBel {w w' : World} {g p : Nat} {u : Value} (h : w.cell? ⟨g, p, none⟩ = some u) (hb : Below w.heap.size w w') : w'.cell? ⟨g, p, none⟩ = some u := (hb.cell (cell_lt h)).trans h

set_option maxRecDepth 100000 in
set_option maxHeartbeats 4000000 in
theorem markAskS_from (g n c K : Nat) {d : Nat} (w : World) (h : Cel w 128 g (c * 5)) (hc : n ≤ c) (hn : n ≤ 1048576) (h0 : 0 < K) (h1 : K ≤ 1000000000000000) :
    Calls Tryz.prog 49 #[.slice (some ⟨g, 0, none⟩) n d, .int .i64 (K : Int)] w fun e w' => e = .returned (.int .i64 ((K : Int) + 5 * (n : Int))) ∧ AskRow w' (some ⟨g, 0, none⟩) n (marksA K n) ∧ Mkd g (g + 1) w w' := by
  have HQ0 := hide (show AskBlk w 128 g c 0 (marksA K n) by obtain ⟨arr, h1, h2⟩ := h; exact ⟨arr, h1, h2, fun i _ h => absurd h (by omega)⟩)
  clear h
  go_enter Tryz.func49, Tryz.ntmps49
  go_wp2
  go_loopw [1, 5] (fun s i wr => ∃ (j : Nat) (k : Int), j ≤ n ∧ i = .int .i64 j ∧ s = .int .i64 k ∧ k = (K : Int) + 5 * (j : Int) ∧ Hid (AskBlk wr 128 g c j (marksA K n)) ∧ Hid (Mkd g (g + 1) w wr)) (fun _ i _ => n - (intOf i).toNat)
  case atStart => exact ⟨0, K, Nat.zero_le _, rfl, rfl, by omega, HQ0, hide (Mkd.refl _ _ _)⟩
  case round =>
    obtain ⟨j, k, hj, rfl, rfl, hk, HQ, HG⟩ := hrel
    by_cases hlt : j < n
    · have HK := hide hk
      have hk0 : 0 < k := by omega
      have hk1 : k ≤ 1000000010000000 := by omega
      clear hk
      obtain ⟨v0, d0⟩ := (unhide HQ).cell (j := j * 5) (by omega)
      have f0 := (unhide HQ).frozen (j * 5)
      have X0 := hide (World.cell?_setCell_same wr ⟨g, j * 5, none⟩ (.int .i64 k) d0)
      have HQ1 := hide ((unhide HQ).tail (p := j * 5) (by omega) (.int .i64 k))
      have HG1 := hide ((unhide HG).sc g (j * 5) (.int .i64 k) (Nat.le_refl _) (by omega))
      obtain ⟨v1, d1⟩ := (unhide HQ1).cell (j := j * 5 + 1) (by omega)
      have f1 := (unhide HQ1).frozen (j * 5 + 1)
      have X1 := hide (World.cell?_setCell_same _ ⟨g, j * 5 + 1, none⟩ (.int .i64 (k + 1)) d1)
      have X01 := hide (cellKeep (q := j * 5 + 1) (v := .int .i64 (k + 1)) (unhide X0) (by omega))
      have HQ2 := hide ((unhide HQ1).tail (p := j * 5 + 1) (by omega) (.int .i64 (k + 1)))
      have HG2 := hide ((unhide HG1).sc g (j * 5 + 1) (.int .i64 (k + 1)) (Nat.le_refl _) (by omega))
      obtain ⟨v2, d2⟩ := (unhide HQ2).cell (j := j * 5 + 2) (by omega)
      have f2 := (unhide HQ2).frozen (j * 5 + 2)
      have X2 := hide (World.cell?_setCell_same _ ⟨g, j * 5 + 2, none⟩ (.int .i64 (k + 1 + 1)) d2)
      have X02 := hide (cellKeep (q := j * 5 + 2) (v := .int .i64 (k + 1 + 1)) (unhide X01) (by omega))
      have X12 := hide (cellKeep (q := j * 5 + 2) (v := .int .i64 (k + 1 + 1)) (unhide X1) (by omega))
      have HQ3 := hide ((unhide HQ2).tail (p := j * 5 + 2) (by omega) (.int .i64 (k + 1 + 1)))
      have HG3 := hide ((unhide HG2).sc g (j * 5 + 2) (.int .i64 (k + 1 + 1)) (Nat.le_refl _) (by omega))
      clear X0 X1 X01 HQ HG
      go_wp2_with fail
      refine (markText_int (k + 1 + 1 + 1) _ (by omega) (by omega)).mono ?_
      rintro e w1 ⟨rfl, hb⟩
      have HQ4 := hide ((unhide HQ3).below hb)
      have HG4 := hide ((unhide HG3).on hb)
      have Y0 := hide (cellBel (unhide X02) hb)
      have Y1 := hide (cellBel (unhide X12) hb)
      have Y2 := hide (cellBel (unhide X2) hb)
      clear hb d0 f0 d1 f1 d2 f2 X2 X02 X12 HQ1 HQ2 HQ3 HG1 HG2 HG3
      obtain ⟨v3, d3⟩ := (unhide HQ4).cell (j := j * 5 + 3) (by omega)
      have f3 := (unhide HQ4).frozen (j * 5 + 3)
      have Z0 := hide (cellKeep (q := j * 5 + 3) (v := .string (mk (k + 1 + 1 + 1).toNat)) (unhide Y0) (by omega))
      have Z1 := hide (cellKeep (q := j * 5 + 3) (v := .string (mk (k + 1 + 1 + 1).toNat)) (unhide Y1) (by omega))
      have Z2 := hide (cellKeep (q := j * 5 + 3) (v := .string (mk (k + 1 + 1 + 1).toNat)) (unhide Y2) (by omega))
      have Z3 := hide (World.cell?_setCell_same w1 ⟨g, j * 5 + 3, none⟩ (.string (mk (k + 1 + 1 + 1).toNat)) d3)
      have HQ5 := hide ((unhide HQ4).tail (p := j * 5 + 3) (by omega) (.string (mk (k + 1 + 1 + 1).toNat)))
      have HG5 := hide ((unhide HG4).sc g (j * 5 + 3) (.string (mk (k + 1 + 1 + 1).toNat)) (Nat.le_refl _) (by omega))
      obtain ⟨v4, d4⟩ := (unhide HQ5).cell (j := j * 5 + 4) (by omega)
      have f4 := (unhide HQ5).frozen (j * 5 + 4)
      have HN := hide (show AskBlk _ 128 g c (j + 1) (marksA K n) from ((unhide HQ5).tail (p := j * 5 + 4) (by omega) (.int .i64 (k + 1 + 1 + 1 + 1))).next (fun hj' => by
        rw [marksA_at]
        have e1 : (k + 1 + 1 + 1).toNat = K + 5 * j + 1 + 1 + 1 := by have := unhide HK; omega
        have e3 := unhide HK
        have y0 := cellKeep (q := j * 5 + 4) (v := .int .i64 (k + 1 + 1 + 1 + 1)) (unhide Z0) (by omega)
        have y1 := cellKeep (q := j * 5 + 4) (v := .int .i64 (k + 1 + 1 + 1 + 1)) (unhide Z1) (by omega)
        have y2 := cellKeep (q := j * 5 + 4) (v := .int .i64 (k + 1 + 1 + 1 + 1)) (unhide Z2) (by omega)
        have y3 := cellKeep (q := j * 5 + 4) (v := .int .i64 (k + 1 + 1 + 1 + 1)) (unhide Z3) (by omega)
        have y4 := World.cell?_setCell_same _ ⟨g, j * 5 + 4, none⟩ (.int .i64 (k + 1 + 1 + 1 + 1)) d4
        refine ⟨y0.trans ?_, y1.trans ?_, y2.trans ?_, y3.trans ?_, y4.trans ?_⟩
        · rw [e3]; rfl
        · rw [e3]; rfl
        · rw [e3]; rfl
        · rw [e1]; rfl
        · rw [e3]; rfl))
      have HG6 := hide ((unhide HG5).sc g (j * 5 + 4) (.int .i64 (k + 1 + 1 + 1 + 1)) (Nat.le_refl _) (by omega))
      clear HQ4 HG4 HG5 Y0 Y1 Y2 Z0 Z1 Z2 Z3
      go_wp2
      go_roundw
      case rel => exact ⟨j + 1, k + 1 + 1 + 1 + 1 + 1, by omega, by go_num, by go_num, by have := unhide HK; omega, HN, HG6⟩
      case measure => simp [intOf]; omega
    · have hjn : j = n := by omega
      subst hjn
      go_wp2
      go_ret
      exact ⟨ret_int (by omega), (unhide HQ).rowOf (by rw [marksA_len]), unhide HG⟩

end Go.Proofs.YtgdndekmkaknlaaGreat

/-
  Whether the marks of asks stand: the laws' own heldAskS; walks over the dump.
-/
namespace Go.Proofs.YtgdndekmkaknlaaGreat
open Go.RowKit
set_option linter.unusedVariables false
/-- an ask stands at a place; of w0 nothing has turned -/
def AskOne (w0 : World) (b p : Nat) (q : Ask) (w : World) : Prop := AskAt w b p q ∧ Below w0.heap.size w0 w
theorem AskOne.call {w0 w w' : World} {b p : Nat} {q : Ask} (h : AskOne w0 b p q w) (hb : Below w.heap.size w w') : AskOne w0 b p q w' := ⟨h.1.below hb, below_on h.2 hb⟩
theorem AskOne.drew {w0 w : World} {b p : Nat} {q : Ask} (h : AskOne w0 b p q w) : AskOne w0 b p q w.drew := h.call (Below.refl _ _).drew
theorem AskOne.read (w0 : World) (b p : Nat) (q : Ask) : ∀ wx, AskOne w0 b p q wx → wx.cell? ⟨b, p, none⟩ = some (.int .i64 q.mem) ∧ wx.cell? ⟨b, p + 1, none⟩ = some (.int .i64 q.cpu) ∧ wx.cell? ⟨b, p + 2, none⟩ = some (.int .i64 q.count) ∧ wx.cell? ⟨b, p + 3, none⟩ = some (.string (bs q.node)) ∧ wx.cell? ⟨b, p + 4, none⟩ = some (.int .i64 q.missed) :=
  fun wx h => h.1
set_option maxRecDepth 100000 in
set_option maxHeartbeats 2000000 in
theorem heldAskS_any (ao : Option Addr) (n c K : Nat) (w : World) (h : AskRow w ao n (marksA K n)) (hn : n ≤ 1048576) (h0 : 0 < K) (h1 : K ≤ 1000000000000000) :
    Calls Tryz.prog 50 #[.slice ao n c, .int .i64 (K : Int)] w fun e w' => e = .returned (.int .i64 ((K : Int) + 5 * (n : Int))) ∧ Below w.heap.size w w' := by
  have HR := hide h
  clear h
  go_enter Tryz.func50, Tryz.ntmps50
  go_wp2
  go_loopw [1, 5] (fun s i wr => ∃ (j : Nat) (k : Int), j ≤ n ∧ i = .int .i64 j ∧ s = .int .i64 k ∧ k = (K : Int) + 5 * (j : Int) ∧ Hid (Below w.heap.size w wr)) (fun _ i _ => n - (intOf i).toNat)
  case atStart => exact ⟨0, K, Nat.zero_le _, rfl, rfl, by omega, hide (Below.refl _ _)⟩
  case round =>
    obtain ⟨j, k, hj, rfl, rfl, hk, HB⟩ := hrel
    by_cases hlt : j < n
    · obtain ⟨b, off, rfl, hq⟩ := ((unhide HR).below (unhide HB)).at hlt
      have hqq := hq (by rw [marksA_len]; exact hlt)
      rw [marksA_at] at hqq
      have T0 : ∀ wx, Calls Tryz.prog 24 #[.int .i64 (k + 1 + 1 + 1)] wx fun e w' => e = .returned (.string (bs (markA K j).node)) ∧ Below wx.heap.size wx w' := fun wx => by
        have := markText_int (k + 1 + 1 + 1) wx (by omega) (by omega)
        rw [show (k + 1 + 1 + 1).toNat = K + 5 * j + 1 + 1 + 1 by omega] at this
        exact this
      have hd : (markA K j).mem = k := by rw [hk]; rfl
      have hm : (markA K j).cpu = k + 1 := by rw [hk]; rfl
      have hp : (markA K j).count = k + 1 + 1 := by rw [hk]; rfl
      have hr : (markA K j).missed = k + 1 + 1 + 1 + 1 := by rw [hk]; rfl
      obtain ⟨q, hqe⟩ : ∃ q, markA K j = q := ⟨_, rfl⟩
      rw [hqe] at hqq T0 hd hm hp hr
      have A0 := hide (show AskOne w b (off + j * 5) q wr from ⟨hqq, unhide HB⟩)
      have C0 := hide T0
      have HK := hide hk
      have HR4 := hide hr
      have R := AskOne.read w b (off + j * 5) q
      have R' := hide R
      obtain ⟨r0, r1, r2, _, _⟩ := R _ (unhide A0)
      rw [hd] at r0
      rw [hm] at r1
      rw [hp] at r2
      have j0 : (0 : Int) ≤ j := by omega
      have j1 : (j : Int) < n := by omega
      have hk0 : 0 < k := by omega
      have hk1 : k ≤ 1000000010000000 := by omega
      have hw1 : IntKind.i64.wrap (k + 1) = k + 1 := by rw [IntKind.wrap_i64]; omega
      have hw2 : IntKind.i64.wrap (k + 1 + 1) = k + 1 + 1 := by rw [IntKind.wrap_i64]; omega
      have hw3 : IntKind.i64.wrap (k + 1 + 1 + 1) = k + 1 + 1 + 1 := by rw [IntKind.wrap_i64]; omega
      clear hq hqq T0 hqe hk hd hm hp hr R
      go_wp2_with fail
      have R := unhide R'
      clear r0 r1 r2
      go_region_held3 (fun wx => AskOne w b (off + j * 5) q wx)
        (first | (with_reducible assumption) | exact (unhide A0).drew | exact AskOne.call (by assumption) (by assumption))
        (first
        | (go_at_call 24; refine (unhide C0 _).mono ?_; rintro e wt ⟨rfl, hb⟩; have SA := AskOne.call (w0 := w) (b := b) (p := off + j * 5) (q := q) (by assumption) hb))
      obtain ⟨_, _, _, _, r4⟩ := R _ SA
      rw [unhide HR4] at r4
      have HB2 := hide SA.2
      clear SA A0 R C0 R'
      go_wp2
      go_roundw
      case rel => exact ⟨j + 1, k + 1 + 1 + 1 + 1 + 1, by omega, by go_num, by go_num, by have := unhide HK; omega, HB2⟩
      case measure => simp [intOf]; omega
    · have hjn : j = n := by omega
      subst hjn
      go_wp2
      go_ret
      exact ⟨ret_int (by omega), unhide HB⟩
end Go.Proofs.YtgdndekmkaknlaaGreat
