/-
  Slices of texts that a call has made, and what the laws' own helpers do to them: compare, mark, and look for the marks; walks over the dump.
-/
import Derived.Test.YtfmhibkgmcafgaeDoorBase
import Derived.Test.YtfmhibkgmcafgaeDoorDec
import Derived.Laws.IdiomStrings
import Derived.BigQuiet
import Derived.Deep.QuietTactic
import Derived.Deep.RegionWith
namespace Go.Proofs.YtfmhibkgmcafgaeDoor
open Go.RowKit
set_option linter.unusedVariables false

/-- block g holds, from its head on, the texts xs, with room for cap -/
def SS (w : World) (g cap : Nat) (xs : List ByteArray) : Prop := w.ownsRow g 9 1 (.slice (some ⟨g, 0, none⟩) xs.length cap) xs.length (xs.map Value.string)
theorem SS.cell {w : World} {g cap : Nat} {xs : List ByteArray} (h : SS w g cap xs) (j : Nat) (hj : j < xs.length) : w.cell? ⟨g, j, none⟩ = some (.string xs[j]) := by
  have := World.ownsRow.cellAt h j (by omega)
  rw [this]; simp [hj]
theorem SS.frozen {w : World} {g cap : Nat} {xs : List ByteArray} (h : SS w g cap xs) (j : Nat) : w.frozen? ⟨g, j, none⟩ = false := World.ownsRow.frozenAt h j
theorem SS.block {w : World} {g cap : Nat} {xs : List ByteArray} (h : SS w g cap xs) : ∃ cur, w.heap[g]? = some (.cells cur 9 (0, 0)) ∧ xs.length ≤ cap ∧ cap ≤ maxLen ∧ cur.size = cap ∧ cur.toList.take xs.length = xs.map Value.string := by
  rcases h.2 with ⟨h1, _⟩ | ⟨g', cap', cur, h1, _, h2, h3, h4, h5, h6⟩
  · simp at h1
  · simp only [Value.slice.injEq, Option.some.injEq, Addr.mk.injEq, and_true, true_and] at h1
    obtain ⟨rfl, rfl⟩ := h1
    exact ⟨cur, h2, h3, h4, by simpa using h5, by simpa using h6⟩
theorem SS.mk {w : World} {g cap : Nat} {xs : List ByteArray} {cur : Array Value} (h : w.heap[g]? = some (.cells cur 9 (0, 0))) (h1 : xs.length ≤ cap) (h2 : cap ≤ maxLen) (h3 : cur.size = cap) (h4 : cur.toList.take xs.length = xs.map Value.string) : SS w g cap xs :=
  ⟨by simp, .inr ⟨g, cap, cur, rfl, Nat.le_refl _, h, h1, h2, by simpa using h3, by simpa using h4⟩⟩
theorem SS.lt {w : World} {g cap : Nat} {xs : List ByteArray} (h : SS w g cap xs) : g < w.heap.size := by
  obtain ⟨cur, h1, _⟩ := h.block
  exact lt_of_block h1
theorem SS.same {w w' : World} {g cap : Nat} {xs : List ByteArray} (h : SS w g cap xs) (hg : w'.heap[g]? = w.heap[g]?) : SS w' g cap xs := by
  obtain ⟨cur, h1, h2, h3, h4, h5⟩ := h.block
  exact SS.mk (hg.trans h1) h2 h3 h4 h5
theorem SS.below {w w' : World} {B g cap : Nat} {xs : List ByteArray} (h : SS w g cap xs) (hb : Below B w w') (hg : g < B) : SS w' g cap xs := h.same (hb.block g hg)
theorem SS.set {w : World} {g cap : Nat} {xs : List ByteArray} (h : SS w g cap xs) (j : Nat) (hj : j < xs.length) (x : ByteArray) : SS (w.setCell ⟨g, j, none⟩ (.string x)) g cap (xs.set j x) := by
  obtain ⟨cur, h1, h2, h3, h4, h5⟩ := h.block
  refine SS.mk (heap_setCell_same w g j cur _ _ h1) (by simpa using h2) h3 (by simpa using h4) ?_
  rw [List.length_set, Array.toList_setIfInBounds, List.take_set, h5, List.map_set]

theorem grownBy_refl (w : World) (r : Option Nat) : w.grownBy w r := ⟨rfl, rfl, rfl, Nat.le_refl _, fun _ _ _ => rfl⟩
theorem grownBy_below {w w1 w2 : World} {r : Option Nat} (h : w.grownBy w1 r) (hb : Below w1.heap.size w1 w2) : w.grownBy w2 r :=
  ⟨hb.os.trans h.os, hb.tape.trans h.tape, hb.output.trans h.output, Nat.le_trans h.size hb.size, fun k hk hn => (hb.block k (Nat.lt_of_lt_of_le hk h.size)).trans (h.block k hk hn)⟩
theorem grownBy_set {w w1 : World} {g : Nat} (h : w.grownBy w1 (some g)) (j : Nat) (v : Value) : w.grownBy (w1.setCell ⟨g, j, none⟩ v) (some g) :=
  ⟨h.os, h.tape, h.output, by simpa using h.size, fun k hk hn => by
    rw [heap_setCell_other w1 ⟨g, j, none⟩ k v (fun e => hn (by rw [e]))]
    exact h.block k hk hn⟩
theorem below_grownBy {B : Nat} {a w w' : World} {g : Nat} (h : Below B a w) (hg : w.grownBy w' (some g)) (hB : B ≤ w.heap.size) (hr : B ≤ g) : Below B a w' := h.grown hg hB (fun k hk => by cases hk; exact hr)

set_option maxRecDepth 100000 in
set_option maxHeartbeats 1000000 in
theorem eqS_any (g1 c1 g2 c2 : Nat) (xs ys : List ByteArray) (w : World) (h1 : SS w g1 c1 xs) (h2 : SS w g2 c2 ys) (hl : xs.length ≤ 9000000000) (hl2 : ys.length ≤ 9000000000) (heq : xs = ys) :
    Calls Tryd.prog 9 #[.slice (some ⟨g1, 0, none⟩) xs.length c1, .slice (some ⟨g2, 0, none⟩) ys.length c2] w fun e w' => e = .returned (.bool true) ∧ ∃ n, w' = w.drewN n := by
  subst heq
  have hne : ((xs.length : Int) != (xs.length : Int)) = false := by simp
  go_enter Tryd.func9, Tryd.ntmps9
  go_wp2
  go_loopw [5] (fun i wr => ∃ k n : Nat, k ≤ xs.length ∧ i = .int .i64 k ∧ wr = w.drewN n) (fun i _ => xs.length - (intOf i).toNat)
  case atStart => exact ⟨0, 0, Nat.zero_le _, rfl, rfl⟩
  case round =>
    obtain ⟨k, n, hk, rfl, rfl⟩ := hrel
    by_cases hlt : k < xs.length
    · have a1 : w.cell? ⟨g1, k, none⟩ = some (.string xs[k]) := h1.cell k hlt
      have a2 : w.cell? ⟨g2, k, none⟩ = some (.string xs[k]) := h2.cell k hlt
      have hlt2 : (k : Int) < (xs.length : Int) := by omega
      go_wp2_with fail
      go_quiet (fail)
      go_wp2
      go_roundw
      case rel => exact ⟨k + 1, _, by omega, by go_num, rfl⟩
      case measure => simp [intOf]; omega
    · go_wp2
      go_ret
      exact ⟨rfl, n, rfl⟩

/-- the sign of a digit -/
def dch (d : Nat) : UInt8 := UInt8.ofNat (48 + d)
/-- the mark of the number N -/
def mk (N : Nat) : ByteArray := bs (109 :: dgs N)

set_option maxRecDepth 100000 in
set_option maxHeartbeats 1000000 in
theorem markText_any (N : Nat) (w : World) (h0 : 0 < N) (hN : (N : Int) ≤ 9223372036854775807) :
    Calls Tryd.prog 15 #[.int .i64 (N : Int)] w fun e w' => e = .returned (.string (mk N)) ∧ Below w.heap.size w w' := by
  have hlen2 : (dgs N).length ≤ 20 := by rw [dgs_pos (by omega), Lib.decDigits_length]; exact Lib.nDigits_le20 N (by omega)
  have hcv : ∀ (wr : World) (x : Nat), x < 10 → (convert 32 9 (.slice (some ⟨wr.heap.size, 0, none⟩) 1 1)).run Tryd.prog (wr.alloc (.cells #[.int .u8 (48 + (x : Int))] 5)) = .ok (.string ⟨#[dch x]⟩) (wr.alloc (.cells #[.int .u8 (48 + (x : Int))] 5)) := by
    intro wr x hx
    refine run_convert_bytes_back _ 32 9 5 ⟨wr.heap.size, 0, none⟩ 1 [dch x] Tryd.underlying32 Tryd.underlying5 Tryd.underlying9 (fun j hj => ?_)
    match j, hj with
    | 0, _ => simp [Addr.add, dch]; omega
  go_enter Tryd.func15, Tryd.ntmps15
  go_wp2
  go_loopw [0, 3] (fun m o wr => ∃ (u : Nat) (l : List UInt8), u ≤ N ∧ m = .int .i64 (u : Int) ∧ o = .string (bs l) ∧ dgs u ++ l = dgs N ∧ Below w.heap.size w wr) (fun m _ _ => (intOf m).toNat)
  case atStart => exact ⟨N, [], Nat.le_refl _, rfl, rfl, by simp, Below.refl _ _⟩
  case round =>
    obtain ⟨u, l, hu, rfl, rfl, hcat, hbel⟩ := hrel
    have hl : l.length ≤ 20 := by have := congrArg List.length hcat; simp only [List.length_append] at this; omega
    have hl2 : (bs l).size ≤ 20 := by rw [bs_size]; exact hl
    have hsz := hbel.size
    have HC := hide hcat
    have HB := hide hbel
    clear hcat hl hbel
    by_cases hu0 : u = 0
    · subst hu0
      clear hcv
      go_wp2
      go_ret
      exact ⟨ret_str (by rw [cons_bs, mk]; exact congrArg bs (congrArg (fun t => 109 :: t) (unhide HC))), unhide HB⟩
    · have hcw := hcv wr (u % 10) (by omega)
      rw [show ((u % 10 : Nat) : Int) = (u : Int) % 10 from by omega] at hcw
      clear hcv
      have hcs : (ByteArray.mk #[dch (u % 10)]).size = 1 := rfl
      go_wp2
      go_roundw
      case rel => exact ⟨u / 10, dch (u % 10) :: l, by omega, by go_num, str_eq (cons_bs _ _), by rw [← unhide HC, dgs_step hu0, dch]; simp, (unhide HB).alloc hsz _⟩
      case measure => simp [intOf]; omega

theorem markText_int (x : Int) (w : World) (h0 : 0 < x) (hN : x ≤ 9223372036854775807) :
    Calls Tryd.prog 15 #[.int .i64 x] w fun e w' => e = .returned (.string (mk x.toNat)) ∧ Below w.heap.size w w' := by
  obtain ⟨N, rfl⟩ := Int.eq_ofNat_of_zero_le (a := x) (by omega)
  rw [Int.toNat_natCast]
  exact markText_any N w (by omega) hN
/-- the marks from k on: n of them -/
def marks (k : Nat) : Nat → List ByteArray
  | 0 => []
  | n + 1 => mk k :: marks (k + 1) n
theorem marks_len : ∀ (n k : Nat), (marks k n).length = n
  | 0, _ => rfl
  | n + 1, k => by rw [marks, List.length_cons, marks_len n]
theorem marks_at : ∀ (n k j : Nat) (h : j < n), (marks k n)[j]? = some (mk (k + j))
  | 0, _, _, h => by omega
  | n + 1, k, 0, _ => by simp [marks]
  | n + 1, k, j + 1, h => by
    rw [marks, List.getElem?_cons_succ, marks_at n (k + 1) j (by omega)]
    rw [show k + 1 + j = k + (j + 1) from by omega]
/-- the first j texts marked -/
def marked (k : Nat) (xs : List ByteArray) (j : Nat) : List ByteArray := (marks k xs.length).take j ++ xs.drop j
theorem marked_len (k : Nat) (xs : List ByteArray) (j : Nat) : (marked k xs j).length = xs.length := by
  simp [marked, marks_len]; omega
theorem marked_zero (k : Nat) (xs : List ByteArray) : marked k xs 0 = xs := by simp [marked]
theorem marked_all (k : Nat) (xs : List ByteArray) : marked k xs xs.length = marks k xs.length := by
  simp [marked]; rw [List.take_of_length_le (by rw [marks_len]; exact Nat.le_refl _)]
theorem marked_set (k : Nat) (xs : List ByteArray) (j : Nat) (h : j < xs.length) : (marked k xs j).set j (mk (k + j)) = marked k xs (j + 1) := by
  have hm : j < (marks k xs.length).length := by rw [marks_len]; exact h
  have e : (marks k xs.length)[j] = mk (k + j) := by
    have := marks_at xs.length k j h
    rw [List.getElem?_eq_getElem hm] at this
    exact Option.some.inj this
  rw [marked, marked, List.set_append_right _ _ (by simp; omega), List.take_succ_eq_append_getElem hm, e]
  rw [List.length_take, marks_len, show j - min j xs.length = 0 from by omega, List.drop_eq_getElem_cons h, List.set_cons_zero, List.append_assoc]
  rfl

set_option maxRecDepth 100000 in
set_option maxHeartbeats 1000000 in
theorem markS_any (g cap k : Nat) (xs : List ByteArray) (w : World) (h : SS w g cap xs) (hk : 0 < k) (hl : k + xs.length ≤ 9000000000) :
    Calls Tryd.prog 10 #[.slice (some ⟨g, 0, none⟩) xs.length cap, .int .i64 (k : Int)] w fun e w' => e = .returned (.int .i64 ((k + xs.length : Nat) : Int)) ∧ SS w' g cap (marks k xs.length) ∧ w.grownBy w' (some g) := by
  go_enter Tryd.func10, Tryd.ntmps10
  go_wp2
  go_loopw [1, 5] (fun m i wr => ∃ j : Nat, j ≤ xs.length ∧ i = .int .i64 j ∧ m = .int .i64 ((k : Int) + (j : Int)) ∧ SS wr g cap (marked k xs j) ∧ w.grownBy wr (some g)) (fun _ i _ => xs.length - (intOf i).toNat)
  case atStart => exact ⟨0, Nat.zero_le _, rfl, by go_num, by rw [marked_zero]; exact h, grownBy_refl w _⟩
  case round =>
    obtain ⟨j, hj, rfl, rfl, hs, hg⟩ := hrel
    have HS := hide hs
    have HG := hide hg
    clear hs hg
    by_cases hlt : j < xs.length
    · have hlt2 : (j : Int) < (xs.length : Int) := by omega
      have hmk : Hid (mk ((k : Int) + (j : Int)).toNat = mk (k + j)) := hide (congrArg mk (by omega))
      go_wp2_with fail
      refine (markText_int _ _ (by omega) (by omega)).mono ?_
      rintro e w1 ⟨rfl, hb1⟩
      rw [unhide hmk]
      have hs1 : SS w1 g cap (marked k xs j) := (unhide HS).below hb1 (unhide HS).lt
      have hc : w1.cell? ⟨g, j, none⟩ = some (.string ((marked k xs j)[j]'(by rw [marked_len]; exact hlt))) := hs1.cell j _
      have hf : w1.frozen? ⟨g, j, none⟩ = false := hs1.frozen j
      have hs2 := hs1.set j (by rw [marked_len]; exact hlt) (mk (k + j))
      rw [marked_set k xs j hlt] at hs2
      have HS2 := hide hs2
      have HG2 := hide (grownBy_set (grownBy_below (unhide HG) hb1) j (.string (mk (k + j))))
      clear hs1 hs2 hb1
      go_wp2
      go_roundw
      case rel => exact ⟨j + 1, by omega, by go_num, by go_num, unhide HS2, unhide HG2⟩
      case measure => simp [intOf]; omega
    · have he : j = xs.length := by omega
      subst he
      have hs2 : Hid (SS wr g cap (marks k xs.length)) := hide (by rw [← marked_all]; exact unhide HS)
      go_wp2
      go_ret
      exact ⟨ret_int (by simp), unhide hs2, unhide HG⟩

set_option maxRecDepth 100000 in
set_option maxHeartbeats 1000000 in
theorem heldS_any (g cap k n : Nat) (w : World) (h : SS w g cap (marks k n)) (hk : 0 < k) (hl : k + n ≤ 9000000000) :
    Calls Tryd.prog 11 #[.slice (some ⟨g, 0, none⟩) n cap, .int .i64 (k : Int)] w fun e w' => e = .returned (.int .i64 ((k + n : Nat) : Int)) ∧ Below w.heap.size w w' := by
  go_enter Tryd.func11, Tryd.ntmps11
  go_wp2
  go_loopw [1, 5] (fun m i wr => ∃ j : Nat, j ≤ n ∧ i = .int .i64 j ∧ m = .int .i64 ((k : Int) + (j : Int)) ∧ Below w.heap.size w wr) (fun _ i _ => n - (intOf i).toNat)
  case atStart => exact ⟨0, Nat.zero_le _, rfl, by go_num, Below.refl _ _⟩
  case round =>
    obtain ⟨j, hj, rfl, rfl, hb⟩ := hrel
    have HB := hide hb
    have hs := h.below hb h.lt
    by_cases hlt : j < n
    · have hlt2 : (j : Int) < (n : Int) := by omega
      have hm : j < (marks k n).length := by rw [marks_len]; exact hlt
      have hat : (marks k n)[j] = mk (k + j) := by
        have := marks_at n k j hlt
        rw [List.getElem?_eq_getElem hm] at this
        exact Option.some.inj this
      have hc : wr.cell? ⟨g, j, none⟩ = some (.string (mk (k + j))) := by rw [hs.cell j hm, hat]
      have hgl : g < wr.heap.size := hs.lt
      have hmk : Hid (mk ((k : Int) + (j : Int)).toNat = mk (k + j)) := hide (congrArg mk (by omega))
      have hp1 : 0 < (k : Int) + (j : Int) := by omega
      have hp2 : (k : Int) + (j : Int) ≤ 9223372036854775807 := by omega
      clear hat hs hb
      go_wp2_with fail
      go_region_with (go_at_call 15; refine (markText_int _ _ hp1 hp2).mono ?_; rintro e w1 ⟨rfl, hb1⟩; rw [unhide hmk]; have hc1 := (hb1.cell (p := ⟨g, j, none⟩) hgl).trans hc)
      all_goals
        have HB1 := hide (Below.trans (unhide HB).drew (Below.mono hb1 (unhide HB).size))
        clear hb1
        go_wp2
        go_roundw
        case rel => exact ⟨j + 1, by omega, by go_num, by go_num, unhide HB1⟩
        case measure => simp [intOf]; omega
    · have he : j = n := by omega
      subst he
      clear hs hb
      go_wp2
      go_ret
      exact ⟨ret_int (by simp), unhide HB⟩
end Go.Proofs.YtfmhibkgmcafgaeDoor
