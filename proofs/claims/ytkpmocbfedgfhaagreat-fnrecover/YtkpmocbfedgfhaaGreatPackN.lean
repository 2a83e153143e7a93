/-
  Several texts of this claim in one: RdI, RdJ, RdK, RecL, GRecC, WpL, RdN, GRecI, PutText, RegS (pack.py put them together); each says in its own remark what is proved.
-/
import Derived.Test.YtkpmocbfedgfhaaGreatPackA
import Derived.Test.YtkpmocbfedgfhaaGreatPackM
import Derived.Laws.Pointers
import Derived.Deep.QuietTactic
import Derived.Deep.RegionHeld3
import Derived.Deep.RegionWith
import Derived.Test.YtkpmocbfedgfhaaGreatPackL
import Derived.Deep.CutRange
import Derived.Defers
import Derived.Recover
import Derived.Deep.WholeRow
import Derived.Test.YtkpmocbfedgfhaaGreatPackI
import Derived.Test.YtkpmocbfedgfhaaGreatPackF
/-
  The program's reader of bytes: done, fail, a byte, a number, a text; walks over the dump.
-/
namespace Go.Proofs.YtkpmocbfedgfhaaGreat
open Go.RowKit
set_option linter.unusedVariables false
/-- block g is a reader that stands at 'at'; its table of sums stands as at the beginning, or is made -/
def Rd (w : World) (g : Nat) (s : ByteArray) (at' bg : Int) : Prop := TabledR (.string s, .int .i64 at', .int .i64 bg) w g
theorem tabR_zero (a b c : Value) : tabR (a, b, c) (.int .u32 0) (.int .i32 0) 0 = #[a, b, c, .int .u32 0, .int .i32 0, .int .u32 0, .int .u32 0, .int .u32 0, .int .u32 0, .int .u32 0, .int .u32 0, .int .u32 0, .int .u32 0, .int .u32 0, .int .u32 0, .int .u32 0, .int .u32 0, .int .u32 0, .int .u32 0, .int .u32 0, .int .u32 0, .int .u32 0] := by simp [tabR, tabLR, List.range, List.range.loop]
theorem Rd.new (w : World) (s : ByteArray) : Rd (w.alloc (.cells #[.string s, .int .i64 0, .int .i64 0, .int .u32 0, .int .i32 0, .int .u32 0, .int .u32 0, .int .u32 0, .int .u32 0, .int .u32 0, .int .u32 0, .int .u32 0, .int .u32 0, .int .u32 0, .int .u32 0, .int .u32 0, .int .u32 0, .int .u32 0, .int .u32 0, .int .u32 0, .int .u32 0, .int .u32 0] 87)) w.heap.size s 0 0 := by
  refine .inl ?_
  unfold HoldsR
  rw [tabR_zero]
  exact blk_new w _ _
theorem Rd.at {w : World} {g : Nat} {s : ByteArray} {i bg : Int} (h : Rd w g s i bg) (j : Nat) : w.cell? ⟨g, j, none⟩ = if j = 0 then some (.string s) else if j = 1 then some (.int .i64 i) else if j = 2 then some (.int .i64 bg) else w.cell? ⟨g, j, none⟩ := by
  rcases h with h | h
  all_goals
    match j with
    | 0 => rw [h.cell]; simp [tabR, tabLR]
    | 1 => rw [h.cell]; simp [tabR, tabLR]
    | 2 => rw [h.cell]; simp [tabR, tabLR]
    | n + 3 => simp
theorem Rd.f {w : World} {g : Nat} {s : ByteArray} {i bg : Int} (h : Rd w g s i bg) (j : Nat) : w.frozen? ⟨g, j, none⟩ = false := by
  rcases h with h | h <;> exact h.frozen j
theorem Rd.lt {w : World} {g : Nat} {s : ByteArray} {i bg : Int} (h : Rd w g s i bg) : g < w.heap.size := by
  rcases h with h | h <;> exact h.lt
theorem Rd.move {w w' : World} {g : Nat} {s : ByteArray} {i bg : Int} (h : Rd w g s i bg) (e : w'.heap[g]? = w.heap[g]?) : Rd w' g s i bg := by
  rcases h with h | h
  · exact .inl (e.trans h)
  · exact .inr (e.trans h)
theorem Rd.below {w w' : World} {g : Nat} {s : ByteArray} {i bg : Int} (h : Rd w g s i bg) (hb : Below w.heap.size w w') : Rd w' g s i bg := h.move (hb.block g h.lt)
theorem Rd.al {w : World} {g : Nat} {s : ByteArray} {i bg : Int} (h : Rd w g s i bg) (o : Obj) : Rd (w.alloc o) g s i bg := h.below (below_al (Below.refl _ w) o)
theorem Rd.other {w : World} {g : Nat} {s : ByteArray} {i bg : Int} (h : Rd w g s i bg) (k j : Nat) (v : Value) (hn : g ≠ k) : Rd (w.setCell ⟨k, j, none⟩ v) g s i bg := h.move (heap_setCell_other w ⟨k, j, none⟩ g v hn)
abbrev perr (bg : Int) : PanicEntry := { v := .iface 68 (.agg #[.int .i64 bg]), recovered := false }
abbrev rdp (g : Nat) : Value := .pointer (some ⟨g, 0, none⟩)

set_option maxRecDepth 100000 in
set_option maxHeartbeats 1000000 in
theorem done_any (g : Nat) (s : ByteArray) (i bg : Int) (w : World) (h : Rd w g s i bg) (hs : s.size ≤ 1048576) :
    Calls Tryz.prog 30 #[rdp g] w fun e w' => e = .returned (.bool (decide ((s.size : Int) ≤ i))) ∧ Below w.heap.size w w' := by
  have k0 := h.at 0
  have k1 := h.at 1
  have k2 := h.at 2
  simp at k0 k1 k2
  clear h
  go_enter Tryz.func30, Tryz.ntmps30
  go_wp2_with fail
  go_quiet (fail)
  go_wp2
  go_ret
  exact ⟨rfl, below_drewN (Below.refl _ _) _⟩

set_option maxRecDepth 100000 in
set_option maxHeartbeats 1000000 in
theorem fail_any (g : Nat) (s : ByteArray) (i bg : Int) (w : World) (h : Rd w g s i bg) :
    Calls Tryz.prog 61 #[rdp g] w fun e w' => e = .panicked [perr bg] ∧ w = w' := by
  have k0 := h.at 0
  have k1 := h.at 1
  have k2 := h.at 2
  simp at k0 k1 k2
  clear h
  go_enter Tryz.func61, Tryz.ntmps61
  go_wp2
  exact ⟨rfl, rfl, rfl⟩

theorem Rd.to {w : World} {g : Nat} {s : ByteArray} {i bg : Int} (h : Rd w g s i bg) (j : Int) : Rd (w.setCell ⟨g, 1, none⟩ (.int .i64 j)) g s j bg := by
  have e : ∀ d m k, (tabR (.string s, .int .i64 i, .int .i64 bg) d m k).setIfInBounds 1 (.int .i64 j) = tabR (.string s, .int .i64 j, .int .i64 bg) d m k := fun d m k => by simp [tabR, tabLR]
  rcases h with h | h
  · have := h.set 1 (.int .i64 j); rw [e] at this; exact .inl this
  · have := h.set 1 (.int .i64 j); rw [e] at this; exact .inr this
theorem Rd.begin {w : World} {g : Nat} {s : ByteArray} {i bg : Int} (h : Rd w g s i bg) (j : Int) : Rd (w.setCell ⟨g, 2, none⟩ (.int .i64 j)) g s i j := by
  have e : ∀ d m k, (tabR (.string s, .int .i64 i, .int .i64 bg) d m k).setIfInBounds 2 (.int .i64 j) = tabR (.string s, .int .i64 i, .int .i64 j) d m k := fun d m k => by simp [tabR, tabLR]
  rcases h with h | h
  · have := h.set 2 (.int .i64 j); rw [e] at this; exact .inl this
  · have := h.set 2 (.int .i64 j); rw [e] at this; exact .inr this
theorem gby_below {w w' : World} {r : Option Nat} (hb : Below w.heap.size w w') : w.grownBy w' r := grownBy_below (grownBy_refl w r) hb
/-- what a call of the reader leaves: a value, and it stands behind it; or it panics -/
def Reads (w : World) (g : Nat) (s : ByteArray) (bg : Int) (x : Option (Value × Int)) (e : Ending) (w' : World) : Prop :=
  w.grownBy w' (some g) ∧ match x with
    | some (v, j) => e = .returned v ∧ Rd w' g s j bg
    | none => e = .panicked [perr bg] ∧ ∃ j, Rd w' g s j bg

set_option maxRecDepth 100000 in
set_option maxHeartbeats 1000000 in
theorem nextByte_any (g : Nat) (s : ByteArray) (i : Nat) (bg : Int) (w : World) (h : Rd w g s i bg) (hs : s.size ≤ 1048576) (hi : i ≤ s.size) :
    Calls Tryz.prog 94 #[rdp g] w (Reads w g s bg (if hj : i < s.size then some (.int .u8 (s[i].toNat : Int), (i : Int) + 1) else none)) := by
  have CD := hide (fun wx (hb : Below w.heap.size w wx) => done_any g s i bg wx (h.below hb) hs)
  have CF := hide (fun wx (hb : Below w.heap.size w wx) => fail_any g s i bg wx (h.below hb))
  have HR := hide h
  clear h
  by_cases hj : i < s.size
  · rw [dif_pos hj]
    have hd : decide ((s.size : Int) ≤ (i : Int)) = false := by simp; omega
    rw [hd] at CD
    go_enter Tryz.func94, Tryz.ntmps94
    go_wp2_with fail
    refine (unhide CD _ (Below.refl _ _)).mono ?_
    rintro e w1 ⟨rfl, hb⟩
    have HB := hide hb
    have k0 := ((unhide HR).below hb).at 0
    have k1 := ((unhide HR).below hb).at 1
    have k2 := ((unhide HR).below hb).f 1
    simp at k0 k1
    clear hb hd
    have hlt : (i : Int) < (s.size : Int) := by omega
    go_wp2_with fail
    go_quiet (fail)
    go_wp2
    go_ret
    exact ⟨grownBy_set (grownBy_drewN (gby_below (unhide HB)) _) _ _, rfl, Rd.to (Rd.below (Rd.below (unhide HR) (unhide HB)) (below_drewN (Below.refl _ _) _)) _⟩
  · rw [dif_neg hj]
    have hd : decide ((s.size : Int) ≤ (i : Int)) = true := by simp; omega
    rw [hd] at CD
    go_enter Tryz.func94, Tryz.ntmps94
    go_wp2_with fail
    refine (unhide CD _ (Below.refl _ _)).mono ?_
    rintro e w1 ⟨rfl, hb⟩
    have HB := hide hb
    clear hb hd
    go_wp2_with fail
    refine (unhide CF _ (unhide HB)).mono ?_
    rintro e w2 ⟨rfl, rfl⟩
    go_wp2
    exact ⟨rfl, gby_below (unhide HB), rfl, _, (unhide HR).below (unhide HB)⟩

set_option maxRecDepth 100000 in
set_option maxHeartbeats 1000000 in
theorem goOn_any (g : Nat) (s : ByteArray) (i bg j : Int) (w : World) (h : Rd w g s i bg) :
    Calls Tryz.prog 96 #[rdp g, .int .i64 j] w (Reads w g s bg (if j < 0 then none else some (.tuple #[], j))) := by
  have CF := hide (fun wx (hb : Below w.heap.size w wx) => fail_any g s i bg wx (h.below hb))
  have HR := hide h
  have k1 := h.at 1
  have k2 := h.f 1
  simp at k1
  clear h
  by_cases hj : j < 0
  · rw [if_pos hj]
    go_enter Tryz.func96, Tryz.ntmps96
    go_wp2_with fail
    refine (unhide CF _ (Below.refl _ _)).mono ?_
    rintro e w2 ⟨rfl, rfl⟩
    go_wp2
    exact ⟨rfl, grownBy_refl _ _, rfl, _, unhide HR⟩
  · rw [if_neg hj]
    go_enter Tryz.func96, Tryz.ntmps96
    go_wp2
    go_end0
    exact ⟨grownBy_set (grownBy_refl _ _) _ _, rfl, (unhide HR).to _⟩
end Go.Proofs.YtkpmocbfedgfhaaGreat

/-
  The program's reader of bytes: a number, a text, a record; walks over the dump.
-/
namespace Go.Proofs.YtkpmocbfedgfhaaGreat
open Go.RowKit
set_option linter.unusedVariables false
/-- the reader stands, and nothing that was there has turned -/
def RdB (w0 : World) (g : Nat) (s : ByteArray) (i bg : Int) (wx : World) : Prop := Rd wx g s i bg ∧ Below w0.heap.size w0 wx
theorem RdB.call {w0 w1 w2 : World} {g : Nat} {s : ByteArray} {i bg : Int} (h : RdB w0 g s i bg w1) (hb : Below w1.heap.size w1 w2) : RdB w0 g s i bg w2 := ⟨h.1.below hb, below_on h.2 hb⟩
theorem RdB.drew {w0 w1 : World} {g : Nat} {s : ByteArray} {i bg : Int} (h : RdB w0 g s i bg w1) : RdB w0 g s i bg w1.drew := h.call (Below.refl _ _).drew
theorem RdB.read (w0 : World) (g : Nat) (s : ByteArray) (i bg : Int) : ∀ wx, RdB w0 g s i bg wx → wx.cell? ⟨g, 0, none⟩ = some (.string s) ∧ wx.cell? ⟨g, 1, none⟩ = some (.int .i64 i) := fun wx h => ⟨by simpa using Rd.at h.1 0, by simpa using Rd.at h.1 1⟩
theorem Reads.on {w w1 w2 : World} {g : Nat} {s : ByteArray} {bg : Int} {x : Option (Value × Int)} {e : Ending} (h0 : w.grownBy w1 (some g)) (h : Reads w1 g s bg x e w2) : Reads w g s bg x e w2 := ⟨grownBy_trans h0 h.1, h.2⟩

set_option maxRecDepth 100000 in
set_option maxHeartbeats 1000000 in
theorem nextNum_any (g : Nat) (s : ByteArray) (i bg : Int) (w : World) (h : Rd w g s i bg) (hs : s.size ≤ 1048576) (h0 : -9223372036854775808 ≤ i) (h1 : i ≤ 9223372036854775807) :
    Calls Tryz.prog 135 #[rdp g] w fun e w' => Reads w g s bg (if (getNum s.data.toList i).2 < 0 then none else some (.int .i64 (getNum s.data.toList i).1, (getNum s.data.toList i).2)) e w' := by
  have CG := hide (fun wx => implGetNum_any s i wx hs h0 h1)
  have CO := hide (fun wx (j : Int) (hr : Rd wx g s i bg) => goOn_any g s i bg j wx hr)
  have A0 := hide (show RdB w g s i bg w from ⟨h, Below.refl _ _⟩)
  have R := RdB.read w g s i bg
  obtain ⟨⟨n, j⟩, hnj⟩ : ∃ x, getNum s.data.toList i = x := ⟨_, rfl⟩
  rw [hnj] at CG ⊢
  simp only at CG ⊢
  clear h hnj
  by_cases hj : j < 0
  · rw [if_pos hj]
    have CP := hide (fun wx hr => by have := unhide CO wx j hr; rw [if_pos hj] at this; exact this)
    clear CO
    go_enter Tryz.func135, Tryz.ntmps135
    go_wp2_with fail
    go_region_held3 (fun wx => RdB w g s i bg wx)
      (first | assumption | exact (unhide A0).drew | exact RdB.call (by assumption) (by assumption))
      (first
      | (go_at_call 134; refine (unhide CG _).mono ?_; rintro e wt ⟨rfl, hb⟩; have SA := RdB.call (w0 := w) (g := g) (s := s) (i := i) (bg := bg) (by assumption) hb)
      | fail)
    have HA := hide SA
    clear SA R A0
    go_wp2_with fail
    refine (unhide CP _ (unhide HA).1).mono ?_
    intro e w2 hr
    obtain ⟨hg, hr⟩ := hr
    have HG := hide (grownBy_trans (gby_below (unhide HA).2) hg)
    clear hg
    obtain ⟨rfl, hr⟩ := hr
    have HR := hide hr
    clear hr
    go_wp2
    exact ⟨rfl, unhide HG, rfl, unhide HR⟩
  · rw [if_neg hj]
    have CP := hide (fun wx hr => by have := unhide CO wx j hr; rw [if_neg hj] at this; exact this)
    clear CO
    go_enter Tryz.func135, Tryz.ntmps135
    go_wp2_with fail
    go_region_held3 (fun wx => RdB w g s i bg wx)
      (first | assumption | exact (unhide A0).drew | exact RdB.call (by assumption) (by assumption))
      (first
      | (go_at_call 134; refine (unhide CG _).mono ?_; rintro e wt ⟨rfl, hb⟩; have SA := RdB.call (w0 := w) (g := g) (s := s) (i := i) (bg := bg) (by assumption) hb)
      | fail)
    have HA := hide SA
    clear SA R A0
    go_wp2_with fail
    refine (unhide CP _ (unhide HA).1).mono ?_
    intro e w2 hr
    obtain ⟨hg, hr⟩ := hr
    have HG := hide (grownBy_trans (gby_below (unhide HA).2) hg)
    clear hg
    obtain ⟨rfl, hr⟩ := hr
    have HR := hide hr
    clear hr
    go_wp2
    go_ret
    exact ⟨unhide HG, rfl, unhide HR⟩

set_option maxRecDepth 100000 in
set_option maxHeartbeats 1000000 in
theorem nextText_any (g : Nat) (s : ByteArray) (i bg : Int) (w : World) (h : Rd w g s i bg) (hs : s.size ≤ 1048576) (h0 : -9223372036854775808 ≤ i) (h1 : i ≤ 9223372036854775807) :
    Calls Tryz.prog 58 #[rdp g] w fun e w' => Reads w g s bg (if (getText s.data.toList i).2 < 0 then none else some (.string (bs (getText s.data.toList i).1), (getText s.data.toList i).2)) e w' := by
  have CG := hide (fun wx => implGetText_any s i wx hs h0 h1)
  have CO := hide (fun wx (j : Int) (hr : Rd wx g s i bg) => goOn_any g s i bg j wx hr)
  have A0 := hide (show RdB w g s i bg w from ⟨h, Below.refl _ _⟩)
  have R := RdB.read w g s i bg
  obtain ⟨⟨n, j⟩, hnj⟩ : ∃ x, getText s.data.toList i = x := ⟨_, rfl⟩
  rw [hnj] at CG ⊢
  simp only at CG ⊢
  clear h hnj
  by_cases hj : j < 0
  · rw [if_pos hj]
    have CP := hide (fun wx hr => by have := unhide CO wx j hr; rw [if_pos hj] at this; exact this)
    clear CO
    go_enter Tryz.func58, Tryz.ntmps58
    go_wp2_with fail
    go_region_held3 (fun wx => RdB w g s i bg wx)
      (first | assumption | exact (unhide A0).drew | exact RdB.call (by assumption) (by assumption))
      (first
      | (go_at_call 95; refine (unhide CG _).mono ?_; rintro e wt ⟨rfl, hb⟩; have SA := RdB.call (w0 := w) (g := g) (s := s) (i := i) (bg := bg) (by assumption) hb)
      | fail)
    have HA := hide SA
    clear SA R A0
    go_wp2_with fail
    refine (unhide CP _ (unhide HA).1).mono ?_
    intro e w2 hr
    obtain ⟨hg, hr⟩ := hr
    have HG := hide (grownBy_trans (gby_below (unhide HA).2) hg)
    clear hg
    obtain ⟨rfl, hr⟩ := hr
    have HR := hide hr
    clear hr
    go_wp2
    exact ⟨rfl, unhide HG, rfl, unhide HR⟩
  · rw [if_neg hj]
    have CP := hide (fun wx hr => by have := unhide CO wx j hr; rw [if_neg hj] at this; exact this)
    clear CO
    go_enter Tryz.func58, Tryz.ntmps58
    go_wp2_with fail
    go_region_held3 (fun wx => RdB w g s i bg wx)
      (first | assumption | exact (unhide A0).drew | exact RdB.call (by assumption) (by assumption))
      (first
      | (go_at_call 95; refine (unhide CG _).mono ?_; rintro e wt ⟨rfl, hb⟩; have SA := RdB.call (w0 := w) (g := g) (s := s) (i := i) (bg := bg) (by assumption) hb)
      | fail)
    have HA := hide SA
    clear SA R A0
    go_wp2_with fail
    refine (unhide CP _ (unhide HA).1).mono ?_
    intro e w2 hr
    obtain ⟨hg, hr⟩ := hr
    have HG := hide (grownBy_trans (gby_below (unhide HA).2) hg)
    clear hg
    obtain ⟨rfl, hr⟩ := hr
    have HR := hide hr
    clear hr
    go_wp2
    go_ret
    exact ⟨unhide HG, rfl, unhide HR⟩
end Go.Proofs.YtkpmocbfedgfhaaGreat

/-
  The program's reader: a whole record; a walk over the dump.
-/
namespace Go.Proofs.YtkpmocbfedgfhaaGreat
open Go.RowKit
set_option linter.unusedVariables false
/-- the record that bytes begin with, and behind which byte it ends -/
def readRec (l : List UInt8) : Option (Rc × Int) :=
  match l with
  | [] => none
  | b :: _ =>
    if (getNum l 1).2 < 0 then none
    else if (getText l (getNum l 1).2).2 < 0 then none
    else if recOk ⟨b.toNat, (getNum l 1).1, (getText l (getNum l 1).2).1⟩ = false then none
    else some (⟨b.toNat, (getNum l 1).1, (getText l (getNum l 1).2).1⟩, (getText l (getNum l 1).2).2)
theorem getNum_pos_le (s : ByteArray) (i : Int) (h : ¬ (getNum s.data.toList i).2 < 0) : 0 ≤ (getNum s.data.toList i).2 ∧ (getNum s.data.toList i).2 ≤ s.size := by
  have := getNum_le s i (by omega)
  omega
theorem getText_pos_le (s : ByteArray) (i : Int) (h : ¬ (getText s.data.toList i).2 < 0) : 0 ≤ (getText s.data.toList i).2 ∧ (getText s.data.toList i).2 ≤ s.size := by
  have h0 := getText_of (s := s) (i := i) (a := (getNum s.data.toList i).1) (b := (getNum s.data.toList i).2) rfl
  have hl := getNum_le s i
  rw [h0] at h ⊢
  split at h
  · simp at h
  · rename_i hn
    rw [if_neg hn]
    simp only at h ⊢
    omega
theorem getText_len (s : ByteArray) (i : Int) : (getText s.data.toList i).1.length ≤ 1048576 := by
  have h0 := getText_of (s := s) (i := i) (a := (getNum s.data.toList i).1) (b := (getNum s.data.toList i).2) rfl
  rw [h0]
  split
  · simp
  · rename_i hn
    simp only [List.length_take]
    have := getNum_le s i
    omega
theorem grownBy_new {w w1 : World} {r : Option Nat} (h : w.grownBy w1 r) (b j : Nat) (v : Value) (hb : w.heap.size ≤ b) : w.grownBy (w1.setCell ⟨b, j, none⟩ v) r :=
  ⟨h.os, h.tape, h.output, by simpa using h.size, fun k hk hn => by
    rw [heap_setCell_other w1 ⟨b, j, none⟩ k v (by simp; omega)]
    exact h.block k hk hn⟩
theorem Blk.gby {w w' : World} {g k : Nat} {arr : Array Value} {t : TypeId} (h : Blk w k arr t) (hg : w.grownBy w' (some g)) (hn : k ≠ g) : Blk w' k arr t := (hg.block k h.lt (fun e => hn (by simpa using e))).trans h

set_option maxRecDepth 100000 in
set_option maxHeartbeats 4000000 in
theorem nextRec_any (g : Nat) (s : ByteArray) (bg : Int) (w : World) (h : Rd w g s 0 bg) (hs : s.size ≤ 1048576) :
    Calls Tryz.prog 98 #[rdp g] w fun e w' => Reads w g s bg ((readRec s.data.toList).map (fun x => (rcv x.1, x.2))) e w' := by
  have hgl : g < w.heap.size := Rd.lt h
  have CB := hide (fun wx (hr : Rd wx g s 0 bg) => nextByte_any g s 0 bg wx hr hs (Nat.zero_le _))
  have CN := hide (fun wx (hr : Rd wx g s 1 bg) => nextNum_any g s 1 bg wx hr hs (by omega) (by omega))
  have HR0 := hide (Rd.al h (.cells #[.int .i64 0, .int .i64 0, .string ⟨#[]⟩] 41))
  have V0 := hide (blk_new w #[.int .i64 0, .int .i64 0, .string ⟨#[]⟩] 41)
  have G0 := hide (gby_below (r := some g) (below_al (Below.refl _ w) (.cells #[.int .i64 0, .int .i64 0, .string ⟨#[]⟩] 41)))
  have hBg : w.heap.size ≠ g := by omega
  clear h
  by_cases h0 : 0 < s.size
  case neg =>
    have he : s.data.toList = [] := by
      have := len_eq s
      exact List.eq_nil_of_length_eq_zero (by omega)
    rw [he]
    simp only [readRec, Option.map_none]
    have CB' := hide (fun wx hr => by have := unhide CB wx hr; rw [dif_neg h0] at this; exact this)
    clear CB he
    go_enter Tryz.func98, Tryz.ntmps98
    go_wp2_with fail
    refine (unhide CB' _ (unhide HR0)).mono ?_
    rintro e w1 ⟨hg, rfl, hr⟩
    have HG := hide (grownBy_trans (unhide G0) hg)
    have HR := hide hr
    clear hg hr
    go_wp2
    exact ⟨rfl, unhide HG, rfl, unhide HR⟩
  have hcons : ∃ t, s.data.toList = s[0] :: t := ⟨s.data.toList.tail, by
    have hlen := len_eq s
    match hl : s.data.toList with
    | [] => rw [hl] at hlen; simp at hlen; omega
    | a :: t =>
      simp only [List.tail_cons, List.cons.injEq, and_true]
      have : s.data.toList[0]? = some a := by rw [hl]; rfl
      have h2 : s.data.toList[0]? = some s[0] := by
        rw [List.getElem?_eq_getElem (by omega)]; rfl
      rw [h2] at this
      simpa using this.symm⟩
  have CB' := hide (fun wx hr => by have := unhide CB wx hr; rw [dif_pos h0] at this; exact this)
  clear CB
  have hby := byte_le s[0]
  have HX : readRec s.data.toList = if (getNum s.data.toList 1).2 < 0 then none
    else if (getText s.data.toList (getNum s.data.toList 1).2).2 < 0 then none
    else if recOk ⟨s[0].toNat, (getNum s.data.toList 1).1, (getText s.data.toList (getNum s.data.toList 1).2).1⟩ = false then none
    else some (⟨s[0].toNat, (getNum s.data.toList 1).1, (getText s.data.toList (getNum s.data.toList 1).2).1⟩, (getText s.data.toList (getNum s.data.toList 1).2).2) := by
    obtain ⟨t, ht⟩ := hcons
    conv => lhs; unfold readRec
    rw [ht]
  rw [HX]
  clear HX hcons
  have hnl := getNum_pos_le s 1
  obtain ⟨⟨n, j⟩, hnj⟩ : ∃ x, getNum s.data.toList 1 = x := ⟨_, rfl⟩
  rw [hnj] at CN hnl ⊢
  simp only at CN hnl ⊢
  clear hnj
  obtain ⟨b, hb⟩ : ∃ b, s[0].toNat = b := ⟨_, rfl⟩
  rw [hb] at CB' hby ⊢
  clear hb
  have hz1 : (((0 : Nat) : Int) + 1) = 1 := rfl
  by_cases hj : j < 0
  · rw [if_pos hj]
    have CN' := hide (fun wx hr => by have := unhide CN wx hr; rw [if_pos hj] at this; exact this)
    clear CN
    go_enter Tryz.func98, Tryz.ntmps98
    go_wp2_with fail
    refine (unhide CB' _ (unhide HR0)).mono ?_
    rintro e w1 ⟨hg, rfl, hr⟩
    have HG := hide (grownBy_trans (unhide G0) hg)
    have HR := hide (show Rd w1 g s 1 bg from hr)
    clear hg hr
    go_wp2_with fail
    refine (unhide CN' _ (unhide HR)).mono ?_
    rintro e w2 ⟨hg, rfl, hr⟩
    have HG2 := hide (grownBy_trans (unhide HG) hg)
    have HR2 := hide hr
    clear hg hr
    go_wp2
    exact ⟨rfl, unhide HG2, rfl, unhide HR2⟩
  rw [if_neg hj]
  have CN' := hide (fun wx hr => by have := unhide CN wx hr; rw [if_neg hj] at this; exact this)
  clear CN
  have hj2 := hnl hj
  have CT := hide (fun wx (hr : Rd wx g s j bg) => nextText_any g s j bg wx hr hs (by omega) (by omega))
  have hql := getText_len s j
  obtain ⟨⟨q, k⟩, hqk⟩ : ∃ x, getText s.data.toList j = x := ⟨_, rfl⟩
  rw [hqk] at CT hql ⊢
  simp only at CT hql ⊢
  clear hqk
  by_cases hk : k < 0
  · rw [if_pos hk]
    have CT' := hide (fun wx hr => by have := unhide CT wx hr; rw [if_pos hk] at this; exact this)
    clear CT
    go_enter Tryz.func98, Tryz.ntmps98
    go_wp2_with fail
    refine (unhide CB' _ (unhide HR0)).mono ?_
    rintro e w1 ⟨hg, rfl, hr⟩
    have HG := hide (grownBy_trans (unhide G0) hg)
    have HR := hide (show Rd w1 g s 1 bg from hr)
    clear hg hr
    go_wp2_with fail
    refine (unhide CN' _ (unhide HR)).mono ?_
    rintro e w2 ⟨hg, rfl, hr⟩
    have HG2 := hide (grownBy_trans (unhide HG) hg)
    have HR2 := hide hr
    clear hg hr
    go_wp2_with fail
    refine (unhide CT' _ (unhide HR2)).mono ?_
    rintro e w3 ⟨hg, rfl, hr⟩
    have HG3 := hide (grownBy_trans (unhide HG2) hg)
    have HR3 := hide hr
    clear hg hr
    go_wp2
    exact ⟨rfl, unhide HG3, rfl, unhide HR3⟩
  rw [if_neg hk]
  have CT' := hide (fun wx hr => by have := unhide CT wx hr; rw [if_neg hk] at this; exact this)
  clear CT
  have CO := hide (fun wx => implRecOk_any ⟨b, n, q⟩ wx hql)
  have CF := hide (fun wx (hr : Rd wx g s k bg) => fail_any g s k bg wx hr)
  obtain ⟨o, ho⟩ : ∃ o, recOk ⟨b, n, q⟩ = o := ⟨_, rfl⟩
  rw [ho] at CO ⊢
  clear ho
  cases o
  · rw [if_pos rfl]
    go_enter Tryz.func98, Tryz.ntmps98
    go_wp2_with fail
    refine (unhide CB' _ (unhide HR0)).mono ?_
    rintro e w1 ⟨hg, rfl, hr⟩
    have HG := hide (grownBy_trans (unhide G0) hg)
    have HR := hide (show Rd w1 g s 1 bg from hr)
    clear hg hr
    go_wp2_with fail
    refine (unhide CN' _ (unhide HR)).mono ?_
    rintro e w2 ⟨hg, rfl, hr⟩
    have HG2 := hide (grownBy_trans (unhide HG) hg)
    have HR2 := hide hr
    clear hg hr
    go_wp2_with fail
    refine (unhide CT' _ (unhide HR2)).mono ?_
    rintro e w3 ⟨hg, rfl, hr⟩
    have HG3 := hide (grownBy_below (grownBy_trans (unhide HG2) hg) (below_al (Below.refl _ _) (.cells #[.int .i64 b, .int .i64 n, .string (bs q)] 41)))
    have HR3 := hide (Rd.al hr (.cells #[.int .i64 b, .int .i64 n, .string (bs q)] 41))
    clear hg hr
    go_wp2_with fail
    refine (unhide CO _).mono ?_
    rintro e w4 ⟨rfl, hb⟩
    have HG4 := hide (grownBy_below (unhide HG3) hb)
    have HR4 := hide (Rd.below (unhide HR3) hb)
    clear hb
    go_wp2_with fail
    refine (unhide CF _ (unhide HR4)).mono ?_
    rintro e w5 ⟨rfl, rfl⟩
    go_wp2
    exact ⟨rfl, unhide HG4, rfl, _, unhide HR4⟩
  · rw [if_neg (by simp)]
    go_enter Tryz.func98, Tryz.ntmps98
    go_wp2_with fail
    refine (unhide CB' _ (unhide HR0)).mono ?_
    rintro e w1 ⟨hg, rfl, hr⟩
    have HG := hide (grownBy_trans (unhide G0) hg)
    have HR := hide (show Rd w1 g s 1 bg from hr)
    have V1 := hide ((unhide V0).gby hg hBg)
    clear hg hr
    go_wp2_with fail
    refine (unhide CN' _ (unhide HR)).mono ?_
    rintro e w2 ⟨hg, rfl, hr⟩
    have HG2 := hide (grownBy_trans (unhide HG) hg)
    have HR2 := hide hr
    have V2 := hide ((unhide V1).gby hg hBg)
    clear hg hr
    go_wp2_with fail
    refine (unhide CT' _ (unhide HR2)).mono ?_
    rintro e w3 ⟨hg, rfl, hr⟩
    have HG3 := hide (grownBy_below (grownBy_trans (unhide HG2) hg) (below_al (Below.refl _ _) (.cells #[.int .i64 b, .int .i64 n, .string (bs q)] 41)))
    have HR3 := hide (Rd.al hr (.cells #[.int .i64 b, .int .i64 n, .string (bs q)] 41))
    have V3 := hide (((unhide V2).gby hg hBg).al (.cells #[.int .i64 b, .int .i64 n, .string (bs q)] 41))
    have U3 := hide (blk_new w3 #[.int .i64 b, .int .i64 n, .string (bs q)] 41)
    clear hg hr
    go_wp2_with fail
    refine (unhide CO _).mono ?_
    rintro e w4 ⟨rfl, hb⟩
    have HG4 := hide (grownBy_below (unhide HG3) hb)
    have HR4 := hide (Rd.below (unhide HR3) hb)
    have V4 := hide ((unhide V3).below hb)
    have U4 := hide ((unhide U3).below hb)
    have u0 := (unhide U4).at 0
    have u1 := (unhide U4).at 1
    have u2 := (unhide U4).at 2
    have v0 := (unhide V4).at 0
    have v1 := (unhide V4).at 1
    have v2 := (unhide V4).at 2
    have f0 := (unhide V4).f 0
    have f1 := (unhide V4).f 1
    have f2 := (unhide V4).f 2
    simp at u0 u1 u2 v0 v1 v2
    clear hb
    have hV := ((unhide V4).set 0 (.int .i64 b)).set 1 (.int .i64 n)
    have hV2 := hV.set 2 (.string (bs q))
    simp at hV2
    have x0 := hV2.at 0
    have x1 := hV2.at 1
    have x2 := hV2.at 2
    simp at x0 x1 x2
    have HF := hide (show Rd _ g s k bg from Rd.other (Rd.other (Rd.other (unhide HR4) w.heap.size 0 (.int .i64 b) (Ne.symm hBg)) w.heap.size 1 (.int .i64 n) (Ne.symm hBg)) w.heap.size 2 (.string (bs q)) (Ne.symm hBg))
    clear hV hV2
    go_wp2
    refine bodyPost_ret (v := rcv ⟨b, n, q⟩) (by simp [results, Tryz.results98, go_sem, x0, x1, x2]) rfl ⟨?_, rfl, unhide HF⟩
    exact grownBy_new (grownBy_new (grownBy_new (unhide HG4) _ _ _ (Nat.le_refl _)) _ _ _ (Nat.le_refl _)) _ _ _ (Nat.le_refl _)
end Go.Proofs.YtkpmocbfedgfhaaGreat

/-
  A deferred closure's region that recovers: one operation at a time.
-/
namespace Go.Proofs.YtkpmocbfedgfhaaGreat
open Go.RowKit
set_option linter.unusedVariables false
section
variable {P : Program} {ops : Array Oper} {Q : Exit → Act → List Frame → World → Prop} {a : Act} {cs cs' : List Frame} {w w' : World} {i : Nat} {rest : List Nat} {o : Oper} {v : Value} {d : Option Tmp}
theorem opsS_val (ho : ops[i]? = some o) (hd : o.dst = d) (hw : Region.wanted o (yielded ops a.tmps) = true) (hr : (execOp a.eval o).run P w = .ok (.value v) w') (h : wpOpsS P ops Q rest (a.put d v) cs w') : wpOpsS P ops Q (i :: rest) a cs w := by
  subst hd
  simp only [wpOpsS, ho, hw, if_true, hr, Oper.upon]
  exact h
theorem opsS_skip (ho : ops[i]? = some o) (hd : o.dst = d) (hw : Region.wanted o (yielded ops a.tmps) = true) (hr : (execOp a.eval o).run P w = .ok .skip w') (h : wpOpsS P ops Q rest (a.put d undef) cs w') : wpOpsS P ops Q (i :: rest) a cs w := by
  subst hd
  simp only [wpOpsS, ho, hw, if_true, hr, Oper.upon]
  exact h
theorem opsS_rec (ho : ops[i]? = some o) (hd : o.dst = d) (hw : Region.wanted o (yielded ops a.tmps) = true) (hr : (execOp a.eval o).run P w = .ok .recover w') (hq : recoverD cs = some (v, cs')) (h : wpOpsS P ops Q rest (a.put d v) cs' w') : wpOpsS P ops Q (i :: rest) a cs w := by
  subst hd
  simp only [wpOpsS, ho, hw, if_true, hr, hq]
  exact h
theorem opsS_rec0 (ho : ops[i]? = some o) (hd : o.dst = d) (hw : Region.wanted o (yielded ops a.tmps) = true) (hr : (execOp a.eval o).run P w = .ok .recover w') (hq : recoverD cs = none) (h : wpOpsS P ops Q rest (a.put d .nilIface) cs w') : wpOpsS P ops Q (i :: rest) a cs w := by
  subst hd
  simp only [wpOpsS, ho, hw, if_true, hr, hq]
  exact h
theorem opsS_call {f : FuncId} {args : Array Value} {R : Ending → World → Prop} (ho : ops[i]? = some o) (hd : o.dst = d) (hw : Region.wanted o (yielded ops a.tmps) = true) (hr : (execOp a.eval o).run P w = .ok (.enter f args) w') (hc : Calls P f args w' R)
    (h : ∀ e w'', R e w'' → ∃ v, e = .returned v ∧ wpOpsS P ops Q rest (a.put d v) cs w'') : wpOpsS P ops Q (i :: rest) a cs w := by
  subst hd
  simp only [wpOpsS, ho, hw, if_true, hr, Oper.upon]
  refine hc.mono (fun e w'' hR => ?_)
  obtain ⟨v, rfl, hh⟩ := h e w'' hR
  exact hh
theorem opsS_nil (h : Q .normal a cs w) : wpOpsS P ops Q [] a cs w := h
end
end Go.Proofs.YtkpmocbfedgfhaaGreat

/-
  The closure that GetRec defers: it recovers what the reader panics with; walks over the dump.
-/
namespace Go.Proofs.YtkpmocbfedgfhaaGreat
open Go.RowKit
set_option linter.unusedVariables false
set_option linter.unusedSimpArgs false
set_option maxRecDepth 100000 in
set_option maxHeartbeats 1000000 in
theorem failure_yes (bg : Int) (w : World) :
    Calls Tryz.prog 29 #[.iface 68 (.agg #[.int .i64 bg])] w fun e w' => e = .returned (.tuple #[.agg #[.int .i64 bg], .bool true]) ∧ Below w.heap.size w w' := by
  have hta : ∀ (xt : TypeId) wx, (Instr.typeAssert (.iface 68 (.agg #[.int .i64 bg])) xt 68 true).run Tryz.prog wx = .ok (.tuple #[.agg #[.int .i64 bg], .bool true]) wx := fun xt wx => by
    simp [Instr.typeAssert, go_sem]
  go_enter Tryz.func29, Tryz.ntmps29
  go_wp2
  refine bodyPost_ret (v := .tuple #[.agg #[.int .i64 bg], .bool true]) (by simp [results, Tryz.results29, go_sem]) rfl ⟨rfl, ?_⟩
  repeat (first | exact Below.refl _ _ | refine below_al ?_ _ | refine Below.drew ?_ | refine below_sc ?_ _ _ _ (by omega))
set_option maxRecDepth 100000 in
set_option maxHeartbeats 1000000 in
theorem failure_no (w : World) :
    Calls Tryz.prog 29 #[.nilIface] w fun e w' => e = .returned (.tuple #[.agg #[.int .i64 0], .bool false]) ∧ Below w.heap.size w w' := by
  have hta : ∀ (xt : TypeId) wx, (Instr.typeAssert .nilIface xt 68 true).run Tryz.prog wx = .ok (.tuple #[.agg #[.int .i64 0], .bool false]) wx := fun xt wx => by
    simp [Instr.typeAssert, go_sem]
  go_enter Tryz.func29, Tryz.ntmps29
  go_wp2
  refine bodyPost_ret (v := .tuple #[.agg #[.int .i64 0], .bool false]) (by simp [results, Tryz.results29, go_sem]) rfl ⟨rfl, ?_⟩
  repeat (first | exact Below.refl _ _ | refine below_al ?_ _ | refine Below.drew ?_ | refine below_sc ?_ _ _ _ (by omega))

set_option maxRecDepth 100000 in
set_option maxHeartbeats 1500000 in
theorem catch_panicking (g : Nat) (r : Rc) (b : Bool) (bg : Int) (older : List PanicEntry) (w : World) (h1 : Blk w g #[.int .i64 r.kind, .int .i64 r.app, .string (bs r.queue)] 41) (h2 : Blk w (g + 1) #[.bool b] 4) :
    CallsD Tryz.prog 97 #[.pointer (some ⟨g, 0, none⟩), .pointer (some ⟨g + 1, 0, none⟩)] (.panicking (perr bg :: older)) w fun e u' w' =>
      e = .returned (.tuple #[]) ∧ u' = .panicking ({ perr bg with recovered := true } :: older) ∧ Blk w' g #[.int .i64 0, .int .i64 0, .string ⟨#[]⟩] 41 ∧ Blk w' (g + 1) #[.bool false] 4 ∧ Below g w w' := by
  have H1 := hide h1
  have H2 := hide h2
  clear h1 h2
  refine callsD_of_wpS Tryz.func97 rfl fun c₀ cs hu => ?_
  apply wpS_seq
  apply wpS_region
  rw [Tryz.ntmps97, show ∀ x y : Value, #[x, y] ++ Array.replicate (11 - #[x, y].size) undef = #[x, y, undef, undef, undef, undef, undef, undef, undef, undef, undef] from fun _ _ => rfl]
  simp only [List.size_toArray, List.length_cons, List.length_nil, Nat.zero_add, Nat.reduceAdd, List.range, List.range.loop]
  refine opsS_rec (w' := w) (d := some 5) rfl rfl rfl (by simp [go_sem]) (v := .iface 68 (.agg #[.int .i64 bg])) (cs' := { c₀ with mode := .panicking ({ perr bg with recovered := true } :: older) } :: cs) (by simp [recoverD, hu]) ?_
  simp only [Act.put, List.setIfInBounds_toArray, List.set_cons_zero, List.set_cons_succ]
  refine opsS_call (w' := w) (f := 29) (args := #[.iface 68 (.agg #[.int .i64 bg])]) (d := some 6) rfl rfl rfl (by simp [go_sem]) (failure_yes bg w) ?_
  rintro e w1 ⟨rfl, hb⟩
  refine ⟨_, rfl, ?_⟩
  have HB := hide hb
  have G1 := hide ((unhide H1).below hb)
  have G2 := hide ((unhide H2).below hb)
  clear hb
  simp only [Act.put, List.setIfInBounds_toArray, List.set_cons_zero, List.set_cons_succ]
  refine opsS_val (v := .tuple #[.agg #[.int .i64 bg], .bool true]) (w' := w1) (d := some 4) rfl rfl rfl (by simp [go_sem]) ?_
  simp only [Act.put, List.setIfInBounds_toArray, List.set_cons_zero, List.set_cons_succ]
  refine opsS_val (v := .agg #[.int .i64 bg]) (w' := w1) (d := some 7) rfl rfl rfl (by simp [go_sem]) ?_
  simp only [Act.put, List.setIfInBounds_toArray, List.set_cons_zero, List.set_cons_succ]
  refine opsS_val (v := .bool true) (w' := w1) (d := some 8) rfl rfl rfl (by simp [go_sem]) ?_
  simp only [Act.put, List.setIfInBounds_toArray, List.set_cons_zero, List.set_cons_succ]
  refine opsS_val (v := .pointer (some ⟨w1.heap.size, 0, none⟩)) (w' := w1.alloc (.cells #[.int .i64 0] 68)) (d := some 2) rfl rfl rfl (by simp [go_sem]) ?_
  simp only [Act.put, List.setIfInBounds_toArray, List.set_cons_zero, List.set_cons_succ]
  refine opsS_skip (w' := w1.alloc (.cells #[.int .i64 bg] 68)) (d := none) rfl rfl rfl (by simp [go_sem]) ?_
  simp only [Act.put, List.setIfInBounds_toArray, List.set_cons_zero, List.set_cons_succ]
  refine opsS_val (v := .bool true) (w' := w1.alloc (.cells #[.int .i64 bg] 68)) (d := some 3) rfl rfl rfl (by simp [go_sem]) ?_
  simp only [Act.put, List.setIfInBounds_toArray, List.set_cons_zero, List.set_cons_succ]
  refine opsS_nil ?_
  refine wpS_of_wp ?_
  have k0 := ((unhide G1).al (.cells #[.int .i64 bg] 68)).at 0
  have k1 := ((unhide G1).al (.cells #[.int .i64 bg] 68)).at 1
  have k2 := ((unhide G1).al (.cells #[.int .i64 bg] 68)).at 2
  have f0 := ((unhide G1).al (.cells #[.int .i64 bg] 68)).f 0
  have f1 := ((unhide G1).al (.cells #[.int .i64 bg] 68)).f 1
  have f2 := ((unhide G1).al (.cells #[.int .i64 bg] 68)).f 2
  have p0 := ((unhide G2).al (.cells #[.int .i64 bg] 68)).at 0
  have q0 := ((unhide G2).al (.cells #[.int .i64 bg] 68)).f 0
  have W1 := hide ((unhide G1).al (.cells #[.int .i64 bg] 68))
  have W2 := hide ((unhide G2).al (.cells #[.int .i64 bg] 68))
  have HBL := hide (show Below g w (w1.alloc (.cells #[.int .i64 bg] 68)) from (below_al (unhide HB) _).mono (Nat.le_of_lt (unhide H1).lt))
  simp only [List.getElem?_toArray, List.getElem?_cons_succ, List.getElem?_cons_zero] at k0 k1 k2 p0
  obtain ⟨W, hW⟩ : ∃ W, w1.alloc (.cells #[.int .i64 bg] 68) = W := ⟨_, rfl⟩
  rw [hW] at k0 k1 k2 f0 f1 f2 p0 q0 W1 W2 HBL ⊢
  clear hW HB G1 G2 H1 H2
  go_wp2
  refine ⟨rfl, _, rfl, .tuple #[], by simp [results, Tryz.results97, go_sem], rfl, rfl, ?_, ?_, ?_⟩
  · have := (((unhide W1).set 0 (.int .i64 0)).set 1 (.int .i64 0)).set 2 (.string ⟨#[]⟩)
    simp at this
    exact this.other (g + 1) 0 (.bool false) (by omega)
  · have := ((((unhide W2).other g 0 (.int .i64 0) (by omega)).other g 1 (.int .i64 0) (by omega)).other g 2 (.string ⟨#[]⟩) (by omega)).set 0 (.bool false)
    simpa using this
  · exact ((((unhide HBL).setCell (Nat.le_refl _) _).setCell (Nat.le_refl _) _).setCell (Nat.le_refl _) _).setCell (Nat.le_succ _) _

set_option maxRecDepth 100000 in
set_option maxHeartbeats 1500000 in
theorem catch_idle (g : Nat) (r : Rc) (b : Bool) (w : World) (h1 : Blk w g #[.int .i64 r.kind, .int .i64 r.app, .string (bs r.queue)] 41) (h2 : Blk w (g + 1) #[.bool b] 4) :
    CallsD Tryz.prog 97 #[.pointer (some ⟨g, 0, none⟩), .pointer (some ⟨g + 1, 0, none⟩)] .returning w fun e u' w' =>
      e = .returned (.tuple #[]) ∧ u' = .returning ∧ Below w.heap.size w w' := by
  have H1 := hide h1
  have H2 := hide h2
  clear h1 h2
  refine callsD_of_wpS Tryz.func97 rfl fun c₀ cs hu => ?_
  apply wpS_seq
  apply wpS_region
  rw [Tryz.ntmps97, show ∀ x y : Value, #[x, y] ++ Array.replicate (11 - #[x, y].size) undef = #[x, y, undef, undef, undef, undef, undef, undef, undef, undef, undef] from fun _ _ => rfl]
  simp only [List.size_toArray, List.length_cons, List.length_nil, Nat.zero_add, Nat.reduceAdd, List.range, List.range.loop]
  refine opsS_rec0 (w' := w) (d := some 5) rfl rfl rfl (by simp [go_sem]) (by simp [recoverD, hu]) ?_
  simp only [Act.put, List.setIfInBounds_toArray, List.set_cons_zero, List.set_cons_succ]
  refine opsS_call (w' := w) (f := 29) (args := #[.nilIface]) (d := some 6) rfl rfl rfl (by simp [go_sem]) (failure_no w) ?_
  rintro e w1 ⟨rfl, hb⟩
  refine ⟨_, rfl, ?_⟩
  have HB := hide hb
  have G1 := hide ((unhide H1).below hb)
  have G2 := hide ((unhide H2).below hb)
  clear hb
  simp only [Act.put, List.setIfInBounds_toArray, List.set_cons_zero, List.set_cons_succ]
  refine opsS_val (v := .tuple #[.agg #[.int .i64 0], .bool false]) (w' := w1) (d := some 4) rfl rfl rfl (by simp [go_sem]) ?_
  simp only [Act.put, List.setIfInBounds_toArray, List.set_cons_zero, List.set_cons_succ]
  refine opsS_val (v := .agg #[.int .i64 0]) (w' := w1) (d := some 7) rfl rfl rfl (by simp [go_sem]) ?_
  simp only [Act.put, List.setIfInBounds_toArray, List.set_cons_zero, List.set_cons_succ]
  refine opsS_val (v := .bool false) (w' := w1) (d := some 8) rfl rfl rfl (by simp [go_sem]) ?_
  simp only [Act.put, List.setIfInBounds_toArray, List.set_cons_zero, List.set_cons_succ]
  refine opsS_val (v := .pointer (some ⟨w1.heap.size, 0, none⟩)) (w' := w1.alloc (.cells #[.int .i64 0] 68)) (d := some 2) rfl rfl rfl (by simp [go_sem]) ?_
  simp only [Act.put, List.setIfInBounds_toArray, List.set_cons_zero, List.set_cons_succ]
  refine opsS_skip (w' := w1.alloc (.cells #[.int .i64 0] 68)) (d := none) rfl rfl rfl (by simp [go_sem]) ?_
  simp only [Act.put, List.setIfInBounds_toArray, List.set_cons_zero, List.set_cons_succ]
  refine opsS_val (v := .bool false) (w' := w1.alloc (.cells #[.int .i64 0] 68)) (d := some 3) rfl rfl rfl (by simp [go_sem]) ?_
  simp only [Act.put, List.setIfInBounds_toArray, List.set_cons_zero, List.set_cons_succ]
  refine opsS_nil ?_
  refine wpS_of_wp ?_
  have HBL := hide (below_al (unhide HB) (.cells #[.int .i64 0] 68))
  go_wp2
  refine ⟨rfl, .returning, ?_, .tuple #[], by simp [results, Tryz.results97, go_sem], rfl, rfl, unhide HBL⟩
  cases c₀
  simp_all
end Go.Proofs.YtkpmocbfedgfhaaGreat

/-
  A plain region, one operation at a time: what each gives is told from outside.
-/
namespace Go.Proofs.YtkpmocbfedgfhaaGreat
open Go.RowKit
set_option linter.unusedVariables false
section
variable {P : Program} {ops : Array Oper} {Q : Exit → Act → World → Prop} {a : Act} {w w' : World} {rest : List Oper} {o : Oper} {v : Value} {d : Option Tmp}
theorem wpList_val (hg : o.guard = none) (hd : o.dst = d) (hr : (execOp a.eval o).run P w = .ok (.value v) w') (h : wpList P ops Q rest (a.put d v) w') : wpList P ops Q (o :: rest) a w :=
  wpList_plain hg fun K hK => by
    subst hd
    unfold Oper.wp
    rw [hr]
    exact hK _ _ h
theorem wpList_same (hg : o.guard = none) (hd : o.dst = d) (hr : (execOp a.eval o).run P w = .ok (.value v) w) (h : wpList P ops Q rest (a.put d v) w) : wpList P ops Q (o :: rest) a w := wpList_val hg hd hr h
theorem wpList_none (hg : o.guard = none) (hd : o.dst = d) (hr : (execOp a.eval o).run P w = .ok .skip w') (h : wpList P ops Q rest (a.put d undef) w') : wpList P ops Q (o :: rest) a w :=
  wpList_plain hg fun K hK => by
    subst hd
    unfold Oper.wp
    rw [hr]
    exact hK _ _ h
theorem run_v {s : Sem Value} (h : s.run P w = .ok v w') : (do pure (Next.value (← s)) : Sem Next).run P w = .ok (.value v) w' := by rw [Sem.run_bind, h]; rfl
theorem run_u {s : Sem Unit} (h : s.run P w = .ok () w') : (do s; pure Next.skip : Sem Next).run P w = .ok .skip w' := by rw [Sem.run_bind, h]; rfl
end
end Go.Proofs.YtkpmocbfedgfhaaGreat

/-
  A new reader: what building, making and storing its variable does; walks over the dump.
-/
namespace Go.Proofs.YtkpmocbfedgfhaaGreat
open Go.RowKit
set_option linter.unusedVariables false
/-- the cells of a reader that stands at the beginning of s -/
def rdA (s : ByteArray) : Array Value := #[.string s, .int .i64 0, .int .i64 0, .int .u32 0, .int .i32 0, .int .u32 0, .int .u32 0, .int .u32 0, .int .u32 0, .int .u32 0, .int .u32 0, .int .u32 0, .int .u32 0, .int .u32 0, .int .u32 0, .int .u32 0, .int .u32 0, .int .u32 0, .int .u32 0, .int .u32 0, .int .u32 0, .int .u32 0]
theorem rdA_info : (Tryz.prog.info? 87).map (fun i => (i.zero, i.size)) = some (some (.agg (rdA ⟨#[]⟩)), 22) := by kernel_rfl
theorem rdA_one (s : ByteArray) : (rdA s).all (·.oneCell') = true := by kernel_rfl
theorem rd_alloc (w : World) (v : Value) : (Instr.alloc 87 true v).run Tryz.prog w = .ok (.pointer (some ⟨w.heap.size, 0, none⟩)) (w.alloc (.cells (rdA ⟨#[]⟩) 87)) := by
  have h := (zero_of_info rdA_info).1
  unfold Instr.alloc
  rw [Sem.run_bind, h]
  rfl
theorem rd_store (s : ByteArray) (w : World) : (Instr.storeAt 87 (.pointer (some ⟨w.heap.size, 0, none⟩)) (.agg (rdA s))).run Tryz.prog (w.alloc (.cells (rdA ⟨#[]⟩) 87)) = .ok () (w.alloc (.cells (rdA s) 87)) :=
  run_storeAt_new w 87 (rdA ⟨#[]⟩) (rdA s) (by rw [(zero_of_info rdA_info).2]; rfl) rfl (rdA_one s)
theorem rd_build (s : ByteArray) (w : World) : (Instr.build 87 #[(0, .string s)]).run Tryz.prog w = .ok (.agg (rdA s)) w := by kernel_rfl
theorem Rd.newA (w : World) (s : ByteArray) : Rd (w.alloc (.cells (rdA s) 87)) w.heap.size s 0 0 := Rd.new w s
end Go.Proofs.YtkpmocbfedgfhaaGreat

/-
  The record of bytes, by the program: GetRec, which recovers what its reader panics with; a walk over the dump.
-/
namespace Go.Proofs.YtkpmocbfedgfhaaGreat
open Go.RowKit
set_option linter.unusedVariables false
set_option linter.unusedSimpArgs false
def gotOf (n : Nat) : Option (Rc × Int) → Option Rc
  | none => none
  | some (r, k) => if (n : Int) ≤ k then some r else none
/-- what GetRec answers -/
def gotRec (l : List UInt8) : Option Rc :=
  gotOf l.length (readRec l)
def recAns (o : Option Rc) : Value := match o with | some r => .tuple #[rcv r, .bool true] | none => .tuple #[rcv ⟨0, 0, []⟩, .bool false]
theorem bs_nil : bs [] = (⟨#[]⟩ : ByteArray) := rfl

set_option maxRecDepth 100000 in
set_option maxHeartbeats 1500000 in
theorem implGetRec_any (s : ByteArray) (w : World) (hs : s.size ≤ 1048576) :
    Calls Tryz.prog 59 #[.string s] w fun e w' => e = .returned (recAns (gotRec s.data.toList)) ∧ Below w.heap.size w w' := by
  have hmf : ∀ (fn : Fn) (first cap : Array Value) (w : World), (Instr.makeFunc fn first cap).run Tryz.prog w = .ok (.func fn first cap) w := fun _ _ _ _ => rfl
  have CR := hide (fun wx (hr : Rd wx (w.heap.size + 2) s 0 0) => nextRec_any (w.heap.size + 2) s 0 wx hr hs)
  have CD := hide (fun k wx (hr : Rd wx (w.heap.size + 2) s k 0) => done_any (w.heap.size + 2) s k 0 wx hr hs)
  have CF := hide (fun k wx (hr : Rd wx (w.heap.size + 2) s k 0) => fail_any (w.heap.size + 2) s k 0 wx hr)
  have V0 := hide (((blk_new w #[.int .i64 0, .int .i64 0, .string ⟨#[]⟩] 41).al (.cells #[.bool false] 4)).al (.cells (rdA s) 87))
  have U0 := hide ((blk_new (w.alloc (.cells #[.int .i64 0, .int .i64 0, .string ⟨#[]⟩] 41)) #[.bool false] 4).al (.cells (rdA s) 87))
  have R0 := hide (Rd.newA ((w.alloc (.cells #[.int .i64 0, .int .i64 0, .string ⟨#[]⟩] 41)).alloc (.cells #[.bool false] 4)) s)
  have HB0 := hide (below_al (below_al (below_al (Below.refl _ w) (.cells #[.int .i64 0, .int .i64 0, .string ⟨#[]⟩] 41)) (.cells #[.bool false] 4)) (.cells (rdA s) 87))
  simp only [al_size] at U0 R0
  have HL := hide (len_eq s)
  obtain ⟨x, hx⟩ : ∃ x, readRec s.data.toList = x := ⟨_, rfl⟩
  have HG : gotRec s.data.toList = gotOf s.data.toList.length x := by unfold gotRec; rw [hx]
  rw [HG]
  rw [hx] at CR
  clear HG hx
  cases x with
  | none =>
    simp only [Option.map_none] at CR
    simp only [gotOf]
    go_enter_defers Tryz.func59, Tryz.ntmps59
    go_upto_region 2 with fail
    refine wp_region_lit ?_
    refine wpList_val (v := .string s) (d := some 6) rfl rfl rfl ?_
    simp only [Act.put, List.setIfInBounds_toArray, List.set_cons_zero, List.set_cons_succ]
    refine wpList_same (v := .agg (rdA s)) (d := some 7) rfl rfl (by refine run_v ?_; simp only [List.map_toArray, List.map_cons, List.map_nil]; exact rd_build s _) ?_
    simp only [Act.put, List.setIfInBounds_toArray, List.set_cons_zero, List.set_cons_succ]
    refine wpList_val (d := some 4) rfl rfl (run_v (rd_alloc _ _)) ?_
    simp only [Act.put, List.setIfInBounds_toArray, List.set_cons_zero, List.set_cons_succ]
    refine wpList_none (d := none) rfl rfl (run_u (rd_store s _)) ?_
    simp only [Act.put]
    refine wpList_nil ?_
    go_wp2_with fail
    refine (unhide CR _ (unhide R0)).mono ?_
    rintro e w1 ⟨hg, rfl, hr⟩
    have V1 := hide ((unhide V0).gby hg (by omega))
    have U1 := hide ((unhide U0).gby hg (by omega))
    have HB1 := hide ((unhide HB0).grown hg (unhide HB0).size (fun k hk => by cases hk; omega))
    clear hg hr
    go_wp2
    refine leaves_cons (f := 97) (args := #[.pointer (some ⟨w.heap.size, 0, none⟩), .pointer (some ⟨w.heap.size + 1, 0, none⟩)]) (by simp) (by simp [go_sem]) ?_
    refine (catch_panicking w.heap.size ⟨0, 0, []⟩ false 0 [] w1 (unhide V1) (unhide U1)).mono ?_
    rintro e u' w2 ⟨rfl, rfl, h1, h2, hb⟩
    have HB2 := hide (Below.trans (unhide HB1) hb)
    have k0 := h1.at 0
    have k1 := h1.at 1
    have k2 := h1.at 2
    have k3 := h2.at 0
    simp at k0 k1 k2 k3
    clear hb h1 h2
    refine ⟨recAns none, ?_, rfl, unhide HB2⟩
    simp [results, Tryz.results59, go_sem, k0, k1, k2, k3, recAns, bs_nil]
  | some y =>
    obtain ⟨r, k⟩ := y
    simp only [Option.map_some] at CR
    simp only [gotOf]
    obtain ⟨rk, ra, rq⟩ := r
    by_cases hk : (s.data.toList.length : Int) ≤ k
    · rw [if_pos hk]
      have hd : decide ((s.size : Int) ≤ k) = true := by rw [unhide HL] at hk; simpa using hk
      have CD' := hide (fun wx hr => by have := unhide CD k wx hr; rw [hd] at this; exact this)
      clear hd CD hk
      go_enter_defers Tryz.func59, Tryz.ntmps59
      go_upto_region 2 with fail
      refine wp_region_lit ?_
      refine wpList_val (v := .string s) (d := some 6) rfl rfl rfl ?_
      simp only [Act.put, List.setIfInBounds_toArray, List.set_cons_zero, List.set_cons_succ]
      refine wpList_same (v := .agg (rdA s)) (d := some 7) rfl rfl (by refine run_v ?_; simp only [List.map_toArray, List.map_cons, List.map_nil]; exact rd_build s _) ?_
      simp only [Act.put, List.setIfInBounds_toArray, List.set_cons_zero, List.set_cons_succ]
      refine wpList_val (d := some 4) rfl rfl (run_v (rd_alloc _ _)) ?_
      simp only [Act.put, List.setIfInBounds_toArray, List.set_cons_zero, List.set_cons_succ]
      refine wpList_none (d := none) rfl rfl (run_u (rd_store s _)) ?_
      simp only [Act.put]
      refine wpList_nil ?_
      go_wp2_with fail
      refine (unhide CR _ (unhide R0)).mono ?_
      rintro e w1 ⟨hg, rfl, hr⟩
      have V1 := hide ((unhide V0).gby hg (by omega))
      have U1 := hide ((unhide U0).gby hg (by omega))
      have R1 := hide hr
      have HB1 := hide ((unhide HB0).grown hg (unhide HB0).size (fun k hk => by cases hk; omega))
      have v0 := (unhide V1).at 0
      have v1 := (unhide V1).at 1
      have v2 := (unhide V1).at 2
      have f0 := (unhide V1).f 0
      have f1 := (unhide V1).f 1
      have f2 := (unhide V1).f 2
      simp at v0 v1 v2
      have V2 := hide ((((unhide V1).set 0 (.int .i64 rk)).set 1 (.int .i64 ra)).set 2 (.string (bs rq)))
      have U2 := hide ((((unhide U1).other w.heap.size 0 (.int .i64 rk) (by omega)).other w.heap.size 1 (.int .i64 ra) (by omega)).other w.heap.size 2 (.string (bs rq)) (by omega))
      have R2 := hide (show Rd _ (w.heap.size + 2) s k 0 from Rd.other (Rd.other (Rd.other (unhide R1) w.heap.size 0 (.int .i64 rk) (by omega)) w.heap.size 1 (.int .i64 ra) (by omega)) w.heap.size 2 (.string (bs rq)) (by omega))
      have HB2 := hide (below_sc (below_sc (below_sc (unhide HB1) w.heap.size 0 (.int .i64 rk) (Nat.le_refl _)) w.heap.size 1 (.int .i64 ra) (Nat.le_refl _)) w.heap.size 2 (.string (bs rq)) (Nat.le_refl _))
      clear hg hr
      go_wp2_with fail
      refine (unhide CD' _ (unhide R2)).mono ?_
      rintro e w2 ⟨rfl, hb⟩
      have HB3 := hide (below_on (unhide HB2) hb)
      have V3 := hide ((unhide V2).below hb)
      have U3 := hide ((unhide U2).below hb)
      have y0 := (unhide V3).at 0
      have y1 := (unhide V3).at 1
      have y2 := (unhide V3).at 2
      have z0 := (unhide V3).f 0
      have z1 := (unhide V3).f 1
      have z2 := (unhide V3).f 2
      have y3 := (unhide U3).at 0
      have z3 := (unhide U3).f 0
      simp at y0 y1 y2 y3
      clear hb
      have sc0 := sc_same y0
      have sc1 := sc_same y1
      have sc2 := sc_same y2
      go_wp2
      have VF := hide (show Blk (w2.setCell ⟨w.heap.size + 1, 0, none⟩ (.bool true)) w.heap.size #[.int .i64 rk, .int .i64 ra, .string (bs rq)] 41 from Blk.other (by have := unhide V3; simpa using this) _ _ _ (by omega))
      have UF := hide (show Blk (w2.setCell ⟨w.heap.size + 1, 0, none⟩ (.bool true)) (w.heap.size + 1) #[.bool true] 4 from by have := (unhide U3).set 0 (.bool true); simpa using this)
      have HBF := hide (below_sc (unhide HB3) (w.heap.size + 1) 0 (.bool true) (by omega))
      clear V0 U0 R0 HB0 V1 U1 R1 HB1 V2 U2 R2 HB2 V3 U3 HB3
      refine leaves_cons (f := 97) (args := #[.pointer (some ⟨w.heap.size, 0, none⟩), .pointer (some ⟨w.heap.size + 1, 0, none⟩)]) (by simp) (by simp [go_sem]) ?_
      refine (catch_idle w.heap.size ⟨rk, ra, rq⟩ true _ (unhide VF) (unhide UF)).mono ?_
      rintro e u' w3 ⟨rfl, rfl, hb⟩
      have HB4 := hide (below_on (unhide HBF) hb)
      have h1 := (unhide VF).below hb
      have h2 := (unhide UF).below hb
      have k0 := h1.at 0
      have k1 := h1.at 1
      have k2 := h1.at 2
      have k3 := h2.at 0
      simp at k0 k1 k2 k3
      clear hb h1 h2
      refine ⟨recAns (some ⟨rk, ra, rq⟩), ?_, rfl, unhide HB4⟩
      simp [results, Tryz.results59, go_sem, k0, k1, k2, k3, recAns]
    · rw [if_neg hk]
      have hd : decide ((s.size : Int) ≤ k) = false := by rw [unhide HL] at hk; simpa using hk
      have CD' := hide (fun wx hr => by have := unhide CD k wx hr; rw [hd] at this; exact this)
      clear hd CD hk
      go_enter_defers Tryz.func59, Tryz.ntmps59
      go_upto_region 2 with fail
      refine wp_region_lit ?_
      refine wpList_val (v := .string s) (d := some 6) rfl rfl rfl ?_
      simp only [Act.put, List.setIfInBounds_toArray, List.set_cons_zero, List.set_cons_succ]
      refine wpList_same (v := .agg (rdA s)) (d := some 7) rfl rfl (by refine run_v ?_; simp only [List.map_toArray, List.map_cons, List.map_nil]; exact rd_build s _) ?_
      simp only [Act.put, List.setIfInBounds_toArray, List.set_cons_zero, List.set_cons_succ]
      refine wpList_val (d := some 4) rfl rfl (run_v (rd_alloc _ _)) ?_
      simp only [Act.put, List.setIfInBounds_toArray, List.set_cons_zero, List.set_cons_succ]
      refine wpList_none (d := none) rfl rfl (run_u (rd_store s _)) ?_
      simp only [Act.put]
      refine wpList_nil ?_
      go_wp2_with fail
      refine (unhide CR _ (unhide R0)).mono ?_
      rintro e w1 ⟨hg, rfl, hr⟩
      have V1 := hide ((unhide V0).gby hg (by omega))
      have U1 := hide ((unhide U0).gby hg (by omega))
      have R1 := hide hr
      have HB1 := hide ((unhide HB0).grown hg (unhide HB0).size (fun k hk => by cases hk; omega))
      have v0 := (unhide V1).at 0
      have v1 := (unhide V1).at 1
      have v2 := (unhide V1).at 2
      have f0 := (unhide V1).f 0
      have f1 := (unhide V1).f 1
      have f2 := (unhide V1).f 2
      simp at v0 v1 v2
      have V2 := hide ((((unhide V1).set 0 (.int .i64 rk)).set 1 (.int .i64 ra)).set 2 (.string (bs rq)))
      have U2 := hide ((((unhide U1).other w.heap.size 0 (.int .i64 rk) (by omega)).other w.heap.size 1 (.int .i64 ra) (by omega)).other w.heap.size 2 (.string (bs rq)) (by omega))
      have R2 := hide (show Rd _ (w.heap.size + 2) s k 0 from Rd.other (Rd.other (Rd.other (unhide R1) w.heap.size 0 (.int .i64 rk) (by omega)) w.heap.size 1 (.int .i64 ra) (by omega)) w.heap.size 2 (.string (bs rq)) (by omega))
      have HB2 := hide (below_sc (below_sc (below_sc (unhide HB1) w.heap.size 0 (.int .i64 rk) (Nat.le_refl _)) w.heap.size 1 (.int .i64 ra) (Nat.le_refl _)) w.heap.size 2 (.string (bs rq)) (Nat.le_refl _))
      clear hg hr
      go_wp2_with fail
      refine (unhide CD' _ (unhide R2)).mono ?_
      rintro e w2 ⟨rfl, hb⟩
      have HB3 := hide (below_on (unhide HB2) hb)
      have V3 := hide ((unhide V2).below hb)
      have U3 := hide ((unhide U2).below hb)
      have R3 := hide (Rd.below (unhide R2) hb)
      clear hb
      go_wp2_with fail
      refine (unhide CF k _ (unhide R3)).mono ?_
      rintro e w4 ⟨rfl, rfl⟩
      have VF := hide (show Blk w2 w.heap.size #[.int .i64 rk, .int .i64 ra, .string (bs rq)] 41 from (by have := unhide V3; simpa using this))
      clear V0 U0 R0 HB0 V1 U1 R1 HB1 V2 U2 R2 HB2 V3 R3
      go_wp2
      refine leaves_cons (f := 97) (args := #[.pointer (some ⟨w.heap.size, 0, none⟩), .pointer (some ⟨w.heap.size + 1, 0, none⟩)]) (by simp) (by simp [go_sem]) ?_
      refine (catch_panicking w.heap.size ⟨rk, ra, rq⟩ false 0 [] w2 (unhide VF) (unhide U3)).mono ?_
      rintro e u' w3 ⟨rfl, rfl, h1, h2, hb⟩
      have HB4 := hide (Below.trans (unhide HB3) hb)
      have k0 := h1.at 0
      have k1 := h1.at 1
      have k2 := h1.at 2
      have k3 := h2.at 0
      simp at k0 k1 k2 k3
      clear hb h1 h2
      refine ⟨recAns none, ?_, rfl, unhide HB4⟩
      simp [results, Tryz.results59, go_sem, k0, k1, k2, k3, recAns, bs_nil]
end Go.Proofs.YtkpmocbfedgfhaaGreat

/-
  What PutText answers, the program's and the model's: the bytes of the length, and the text; walks over the dump.
-/
namespace Go.Proofs.YtkpmocbfedgfhaaGreat
open Go.RowKit
def putText (l : List UInt8) : List UInt8 := if l.length ≤ 2000 then put l.length ++ l else []
theorem bs_append (l : List UInt8) (s : ByteArray) : bs l ++ s = bs (l ++ s.data.toList) := by
  cases s with
  | mk d => unfold bs; rw [ByteArray.mk_append_mk]

set_option maxHeartbeats 400000 in
theorem specPutText_any (s : ByteArray) (w : World) (hs : s.size ≤ 1048576) :
    Calls Tryz.prog 81 #[.string s] w fun e w' => e = .returned (.string (bs (putText s.data.toList))) ∧ Below w.heap.size w w' := by
  by_cases h : s.size ≤ 2000
  · have hp : (bs (put s.size)).size ≤ 5 := by rw [bs_size]; exact put_le5 (by omega)
    have hf : Hid (bs (put s.size) ++ s = bs (putText s.data.toList)) := hide (by rw [putText, len_eq, if_pos h, bs_append])
    go_enter Tryz.func81, Tryz.ntmps81
    go_wp2_with fail
    refine (specPutNum_yes s.size _ (by omega)).mono ?_
    rintro e w1 ⟨rfl, hb1⟩
    have HB := hide hb1
    clear hb1
    go_wp2
    go_ret
    exact ⟨ret_str (unhide hf), unhide HB⟩
  · have hf : Hid (putText s.data.toList = []) := hide (by rw [putText, len_eq, if_neg h])
    go_enter Tryz.func81, Tryz.ntmps81
    go_wp2
    go_ret
    exact ⟨ret_str (by rw [unhide hf]; rfl), Below.refl _ _⟩

end Go.Proofs.YtkpmocbfedgfhaaGreat

/-
  A region that draws its order: what is held of the world may be narrowed on the way.
-/
namespace Go.Proofs.YtkpmocbfedgfhaaGreat
open Go.RowKit
theorem wpAnyH_narrow {P : Program} {ops : Array Oper} {Q : Exit → Act → World → Prop} {md : Region.Mode} {S S' : World → Prop} (hs : ∀ w, S' w → S w) :
    ∀ (fuel : Nat) (listed : Array Bool) (a : Act) (w : World), wpAnyH P md ops Q S' fuel listed a w → wpAnyH P md ops Q S fuel listed a w
  | 0, _, _, _, h => h
  | fuel + 1, _, _, _, h => ⟨h.1, fun i hi => wpOp_mono (fun a' w' h' => ⟨hs _ h'.1, wpAnyH_narrow hs fuel _ a' w' h'.2⟩) (h.2 i hi)⟩
end Go.Proofs.YtkpmocbfedgfhaaGreat
