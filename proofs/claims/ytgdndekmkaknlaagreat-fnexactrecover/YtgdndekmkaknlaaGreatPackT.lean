/-
  Several texts of this claim in one: RdI, RdJ, RdK, RecL, GRecC, RdN (pack.py put them together); each says in its own remark what is proved.
-/
import Derived.Test.YtgdndekmkaknlaaGreatPackA
import Derived.Test.YtgdndekmkaknlaaGreatPackS
import Derived.Laws.Pointers
import Derived.Deep.QuietTactic
import Derived.Deep.RegionHeld3
import Derived.Deep.RegionWith
import Derived.Test.YtgdndekmkaknlaaGreatPackO
import Derived.Deep.CutRange
import Derived.Defers
import Derived.Recover
/-
  The program's reader of bytes: done, fail, a byte, a number, a text; walks over the dump.
-/
namespace Go.Proofs.YtgdndekmkaknlaaGreat
open Go.RowKit
set_option linter.unusedVariables false
/-- block g is a reader that stands at 'at'; its table of sums stands as at the beginning, or is made -/
def Rd (w : World) (g : Nat) (s : ByteArray) (at' bg : Int) : Prop := TabledR (.string s, .int .i64 at', .int .i64 bg) w g
theorem tabR_zero (a b c : Value) : tabR (a, b, c) (.int .u32 0) (.int .i32 0) 0 = #[a, b, c, .int .u32 0, .int .i32 0, .int .u32 0, .int .u32 0, .int .u32 0, .int .u32 0, .int .u32 0, .int .u32 0, .int .u32 0, .int .u32 0, .int .u32 0, .int .u32 0, .int .u32 0, .int .u32 0, .int .u32 0, .int .u32 0, .int .u32 0, .int .u32 0, .int .u32 0] := by simp [tabR, tabLR, List.range, List.range.loop]
theorem Rd.new (w : World) (s : ByteArray) : Rd (w.alloc (.cells #[.string s, .int .i64 0, .int .i64 0, .int .u32 0, .int .i32 0, .int .u32 0, .int .u32 0, .int .u32 0, .int .u32 0, .int .u32 0, .int .u32 0, .int .u32 0, .int .u32 0, .int .u32 0, .int .u32 0, .int .u32 0, .int .u32 0, .int .u32 0, .int .u32 0, .int .u32 0, .int .u32 0, .int .u32 0] 93)) w.heap.size s 0 0 := by
  refine .inl ?_
  unfold HoldsR
  rw [tabR_zero]
  exact blk_new w _ _
theorem Rd.at {w : World} {g : Nat} {s : ByteArray} {i bg : Int} (h : Rd w g s i bg) (j : Nat) : w.cell? ⟨g, j, none⟩ = if j = 0 then some (.string s) else if j = 1 then some (.int .i64 i) else if j = 2 then some (.int .i64 bg) else w.cell? ⟨g, j, none⟩ := by
  rcases h with h | h
  all_goals
    match j with
    | 0 => rw [h.cell]; simp [tabR, tabLR]
    | 1 => rw [h.cell]; simp [tabR, tabLR]
    | 2 => rw [h.cell]; simp [tabR, tabLR]
    | n + 3 => simp
theorem Rd.f {w : World} {g : Nat} {s : ByteArray} {i bg : Int} (h : Rd w g s i bg) (j : Nat) : w.frozen? ⟨g, j, none⟩ = false := by
  rcases h with h | h <;> exact h.frozen j
theorem Rd.lt {w : World} {g : Nat} {s : ByteArray} {i bg : Int} (h : Rd w g s i bg) : g < w.heap.size := by
  rcases h with h | h <;> exact h.lt
theorem Rd.move {w w' : World} {g : Nat} {s : ByteArray} {i bg : Int} (h : Rd w g s i bg) (e : w'.heap[g]? = w.heap[g]?) : Rd w' g s i bg := by
  rcases h with h | h
  · exact .inl (e.trans h)
  · exact .inr (e.trans h)
theorem Rd.below {w w' : World} {g : Nat} {s : ByteArray} {i bg : Int} (h : Rd w g s i bg) (hb : Below w.heap.size w w') : Rd w' g s i bg := h.move (hb.block g h.lt)
theorem Rd.al {w : World} {g : Nat} {s : ByteArray} {i bg : Int} (h : Rd w g s i bg) (o : Obj) : Rd (w.alloc o) g s i bg := h.below (below_al (Below.refl _ w) o)
theorem Rd.other {w : World} {g : Nat} {s : ByteArray} {i bg : Int} (h : Rd w g s i bg) (k j : Nat) (v : Value) (hn : g ≠ k) : Rd (w.setCell ⟨k, j, none⟩ v) g s i bg := h.move (heap_setCell_other w ⟨k, j, none⟩ g v hn)
abbrev perr (bg : Int) : PanicEntry := { v := .iface 75 (.agg #[.int .i64 bg]), recovered := false }
abbrev rdp (g : Nat) : Value := .pointer (some ⟨g, 0, none⟩)

set_option maxRecDepth 100000 in
set_option maxHeartbeats 1000000 in
theorem done_any (g : Nat) (s : ByteArray) (i bg : Int) (w : World) (h : Rd w g s i bg) (hs : s.size ≤ 1048576) :
    Calls Tryz.prog 42 #[rdp g] w fun e w' => e = .returned (.bool (decide ((s.size : Int) ≤ i))) ∧ Below w.heap.size w w' := by
  have k0 := h.at 0
  have k1 := h.at 1
  have k2 := h.at 2
  simp at k0 k1 k2
  clear h
  go_enter Tryz.func42, Tryz.ntmps42
  go_wp2_with fail
  go_quiet (fail)
  go_wp2
  go_ret
  exact ⟨rfl, below_drewN (Below.refl _ _) _⟩

set_option maxRecDepth 100000 in
set_option maxHeartbeats 1000000 in
theorem fail_any (g : Nat) (s : ByteArray) (i bg : Int) (w : World) (h : Rd w g s i bg) :
    Calls Tryz.prog 66 #[rdp g] w fun e w' => e = .panicked [perr bg] ∧ w = w' := by
  have k0 := h.at 0
  have k1 := h.at 1
  have k2 := h.at 2
  simp at k0 k1 k2
  clear h
  go_enter Tryz.func66, Tryz.ntmps66
  go_wp2
  exact ⟨rfl, rfl, rfl⟩

theorem Rd.to {w : World} {g : Nat} {s : ByteArray} {i bg : Int} (h : Rd w g s i bg) (j : Int) : Rd (w.setCell ⟨g, 1, none⟩ (.int .i64 j)) g s j bg := by
  have e : ∀ d m k, (tabR (.string s, .int .i64 i, .int .i64 bg) d m k).setIfInBounds 1 (.int .i64 j) = tabR (.string s, .int .i64 j, .int .i64 bg) d m k := fun d m k => by simp [tabR, tabLR]
  rcases h with h | h
  · have := h.set 1 (.int .i64 j); rw [e] at this; exact .inl this
  · have := h.set 1 (.int .i64 j); rw [e] at this; exact .inr this
theorem Rd.begin {w : World} {g : Nat} {s : ByteArray} {i bg : Int} (h : Rd w g s i bg) (j : Int) : Rd (w.setCell ⟨g, 2, none⟩ (.int .i64 j)) g s i j := by
  have e : ∀ d m k, (tabR (.string s, .int .i64 i, .int .i64 bg) d m k).setIfInBounds 2 (.int .i64 j) = tabR (.string s, .int .i64 i, .int .i64 j) d m k := fun d m k => by simp [tabR, tabLR]
  rcases h with h | h
  · have := h.set 2 (.int .i64 j); rw [e] at this; exact .inl this
  · have := h.set 2 (.int .i64 j); rw [e] at this; exact .inr this
theorem gby_below {w w' : World} {r : Option Nat} (hb : Below w.heap.size w w') : w.grownBy w' r := grownBy_below (grownBy_refl w r) hb
/-- what a call of the reader leaves: a value, and it stands behind it; or it panics -/
def Reads (w : World) (g : Nat) (s : ByteArray) (bg : Int) (x : Option (Value × Int)) (e : Ending) (w' : World) : Prop :=
  w.grownBy w' (some g) ∧ match x with
    | some (v, j) => e = .returned v ∧ Rd w' g s j bg
    | none => e = .panicked [perr bg] ∧ ∃ j, Rd w' g s j bg

set_option maxRecDepth 100000 in
set_option maxHeartbeats 1000000 in
theorem nextByte_any (g : Nat) (s : ByteArray) (i : Nat) (bg : Int) (w : World) (h : Rd w g s i bg) (hs : s.size ≤ 1048576) (hi : i ≤ s.size) :
    Calls Tryz.prog 86 #[rdp g] w (Reads w g s bg (if hj : i < s.size then some (.int .u8 (s[i].toNat : Int), (i : Int) + 1) else none)) := by
  have CD := hide (fun wx (hb : Below w.heap.size w wx) => done_any g s i bg wx (h.below hb) hs)
  have CF := hide (fun wx (hb : Below w.heap.size w wx) => fail_any g s i bg wx (h.below hb))
  have HR := hide h
  clear h
  by_cases hj : i < s.size
  · rw [dif_pos hj]
    have hd : decide ((s.size : Int) ≤ (i : Int)) = false := by simp; omega
    rw [hd] at CD
    go_enter Tryz.func86, Tryz.ntmps86
    go_wp2_with fail
    refine (unhide CD _ (Below.refl _ _)).mono ?_
    rintro e w1 ⟨rfl, hb⟩
    have HB := hide hb
    have k0 := ((unhide HR).below hb).at 0
    have k1 := ((unhide HR).below hb).at 1
    have k2 := ((unhide HR).below hb).f 1
    simp at k0 k1
    clear hb hd
    have hlt : (i : Int) < (s.size : Int) := by omega
    go_wp2_with fail
    go_quiet (fail)
    go_wp2
    go_ret
    exact ⟨grownBy_set (grownBy_drewN (gby_below (unhide HB)) _) _ _, rfl, Rd.to (Rd.below (Rd.below (unhide HR) (unhide HB)) (below_drewN (Below.refl _ _) _)) _⟩
  · rw [dif_neg hj]
    have hd : decide ((s.size : Int) ≤ (i : Int)) = true := by simp; omega
    rw [hd] at CD
    go_enter Tryz.func86, Tryz.ntmps86
    go_wp2_with fail
    refine (unhide CD _ (Below.refl _ _)).mono ?_
    rintro e w1 ⟨rfl, hb⟩
    have HB := hide hb
    clear hb hd
    go_wp2_with fail
    refine (unhide CF _ (unhide HB)).mono ?_
    rintro e w2 ⟨rfl, rfl⟩
    go_wp2
    exact ⟨rfl, gby_below (unhide HB), rfl, _, (unhide HR).below (unhide HB)⟩

set_option maxRecDepth 100000 in
set_option maxHeartbeats 1000000 in
theorem goOn_any (g : Nat) (s : ByteArray) (i bg j : Int) (w : World) (h : Rd w g s i bg) :
    Calls Tryz.prog 88 #[rdp g, .int .i64 j] w (Reads w g s bg (if j < 0 then none else some (.tuple #[], j))) := by
  have CF := hide (fun wx (hb : Below w.heap.size w wx) => fail_any g s i bg wx (h.below hb))
  have HR := hide h
  have k1 := h.at 1
  have k2 := h.f 1
  simp at k1
  clear h
  by_cases hj : j < 0
  · rw [if_pos hj]
    go_enter Tryz.func88, Tryz.ntmps88
    go_wp2_with fail
    refine (unhide CF _ (Below.refl _ _)).mono ?_
    rintro e w2 ⟨rfl, rfl⟩
    go_wp2
    exact ⟨rfl, grownBy_refl _ _, rfl, _, unhide HR⟩
  · rw [if_neg hj]
    go_enter Tryz.func88, Tryz.ntmps88
    go_wp2
    go_end0
    exact ⟨grownBy_set (grownBy_refl _ _) _ _, rfl, (unhide HR).to _⟩
end Go.Proofs.YtgdndekmkaknlaaGreat

/-
  The program's reader of bytes: a number, a text, a record; walks over the dump.
-/
namespace Go.Proofs.YtgdndekmkaknlaaGreat
open Go.RowKit
set_option linter.unusedVariables false
/-- the reader stands, and nothing that was there has turned -/
def RdB (w0 : World) (g : Nat) (s : ByteArray) (i bg : Int) (wx : World) : Prop := Rd wx g s i bg ∧ Below w0.heap.size w0 wx
theorem RdB.call {w0 w1 w2 : World} {g : Nat} {s : ByteArray} {i bg : Int} (h : RdB w0 g s i bg w1) (hb : Below w1.heap.size w1 w2) : RdB w0 g s i bg w2 := ⟨h.1.below hb, below_on h.2 hb⟩
theorem RdB.drew {w0 w1 : World} {g : Nat} {s : ByteArray} {i bg : Int} (h : RdB w0 g s i bg w1) : RdB w0 g s i bg w1.drew := h.call (Below.refl _ _).drew
theorem RdB.read (w0 : World) (g : Nat) (s : ByteArray) (i bg : Int) : ∀ wx, RdB w0 g s i bg wx → wx.cell? ⟨g, 0, none⟩ = some (.string s) ∧ wx.cell? ⟨g, 1, none⟩ = some (.int .i64 i) := fun wx h => ⟨by simpa using Rd.at h.1 0, by simpa using Rd.at h.1 1⟩
theorem Reads.on {w w1 w2 : World} {g : Nat} {s : ByteArray} {bg : Int} {x : Option (Value × Int)} {e : Ending} (h0 : w.grownBy w1 (some g)) (h : Reads w1 g s bg x e w2) : Reads w g s bg x e w2 := ⟨grownBy_trans h0 h.1, h.2⟩

set_option maxRecDepth 100000 in
set_option maxHeartbeats 1000000 in
theorem nextNum_any (g : Nat) (s : ByteArray) (i bg : Int) (w : World) (h : Rd w g s i bg) (hs : s.size ≤ 1048576) (h0 : -9223372036854775808 ≤ i) (h1 : i ≤ 9223372036854775807) :
    Calls Tryz.prog 109 #[rdp g] w fun e w' => Reads w g s bg (if (getNum s.data.toList i).2 < 0 then none else some (.int .i64 (getNum s.data.toList i).1, (getNum s.data.toList i).2)) e w' := by
  have CG := hide (fun wx => implGetNum_any s i wx hs h0 h1)
  have CO := hide (fun wx (j : Int) (hr : Rd wx g s i bg) => goOn_any g s i bg j wx hr)
  have A0 := hide (show RdB w g s i bg w from ⟨h, Below.refl _ _⟩)
  have R := RdB.read w g s i bg
  obtain ⟨⟨n, j⟩, hnj⟩ : ∃ x, getNum s.data.toList i = x := ⟨_, rfl⟩
  rw [hnj] at CG ⊢
  simp only at CG ⊢
  clear h hnj
  by_cases hj : j < 0
  · rw [if_pos hj]
    have CP := hide (fun wx hr => by have := unhide CO wx j hr; rw [if_pos hj] at this; exact this)
    clear CO
    go_enter Tryz.func109, Tryz.ntmps109
    go_wp2_with fail
    go_region_held3 (fun wx => RdB w g s i bg wx)
      (first | assumption | exact (unhide A0).drew | exact RdB.call (by assumption) (by assumption))
      (first
      | (go_at_call 108; refine (unhide CG _).mono ?_; rintro e wt ⟨rfl, hb⟩; have SA := RdB.call (w0 := w) (g := g) (s := s) (i := i) (bg := bg) (by assumption) hb)
      | fail)
    have HA := hide SA
    clear SA R A0
    go_wp2_with fail
    refine (unhide CP _ (unhide HA).1).mono ?_
    intro e w2 hr
    obtain ⟨hg, hr⟩ := hr
    have HG := hide (grownBy_trans (gby_below (unhide HA).2) hg)
    clear hg
    obtain ⟨rfl, hr⟩ := hr
    have HR := hide hr
    clear hr
    go_wp2
    exact ⟨rfl, unhide HG, rfl, unhide HR⟩
  · rw [if_neg hj]
    have CP := hide (fun wx hr => by have := unhide CO wx j hr; rw [if_neg hj] at this; exact this)
    clear CO
    go_enter Tryz.func109, Tryz.ntmps109
    go_wp2_with fail
    go_region_held3 (fun wx => RdB w g s i bg wx)
      (first | assumption | exact (unhide A0).drew | exact RdB.call (by assumption) (by assumption))
      (first
      | (go_at_call 108; refine (unhide CG _).mono ?_; rintro e wt ⟨rfl, hb⟩; have SA := RdB.call (w0 := w) (g := g) (s := s) (i := i) (bg := bg) (by assumption) hb)
      | fail)
    have HA := hide SA
    clear SA R A0
    go_wp2_with fail
    refine (unhide CP _ (unhide HA).1).mono ?_
    intro e w2 hr
    obtain ⟨hg, hr⟩ := hr
    have HG := hide (grownBy_trans (gby_below (unhide HA).2) hg)
    clear hg
    obtain ⟨rfl, hr⟩ := hr
    have HR := hide hr
    clear hr
    go_wp2
    go_ret
    exact ⟨unhide HG, rfl, unhide HR⟩

set_option maxRecDepth 100000 in
set_option maxHeartbeats 1000000 in
theorem nextText_any (g : Nat) (s : ByteArray) (i bg : Int) (w : World) (h : Rd w g s i bg) (hs : s.size ≤ 1048576) (h0 : -9223372036854775808 ≤ i) (h1 : i ≤ 9223372036854775807) :
    Calls Tryz.prog 63 #[rdp g] w fun e w' => Reads w g s bg (if (getText s.data.toList i).2 < 0 then none else some (.string (bs (getText s.data.toList i).1), (getText s.data.toList i).2)) e w' := by
  have CG := hide (fun wx => implGetText_any s i wx hs h0 h1)
  have CO := hide (fun wx (j : Int) (hr : Rd wx g s i bg) => goOn_any g s i bg j wx hr)
  have A0 := hide (show RdB w g s i bg w from ⟨h, Below.refl _ _⟩)
  have R := RdB.read w g s i bg
  obtain ⟨⟨n, j⟩, hnj⟩ : ∃ x, getText s.data.toList i = x := ⟨_, rfl⟩
  rw [hnj] at CG ⊢
  simp only at CG ⊢
  clear h hnj
  by_cases hj : j < 0
  · rw [if_pos hj]
    have CP := hide (fun wx hr => by have := unhide CO wx j hr; rw [if_pos hj] at this; exact this)
    clear CO
    go_enter Tryz.func63, Tryz.ntmps63
    go_wp2_with fail
    go_region_held3 (fun wx => RdB w g s i bg wx)
      (first | assumption | exact (unhide A0).drew | exact RdB.call (by assumption) (by assumption))
      (first
      | (go_at_call 87; refine (unhide CG _).mono ?_; rintro e wt ⟨rfl, hb⟩; have SA := RdB.call (w0 := w) (g := g) (s := s) (i := i) (bg := bg) (by assumption) hb)
      | fail)
    have HA := hide SA
    clear SA R A0
    go_wp2_with fail
    refine (unhide CP _ (unhide HA).1).mono ?_
    intro e w2 hr
    obtain ⟨hg, hr⟩ := hr
    have HG := hide (grownBy_trans (gby_below (unhide HA).2) hg)
    clear hg
    obtain ⟨rfl, hr⟩ := hr
    have HR := hide hr
    clear hr
    go_wp2
    exact ⟨rfl, unhide HG, rfl, unhide HR⟩
  · rw [if_neg hj]
    have CP := hide (fun wx hr => by have := unhide CO wx j hr; rw [if_neg hj] at this; exact this)
    clear CO
    go_enter Tryz.func63, Tryz.ntmps63
    go_wp2_with fail
    go_region_held3 (fun wx => RdB w g s i bg wx)
      (first | assumption | exact (unhide A0).drew | exact RdB.call (by assumption) (by assumption))
      (first
      | (go_at_call 87; refine (unhide CG _).mono ?_; rintro e wt ⟨rfl, hb⟩; have SA := RdB.call (w0 := w) (g := g) (s := s) (i := i) (bg := bg) (by assumption) hb)
      | fail)
    have HA := hide SA
    clear SA R A0
    go_wp2_with fail
    refine (unhide CP _ (unhide HA).1).mono ?_
    intro e w2 hr
    obtain ⟨hg, hr⟩ := hr
    have HG := hide (grownBy_trans (gby_below (unhide HA).2) hg)
    clear hg
    obtain ⟨rfl, hr⟩ := hr
    have HR := hide hr
    clear hr
    go_wp2
    go_ret
    exact ⟨unhide HG, rfl, unhide HR⟩
end Go.Proofs.YtgdndekmkaknlaaGreat

/-
  The program's reader: a whole record; a walk over the dump.
-/
namespace Go.Proofs.YtgdndekmkaknlaaGreat
open Go.RowKit
set_option linter.unusedVariables false
/-- the record that bytes begin with, and behind which byte it ends -/
def readRec (l : List UInt8) : Option (Rc × Int) :=
  match l with
  | [] => none
  | b :: _ =>
    if (getNum l 1).2 < 0 then none
    else if (getText l (getNum l 1).2).2 < 0 then none
    else if recOk ⟨b.toNat, (getNum l 1).1, (getText l (getNum l 1).2).1⟩ = false then none
    else some (⟨b.toNat, (getNum l 1).1, (getText l (getNum l 1).2).1⟩, (getText l (getNum l 1).2).2)
theorem getNum_pos_le (s : ByteArray) (i : Int) (h : ¬ (getNum s.data.toList i).2 < 0) : 0 ≤ (getNum s.data.toList i).2 ∧ (getNum s.data.toList i).2 ≤ s.size := by
  have := getNum_le s i (by omega)
  omega
theorem getText_pos_le (s : ByteArray) (i : Int) (h : ¬ (getText s.data.toList i).2 < 0) : 0 ≤ (getText s.data.toList i).2 ∧ (getText s.data.toList i).2 ≤ s.size := by
  have h0 := getText_of (s := s) (i := i) (a := (getNum s.data.toList i).1) (b := (getNum s.data.toList i).2) rfl
  have hl := getNum_le s i
  rw [h0] at h ⊢
  split at h
  · simp at h
  · rename_i hn
    rw [if_neg hn]
    simp only at h ⊢
    omega
theorem getText_len (s : ByteArray) (i : Int) : (getText s.data.toList i).1.length ≤ 1048576 := by
  have h0 := getText_of (s := s) (i := i) (a := (getNum s.data.toList i).1) (b := (getNum s.data.toList i).2) rfl
  rw [h0]
  split
  · simp
  · rename_i hn
    simp only [List.length_take]
    have := getNum_le s i
    omega
theorem grownBy_new {w w1 : World} {r : Option Nat} (h : w.grownBy w1 r) (b j : Nat) (v : Value) (hb : w.heap.size ≤ b) : w.grownBy (w1.setCell ⟨b, j, none⟩ v) r :=
  ⟨h.os, h.tape, h.output, by simpa using h.size, fun k hk hn => by
    rw [heap_setCell_other w1 ⟨b, j, none⟩ k v (by simp; omega)]
    exact h.block k hk hn⟩
theorem Blk.gby {w w' : World} {g k : Nat} {arr : Array Value} {t : TypeId} (h : Blk w k arr t) (hg : w.grownBy w' (some g)) (hn : k ≠ g) : Blk w' k arr t := (hg.block k h.lt (fun e => hn (by simpa using e))).trans h

set_option maxRecDepth 100000 in
set_option maxHeartbeats 4000000 in
theorem nextRec_any (g : Nat) (s : ByteArray) (bg : Int) (w : World) (h : Rd w g s 0 bg) (hs : s.size ≤ 1048576) :
    Calls Tryz.prog 90 #[rdp g] w fun e w' => Reads w g s bg ((readRec s.data.toList).map (fun x => (rcv x.1, x.2))) e w' := by
  have hgl : g < w.heap.size := Rd.lt h
  have CB := hide (fun wx (hr : Rd wx g s 0 bg) => nextByte_any g s 0 bg wx hr hs (Nat.zero_le _))
  have CN := hide (fun wx (hr : Rd wx g s 1 bg) => nextNum_any g s 1 bg wx hr hs (by omega) (by omega))
  have HR0 := hide (Rd.al h (.cells #[.int .i64 0, .int .i64 0, .string ⟨#[]⟩] 47))
  have V0 := hide (blk_new w #[.int .i64 0, .int .i64 0, .string ⟨#[]⟩] 47)
  have G0 := hide (gby_below (r := some g) (below_al (Below.refl _ w) (.cells #[.int .i64 0, .int .i64 0, .string ⟨#[]⟩] 47)))
  have hBg : w.heap.size ≠ g := by omega
  clear h
  by_cases h0 : 0 < s.size
  case neg =>
    have he : s.data.toList = [] := by
      have := len_eq s
      exact List.eq_nil_of_length_eq_zero (by omega)
    rw [he]
    simp only [readRec, Option.map_none]
    have CB' := hide (fun wx hr => by have := unhide CB wx hr; rw [dif_neg h0] at this; exact this)
    clear CB he
    go_enter Tryz.func90, Tryz.ntmps90
    go_wp2_with fail
    refine (unhide CB' _ (unhide HR0)).mono ?_
    rintro e w1 ⟨hg, rfl, hr⟩
    have HG := hide (grownBy_trans (unhide G0) hg)
    have HR := hide hr
    clear hg hr
    go_wp2
    exact ⟨rfl, unhide HG, rfl, unhide HR⟩
  have hcons : ∃ t, s.data.toList = s[0] :: t := ⟨s.data.toList.tail, by
    have hlen := len_eq s
    match hl : s.data.toList with
    | [] => rw [hl] at hlen; simp at hlen; omega
    | a :: t =>
      simp only [List.tail_cons, List.cons.injEq, and_true]
      have : s.data.toList[0]? = some a := by rw [hl]; rfl
      have h2 : s.data.toList[0]? = some s[0] := by
        rw [List.getElem?_eq_getElem (by omega)]; rfl
      rw [h2] at this
      simpa using this.symm⟩
  have CB' := hide (fun wx hr => by have := unhide CB wx hr; rw [dif_pos h0] at this; exact this)
  clear CB
  have hby := byte_le s[0]
  have HX : readRec s.data.toList = if (getNum s.data.toList 1).2 < 0 then none
    else if (getText s.data.toList (getNum s.data.toList 1).2).2 < 0 then none
    else if recOk ⟨s[0].toNat, (getNum s.data.toList 1).1, (getText s.data.toList (getNum s.data.toList 1).2).1⟩ = false then none
    else some (⟨s[0].toNat, (getNum s.data.toList 1).1, (getText s.data.toList (getNum s.data.toList 1).2).1⟩, (getText s.data.toList (getNum s.data.toList 1).2).2) := by
    obtain ⟨t, ht⟩ := hcons
    conv => lhs; unfold readRec
    rw [ht]
  rw [HX]
  clear HX hcons
  have hnl := getNum_pos_le s 1
  obtain ⟨⟨n, j⟩, hnj⟩ : ∃ x, getNum s.data.toList 1 = x := ⟨_, rfl⟩
  rw [hnj] at CN hnl ⊢
  simp only at CN hnl ⊢
  clear hnj
  obtain ⟨b, hb⟩ : ∃ b, s[0].toNat = b := ⟨_, rfl⟩
  rw [hb] at CB' hby ⊢
  clear hb
  have hz1 : (((0 : Nat) : Int) + 1) = 1 := rfl
  by_cases hj : j < 0
  · rw [if_pos hj]
    have CN' := hide (fun wx hr => by have := unhide CN wx hr; rw [if_pos hj] at this; exact this)
    clear CN
    go_enter Tryz.func90, Tryz.ntmps90
    go_wp2_with fail
    refine (unhide CB' _ (unhide HR0)).mono ?_
    rintro e w1 ⟨hg, rfl, hr⟩
    have HG := hide (grownBy_trans (unhide G0) hg)
    have HR := hide (show Rd w1 g s 1 bg from hr)
    clear hg hr
    go_wp2_with fail
    refine (unhide CN' _ (unhide HR)).mono ?_
    rintro e w2 ⟨hg, rfl, hr⟩
    have HG2 := hide (grownBy_trans (unhide HG) hg)
    have HR2 := hide hr
    clear hg hr
    go_wp2
    exact ⟨rfl, unhide HG2, rfl, unhide HR2⟩
  rw [if_neg hj]
  have CN' := hide (fun wx hr => by have := unhide CN wx hr; rw [if_neg hj] at this; exact this)
  clear CN
  have hj2 := hnl hj
  have CT := hide (fun wx (hr : Rd wx g s j bg) => nextText_any g s j bg wx hr hs (by omega) (by omega))
  have hql := getText_len s j
  obtain ⟨⟨q, k⟩, hqk⟩ : ∃ x, getText s.data.toList j = x := ⟨_, rfl⟩
  rw [hqk] at CT hql ⊢
  simp only at CT hql ⊢
  clear hqk
  by_cases hk : k < 0
  · rw [if_pos hk]
    have CT' := hide (fun wx hr => by have := unhide CT wx hr; rw [if_pos hk] at this; exact this)
    clear CT
    go_enter Tryz.func90, Tryz.ntmps90
    go_wp2_with fail
    refine (unhide CB' _ (unhide HR0)).mono ?_
    rintro e w1 ⟨hg, rfl, hr⟩
    have HG := hide (grownBy_trans (unhide G0) hg)
    have HR := hide (show Rd w1 g s 1 bg from hr)
    clear hg hr
    go_wp2_with fail
    refine (unhide CN' _ (unhide HR)).mono ?_
    rintro e w2 ⟨hg, rfl, hr⟩
    have HG2 := hide (grownBy_trans (unhide HG) hg)
    have HR2 := hide hr
    clear hg hr
    go_wp2_with fail
    refine (unhide CT' _ (unhide HR2)).mono ?_
    rintro e w3 ⟨hg, rfl, hr⟩
    have HG3 := hide (grownBy_trans (unhide HG2) hg)
    have HR3 := hide hr
    clear hg hr
    go_wp2
    exact ⟨rfl, unhide HG3, rfl, unhide HR3⟩
  rw [if_neg hk]
  have CT' := hide (fun wx hr => by have := unhide CT wx hr; rw [if_neg hk] at this; exact this)
  clear CT
  have CO := hide (fun wx => implRecOk_any ⟨b, n, q⟩ wx hql)
  have CF := hide (fun wx (hr : Rd wx g s k bg) => fail_any g s k bg wx hr)
  obtain ⟨o, ho⟩ : ∃ o, recOk ⟨b, n, q⟩ = o := ⟨_, rfl⟩
  rw [ho] at CO ⊢
  clear ho
  cases o
  · rw [if_pos rfl]
    go_enter Tryz.func90, Tryz.ntmps90
    go_wp2_with fail
    refine (unhide CB' _ (unhide HR0)).mono ?_
    rintro e w1 ⟨hg, rfl, hr⟩
    have HG := hide (grownBy_trans (unhide G0) hg)
    have HR := hide (show Rd w1 g s 1 bg from hr)
    clear hg hr
    go_wp2_with fail
    refine (unhide CN' _ (unhide HR)).mono ?_
    rintro e w2 ⟨hg, rfl, hr⟩
    have HG2 := hide (grownBy_trans (unhide HG) hg)
    have HR2 := hide hr
    clear hg hr
    go_wp2_with fail
    refine (unhide CT' _ (unhide HR2)).mono ?_
    rintro e w3 ⟨hg, rfl, hr⟩
    have HG3 := hide (grownBy_below (grownBy_trans (unhide HG2) hg) (below_al (Below.refl _ _) (.cells #[.int .i64 b, .int .i64 n, .string (bs q)] 47)))
    have HR3 := hide (Rd.al hr (.cells #[.int .i64 b, .int .i64 n, .string (bs q)] 47))
    clear hg hr
    go_wp2_with fail
    refine (unhide CO _).mono ?_
    rintro e w4 ⟨rfl, hb⟩
    have HG4 := hide (grownBy_below (unhide HG3) hb)
    have HR4 := hide (Rd.below (unhide HR3) hb)
    clear hb
    go_wp2_with fail
    refine (unhide CF _ (unhide HR4)).mono ?_
    rintro e w5 ⟨rfl, rfl⟩
    go_wp2
    exact ⟨rfl, unhide HG4, rfl, _, unhide HR4⟩
  · rw [if_neg (by simp)]
    go_enter Tryz.func90, Tryz.ntmps90
    go_wp2_with fail
    refine (unhide CB' _ (unhide HR0)).mono ?_
    rintro e w1 ⟨hg, rfl, hr⟩
    have HG := hide (grownBy_trans (unhide G0) hg)
    have HR := hide (show Rd w1 g s 1 bg from hr)
    have V1 := hide ((unhide V0).gby hg hBg)
    clear hg hr
    go_wp2_with fail
    refine (unhide CN' _ (unhide HR)).mono ?_
    rintro e w2 ⟨hg, rfl, hr⟩
    have HG2 := hide (grownBy_trans (unhide HG) hg)
    have HR2 := hide hr
    have V2 := hide ((unhide V1).gby hg hBg)
    clear hg hr
    go_wp2_with fail
    refine (unhide CT' _ (unhide HR2)).mono ?_
    rintro e w3 ⟨hg, rfl, hr⟩
    have HG3 := hide (grownBy_below (grownBy_trans (unhide HG2) hg) (below_al (Below.refl _ _) (.cells #[.int .i64 b, .int .i64 n, .string (bs q)] 47)))
    have HR3 := hide (Rd.al hr (.cells #[.int .i64 b, .int .i64 n, .string (bs q)] 47))
    have V3 := hide (((unhide V2).gby hg hBg).al (.cells #[.int .i64 b, .int .i64 n, .string (bs q)] 47))
    have U3 := hide (blk_new w3 #[.int .i64 b, .int .i64 n, .string (bs q)] 47)
    clear hg hr
    go_wp2_with fail
    refine (unhide CO _).mono ?_
    rintro e w4 ⟨rfl, hb⟩
    have HG4 := hide (grownBy_below (unhide HG3) hb)
    have HR4 := hide (Rd.below (unhide HR3) hb)
    have V4 := hide ((unhide V3).below hb)
    have U4 := hide ((unhide U3).below hb)
    have u0 := (unhide U4).at 0
    have u1 := (unhide U4).at 1
    have u2 := (unhide U4).at 2
    have v0 := (unhide V4).at 0
    have v1 := (unhide V4).at 1
    have v2 := (unhide V4).at 2
    have f0 := (unhide V4).f 0
    have f1 := (unhide V4).f 1
    have f2 := (unhide V4).f 2
    simp at u0 u1 u2 v0 v1 v2
    clear hb
    have hV := ((unhide V4).set 0 (.int .i64 b)).set 1 (.int .i64 n)
    have hV2 := hV.set 2 (.string (bs q))
    simp at hV2
    have x0 := hV2.at 0
    have x1 := hV2.at 1
    have x2 := hV2.at 2
    simp at x0 x1 x2
    have HF := hide (show Rd _ g s k bg from Rd.other (Rd.other (Rd.other (unhide HR4) w.heap.size 0 (.int .i64 b) (Ne.symm hBg)) w.heap.size 1 (.int .i64 n) (Ne.symm hBg)) w.heap.size 2 (.string (bs q)) (Ne.symm hBg))
    clear hV hV2
    go_wp2
    refine bodyPost_ret (v := rcv ⟨b, n, q⟩) (by simp [results, Tryz.results90, go_sem, x0, x1, x2]) rfl ⟨?_, rfl, unhide HF⟩
    exact grownBy_new (grownBy_new (grownBy_new (unhide HG4) _ _ _ (Nat.le_refl _)) _ _ _ (Nat.le_refl _)) _ _ _ (Nat.le_refl _)
end Go.Proofs.YtgdndekmkaknlaaGreat

/-
  A deferred closure's region that recovers: one operation at a time.
-/
namespace Go.Proofs.YtgdndekmkaknlaaGreat
open Go.RowKit
set_option linter.unusedVariables false
section
variable {P : Program} {ops : Array Oper} {Q : Exit → Act → List Frame → World → Prop} {a : Act} {cs cs' : List Frame} {w w' : World} {i : Nat} {rest : List Nat} {o : Oper} {v : Value} {d : Option Tmp}
theorem opsS_val (ho : ops[i]? = some o) (hd : o.dst = d) (hw : Region.wanted o (yielded ops a.tmps) = true) (hr : (execOp a.eval o).run P w = .ok (.value v) w') (h : wpOpsS P ops Q rest (a.put d v) cs w') : wpOpsS P ops Q (i :: rest) a cs w := by
  subst hd
  simp only [wpOpsS, ho, hw, if_true, hr, Oper.upon]
  exact h
theorem opsS_skip (ho : ops[i]? = some o) (hd : o.dst = d) (hw : Region.wanted o (yielded ops a.tmps) = true) (hr : (execOp a.eval o).run P w = .ok .skip w') (h : wpOpsS P ops Q rest (a.put d undef) cs w') : wpOpsS P ops Q (i :: rest) a cs w := by
  subst hd
  simp only [wpOpsS, ho, hw, if_true, hr, Oper.upon]
  exact h
theorem opsS_rec (ho : ops[i]? = some o) (hd : o.dst = d) (hw : Region.wanted o (yielded ops a.tmps) = true) (hr : (execOp a.eval o).run P w = .ok .recover w') (hq : recoverD cs = some (v, cs')) (h : wpOpsS P ops Q rest (a.put d v) cs' w') : wpOpsS P ops Q (i :: rest) a cs w := by
  subst hd
  simp only [wpOpsS, ho, hw, if_true, hr, hq]
  exact h
theorem opsS_rec0 (ho : ops[i]? = some o) (hd : o.dst = d) (hw : Region.wanted o (yielded ops a.tmps) = true) (hr : (execOp a.eval o).run P w = .ok .recover w') (hq : recoverD cs = none) (h : wpOpsS P ops Q rest (a.put d .nilIface) cs w') : wpOpsS P ops Q (i :: rest) a cs w := by
  subst hd
  simp only [wpOpsS, ho, hw, if_true, hr, hq]
  exact h
theorem opsS_call {f : FuncId} {args : Array Value} {R : Ending → World → Prop} (ho : ops[i]? = some o) (hd : o.dst = d) (hw : Region.wanted o (yielded ops a.tmps) = true) (hr : (execOp a.eval o).run P w = .ok (.enter f args) w') (hc : Calls P f args w' R)
    (h : ∀ e w'', R e w'' → ∃ v, e = .returned v ∧ wpOpsS P ops Q rest (a.put d v) cs w'') : wpOpsS P ops Q (i :: rest) a cs w := by
  subst hd
  simp only [wpOpsS, ho, hw, if_true, hr, Oper.upon]
  refine hc.mono (fun e w'' hR => ?_)
  obtain ⟨v, rfl, hh⟩ := h e w'' hR
  exact hh
theorem opsS_nil (h : Q .normal a cs w) : wpOpsS P ops Q [] a cs w := h
end
end Go.Proofs.YtgdndekmkaknlaaGreat

/-
  The closure that GetRec defers: it recovers what the reader panics with; walks over the dump.
-/
namespace Go.Proofs.YtgdndekmkaknlaaGreat
open Go.RowKit
set_option linter.unusedVariables false
set_option linter.unusedSimpArgs false
set_option maxRecDepth 100000 in
set_option maxHeartbeats 1000000 in
theorem failure_yes (bg : Int) (w : World) :
    Calls Tryz.prog 41 #[.iface 75 (.agg #[.int .i64 bg])] w fun e w' => e = .returned (.tuple #[.agg #[.int .i64 bg], .bool true]) ∧ Below w.heap.size w w' := by
  have hta : ∀ (xt : TypeId) wx, (Instr.typeAssert (.iface 75 (.agg #[.int .i64 bg])) xt 75 true).run Tryz.prog wx = .ok (.tuple #[.agg #[.int .i64 bg], .bool true]) wx := fun xt wx => by
    simp [Instr.typeAssert, go_sem]
  go_enter Tryz.func41, Tryz.ntmps41
  go_wp2
  refine bodyPost_ret (v := .tuple #[.agg #[.int .i64 bg], .bool true]) (by simp [results, Tryz.results41, go_sem]) rfl ⟨rfl, ?_⟩
  repeat (first | exact Below.refl _ _ | refine below_al ?_ _ | refine Below.drew ?_ | refine below_sc ?_ _ _ _ (by omega))
set_option maxRecDepth 100000 in
set_option maxHeartbeats 1000000 in
theorem failure_no (w : World) :
    Calls Tryz.prog 41 #[.nilIface] w fun e w' => e = .returned (.tuple #[.agg #[.int .i64 0], .bool false]) ∧ Below w.heap.size w w' := by
  have hta : ∀ (xt : TypeId) wx, (Instr.typeAssert .nilIface xt 75 true).run Tryz.prog wx = .ok (.tuple #[.agg #[.int .i64 0], .bool false]) wx := fun xt wx => by
    simp [Instr.typeAssert, go_sem]
  go_enter Tryz.func41, Tryz.ntmps41
  go_wp2
  refine bodyPost_ret (v := .tuple #[.agg #[.int .i64 0], .bool false]) (by simp [results, Tryz.results41, go_sem]) rfl ⟨rfl, ?_⟩
  repeat (first | exact Below.refl _ _ | refine below_al ?_ _ | refine Below.drew ?_ | refine below_sc ?_ _ _ _ (by omega))

set_option maxRecDepth 100000 in
set_option maxHeartbeats 1500000 in
theorem catch_panicking (g : Nat) (r : Rc) (b : Bool) (bg : Int) (older : List PanicEntry) (w : World) (h1 : Blk w g #[.int .i64 r.kind, .int .i64 r.app, .string (bs r.queue)] 47) (h2 : Blk w (g + 1) #[.bool b] 4) :
    CallsD Tryz.prog 89 #[.pointer (some ⟨g, 0, none⟩), .pointer (some ⟨g + 1, 0, none⟩)] (.panicking (perr bg :: older)) w fun e u' w' =>
      e = .returned (.tuple #[]) ∧ u' = .panicking ({ perr bg with recovered := true } :: older) ∧ Blk w' g #[.int .i64 0, .int .i64 0, .string ⟨#[]⟩] 47 ∧ Blk w' (g + 1) #[.bool false] 4 ∧ Below g w w' := by
  have H1 := hide h1
  have H2 := hide h2
  clear h1 h2
  refine callsD_of_wpS Tryz.func89 rfl fun c₀ cs hu => ?_
  apply wpS_seq
  apply wpS_region
  rw [Tryz.ntmps89, show ∀ x y : Value, #[x, y] ++ Array.replicate (11 - #[x, y].size) undef = #[x, y, undef, undef, undef, undef, undef, undef, undef, undef, undef] from fun _ _ => rfl]
  simp only [List.size_toArray, List.length_cons, List.length_nil, Nat.zero_add, Nat.reduceAdd, List.range, List.range.loop]
  refine opsS_rec (w' := w) (d := some 5) rfl rfl rfl (by simp [go_sem]) (v := .iface 75 (.agg #[.int .i64 bg])) (cs' := { c₀ with mode := .panicking ({ perr bg with recovered := true } :: older) } :: cs) (by simp [recoverD, hu]) ?_
  simp only [Act.put, List.setIfInBounds_toArray, List.set_cons_zero, List.set_cons_succ]
  refine opsS_call (w' := w) (f := 41) (args := #[.iface 75 (.agg #[.int .i64 bg])]) (d := some 6) rfl rfl rfl (by simp [go_sem]) (failure_yes bg w) ?_
  rintro e w1 ⟨rfl, hb⟩
  refine ⟨_, rfl, ?_⟩
  have HB := hide hb
  have G1 := hide ((unhide H1).below hb)
  have G2 := hide ((unhide H2).below hb)
  clear hb
  simp only [Act.put, List.setIfInBounds_toArray, List.set_cons_zero, List.set_cons_succ]
  refine opsS_val (v := .tuple #[.agg #[.int .i64 bg], .bool true]) (w' := w1) (d := some 4) rfl rfl rfl (by simp [go_sem]) ?_
  simp only [Act.put, List.setIfInBounds_toArray, List.set_cons_zero, List.set_cons_succ]
  refine opsS_val (v := .agg #[.int .i64 bg]) (w' := w1) (d := some 7) rfl rfl rfl (by simp [go_sem]) ?_
  simp only [Act.put, List.setIfInBounds_toArray, List.set_cons_zero, List.set_cons_succ]
  refine opsS_val (v := .bool true) (w' := w1) (d := some 8) rfl rfl rfl (by simp [go_sem]) ?_
  simp only [Act.put, List.setIfInBounds_toArray, List.set_cons_zero, List.set_cons_succ]
  refine opsS_val (v := .pointer (some ⟨w1.heap.size, 0, none⟩)) (w' := w1.alloc (.cells #[.int .i64 0] 75)) (d := some 2) rfl rfl rfl (by simp [go_sem]) ?_
  simp only [Act.put, List.setIfInBounds_toArray, List.set_cons_zero, List.set_cons_succ]
  refine opsS_skip (w' := w1.alloc (.cells #[.int .i64 bg] 75)) (d := none) rfl rfl rfl (by simp [go_sem]) ?_
  simp only [Act.put, List.setIfInBounds_toArray, List.set_cons_zero, List.set_cons_succ]
  refine opsS_val (v := .bool true) (w' := w1.alloc (.cells #[.int .i64 bg] 75)) (d := some 3) rfl rfl rfl (by simp [go_sem]) ?_
  simp only [Act.put, List.setIfInBounds_toArray, List.set_cons_zero, List.set_cons_succ]
  refine opsS_nil ?_
  refine wpS_of_wp ?_
  have k0 := ((unhide G1).al (.cells #[.int .i64 bg] 75)).at 0
  have k1 := ((unhide G1).al (.cells #[.int .i64 bg] 75)).at 1
  have k2 := ((unhide G1).al (.cells #[.int .i64 bg] 75)).at 2
  have f0 := ((unhide G1).al (.cells #[.int .i64 bg] 75)).f 0
  have f1 := ((unhide G1).al (.cells #[.int .i64 bg] 75)).f 1
  have f2 := ((unhide G1).al (.cells #[.int .i64 bg] 75)).f 2
  have p0 := ((unhide G2).al (.cells #[.int .i64 bg] 75)).at 0
  have q0 := ((unhide G2).al (.cells #[.int .i64 bg] 75)).f 0
  have W1 := hide ((unhide G1).al (.cells #[.int .i64 bg] 75))
  have W2 := hide ((unhide G2).al (.cells #[.int .i64 bg] 75))
  have HBL := hide (show Below g w (w1.alloc (.cells #[.int .i64 bg] 75)) from (below_al (unhide HB) _).mono (Nat.le_of_lt (unhide H1).lt))
  simp only [List.getElem?_toArray, List.getElem?_cons_succ, List.getElem?_cons_zero] at k0 k1 k2 p0
  obtain ⟨W, hW⟩ : ∃ W, w1.alloc (.cells #[.int .i64 bg] 75) = W := ⟨_, rfl⟩
  rw [hW] at k0 k1 k2 f0 f1 f2 p0 q0 W1 W2 HBL ⊢
  clear hW HB G1 G2 H1 H2
  go_wp2
  refine ⟨rfl, _, rfl, .tuple #[], by simp [results, Tryz.results89, go_sem], rfl, rfl, ?_, ?_, ?_⟩
  · have := (((unhide W1).set 0 (.int .i64 0)).set 1 (.int .i64 0)).set 2 (.string ⟨#[]⟩)
    simp at this
    exact this.other (g + 1) 0 (.bool false) (by omega)
  · have := ((((unhide W2).other g 0 (.int .i64 0) (by omega)).other g 1 (.int .i64 0) (by omega)).other g 2 (.string ⟨#[]⟩) (by omega)).set 0 (.bool false)
    simpa using this
  · exact ((((unhide HBL).setCell (Nat.le_refl _) _).setCell (Nat.le_refl _) _).setCell (Nat.le_refl _) _).setCell (Nat.le_succ _) _

set_option maxRecDepth 100000 in
set_option maxHeartbeats 1500000 in
theorem catch_idle (g : Nat) (r : Rc) (b : Bool) (w : World) (h1 : Blk w g #[.int .i64 r.kind, .int .i64 r.app, .string (bs r.queue)] 47) (h2 : Blk w (g + 1) #[.bool b] 4) :
    CallsD Tryz.prog 89 #[.pointer (some ⟨g, 0, none⟩), .pointer (some ⟨g + 1, 0, none⟩)] .returning w fun e u' w' =>
      e = .returned (.tuple #[]) ∧ u' = .returning ∧ Below w.heap.size w w' := by
  have H1 := hide h1
  have H2 := hide h2
  clear h1 h2
  refine callsD_of_wpS Tryz.func89 rfl fun c₀ cs hu => ?_
  apply wpS_seq
  apply wpS_region
  rw [Tryz.ntmps89, show ∀ x y : Value, #[x, y] ++ Array.replicate (11 - #[x, y].size) undef = #[x, y, undef, undef, undef, undef, undef, undef, undef, undef, undef] from fun _ _ => rfl]
  simp only [List.size_toArray, List.length_cons, List.length_nil, Nat.zero_add, Nat.reduceAdd, List.range, List.range.loop]
  refine opsS_rec0 (w' := w) (d := some 5) rfl rfl rfl (by simp [go_sem]) (by simp [recoverD, hu]) ?_
  simp only [Act.put, List.setIfInBounds_toArray, List.set_cons_zero, List.set_cons_succ]
  refine opsS_call (w' := w) (f := 41) (args := #[.nilIface]) (d := some 6) rfl rfl rfl (by simp [go_sem]) (failure_no w) ?_
  rintro e w1 ⟨rfl, hb⟩
  refine ⟨_, rfl, ?_⟩
  have HB := hide hb
  have G1 := hide ((unhide H1).below hb)
  have G2 := hide ((unhide H2).below hb)
  clear hb
  simp only [Act.put, List.setIfInBounds_toArray, List.set_cons_zero, List.set_cons_succ]
  refine opsS_val (v := .tuple #[.agg #[.int .i64 0], .bool false]) (w' := w1) (d := some 4) rfl rfl rfl (by simp [go_sem]) ?_
  simp only [Act.put, List.setIfInBounds_toArray, List.set_cons_zero, List.set_cons_succ]
  refine opsS_val (v := .agg #[.int .i64 0]) (w' := w1) (d := some 7) rfl rfl rfl (by simp [go_sem]) ?_
  simp only [Act.put, List.setIfInBounds_toArray, List.set_cons_zero, List.set_cons_succ]
  refine opsS_val (v := .bool false) (w' := w1) (d := some 8) rfl rfl rfl (by simp [go_sem]) ?_
  simp only [Act.put, List.setIfInBounds_toArray, List.set_cons_zero, List.set_cons_succ]
  refine opsS_val (v := .pointer (some ⟨w1.heap.size, 0, none⟩)) (w' := w1.alloc (.cells #[.int .i64 0] 75)) (d := some 2) rfl rfl rfl (by simp [go_sem]) ?_
  simp only [Act.put, List.setIfInBounds_toArray, List.set_cons_zero, List.set_cons_succ]
  refine opsS_skip (w' := w1.alloc (.cells #[.int .i64 0] 75)) (d := none) rfl rfl rfl (by simp [go_sem]) ?_
  simp only [Act.put, List.setIfInBounds_toArray, List.set_cons_zero, List.set_cons_succ]
  refine opsS_val (v := .bool false) (w' := w1.alloc (.cells #[.int .i64 0] 75)) (d := some 3) rfl rfl rfl (by simp [go_sem]) ?_
  simp only [Act.put, List.setIfInBounds_toArray, List.set_cons_zero, List.set_cons_succ]
  refine opsS_nil ?_
  refine wpS_of_wp ?_
  have HBL := hide (below_al (unhide HB) (.cells #[.int .i64 0] 75))
  go_wp2
  refine ⟨rfl, .returning, ?_, .tuple #[], by simp [results, Tryz.results89, go_sem], rfl, rfl, unhide HBL⟩
  cases c₀
  simp_all
end Go.Proofs.YtgdndekmkaknlaaGreat

/-
  A new reader: what building, making and storing its variable does; walks over the dump.
-/
namespace Go.Proofs.YtgdndekmkaknlaaGreat
open Go.RowKit
set_option linter.unusedVariables false
/-- the cells of a reader that stands at the beginning of s -/
def rdA (s : ByteArray) : Array Value := #[.string s, .int .i64 0, .int .i64 0, .int .u32 0, .int .i32 0, .int .u32 0, .int .u32 0, .int .u32 0, .int .u32 0, .int .u32 0, .int .u32 0, .int .u32 0, .int .u32 0, .int .u32 0, .int .u32 0, .int .u32 0, .int .u32 0, .int .u32 0, .int .u32 0, .int .u32 0, .int .u32 0, .int .u32 0]
theorem rdA_info : (Tryz.prog.info? 93).map (fun i => (i.zero, i.size)) = some (some (.agg (rdA ⟨#[]⟩)), 22) := by kernel_rfl
theorem rdA_one (s : ByteArray) : (rdA s).all (·.oneCell') = true := by kernel_rfl
theorem rd_alloc (w : World) (v : Value) : (Instr.alloc 93 true v).run Tryz.prog w = .ok (.pointer (some ⟨w.heap.size, 0, none⟩)) (w.alloc (.cells (rdA ⟨#[]⟩) 93)) := by
  have h := (zero_of_info rdA_info).1
  unfold Instr.alloc
  rw [Sem.run_bind, h]
  rfl
theorem rd_store (s : ByteArray) (w : World) : (Instr.storeAt 93 (.pointer (some ⟨w.heap.size, 0, none⟩)) (.agg (rdA s))).run Tryz.prog (w.alloc (.cells (rdA ⟨#[]⟩) 93)) = .ok () (w.alloc (.cells (rdA s) 93)) :=
  run_storeAt_new w 93 (rdA ⟨#[]⟩) (rdA s) (by rw [(zero_of_info rdA_info).2]; rfl) rfl (rdA_one s)
theorem rd_build (s : ByteArray) (w : World) : (Instr.build 93 #[(0, .string s)]).run Tryz.prog w = .ok (.agg (rdA s)) w := by kernel_rfl
theorem Rd.newA (w : World) (s : ByteArray) : Rd (w.alloc (.cells (rdA s) 93)) w.heap.size s 0 0 := Rd.new w s
end Go.Proofs.YtgdndekmkaknlaaGreat
