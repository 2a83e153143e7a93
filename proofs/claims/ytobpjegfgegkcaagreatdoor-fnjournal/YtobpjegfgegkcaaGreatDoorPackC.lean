/-
  Several texts of this claim in one: RdJ, RdK, RecL, GRecC, WpL, RdN, ScS, GRecI (pack.py put them together); each says in its own remark what is proved.
-/
import Derived.Test.YtobpjegfgegkcaaGreatDoorRdI
import Derived.Test.YtobpjegfgegkcaaGreatDoorPackB
import Derived.Deep.CutRange
import Derived.Test.YtobpjegfgegkcaaGreatDoorPackA
import Derived.Defers
import Derived.Recover
import Derived.Laws.Pointers
import Derived.Deep.WholeRow
/-
  The program's reader of bytes: a number, a text, a record; walks over the dump.
-/
namespace Go.Proofs.YtobpjegfgegkcaaGreatDoor
open Go.RowKit
set_option linter.unusedVariables false
/-- the reader stands, and nothing that was there has turned -/
def RdB (w0 : World) (g : Nat) (s : ByteArray) (i bg : Int) (wx : World) : Prop := Rd wx g s i bg ∧ Below w0.heap.size w0 wx
theorem RdB.call {w0 w1 w2 : World} {g : Nat} {s : ByteArray} {i bg : Int} (h : RdB w0 g s i bg w1) (hb : Below w1.heap.size w1 w2) : RdB w0 g s i bg w2 := ⟨h.1.below hb, below_on h.2 hb⟩
theorem RdB.drew {w0 w1 : World} {g : Nat} {s : ByteArray} {i bg : Int} (h : RdB w0 g s i bg w1) : RdB w0 g s i bg w1.drew := h.call (Below.refl _ _).drew
theorem RdB.read (w0 : World) (g : Nat) (s : ByteArray) (i bg : Int) : ∀ wx, RdB w0 g s i bg wx → wx.cell? ⟨g, 0, none⟩ = some (.string s) ∧ wx.cell? ⟨g, 1, none⟩ = some (.int .i64 i) := fun wx h => ⟨by simpa using Rd.at h.1 0, by simpa using Rd.at h.1 1⟩
set_option maxRecDepth 100000 in
set_option maxHeartbeats 1000000 in
theorem nextNum_any (g : Nat) (s : ByteArray) (i bg : Int) (w : World) (h : Rd w g s i bg) (hs : s.size ≤ 1048576) (h0 : -9223372036854775808 ≤ i) (h1 : i ≤ 9223372036854775807) :
    Calls Tryz.prog 53 #[rdp g] w fun e w' => Reads w g s bg (if (getNum s.data.toList i).2 < 0 then none else some (.int .i64 (getNum s.data.toList i).1, (getNum s.data.toList i).2)) e w' := by
  have CG := hide (fun wx => implGetNum_any s i wx hs h0 h1)
  have CO := hide (fun wx (j : Int) (hr : Rd wx g s i bg) => goOn_any g s i bg j wx hr)
  have A0 := hide (show RdB w g s i bg w from ⟨h, Below.refl _ _⟩)
  have R := RdB.read w g s i bg
  obtain ⟨⟨n, j⟩, hnj⟩ : ∃ x, getNum s.data.toList i = x := ⟨_, rfl⟩
  rw [hnj] at CG ⊢
  simp only at CG ⊢
  clear h hnj
  by_cases hj : j < 0
  · rw [if_pos hj]
    have CP := hide (fun wx hr => by have := unhide CO wx j hr; rw [if_pos hj] at this; exact this)
    clear CO
    go_enter Tryz.func53, Tryz.ntmps53
    go_wp2_with fail
    go_region_held3 (fun wx => RdB w g s i bg wx)
      (first | assumption | exact (unhide A0).drew | exact RdB.call (by assumption) (by assumption))
      (first
      | (go_at_call 65; refine (unhide CG _).mono ?_; rintro e wt ⟨rfl, hb⟩; have SA := RdB.call (w0 := w) (g := g) (s := s) (i := i) (bg := bg) (by assumption) hb)
      | fail)
    have HA := hide SA
    clear SA R A0
    go_wp2_with fail
    refine (unhide CP _ (unhide HA).1).mono ?_
    intro e w2 hr
    obtain ⟨hg, hr⟩ := hr
    have HG := hide (grownBy_trans (gby_below (unhide HA).2) hg)
    clear hg
    obtain ⟨rfl, hr⟩ := hr
    have HR := hide hr
    clear hr
    go_wp2
    exact ⟨rfl, unhide HG, rfl, unhide HR⟩
  · rw [if_neg hj]
    have CP := hide (fun wx hr => by have := unhide CO wx j hr; rw [if_neg hj] at this; exact this)
    clear CO
    go_enter Tryz.func53, Tryz.ntmps53
    go_wp2_with fail
    go_region_held3 (fun wx => RdB w g s i bg wx)
      (first | assumption | exact (unhide A0).drew | exact RdB.call (by assumption) (by assumption))
      (first
      | (go_at_call 65; refine (unhide CG _).mono ?_; rintro e wt ⟨rfl, hb⟩; have SA := RdB.call (w0 := w) (g := g) (s := s) (i := i) (bg := bg) (by assumption) hb)
      | fail)
    have HA := hide SA
    clear SA R A0
    go_wp2_with fail
    refine (unhide CP _ (unhide HA).1).mono ?_
    intro e w2 hr
    obtain ⟨hg, hr⟩ := hr
    have HG := hide (grownBy_trans (gby_below (unhide HA).2) hg)
    clear hg
    obtain ⟨rfl, hr⟩ := hr
    have HR := hide hr
    clear hr
    go_wp2
    go_ret
    exact ⟨unhide HG, rfl, unhide HR⟩

set_option maxRecDepth 100000 in
set_option maxHeartbeats 1000000 in
theorem nextText_any (g : Nat) (s : ByteArray) (i bg : Int) (w : World) (h : Rd w g s i bg) (hs : s.size ≤ 1048576) (h0 : -9223372036854775808 ≤ i) (h1 : i ≤ 9223372036854775807) :
    Calls Tryz.prog 48 #[rdp g] w fun e w' => Reads w g s bg (if (getText s.data.toList i).2 < 0 then none else some (.string (bs (getText s.data.toList i).1), (getText s.data.toList i).2)) e w' := by
  have CG := hide (fun wx => implGetText_any s i wx hs h0 h1)
  have CO := hide (fun wx (j : Int) (hr : Rd wx g s i bg) => goOn_any g s i bg j wx hr)
  have A0 := hide (show RdB w g s i bg w from ⟨h, Below.refl _ _⟩)
  have R := RdB.read w g s i bg
  obtain ⟨⟨n, j⟩, hnj⟩ : ∃ x, getText s.data.toList i = x := ⟨_, rfl⟩
  rw [hnj] at CG ⊢
  simp only at CG ⊢
  clear h hnj
  by_cases hj : j < 0
  · rw [if_pos hj]
    have CP := hide (fun wx hr => by have := unhide CO wx j hr; rw [if_pos hj] at this; exact this)
    clear CO
    go_enter Tryz.func48, Tryz.ntmps48
    go_wp2_with fail
    go_region_held3 (fun wx => RdB w g s i bg wx)
      (first | assumption | exact (unhide A0).drew | exact RdB.call (by assumption) (by assumption))
      (first
      | (go_at_call 61; refine (unhide CG _).mono ?_; rintro e wt ⟨rfl, hb⟩; have SA := RdB.call (w0 := w) (g := g) (s := s) (i := i) (bg := bg) (by assumption) hb)
      | fail)
    have HA := hide SA
    clear SA R A0
    go_wp2_with fail
    refine (unhide CP _ (unhide HA).1).mono ?_
    intro e w2 hr
    obtain ⟨hg, hr⟩ := hr
    have HG := hide (grownBy_trans (gby_below (unhide HA).2) hg)
    clear hg
    obtain ⟨rfl, hr⟩ := hr
    have HR := hide hr
    clear hr
    go_wp2
    exact ⟨rfl, unhide HG, rfl, unhide HR⟩
  · rw [if_neg hj]
    have CP := hide (fun wx hr => by have := unhide CO wx j hr; rw [if_neg hj] at this; exact this)
    clear CO
    go_enter Tryz.func48, Tryz.ntmps48
    go_wp2_with fail
    go_region_held3 (fun wx => RdB w g s i bg wx)
      (first | assumption | exact (unhide A0).drew | exact RdB.call (by assumption) (by assumption))
      (first
      | (go_at_call 61; refine (unhide CG _).mono ?_; rintro e wt ⟨rfl, hb⟩; have SA := RdB.call (w0 := w) (g := g) (s := s) (i := i) (bg := bg) (by assumption) hb)
      | fail)
    have HA := hide SA
    clear SA R A0
    go_wp2_with fail
    refine (unhide CP _ (unhide HA).1).mono ?_
    intro e w2 hr
    obtain ⟨hg, hr⟩ := hr
    have HG := hide (grownBy_trans (gby_below (unhide HA).2) hg)
    clear hg
    obtain ⟨rfl, hr⟩ := hr
    have HR := hide hr
    clear hr
    go_wp2
    go_ret
    exact ⟨unhide HG, rfl, unhide HR⟩
end Go.Proofs.YtobpjegfgegkcaaGreatDoor

/-
  The program's reader: a whole record; a walk over the dump.
-/
namespace Go.Proofs.YtobpjegfgegkcaaGreatDoor
open Go.RowKit
set_option linter.unusedVariables false
/-- the record that bytes begin with, and behind which byte it ends -/
def readRec (l : List UInt8) : Option (Rc × Int) :=
  match l with
  | [] => none
  | b :: _ =>
    if (getNum l 1).2 < 0 then none
    else if (getText l (getNum l 1).2).2 < 0 then none
    else if recOk ⟨b.toNat, (getNum l 1).1, (getText l (getNum l 1).2).1⟩ = false then none
    else some (⟨b.toNat, (getNum l 1).1, (getText l (getNum l 1).2).1⟩, (getText l (getNum l 1).2).2)
theorem getNum_pos_le (s : ByteArray) (i : Int) (h : ¬ (getNum s.data.toList i).2 < 0) : 0 ≤ (getNum s.data.toList i).2 ∧ (getNum s.data.toList i).2 ≤ s.size := by
  have := getNum_le s i (by omega)
  omega
theorem getText_pos_le (s : ByteArray) (i : Int) (h : ¬ (getText s.data.toList i).2 < 0) : 0 ≤ (getText s.data.toList i).2 ∧ (getText s.data.toList i).2 ≤ s.size := by
  have h0 := getText_of (s := s) (i := i) (a := (getNum s.data.toList i).1) (b := (getNum s.data.toList i).2) rfl
  have hl := getNum_le s i
  rw [h0] at h ⊢
  split at h
  · simp at h
  · rename_i hn
    rw [if_neg hn]
    simp only at h ⊢
    omega
theorem getText_len (s : ByteArray) (i : Int) : (getText s.data.toList i).1.length ≤ 1048576 := by
  have h0 := getText_of (s := s) (i := i) (a := (getNum s.data.toList i).1) (b := (getNum s.data.toList i).2) rfl
  rw [h0]
  split
  · simp
  · rename_i hn
    simp only [List.length_take]
    have := getNum_le s i
    omega
theorem grownBy_new {w w1 : World} {r : Option Nat} (h : w.grownBy w1 r) (b j : Nat) (v : Value) (hb : w.heap.size ≤ b) : w.grownBy (w1.setCell ⟨b, j, none⟩ v) r :=
  ⟨h.os, h.tape, h.output, by simpa using h.size, fun k hk hn => by
    rw [heap_setCell_other w1 ⟨b, j, none⟩ k v (by simp; omega)]
    exact h.block k hk hn⟩
theorem Blk.gby {w w' : World} {g k : Nat} {arr : Array Value} {t : TypeId} (h : Blk w k arr t) (hg : w.grownBy w' (some g)) (hn : k ≠ g) : Blk w' k arr t := (hg.block k h.lt (fun e => hn (by simpa using e))).trans h

set_option maxRecDepth 100000 in
set_option maxHeartbeats 4000000 in
theorem nextRec_any (g : Nat) (s : ByteArray) (bg : Int) (w : World) (h : Rd w g s 0 bg) (hs : s.size ≤ 1048576) :
    Calls Tryz.prog 33 #[rdp g] w fun e w' => Reads w g s bg ((readRec s.data.toList).map (fun x => (rcv x.1, x.2))) e w' := by
  have hgl : g < w.heap.size := Rd.lt h
  have CB := hide (fun wx (hr : Rd wx g s 0 bg) => nextByte_any g s 0 bg wx hr hs (Nat.zero_le _))
  have CN := hide (fun wx (hr : Rd wx g s 1 bg) => nextNum_any g s 1 bg wx hr hs (by omega) (by omega))
  have HR0 := hide (Rd.al h (.cells #[.int .i64 0, .int .i64 0, .string ⟨#[]⟩] 25))
  have V0 := hide (blk_new w #[.int .i64 0, .int .i64 0, .string ⟨#[]⟩] 25)
  have G0 := hide (gby_below (r := some g) (below_al (Below.refl _ w) (.cells #[.int .i64 0, .int .i64 0, .string ⟨#[]⟩] 25)))
  have hBg : w.heap.size ≠ g := by omega
  clear h
  by_cases h0 : 0 < s.size
  case neg =>
    have he : s.data.toList = [] := by
      have := len_eq s
      exact List.eq_nil_of_length_eq_zero (by omega)
    rw [he]
    simp only [readRec, Option.map_none]
    have CB' := hide (fun wx hr => by have := unhide CB wx hr; rw [dif_neg h0] at this; exact this)
    clear CB he
    go_enter Tryz.func33, Tryz.ntmps33
    go_wp2_with fail
    refine (unhide CB' _ (unhide HR0)).mono ?_
    rintro e w1 ⟨hg, rfl, hr⟩
    have HG := hide (grownBy_trans (unhide G0) hg)
    have HR := hide hr
    clear hg hr
    go_wp2
    exact ⟨rfl, unhide HG, rfl, unhide HR⟩
  have hcons : ∃ t, s.data.toList = s[0] :: t := ⟨s.data.toList.tail, by
    have hlen := len_eq s
    match hl : s.data.toList with
    | [] => rw [hl] at hlen; simp at hlen; omega
    | a :: t =>
      simp only [List.tail_cons, List.cons.injEq, and_true]
      have : s.data.toList[0]? = some a := by rw [hl]; rfl
      have h2 : s.data.toList[0]? = some s[0] := by
        rw [List.getElem?_eq_getElem (by omega)]; rfl
      rw [h2] at this
      simpa using this.symm⟩
  have CB' := hide (fun wx hr => by have := unhide CB wx hr; rw [dif_pos h0] at this; exact this)
  clear CB
  have hby := byte_le s[0]
  have HX : readRec s.data.toList = if (getNum s.data.toList 1).2 < 0 then none
    else if (getText s.data.toList (getNum s.data.toList 1).2).2 < 0 then none
    else if recOk ⟨s[0].toNat, (getNum s.data.toList 1).1, (getText s.data.toList (getNum s.data.toList 1).2).1⟩ = false then none
    else some (⟨s[0].toNat, (getNum s.data.toList 1).1, (getText s.data.toList (getNum s.data.toList 1).2).1⟩, (getText s.data.toList (getNum s.data.toList 1).2).2) := by
    obtain ⟨t, ht⟩ := hcons
    conv => lhs; unfold readRec
    rw [ht]
  rw [HX]
  clear HX hcons
  have hnl := getNum_pos_le s 1
  obtain ⟨⟨n, j⟩, hnj⟩ : ∃ x, getNum s.data.toList 1 = x := ⟨_, rfl⟩
  rw [hnj] at CN hnl ⊢
  simp only at CN hnl ⊢
  clear hnj
  obtain ⟨b, hb⟩ : ∃ b, s[0].toNat = b := ⟨_, rfl⟩
  rw [hb] at CB' hby ⊢
  clear hb
  have hz1 : (((0 : Nat) : Int) + 1) = 1 := rfl
  by_cases hj : j < 0
  · rw [if_pos hj]
    have CN' := hide (fun wx hr => by have := unhide CN wx hr; rw [if_pos hj] at this; exact this)
    clear CN
    go_enter Tryz.func33, Tryz.ntmps33
    go_wp2_with fail
    refine (unhide CB' _ (unhide HR0)).mono ?_
    rintro e w1 ⟨hg, rfl, hr⟩
    have HG := hide (grownBy_trans (unhide G0) hg)
    have HR := hide (show Rd w1 g s 1 bg from hr)
    clear hg hr
    go_wp2_with fail
    refine (unhide CN' _ (unhide HR)).mono ?_
    rintro e w2 ⟨hg, rfl, hr⟩
    have HG2 := hide (grownBy_trans (unhide HG) hg)
    have HR2 := hide hr
    clear hg hr
    go_wp2
    exact ⟨rfl, unhide HG2, rfl, unhide HR2⟩
  rw [if_neg hj]
  have CN' := hide (fun wx hr => by have := unhide CN wx hr; rw [if_neg hj] at this; exact this)
  clear CN
  have hj2 := hnl hj
  have CT := hide (fun wx (hr : Rd wx g s j bg) => nextText_any g s j bg wx hr hs (by omega) (by omega))
  have hql := getText_len s j
  obtain ⟨⟨q, k⟩, hqk⟩ : ∃ x, getText s.data.toList j = x := ⟨_, rfl⟩
  rw [hqk] at CT hql ⊢
  simp only at CT hql ⊢
  clear hqk
  by_cases hk : k < 0
  · rw [if_pos hk]
    have CT' := hide (fun wx hr => by have := unhide CT wx hr; rw [if_pos hk] at this; exact this)
    clear CT
    go_enter Tryz.func33, Tryz.ntmps33
    go_wp2_with fail
    refine (unhide CB' _ (unhide HR0)).mono ?_
    rintro e w1 ⟨hg, rfl, hr⟩
    have HG := hide (grownBy_trans (unhide G0) hg)
    have HR := hide (show Rd w1 g s 1 bg from hr)
    clear hg hr
    go_wp2_with fail
    refine (unhide CN' _ (unhide HR)).mono ?_
    rintro e w2 ⟨hg, rfl, hr⟩
    have HG2 := hide (grownBy_trans (unhide HG) hg)
    have HR2 := hide hr
    clear hg hr
    go_wp2_with fail
    refine (unhide CT' _ (unhide HR2)).mono ?_
    rintro e w3 ⟨hg, rfl, hr⟩
    have HG3 := hide (grownBy_trans (unhide HG2) hg)
    have HR3 := hide hr
    clear hg hr
    go_wp2
    exact ⟨rfl, unhide HG3, rfl, unhide HR3⟩
  rw [if_neg hk]
  have CT' := hide (fun wx hr => by have := unhide CT wx hr; rw [if_neg hk] at this; exact this)
  clear CT
  have CO := hide (fun wx => implRecOk_any ⟨b, n, q⟩ wx hql)
  have CF := hide (fun wx (hr : Rd wx g s k bg) => fail_any g s k bg wx hr)
  obtain ⟨o, ho⟩ : ∃ o, recOk ⟨b, n, q⟩ = o := ⟨_, rfl⟩
  rw [ho] at CO ⊢
  clear ho
  cases o
  · rw [if_pos rfl]
    go_enter Tryz.func33, Tryz.ntmps33
    go_wp2_with fail
    refine (unhide CB' _ (unhide HR0)).mono ?_
    rintro e w1 ⟨hg, rfl, hr⟩
    have HG := hide (grownBy_trans (unhide G0) hg)
    have HR := hide (show Rd w1 g s 1 bg from hr)
    clear hg hr
    go_wp2_with fail
    refine (unhide CN' _ (unhide HR)).mono ?_
    rintro e w2 ⟨hg, rfl, hr⟩
    have HG2 := hide (grownBy_trans (unhide HG) hg)
    have HR2 := hide hr
    clear hg hr
    go_wp2_with fail
    refine (unhide CT' _ (unhide HR2)).mono ?_
    rintro e w3 ⟨hg, rfl, hr⟩
    have HG3 := hide (grownBy_below (grownBy_trans (unhide HG2) hg) (below_al (Below.refl _ _) (.cells #[.int .i64 b, .int .i64 n, .string (bs q)] 25)))
    have HR3 := hide (Rd.al hr (.cells #[.int .i64 b, .int .i64 n, .string (bs q)] 25))
    clear hg hr
    go_wp2_with fail
    refine (unhide CO _).mono ?_
    rintro e w4 ⟨rfl, hb⟩
    have HG4 := hide (grownBy_below (unhide HG3) hb)
    have HR4 := hide (Rd.below (unhide HR3) hb)
    clear hb
    go_wp2_with fail
    refine (unhide CF _ (unhide HR4)).mono ?_
    rintro e w5 ⟨rfl, rfl⟩
    go_wp2
    exact ⟨rfl, unhide HG4, rfl, _, unhide HR4⟩
  · rw [if_neg (by simp)]
    go_enter Tryz.func33, Tryz.ntmps33
    go_wp2_with fail
    refine (unhide CB' _ (unhide HR0)).mono ?_
    rintro e w1 ⟨hg, rfl, hr⟩
    have HG := hide (grownBy_trans (unhide G0) hg)
    have HR := hide (show Rd w1 g s 1 bg from hr)
    have V1 := hide ((unhide V0).gby hg hBg)
    clear hg hr
    go_wp2_with fail
    refine (unhide CN' _ (unhide HR)).mono ?_
    rintro e w2 ⟨hg, rfl, hr⟩
    have HG2 := hide (grownBy_trans (unhide HG) hg)
    have HR2 := hide hr
    have V2 := hide ((unhide V1).gby hg hBg)
    clear hg hr
    go_wp2_with fail
    refine (unhide CT' _ (unhide HR2)).mono ?_
    rintro e w3 ⟨hg, rfl, hr⟩
    have HG3 := hide (grownBy_below (grownBy_trans (unhide HG2) hg) (below_al (Below.refl _ _) (.cells #[.int .i64 b, .int .i64 n, .string (bs q)] 25)))
    have HR3 := hide (Rd.al hr (.cells #[.int .i64 b, .int .i64 n, .string (bs q)] 25))
    have V3 := hide (((unhide V2).gby hg hBg).al (.cells #[.int .i64 b, .int .i64 n, .string (bs q)] 25))
    have U3 := hide (blk_new w3 #[.int .i64 b, .int .i64 n, .string (bs q)] 25)
    clear hg hr
    go_wp2_with fail
    refine (unhide CO _).mono ?_
    rintro e w4 ⟨rfl, hb⟩
    have HG4 := hide (grownBy_below (unhide HG3) hb)
    have HR4 := hide (Rd.below (unhide HR3) hb)
    have V4 := hide ((unhide V3).below hb)
    have U4 := hide ((unhide U3).below hb)
    have u0 := (unhide U4).at 0
    have u1 := (unhide U4).at 1
    have u2 := (unhide U4).at 2
    have v0 := (unhide V4).at 0
    have v1 := (unhide V4).at 1
    have v2 := (unhide V4).at 2
    have f0 := (unhide V4).f 0
    have f1 := (unhide V4).f 1
    have f2 := (unhide V4).f 2
    simp at u0 u1 u2 v0 v1 v2
    clear hb
    have hV := ((unhide V4).set 0 (.int .i64 b)).set 1 (.int .i64 n)
    have hV2 := hV.set 2 (.string (bs q))
    simp at hV2
    have x0 := hV2.at 0
    have x1 := hV2.at 1
    have x2 := hV2.at 2
    simp at x0 x1 x2
    have HF := hide (show Rd _ g s k bg from Rd.other (Rd.other (Rd.other (unhide HR4) w.heap.size 0 (.int .i64 b) (Ne.symm hBg)) w.heap.size 1 (.int .i64 n) (Ne.symm hBg)) w.heap.size 2 (.string (bs q)) (Ne.symm hBg))
    clear hV hV2
    go_wp2
    refine bodyPost_ret (v := rcv ⟨b, n, q⟩) (by simp [results, Tryz.results33, go_sem, x0, x1, x2]) rfl ⟨?_, rfl, unhide HF⟩
    exact grownBy_new (grownBy_new (grownBy_new (unhide HG4) _ _ _ (Nat.le_refl _)) _ _ _ (Nat.le_refl _)) _ _ _ (Nat.le_refl _)
end Go.Proofs.YtobpjegfgegkcaaGreatDoor

/-
  A deferred closure's region that recovers: one operation at a time.
-/
namespace Go.Proofs.YtobpjegfgegkcaaGreatDoor
open Go.RowKit
set_option linter.unusedVariables false
section
variable {P : Program} {ops : Array Oper} {Q : Exit → Act → List Frame → World → Prop} {a : Act} {cs cs' : List Frame} {w w' : World} {i : Nat} {rest : List Nat} {o : Oper} {v : Value} {d : Option Tmp}
theorem opsS_val (ho : ops[i]? = some o) (hd : o.dst = d) (hw : Region.wanted o (yielded ops a.tmps) = true) (hr : (execOp a.eval o).run P w = .ok (.value v) w') (h : wpOpsS P ops Q rest (a.put d v) cs w') : wpOpsS P ops Q (i :: rest) a cs w := by
  subst hd
  simp only [wpOpsS, ho, hw, if_true, hr, Oper.upon]
  exact h
theorem opsS_skip (ho : ops[i]? = some o) (hd : o.dst = d) (hw : Region.wanted o (yielded ops a.tmps) = true) (hr : (execOp a.eval o).run P w = .ok .skip w') (h : wpOpsS P ops Q rest (a.put d undef) cs w') : wpOpsS P ops Q (i :: rest) a cs w := by
  subst hd
  simp only [wpOpsS, ho, hw, if_true, hr, Oper.upon]
  exact h
theorem opsS_rec (ho : ops[i]? = some o) (hd : o.dst = d) (hw : Region.wanted o (yielded ops a.tmps) = true) (hr : (execOp a.eval o).run P w = .ok .recover w') (hq : recoverD cs = some (v, cs')) (h : wpOpsS P ops Q rest (a.put d v) cs' w') : wpOpsS P ops Q (i :: rest) a cs w := by
  subst hd
  simp only [wpOpsS, ho, hw, if_true, hr, hq]
  exact h
theorem opsS_rec0 (ho : ops[i]? = some o) (hd : o.dst = d) (hw : Region.wanted o (yielded ops a.tmps) = true) (hr : (execOp a.eval o).run P w = .ok .recover w') (hq : recoverD cs = none) (h : wpOpsS P ops Q rest (a.put d .nilIface) cs w') : wpOpsS P ops Q (i :: rest) a cs w := by
  subst hd
  simp only [wpOpsS, ho, hw, if_true, hr, hq]
  exact h
theorem opsS_call {f : FuncId} {args : Array Value} {R : Ending → World → Prop} (ho : ops[i]? = some o) (hd : o.dst = d) (hw : Region.wanted o (yielded ops a.tmps) = true) (hr : (execOp a.eval o).run P w = .ok (.enter f args) w') (hc : Calls P f args w' R)
    (h : ∀ e w'', R e w'' → ∃ v, e = .returned v ∧ wpOpsS P ops Q rest (a.put d v) cs w'') : wpOpsS P ops Q (i :: rest) a cs w := by
  subst hd
  simp only [wpOpsS, ho, hw, if_true, hr, Oper.upon]
  refine hc.mono (fun e w'' hR => ?_)
  obtain ⟨v, rfl, hh⟩ := h e w'' hR
  exact hh
theorem opsS_nil (h : Q .normal a cs w) : wpOpsS P ops Q [] a cs w := h
end
end Go.Proofs.YtobpjegfgegkcaaGreatDoor

/-
  The closure that GetRec defers: it recovers what the reader panics with; walks over the dump.
-/
namespace Go.Proofs.YtobpjegfgegkcaaGreatDoor
open Go.RowKit
set_option linter.unusedVariables false
set_option linter.unusedSimpArgs false
set_option maxRecDepth 100000 in
set_option maxHeartbeats 1000000 in
theorem failure_yes (bg : Int) (w : World) :
    Calls Tryz.prog 22 #[.iface 43 (.agg #[.int .i64 bg])] w fun e w' => e = .returned (.tuple #[.agg #[.int .i64 bg], .bool true]) ∧ Below w.heap.size w w' := by
  have hta : ∀ (xt : TypeId) wx, (Instr.typeAssert (.iface 43 (.agg #[.int .i64 bg])) xt 43 true).run Tryz.prog wx = .ok (.tuple #[.agg #[.int .i64 bg], .bool true]) wx := fun xt wx => by
    simp [Instr.typeAssert, go_sem]
  go_enter Tryz.func22, Tryz.ntmps22
  go_wp2
  refine bodyPost_ret (v := .tuple #[.agg #[.int .i64 bg], .bool true]) (by simp [results, Tryz.results22, go_sem]) rfl ⟨rfl, ?_⟩
  repeat (first | exact Below.refl _ _ | refine below_al ?_ _ | refine Below.drew ?_ | refine below_sc ?_ _ _ _ (by omega))
set_option maxRecDepth 100000 in
set_option maxHeartbeats 1000000 in
theorem failure_no (w : World) :
    Calls Tryz.prog 22 #[.nilIface] w fun e w' => e = .returned (.tuple #[.agg #[.int .i64 0], .bool false]) ∧ Below w.heap.size w w' := by
  have hta : ∀ (xt : TypeId) wx, (Instr.typeAssert .nilIface xt 43 true).run Tryz.prog wx = .ok (.tuple #[.agg #[.int .i64 0], .bool false]) wx := fun xt wx => by
    simp [Instr.typeAssert, go_sem]
  go_enter Tryz.func22, Tryz.ntmps22
  go_wp2
  refine bodyPost_ret (v := .tuple #[.agg #[.int .i64 0], .bool false]) (by simp [results, Tryz.results22, go_sem]) rfl ⟨rfl, ?_⟩
  repeat (first | exact Below.refl _ _ | refine below_al ?_ _ | refine Below.drew ?_ | refine below_sc ?_ _ _ _ (by omega))

set_option maxRecDepth 100000 in
set_option maxHeartbeats 1500000 in
theorem catch_panicking (g : Nat) (r : Rc) (b : Bool) (bg : Int) (older : List PanicEntry) (w : World) (h1 : Blk w g #[.int .i64 r.kind, .int .i64 r.app, .string (bs r.queue)] 25) (h2 : Blk w (g + 1) #[.bool b] 4) :
    CallsD Tryz.prog 32 #[.pointer (some ⟨g, 0, none⟩), .pointer (some ⟨g + 1, 0, none⟩)] (.panicking (perr bg :: older)) w fun e u' w' =>
      e = .returned (.tuple #[]) ∧ u' = .panicking ({ perr bg with recovered := true } :: older) ∧ Blk w' g #[.int .i64 0, .int .i64 0, .string ⟨#[]⟩] 25 ∧ Blk w' (g + 1) #[.bool false] 4 ∧ Below g w w' := by
  have H1 := hide h1
  have H2 := hide h2
  clear h1 h2
  refine callsD_of_wpS Tryz.func32 rfl fun c₀ cs hu => ?_
  apply wpS_seq
  apply wpS_region
  rw [Tryz.ntmps32, show ∀ x y : Value, #[x, y] ++ Array.replicate (11 - #[x, y].size) undef = #[x, y, undef, undef, undef, undef, undef, undef, undef, undef, undef] from fun _ _ => rfl]
  simp only [List.size_toArray, List.length_cons, List.length_nil, Nat.zero_add, Nat.reduceAdd, List.range, List.range.loop]
  refine opsS_rec (w' := w) (d := some 5) rfl rfl rfl (by simp [go_sem]) (v := .iface 43 (.agg #[.int .i64 bg])) (cs' := { c₀ with mode := .panicking ({ perr bg with recovered := true } :: older) } :: cs) (by simp [recoverD, hu]) ?_
  simp only [Act.put, List.setIfInBounds_toArray, List.set_cons_zero, List.set_cons_succ]
  refine opsS_call (w' := w) (f := 22) (args := #[.iface 43 (.agg #[.int .i64 bg])]) (d := some 6) rfl rfl rfl (by simp [go_sem]) (failure_yes bg w) ?_
  rintro e w1 ⟨rfl, hb⟩
  refine ⟨_, rfl, ?_⟩
  have HB := hide hb
  have G1 := hide ((unhide H1).below hb)
  have G2 := hide ((unhide H2).below hb)
  clear hb
  simp only [Act.put, List.setIfInBounds_toArray, List.set_cons_zero, List.set_cons_succ]
  refine opsS_val (v := .tuple #[.agg #[.int .i64 bg], .bool true]) (w' := w1) (d := some 4) rfl rfl rfl (by simp [go_sem]) ?_
  simp only [Act.put, List.setIfInBounds_toArray, List.set_cons_zero, List.set_cons_succ]
  refine opsS_val (v := .agg #[.int .i64 bg]) (w' := w1) (d := some 7) rfl rfl rfl (by simp [go_sem]) ?_
  simp only [Act.put, List.setIfInBounds_toArray, List.set_cons_zero, List.set_cons_succ]
  refine opsS_val (v := .bool true) (w' := w1) (d := some 8) rfl rfl rfl (by simp [go_sem]) ?_
  simp only [Act.put, List.setIfInBounds_toArray, List.set_cons_zero, List.set_cons_succ]
  refine opsS_val (v := .pointer (some ⟨w1.heap.size, 0, none⟩)) (w' := w1.alloc (.cells #[.int .i64 0] 43)) (d := some 2) rfl rfl rfl (by simp [go_sem]) ?_
  simp only [Act.put, List.setIfInBounds_toArray, List.set_cons_zero, List.set_cons_succ]
  refine opsS_skip (w' := w1.alloc (.cells #[.int .i64 bg] 43)) (d := none) rfl rfl rfl (by simp [go_sem]) ?_
  simp only [Act.put, List.setIfInBounds_toArray, List.set_cons_zero, List.set_cons_succ]
  refine opsS_val (v := .bool true) (w' := w1.alloc (.cells #[.int .i64 bg] 43)) (d := some 3) rfl rfl rfl (by simp [go_sem]) ?_
  simp only [Act.put, List.setIfInBounds_toArray, List.set_cons_zero, List.set_cons_succ]
  refine opsS_nil ?_
  refine wpS_of_wp ?_
  have k0 := ((unhide G1).al (.cells #[.int .i64 bg] 43)).at 0
  have k1 := ((unhide G1).al (.cells #[.int .i64 bg] 43)).at 1
  have k2 := ((unhide G1).al (.cells #[.int .i64 bg] 43)).at 2
  have f0 := ((unhide G1).al (.cells #[.int .i64 bg] 43)).f 0
  have f1 := ((unhide G1).al (.cells #[.int .i64 bg] 43)).f 1
  have f2 := ((unhide G1).al (.cells #[.int .i64 bg] 43)).f 2
  have p0 := ((unhide G2).al (.cells #[.int .i64 bg] 43)).at 0
  have q0 := ((unhide G2).al (.cells #[.int .i64 bg] 43)).f 0
  have W1 := hide ((unhide G1).al (.cells #[.int .i64 bg] 43))
  have W2 := hide ((unhide G2).al (.cells #[.int .i64 bg] 43))
  have HBL := hide (show Below g w (w1.alloc (.cells #[.int .i64 bg] 43)) from (below_al (unhide HB) _).mono (Nat.le_of_lt (unhide H1).lt))
  simp only [List.getElem?_toArray, List.getElem?_cons_succ, List.getElem?_cons_zero] at k0 k1 k2 p0
  obtain ⟨W, hW⟩ : ∃ W, w1.alloc (.cells #[.int .i64 bg] 43) = W := ⟨_, rfl⟩
  rw [hW] at k0 k1 k2 f0 f1 f2 p0 q0 W1 W2 HBL ⊢
  clear hW HB G1 G2 H1 H2
  go_wp2
  refine ⟨rfl, _, rfl, .tuple #[], by simp [results, Tryz.results32, go_sem], rfl, rfl, ?_, ?_, ?_⟩
  · have := (((unhide W1).set 0 (.int .i64 0)).set 1 (.int .i64 0)).set 2 (.string ⟨#[]⟩)
    simp at this
    exact this.other (g + 1) 0 (.bool false) (by omega)
  · have := ((((unhide W2).other g 0 (.int .i64 0) (by omega)).other g 1 (.int .i64 0) (by omega)).other g 2 (.string ⟨#[]⟩) (by omega)).set 0 (.bool false)
    simpa using this
  · exact ((((unhide HBL).setCell (Nat.le_refl _) _).setCell (Nat.le_refl _) _).setCell (Nat.le_refl _) _).setCell (Nat.le_succ _) _

set_option maxRecDepth 100000 in
set_option maxHeartbeats 1500000 in
theorem catch_idle (g : Nat) (r : Rc) (b : Bool) (w : World) (h1 : Blk w g #[.int .i64 r.kind, .int .i64 r.app, .string (bs r.queue)] 25) (h2 : Blk w (g + 1) #[.bool b] 4) :
    CallsD Tryz.prog 32 #[.pointer (some ⟨g, 0, none⟩), .pointer (some ⟨g + 1, 0, none⟩)] .returning w fun e u' w' =>
      e = .returned (.tuple #[]) ∧ u' = .returning ∧ Below w.heap.size w w' := by
  have H1 := hide h1
  have H2 := hide h2
  clear h1 h2
  refine callsD_of_wpS Tryz.func32 rfl fun c₀ cs hu => ?_
  apply wpS_seq
  apply wpS_region
  rw [Tryz.ntmps32, show ∀ x y : Value, #[x, y] ++ Array.replicate (11 - #[x, y].size) undef = #[x, y, undef, undef, undef, undef, undef, undef, undef, undef, undef] from fun _ _ => rfl]
  simp only [List.size_toArray, List.length_cons, List.length_nil, Nat.zero_add, Nat.reduceAdd, List.range, List.range.loop]
  refine opsS_rec0 (w' := w) (d := some 5) rfl rfl rfl (by simp [go_sem]) (by simp [recoverD, hu]) ?_
  simp only [Act.put, List.setIfInBounds_toArray, List.set_cons_zero, List.set_cons_succ]
  refine opsS_call (w' := w) (f := 22) (args := #[.nilIface]) (d := some 6) rfl rfl rfl (by simp [go_sem]) (failure_no w) ?_
  rintro e w1 ⟨rfl, hb⟩
  refine ⟨_, rfl, ?_⟩
  have HB := hide hb
  have G1 := hide ((unhide H1).below hb)
  have G2 := hide ((unhide H2).below hb)
  clear hb
  simp only [Act.put, List.setIfInBounds_toArray, List.set_cons_zero, List.set_cons_succ]
  refine opsS_val (v := .tuple #[.agg #[.int .i64 0], .bool false]) (w' := w1) (d := some 4) rfl rfl rfl (by simp [go_sem]) ?_
  simp only [Act.put, List.setIfInBounds_toArray, List.set_cons_zero, List.set_cons_succ]
  refine opsS_val (v := .agg #[.int .i64 0]) (w' := w1) (d := some 7) rfl rfl rfl (by simp [go_sem]) ?_
  simp only [Act.put, List.setIfInBounds_toArray, List.set_cons_zero, List.set_cons_succ]
  refine opsS_val (v := .bool false) (w' := w1) (d := some 8) rfl rfl rfl (by simp [go_sem]) ?_
  simp only [Act.put, List.setIfInBounds_toArray, List.set_cons_zero, List.set_cons_succ]
  refine opsS_val (v := .pointer (some ⟨w1.heap.size, 0, none⟩)) (w' := w1.alloc (.cells #[.int .i64 0] 43)) (d := some 2) rfl rfl rfl (by simp [go_sem]) ?_
  simp only [Act.put, List.setIfInBounds_toArray, List.set_cons_zero, List.set_cons_succ]
  refine opsS_skip (w' := w1.alloc (.cells #[.int .i64 0] 43)) (d := none) rfl rfl rfl (by simp [go_sem]) ?_
  simp only [Act.put, List.setIfInBounds_toArray, List.set_cons_zero, List.set_cons_succ]
  refine opsS_val (v := .bool false) (w' := w1.alloc (.cells #[.int .i64 0] 43)) (d := some 3) rfl rfl rfl (by simp [go_sem]) ?_
  simp only [Act.put, List.setIfInBounds_toArray, List.set_cons_zero, List.set_cons_succ]
  refine opsS_nil ?_
  refine wpS_of_wp ?_
  have HBL := hide (below_al (unhide HB) (.cells #[.int .i64 0] 43))
  go_wp2
  refine ⟨rfl, .returning, ?_, .tuple #[], by simp [results, Tryz.results32, go_sem], rfl, rfl, unhide HBL⟩
  cases c₀
  simp_all
end Go.Proofs.YtobpjegfgegkcaaGreatDoor

/-
  A plain region, one operation at a time: what each gives is told from outside.
-/
namespace Go.Proofs.YtobpjegfgegkcaaGreatDoor
open Go.RowKit
set_option linter.unusedVariables false
section
variable {P : Program} {ops : Array Oper} {Q : Exit → Act → World → Prop} {a : Act} {w w' : World} {rest : List Oper} {o : Oper} {v : Value} {d : Option Tmp}
theorem wpList_val (hg : o.guard = none) (hd : o.dst = d) (hr : (execOp a.eval o).run P w = .ok (.value v) w') (h : wpList P ops Q rest (a.put d v) w') : wpList P ops Q (o :: rest) a w :=
  wpList_plain hg fun K hK => by
    subst hd
    unfold Oper.wp
    rw [hr]
    exact hK _ _ h
theorem wpList_same (hg : o.guard = none) (hd : o.dst = d) (hr : (execOp a.eval o).run P w = .ok (.value v) w) (h : wpList P ops Q rest (a.put d v) w) : wpList P ops Q (o :: rest) a w := wpList_val hg hd hr h
theorem wpList_none (hg : o.guard = none) (hd : o.dst = d) (hr : (execOp a.eval o).run P w = .ok .skip w') (h : wpList P ops Q rest (a.put d undef) w') : wpList P ops Q (o :: rest) a w :=
  wpList_plain hg fun K hK => by
    subst hd
    unfold Oper.wp
    rw [hr]
    exact hK _ _ h
theorem run_v {s : Sem Value} (h : s.run P w = .ok v w') : (do pure (Next.value (← s)) : Sem Next).run P w = .ok (.value v) w' := by rw [Sem.run_bind, h]; rfl
theorem run_u {s : Sem Unit} (h : s.run P w = .ok () w') : (do s; pure Next.skip : Sem Next).run P w = .ok .skip w' := by rw [Sem.run_bind, h]; rfl
end
end Go.Proofs.YtobpjegfgegkcaaGreatDoor

/-
  A new reader: what building, making and storing its variable does; walks over the dump.
-/
namespace Go.Proofs.YtobpjegfgegkcaaGreatDoor
open Go.RowKit
set_option linter.unusedVariables false
/-- the cells of a reader that stands at the beginning of s -/
def rdA (s : ByteArray) : Array Value := #[.string s, .int .i64 0, .int .i64 0, .int .u32 0, .int .i32 0, .int .u32 0, .int .u32 0, .int .u32 0, .int .u32 0, .int .u32 0, .int .u32 0, .int .u32 0, .int .u32 0, .int .u32 0, .int .u32 0, .int .u32 0, .int .u32 0, .int .u32 0, .int .u32 0, .int .u32 0, .int .u32 0, .int .u32 0]
theorem rdA_info : (Tryz.prog.info? 62).map (fun i => (i.zero, i.size)) = some (some (.agg (rdA ⟨#[]⟩)), 22) := by kernel_rfl
theorem rdA_one (s : ByteArray) : (rdA s).all (·.oneCell') = true := by kernel_rfl
theorem rd_alloc (w : World) (v : Value) : (Instr.alloc 62 true v).run Tryz.prog w = .ok (.pointer (some ⟨w.heap.size, 0, none⟩)) (w.alloc (.cells (rdA ⟨#[]⟩) 62)) := by
  have h := (zero_of_info rdA_info).1
  unfold Instr.alloc
  rw [Sem.run_bind, h]
  rfl
theorem rd_store (s : ByteArray) (w : World) : (Instr.storeAt 62 (.pointer (some ⟨w.heap.size, 0, none⟩)) (.agg (rdA s))).run Tryz.prog (w.alloc (.cells (rdA ⟨#[]⟩) 62)) = .ok () (w.alloc (.cells (rdA s) 62)) :=
  run_storeAt_new w 62 (rdA ⟨#[]⟩) (rdA s) (by rw [(zero_of_info rdA_info).2]; rfl) rfl (rdA_one s)
theorem rd_build (s : ByteArray) (w : World) : (Instr.build 62 #[(0, .string s)]).run Tryz.prog w = .ok (.agg (rdA s)) w := by kernel_rfl
theorem Rd.newA (w : World) (s : ByteArray) : Rd (w.alloc (.cells (rdA s) 62)) w.heap.size s 0 0 := Rd.new w s
end Go.Proofs.YtobpjegfgegkcaaGreatDoor

/-
  A cell written with what stands there: the same world.
-/
namespace Go.Proofs.YtobpjegfgegkcaaGreatDoor
open Go.RowKit
set_option linter.unusedVariables false
theorem set_idemS {arr : Array Value} {j : Nat} {x : Value} (h : arr[j]? = some x) : arr.setIfInBounds j x = arr := by
  apply Array.ext
  · simp
  · intro i h1 h2
    rw [Array.getElem_setIfInBounds]
    split
    · rename_i e
      subst e
      rw [Array.getElem?_eq_getElem h2] at h
      exact (Option.some.inj h).symm
    · rfl
/-- a cell that is written with what stands there: nothing turns -/
theorem sc_same {w : World} {g j : Nat} {x : Value} (h : w.cell? ⟨g, j, none⟩ = some x) : w.setCell ⟨g, j, none⟩ x = w := by
  cases ho : w.heap[g]? with
  | none => simp [World.cell?, ho] at h
  | some o =>
    cases o with
    | cells cur t fr =>
      have hx : cur[j]? = some x := by simpa [World.cell?, ho] using h
      rw [setCell_eq_setRow w g j cur t fr x ho, set_idemS hx]
      exact setRow_self w g cur t fr ho
    | _ => simp [World.cell?, ho] at h
end Go.Proofs.YtobpjegfgegkcaaGreatDoor

/-
  The record of bytes, by the program: GetRec, which recovers what its reader panics with; a walk over the dump.
-/
namespace Go.Proofs.YtobpjegfgegkcaaGreatDoor
open Go.RowKit
set_option linter.unusedVariables false
set_option linter.unusedSimpArgs false
def gotOf (n : Nat) : Option (Rc × Int) → Option Rc
  | none => none
  | some (r, k) => if (n : Int) ≤ k then some r else none
/-- what GetRec answers -/
def gotRec (l : List UInt8) : Option Rc :=
  gotOf l.length (readRec l)
def recAns (o : Option Rc) : Value := match o with | some r => .tuple #[rcv r, .bool true] | none => .tuple #[rcv ⟨0, 0, []⟩, .bool false]
theorem bs_nil : bs [] = (⟨#[]⟩ : ByteArray) := rfl

set_option maxRecDepth 100000 in
set_option maxHeartbeats 1500000 in
theorem implGetRec_any (s : ByteArray) (w : World) (hs : s.size ≤ 1048576) :
    Calls Tryz.prog 10 #[.string s] w fun e w' => e = .returned (recAns (gotRec s.data.toList)) ∧ Below w.heap.size w w' := by
  have hmf : ∀ (fn : Fn) (first cap : Array Value) (w : World), (Instr.makeFunc fn first cap).run Tryz.prog w = .ok (.func fn first cap) w := fun _ _ _ _ => rfl
  have CR := hide (fun wx (hr : Rd wx (w.heap.size + 2) s 0 0) => nextRec_any (w.heap.size + 2) s 0 wx hr hs)
  have CD := hide (fun k wx (hr : Rd wx (w.heap.size + 2) s k 0) => done_any (w.heap.size + 2) s k 0 wx hr hs)
  have CF := hide (fun k wx (hr : Rd wx (w.heap.size + 2) s k 0) => fail_any (w.heap.size + 2) s k 0 wx hr)
  have V0 := hide (((blk_new w #[.int .i64 0, .int .i64 0, .string ⟨#[]⟩] 25).al (.cells #[.bool false] 4)).al (.cells (rdA s) 62))
  have U0 := hide ((blk_new (w.alloc (.cells #[.int .i64 0, .int .i64 0, .string ⟨#[]⟩] 25)) #[.bool false] 4).al (.cells (rdA s) 62))
  have R0 := hide (Rd.newA ((w.alloc (.cells #[.int .i64 0, .int .i64 0, .string ⟨#[]⟩] 25)).alloc (.cells #[.bool false] 4)) s)
  have HB0 := hide (below_al (below_al (below_al (Below.refl _ w) (.cells #[.int .i64 0, .int .i64 0, .string ⟨#[]⟩] 25)) (.cells #[.bool false] 4)) (.cells (rdA s) 62))
  simp only [al_size] at U0 R0
  have HL := hide (len_eq s)
  obtain ⟨x, hx⟩ : ∃ x, readRec s.data.toList = x := ⟨_, rfl⟩
  have HG : gotRec s.data.toList = gotOf s.data.toList.length x := by unfold gotRec; rw [hx]
  rw [HG]
  rw [hx] at CR
  clear HG hx
  cases x with
  | none =>
    simp only [Option.map_none] at CR
    simp only [gotOf]
    go_enter_defers Tryz.func10, Tryz.ntmps10
    go_upto_region 2 with fail
    refine wp_region_lit ?_
    refine wpList_val (v := .string s) (d := some 6) rfl rfl rfl ?_
    simp only [Act.put, List.setIfInBounds_toArray, List.set_cons_zero, List.set_cons_succ]
    refine wpList_same (v := .agg (rdA s)) (d := some 7) rfl rfl (by refine run_v ?_; simp only [List.map_toArray, List.map_cons, List.map_nil]; exact rd_build s _) ?_
    simp only [Act.put, List.setIfInBounds_toArray, List.set_cons_zero, List.set_cons_succ]
    refine wpList_val (d := some 4) rfl rfl (run_v (rd_alloc _ _)) ?_
    simp only [Act.put, List.setIfInBounds_toArray, List.set_cons_zero, List.set_cons_succ]
    refine wpList_none (d := none) rfl rfl (run_u (rd_store s _)) ?_
    simp only [Act.put]
    refine wpList_nil ?_
    go_wp2_with fail
    refine (unhide CR _ (unhide R0)).mono ?_
    rintro e w1 ⟨hg, rfl, hr⟩
    have V1 := hide ((unhide V0).gby hg (by omega))
    have U1 := hide ((unhide U0).gby hg (by omega))
    have HB1 := hide ((unhide HB0).grown hg (unhide HB0).size (fun k hk => by cases hk; omega))
    clear hg hr
    go_wp2
    refine leaves_cons (f := 32) (args := #[.pointer (some ⟨w.heap.size, 0, none⟩), .pointer (some ⟨w.heap.size + 1, 0, none⟩)]) (by simp) (by simp [go_sem]) ?_
    refine (catch_panicking w.heap.size ⟨0, 0, []⟩ false 0 [] w1 (unhide V1) (unhide U1)).mono ?_
    rintro e u' w2 ⟨rfl, rfl, h1, h2, hb⟩
    have HB2 := hide (Below.trans (unhide HB1) hb)
    have k0 := h1.at 0
    have k1 := h1.at 1
    have k2 := h1.at 2
    have k3 := h2.at 0
    simp at k0 k1 k2 k3
    clear hb h1 h2
    refine ⟨recAns none, ?_, rfl, unhide HB2⟩
    simp [results, Tryz.results10, go_sem, k0, k1, k2, k3, recAns, bs_nil]
  | some y =>
    obtain ⟨r, k⟩ := y
    simp only [Option.map_some] at CR
    simp only [gotOf]
    obtain ⟨rk, ra, rq⟩ := r
    by_cases hk : (s.data.toList.length : Int) ≤ k
    · rw [if_pos hk]
      have hd : decide ((s.size : Int) ≤ k) = true := by rw [unhide HL] at hk; simpa using hk
      have CD' := hide (fun wx hr => by have := unhide CD k wx hr; rw [hd] at this; exact this)
      clear hd CD hk
      go_enter_defers Tryz.func10, Tryz.ntmps10
      go_upto_region 2 with fail
      refine wp_region_lit ?_
      refine wpList_val (v := .string s) (d := some 6) rfl rfl rfl ?_
      simp only [Act.put, List.setIfInBounds_toArray, List.set_cons_zero, List.set_cons_succ]
      refine wpList_same (v := .agg (rdA s)) (d := some 7) rfl rfl (by refine run_v ?_; simp only [List.map_toArray, List.map_cons, List.map_nil]; exact rd_build s _) ?_
      simp only [Act.put, List.setIfInBounds_toArray, List.set_cons_zero, List.set_cons_succ]
      refine wpList_val (d := some 4) rfl rfl (run_v (rd_alloc _ _)) ?_
      simp only [Act.put, List.setIfInBounds_toArray, List.set_cons_zero, List.set_cons_succ]
      refine wpList_none (d := none) rfl rfl (run_u (rd_store s _)) ?_
      simp only [Act.put]
      refine wpList_nil ?_
      go_wp2_with fail
      refine (unhide CR _ (unhide R0)).mono ?_
      rintro e w1 ⟨hg, rfl, hr⟩
      have V1 := hide ((unhide V0).gby hg (by omega))
      have U1 := hide ((unhide U0).gby hg (by omega))
      have R1 := hide hr
      have HB1 := hide ((unhide HB0).grown hg (unhide HB0).size (fun k hk => by cases hk; omega))
      have v0 := (unhide V1).at 0
      have v1 := (unhide V1).at 1
      have v2 := (unhide V1).at 2
      have f0 := (unhide V1).f 0
      have f1 := (unhide V1).f 1
      have f2 := (unhide V1).f 2
      simp at v0 v1 v2
      have V2 := hide ((((unhide V1).set 0 (.int .i64 rk)).set 1 (.int .i64 ra)).set 2 (.string (bs rq)))
      have U2 := hide ((((unhide U1).other w.heap.size 0 (.int .i64 rk) (by omega)).other w.heap.size 1 (.int .i64 ra) (by omega)).other w.heap.size 2 (.string (bs rq)) (by omega))
      have R2 := hide (show Rd _ (w.heap.size + 2) s k 0 from Rd.other (Rd.other (Rd.other (unhide R1) w.heap.size 0 (.int .i64 rk) (by omega)) w.heap.size 1 (.int .i64 ra) (by omega)) w.heap.size 2 (.string (bs rq)) (by omega))
      have HB2 := hide (below_sc (below_sc (below_sc (unhide HB1) w.heap.size 0 (.int .i64 rk) (Nat.le_refl _)) w.heap.size 1 (.int .i64 ra) (Nat.le_refl _)) w.heap.size 2 (.string (bs rq)) (Nat.le_refl _))
      clear hg hr
      go_wp2_with fail
      refine (unhide CD' _ (unhide R2)).mono ?_
      rintro e w2 ⟨rfl, hb⟩
      have HB3 := hide (below_on (unhide HB2) hb)
      have V3 := hide ((unhide V2).below hb)
      have U3 := hide ((unhide U2).below hb)
      have y0 := (unhide V3).at 0
      have y1 := (unhide V3).at 1
      have y2 := (unhide V3).at 2
      have z0 := (unhide V3).f 0
      have z1 := (unhide V3).f 1
      have z2 := (unhide V3).f 2
      have y3 := (unhide U3).at 0
      have z3 := (unhide U3).f 0
      simp at y0 y1 y2 y3
      clear hb
      have sc0 := sc_same y0
      have sc1 := sc_same y1
      have sc2 := sc_same y2
      go_wp2
      have VF := hide (show Blk (w2.setCell ⟨w.heap.size + 1, 0, none⟩ (.bool true)) w.heap.size #[.int .i64 rk, .int .i64 ra, .string (bs rq)] 25 from Blk.other (by have := unhide V3; simpa using this) _ _ _ (by omega))
      have UF := hide (show Blk (w2.setCell ⟨w.heap.size + 1, 0, none⟩ (.bool true)) (w.heap.size + 1) #[.bool true] 4 from by have := (unhide U3).set 0 (.bool true); simpa using this)
      have HBF := hide (below_sc (unhide HB3) (w.heap.size + 1) 0 (.bool true) (by omega))
      clear V0 U0 R0 HB0 V1 U1 R1 HB1 V2 U2 R2 HB2 V3 U3 HB3
      refine leaves_cons (f := 32) (args := #[.pointer (some ⟨w.heap.size, 0, none⟩), .pointer (some ⟨w.heap.size + 1, 0, none⟩)]) (by simp) (by simp [go_sem]) ?_
      refine (catch_idle w.heap.size ⟨rk, ra, rq⟩ true _ (unhide VF) (unhide UF)).mono ?_
      rintro e u' w3 ⟨rfl, rfl, hb⟩
      have HB4 := hide (below_on (unhide HBF) hb)
      have h1 := (unhide VF).below hb
      have h2 := (unhide UF).below hb
      have k0 := h1.at 0
      have k1 := h1.at 1
      have k2 := h1.at 2
      have k3 := h2.at 0
      simp at k0 k1 k2 k3
      clear hb h1 h2
      refine ⟨recAns (some ⟨rk, ra, rq⟩), ?_, rfl, unhide HB4⟩
      simp [results, Tryz.results10, go_sem, k0, k1, k2, k3, recAns]
    · rw [if_neg hk]
      have hd : decide ((s.size : Int) ≤ k) = false := by rw [unhide HL] at hk; simpa using hk
      have CD' := hide (fun wx hr => by have := unhide CD k wx hr; rw [hd] at this; exact this)
      clear hd CD hk
      go_enter_defers Tryz.func10, Tryz.ntmps10
      go_upto_region 2 with fail
      refine wp_region_lit ?_
      refine wpList_val (v := .string s) (d := some 6) rfl rfl rfl ?_
      simp only [Act.put, List.setIfInBounds_toArray, List.set_cons_zero, List.set_cons_succ]
      refine wpList_same (v := .agg (rdA s)) (d := some 7) rfl rfl (by refine run_v ?_; simp only [List.map_toArray, List.map_cons, List.map_nil]; exact rd_build s _) ?_
      simp only [Act.put, List.setIfInBounds_toArray, List.set_cons_zero, List.set_cons_succ]
      refine wpList_val (d := some 4) rfl rfl (run_v (rd_alloc _ _)) ?_
      simp only [Act.put, List.setIfInBounds_toArray, List.set_cons_zero, List.set_cons_succ]
      refine wpList_none (d := none) rfl rfl (run_u (rd_store s _)) ?_
      simp only [Act.put]
      refine wpList_nil ?_
      go_wp2_with fail
      refine (unhide CR _ (unhide R0)).mono ?_
      rintro e w1 ⟨hg, rfl, hr⟩
      have V1 := hide ((unhide V0).gby hg (by omega))
      have U1 := hide ((unhide U0).gby hg (by omega))
      have R1 := hide hr
      have HB1 := hide ((unhide HB0).grown hg (unhide HB0).size (fun k hk => by cases hk; omega))
      have v0 := (unhide V1).at 0
      have v1 := (unhide V1).at 1
      have v2 := (unhide V1).at 2
      have f0 := (unhide V1).f 0
      have f1 := (unhide V1).f 1
      have f2 := (unhide V1).f 2
      simp at v0 v1 v2
      have V2 := hide ((((unhide V1).set 0 (.int .i64 rk)).set 1 (.int .i64 ra)).set 2 (.string (bs rq)))
      have U2 := hide ((((unhide U1).other w.heap.size 0 (.int .i64 rk) (by omega)).other w.heap.size 1 (.int .i64 ra) (by omega)).other w.heap.size 2 (.string (bs rq)) (by omega))
      have R2 := hide (show Rd _ (w.heap.size + 2) s k 0 from Rd.other (Rd.other (Rd.other (unhide R1) w.heap.size 0 (.int .i64 rk) (by omega)) w.heap.size 1 (.int .i64 ra) (by omega)) w.heap.size 2 (.string (bs rq)) (by omega))
      have HB2 := hide (below_sc (below_sc (below_sc (unhide HB1) w.heap.size 0 (.int .i64 rk) (Nat.le_refl _)) w.heap.size 1 (.int .i64 ra) (Nat.le_refl _)) w.heap.size 2 (.string (bs rq)) (Nat.le_refl _))
      clear hg hr
      go_wp2_with fail
      refine (unhide CD' _ (unhide R2)).mono ?_
      rintro e w2 ⟨rfl, hb⟩
      have HB3 := hide (below_on (unhide HB2) hb)
      have V3 := hide ((unhide V2).below hb)
      have U3 := hide ((unhide U2).below hb)
      have R3 := hide (Rd.below (unhide R2) hb)
      clear hb
      go_wp2_with fail
      refine (unhide CF k _ (unhide R3)).mono ?_
      rintro e w4 ⟨rfl, rfl⟩
      have VF := hide (show Blk w2 w.heap.size #[.int .i64 rk, .int .i64 ra, .string (bs rq)] 25 from (by have := unhide V3; simpa using this))
      clear V0 U0 R0 HB0 V1 U1 R1 HB1 V2 U2 R2 HB2 V3 R3
      go_wp2
      refine leaves_cons (f := 32) (args := #[.pointer (some ⟨w.heap.size, 0, none⟩), .pointer (some ⟨w.heap.size + 1, 0, none⟩)]) (by simp) (by simp [go_sem]) ?_
      refine (catch_panicking w.heap.size ⟨rk, ra, rq⟩ false 0 [] w2 (unhide VF) (unhide U3)).mono ?_
      rintro e u' w3 ⟨rfl, rfl, h1, h2, hb⟩
      have HB4 := hide (Below.trans (unhide HB3) hb)
      have k0 := h1.at 0
      have k1 := h1.at 1
      have k2 := h1.at 2
      have k3 := h2.at 0
      simp at k0 k1 k2 k3
      clear hb h1 h2
      refine ⟨recAns none, ?_, rfl, unhide HB4⟩
      simp [results, Tryz.results10, go_sem, k0, k1, k2, k3, recAns, bs_nil]
end Go.Proofs.YtobpjegfgegkcaaGreatDoor
