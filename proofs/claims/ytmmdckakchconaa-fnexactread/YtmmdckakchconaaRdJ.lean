/-
  The program's reader of bytes: a number, a text, a record; walks over the dump.
-/
import Derived.Test.YtmmdckakchconaaRdI
import Derived.Test.YtmmdckakchconaaRecV
import Derived.Deep.CutRange
namespace Go.Proofs.Ytmmdckakchconaa
open Go.RowKit
set_option linter.unusedVariables false
/-- the reader stands, and nothing that was there has turned -/
def RdB (w0 : World) (g : Nat) (s : ByteArray) (i bg : Int) (wx : World) : Prop := Rd wx g s i bg ∧ Below w0.heap.size w0 wx
theorem RdB.call {w0 w1 w2 : World} {g : Nat} {s : ByteArray} {i bg : Int} (h : RdB w0 g s i bg w1) (hb : Below w1.heap.size w1 w2) : RdB w0 g s i bg w2 := ⟨h.1.below hb, below_on h.2 hb⟩
theorem RdB.drew {w0 w1 : World} {g : Nat} {s : ByteArray} {i bg : Int} (h : RdB w0 g s i bg w1) : RdB w0 g s i bg w1.drew := h.call (Below.refl _ _).drew
theorem RdB.read (w0 : World) (g : Nat) (s : ByteArray) (i bg : Int) : ∀ wx, RdB w0 g s i bg wx → wx.cell? ⟨g, 0, none⟩ = some (.string s) ∧ wx.cell? ⟨g, 1, none⟩ = some (.int .i64 i) := fun wx h => ⟨by simpa using Rd.at h.1 0, by simpa using Rd.at h.1 1⟩
theorem Reads.on {w w1 w2 : World} {g : Nat} {s : ByteArray} {bg : Int} {x : Option (Value × Int)} {e : Ending} (h0 : w.grownBy w1 (some g)) (h : Reads w1 g s bg x e w2) : Reads w g s bg x e w2 := ⟨grownBy_trans h0 h.1, h.2⟩

set_option maxRecDepth 100000 in
set_option maxHeartbeats 1000000 in
theorem nextNum_any (g : Nat) (s : ByteArray) (i bg : Int) (w : World) (h : Rd w g s i bg) (hs : s.size ≤ 1048576) (h0 : -9223372036854775808 ≤ i) (h1 : i ≤ 9223372036854775807) :
    Calls Try.prog 30 #[rdp g] w fun e w' => Reads w g s bg (if (getNum s.data.toList i).2 < 0 then none else some (.int .i64 (getNum s.data.toList i).1, (getNum s.data.toList i).2)) e w' := by
  have CG := hide (fun wx => implGetNum_any s i wx hs h0 h1)
  have CO := hide (fun wx (j : Int) (hr : Rd wx g s i bg) => goOn_any g s i bg j wx hr)
  have A0 := hide (show RdB w g s i bg w from ⟨h, Below.refl _ _⟩)
  have R := RdB.read w g s i bg
  obtain ⟨⟨n, j⟩, hnj⟩ : ∃ x, getNum s.data.toList i = x := ⟨_, rfl⟩
  rw [hnj] at CG ⊢
  simp only at CG ⊢
  clear h hnj
  by_cases hj : j < 0
  · rw [if_pos hj]
    have CP := hide (fun wx hr => by have := unhide CO wx j hr; rw [if_pos hj] at this; exact this)
    clear CO
    go_enter Try.func30, Try.ntmps30
    go_wp2_with fail
    go_region_held3 (fun wx => RdB w g s i bg wx)
      (first | assumption | exact (unhide A0).drew | exact RdB.call (by assumption) (by assumption))
      (first
      | (go_at_call 37; refine (unhide CG _).mono ?_; rintro e wt ⟨rfl, hb⟩; have SA := RdB.call (w0 := w) (g := g) (s := s) (i := i) (bg := bg) (by assumption) hb)
      | fail)
    have HA := hide SA
    clear SA R A0
    go_wp2_with fail
    refine (unhide CP _ (unhide HA).1).mono ?_
    intro e w2 hr
    obtain ⟨hg, hr⟩ := hr
    have HG := hide (grownBy_trans (gby_below (unhide HA).2) hg)
    clear hg
    obtain ⟨rfl, hr⟩ := hr
    have HR := hide hr
    clear hr
    go_wp2
    exact ⟨rfl, unhide HG, rfl, unhide HR⟩
  · rw [if_neg hj]
    have CP := hide (fun wx hr => by have := unhide CO wx j hr; rw [if_neg hj] at this; exact this)
    clear CO
    go_enter Try.func30, Try.ntmps30
    go_wp2_with fail
    go_region_held3 (fun wx => RdB w g s i bg wx)
      (first | assumption | exact (unhide A0).drew | exact RdB.call (by assumption) (by assumption))
      (first
      | (go_at_call 37; refine (unhide CG _).mono ?_; rintro e wt ⟨rfl, hb⟩; have SA := RdB.call (w0 := w) (g := g) (s := s) (i := i) (bg := bg) (by assumption) hb)
      | fail)
    have HA := hide SA
    clear SA R A0
    go_wp2_with fail
    refine (unhide CP _ (unhide HA).1).mono ?_
    intro e w2 hr
    obtain ⟨hg, hr⟩ := hr
    have HG := hide (grownBy_trans (gby_below (unhide HA).2) hg)
    clear hg
    obtain ⟨rfl, hr⟩ := hr
    have HR := hide hr
    clear hr
    go_wp2
    go_ret
    exact ⟨unhide HG, rfl, unhide HR⟩

set_option maxRecDepth 100000 in
set_option maxHeartbeats 1000000 in
theorem nextText_any (g : Nat) (s : ByteArray) (i bg : Int) (w : World) (h : Rd w g s i bg) (hs : s.size ≤ 1048576) (h0 : -9223372036854775808 ≤ i) (h1 : i ≤ 9223372036854775807) :
    Calls Try.prog 31 #[rdp g] w fun e w' => Reads w g s bg (if (getText s.data.toList i).2 < 0 then none else some (.string (bs (getText s.data.toList i).1), (getText s.data.toList i).2)) e w' := by
  have CG := hide (fun wx => implGetText_any s i wx hs h0 h1)
  have CO := hide (fun wx (j : Int) (hr : Rd wx g s i bg) => goOn_any g s i bg j wx hr)
  have A0 := hide (show RdB w g s i bg w from ⟨h, Below.refl _ _⟩)
  have R := RdB.read w g s i bg
  obtain ⟨⟨n, j⟩, hnj⟩ : ∃ x, getText s.data.toList i = x := ⟨_, rfl⟩
  rw [hnj] at CG ⊢
  simp only at CG ⊢
  clear h hnj
  by_cases hj : j < 0
  · rw [if_pos hj]
    have CP := hide (fun wx hr => by have := unhide CO wx j hr; rw [if_pos hj] at this; exact this)
    clear CO
    go_enter Try.func31, Try.ntmps31
    go_wp2_with fail
    go_region_held3 (fun wx => RdB w g s i bg wx)
      (first | assumption | exact (unhide A0).drew | exact RdB.call (by assumption) (by assumption))
      (first
      | (go_at_call 39; refine (unhide CG _).mono ?_; rintro e wt ⟨rfl, hb⟩; have SA := RdB.call (w0 := w) (g := g) (s := s) (i := i) (bg := bg) (by assumption) hb)
      | fail)
    have HA := hide SA
    clear SA R A0
    go_wp2_with fail
    refine (unhide CP _ (unhide HA).1).mono ?_
    intro e w2 hr
    obtain ⟨hg, hr⟩ := hr
    have HG := hide (grownBy_trans (gby_below (unhide HA).2) hg)
    clear hg
    obtain ⟨rfl, hr⟩ := hr
    have HR := hide hr
    clear hr
    go_wp2
    exact ⟨rfl, unhide HG, rfl, unhide HR⟩
  · rw [if_neg hj]
    have CP := hide (fun wx hr => by have := unhide CO wx j hr; rw [if_neg hj] at this; exact this)
    clear CO
    go_enter Try.func31, Try.ntmps31
    go_wp2_with fail
    go_region_held3 (fun wx => RdB w g s i bg wx)
      (first | assumption | exact (unhide A0).drew | exact RdB.call (by assumption) (by assumption))
      (first
      | (go_at_call 39; refine (unhide CG _).mono ?_; rintro e wt ⟨rfl, hb⟩; have SA := RdB.call (w0 := w) (g := g) (s := s) (i := i) (bg := bg) (by assumption) hb)
      | fail)
    have HA := hide SA
    clear SA R A0
    go_wp2_with fail
    refine (unhide CP _ (unhide HA).1).mono ?_
    intro e w2 hr
    obtain ⟨hg, hr⟩ := hr
    have HG := hide (grownBy_trans (gby_below (unhide HA).2) hg)
    clear hg
    obtain ⟨rfl, hr⟩ := hr
    have HR := hide hr
    clear hr
    go_wp2
    go_ret
    exact ⟨unhide HG, rfl, unhide HR⟩
end Go.Proofs.Ytmmdckakchconaa
