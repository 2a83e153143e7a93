/-
  Which of two ratios is less: what the program's LessRatio answers; walks over the dump.
-/
import Derived.Test.YtoejklldpceghaaLessRatioS
import Derived.Test.YtoejklldpceghaaOfI
import Derived.Deep.RegionHeld3
namespace Go.Proofs.Ytoejklldpceghaa
open Go.RowKit Go.Maps
set_option linter.unusedVariables false

/-- two pairs stand, boxed, behind w0; of w0 no block has turned but that of the map -/
def Pairs (w0 : World) (bm : Nat) (a b c d e f g h : Int) (wx : World) : Prop :=
  Var4 wx 50 w0.heap.size a b c d ∧ Var4 wx 50 (w0.heap.size + 1) e f g h ∧ w0.grownBy wx (some bm) ∧ bm < w0.heap.size
theorem Pairs.call {w0 w1 w2 : World} {bm : Nat} {a b c d e f g h : Int} (p : Pairs w0 bm a b c d e f g h w1) (hg : w1.grownBy w2 (some bm)) : Pairs w0 bm a b c d e f g h w2 := by
  obtain ⟨p1, p2, p3, p4⟩ := p
  exact ⟨p1.grown hg (by simp; omega), p2.grown hg (by simp; omega), grownBy_trans p3 hg, p4⟩
theorem Pairs.below {w0 w1 w2 : World} {bm : Nat} {a b c d e f g h : Int} (p : Pairs w0 bm a b c d e f g h w1) (hb : Below w1.heap.size w1 w2) : Pairs w0 bm a b c d e f g h w2 := p.call (grownBy_below (grownBy_refl _ _) hb)
theorem Pairs.drew {w0 w1 : World} {bm : Nat} {a b c d e f g h : Int} (p : Pairs w0 bm a b c d e f g h w1) : Pairs w0 bm a b c d e f g h w1.drew := p.below (Below.refl _ _).drew
theorem Pairs.read (w0 : World) (bm : Nat) (a b c d e f g h : Int) : ∀ wx, Pairs w0 bm a b c d e f g h wx → wx.cell? ⟨w0.heap.size, 0, none⟩ = some (.int .i64 a) ∧ wx.cell? ⟨w0.heap.size, 1, none⟩ = some (.int .i64 b) ∧ wx.cell? ⟨w0.heap.size, 2, none⟩ = some (.int .i64 c) ∧ wx.cell? ⟨w0.heap.size, 3, none⟩ = some (.int .i64 d)
    ∧ wx.cell? ⟨w0.heap.size + 1, 0, none⟩ = some (.int .i64 e) ∧ wx.cell? ⟨w0.heap.size + 1, 1, none⟩ = some (.int .i64 f) ∧ wx.cell? ⟨w0.heap.size + 1, 2, none⟩ = some (.int .i64 g) ∧ wx.cell? ⟨w0.heap.size + 1, 3, none⟩ = some (.int .i64 h) :=
  fun wx p => ⟨p.1.c0, p.1.c1, p.1.c2, p.1.c3, p.2.1.c0, p.2.1.c1, p.2.1.c2, p.2.1.c3⟩
/-- well formed ints -/
def Wf4 (a b c d : Int) : Prop := (Lit.int .i64 a).wf = true ∧ (Lit.int .i64 b).wf = true ∧ (Lit.int .i64 c).wf = true ∧ (Lit.int .i64 d).wf = true

set_option maxRecDepth 100000 in
set_option maxHeartbeats 4000000 in
theorem ratiosLess_any (a b c d e f g h : Int) (h1 : Wf4 a b c d) (h2 : Wf4 e f g h) (bm : Nat) (w : World) (hm : Holds bm 0 w) :
    Calls Try.prog 31 #[.map (some bm), pv a b c d, pv e f g h] w fun o w' => o = .returned (.bool (lessR a b c d e f g h)) ∧ w.grownBy w' (some bm) := by
  have C1 := hide (fun (n : Nat) (hn : n < 100) wx (hx : Holds bm n wx) => of_any a b c d h1.1 h1.2.1 h1.2.2.1 h1.2.2.2 bm n hn wx hx)
  have C2 := hide (fun (n : Nat) (hn : n < 100) wx (hx : Holds bm n wx) => of_any e f g h h2.1 h2.2.1 h2.2.2.1 h2.2.2.2 bm n hn wx hx)
  have C3 := hide (fun wx => fracLess_any _ _ _ _ wx (ratio_frac a b c d) (ratio_frac e f g h))
  have hlt := hm.lt
  have A0 := hide (show Pairs w bm a b c d e f g h ((w.alloc (.cells #[.int .i64 a, .int .i64 b, .int .i64 c, .int .i64 d] 50)).alloc (.cells #[.int .i64 e, .int .i64 f, .int .i64 g, .int .i64 h] 50)) from
    ⟨(var4_new w 50 a b c d).al _, by have := var4_new (w.alloc (.cells #[.int .i64 a, .int .i64 b, .int .i64 c, .int .i64 d] 50)) 50 e f g h; simpa using this, grownBy_below (grownBy_refl _ _) (below_al (below_al (Below.refl _ _) _) _), hlt⟩)
  have H0 := hide (hm.below (below_al (below_al (Below.refl _ w) (.cells #[.int .i64 a, .int .i64 b, .int .i64 c, .int .i64 d] 50)) (.cells #[.int .i64 e, .int .i64 f, .int .i64 g, .int .i64 h] 50)))
  have R := Pairs.read w bm a b c d e f g h
  unfold lessR
  obtain ⟨l, hl⟩ : ∃ l, less (ratio a b c d).1 (ratio a b c d).2 (ratio e f g h).1 (ratio e f g h).2 = l := ⟨_, rfl⟩
  rw [hl] at C3 ⊢
  obtain ⟨⟨x1, y1⟩, e1⟩ : ∃ p, ratio a b c d = p := ⟨_, rfl⟩
  obtain ⟨⟨x2, y2⟩, e2⟩ : ∃ p, ratio e f g h = p := ⟨_, rfl⟩
  rw [e1] at C1 C3
  rw [e2] at C2 C3
  clear hl e1 e2 h1 h2 hm
  go_enter Try.func31, Try.ntmps31
  go_wp2_with fail
  go_region_held3 (fun wx => Pairs w bm a b c d e f g h wx)
    (first | (with_reducible assumption) | exact (unhide A0).drew | exact Pairs.drew (by assumption))
    (first
    | (go_at_call_of 44 a
       first
       | (refine (unhide C1 1 (by omega) _ ?_).mono ?_; (exact unhide H1); rintro o wt ⟨rfl, hh, hg⟩; have H2 := hide hh; have SA := Pairs.call (w0 := w) (bm := bm) (a := a) (b := b) (c := c) (d := d) (e := e) (f := f) (g := g) (h := h) (by assumption) hg)
       | (refine (unhide C1 0 (by omega) _ ?_).mono ?_; (exact unhide H0); rintro o wt ⟨rfl, hh, hg⟩; have H1 := hide hh; have SA := Pairs.call (w0 := w) (bm := bm) (a := a) (b := b) (c := c) (d := d) (e := e) (f := f) (g := g) (h := h) (by assumption) hg))
    | (go_at_call_of 44 e
       first
       | (refine (unhide C2 1 (by omega) _ ?_).mono ?_; (exact unhide H1); rintro o wt ⟨rfl, hh, hg⟩; have H2 := hide hh; have SA := Pairs.call (w0 := w) (bm := bm) (a := a) (b := b) (c := c) (d := d) (e := e) (f := f) (g := g) (h := h) (by assumption) hg)
       | (refine (unhide C2 0 (by omega) _ ?_).mono ?_; (exact unhide H0); rintro o wt ⟨rfl, hh, hg⟩; have H1 := hide hh; have SA := Pairs.call (w0 := w) (bm := bm) (a := a) (b := b) (c := c) (d := d) (e := e) (f := f) (g := g) (h := h) (by assumption) hg))
    | (go_at_call 45; refine (unhide C3 _).mono ?_; rintro o wt ⟨rfl, hb⟩; have SA := Pairs.below (w0 := w) (bm := bm) (a := a) (b := b) (c := c) (d := d) (e := e) (f := f) (g := g) (h := h) (by assumption) hb))
  all_goals
    have HG := hide SA.2.2.1
    go_wp2
    go_ret
    exact ⟨rfl, unhide HG⟩

set_option maxRecDepth 100000 in
set_option maxHeartbeats 1000000 in
theorem implLessRatio_any (a b c d e f g h : Int) (w : World) (h1 : Wf4 a b c d) (h2 : Wf4 e f g h) :
    Calls Try.prog 10 #[rv a b, rv c d, rv e f, rv g h] w fun o w' => o = .returned (.bool (lessR a b c d e f g h)) ∧ Below w.heap.size w w' := by
  have hc := hide (fun bm wx hm => ratiosLess_any a b c d e f g h h1 h2 bm wx hm)
  clear h1 h2
  obtain ⟨l, hl⟩ : ∃ l, lessR a b c d e f g h = l := ⟨_, rfl⟩
  rw [hl] at hc ⊢
  clear hl
  have hmm := @run_makeMap Try.prog
  go_enter Try.func10, Try.ntmps10
  go_wp2_with fail
  refine (unhide hc _ _ ?_).mono ?_
  · exact ⟨_, by simpa using World.ownsMap_made ((((w.alloc (.cells #[.int .i64 a, .int .i64 b] 25)).alloc (.cells #[.int .i64 c, .int .i64 d] 25)).alloc (.cells #[.int .i64 e, .int .i64 f] 25)).alloc (.cells #[.int .i64 g, .int .i64 h] 25)) Try.prog 50 fracElem, known_empty⟩
  rintro o w1 ⟨rfl, hg⟩
  have HB := hide (below_grownBy (below_al (below_al (below_al (below_al (below_al (Below.refl _ w) _) _) _) _) _) hg (by simp; omega) (by omega))
  clear hg hc hmm
  go_wp2
  go_ret
  exact ⟨rfl, unhide HB⟩
end Go.Proofs.Ytoejklldpceghaa
