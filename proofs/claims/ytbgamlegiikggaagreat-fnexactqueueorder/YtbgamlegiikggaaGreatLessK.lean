/-
  Which of two comes ahead, by the map of ratios that are known; walks over the dump.
-/
import Derived.Test.YtbgamlegiikggaaGreatOfK
import Derived.Test.YtbgamlegiikggaaGreatPackA
import Derived.Deep.RegionHeld3
namespace Go.Proofs.YtbgamlegiikggaaGreat
open Go.RowKit Go.Maps
set_option linter.unusedVariables false

/-- two pairs stand, boxed, behind w0; of w0 no block has turned but that of the map -/
def PairsK (K : List P4) (w0 : World) (bm : Nat) (a b c d e f g h : Int) (wx : World) : Prop :=
  Var4 wx 66 w0.heap.size a b c d ∧ Var4 wx 66 (w0.heap.size + 1) e f g h ∧ w0.grownBy wx (some bm) ∧ bm < w0.heap.size ∧ HoldsK K bm wx
theorem PairsK.call {K : List P4} {w0 w1 w2 : World} {bm : Nat} {a b c d e f g h : Int} (p : PairsK K w0 bm a b c d e f g h w1) (hk : HoldsK K bm w2) (hg : w1.grownBy w2 (some bm)) : PairsK K w0 bm a b c d e f g h w2 := by
  obtain ⟨p1, p2, p3, p4, _⟩ := p
  exact ⟨p1.grown hg (by simp; omega), p2.grown hg (by simp; omega), grownBy_trans p3 hg, p4, hk⟩
theorem PairsK.below {K : List P4} {w0 w1 w2 : World} {bm : Nat} {a b c d e f g h : Int} (p : PairsK K w0 bm a b c d e f g h w1) (hb : Below w1.heap.size w1 w2) : PairsK K w0 bm a b c d e f g h w2 := p.call (p.2.2.2.2.below hb) (grownBy_below (grownBy_refl _ _) hb)
theorem PairsK.drew {K : List P4} {w0 w1 : World} {bm : Nat} {a b c d e f g h : Int} (p : PairsK K w0 bm a b c d e f g h w1) : PairsK K w0 bm a b c d e f g h w1.drew := p.below (Below.refl _ _).drew
theorem PairsK.read (K : List P4) (w0 : World) (bm : Nat) (a b c d e f g h : Int) : ∀ wx, PairsK K w0 bm a b c d e f g h wx → wx.cell? ⟨w0.heap.size, 0, none⟩ = some (.int .i64 a) ∧ wx.cell? ⟨w0.heap.size, 1, none⟩ = some (.int .i64 b) ∧ wx.cell? ⟨w0.heap.size, 2, none⟩ = some (.int .i64 c) ∧ wx.cell? ⟨w0.heap.size, 3, none⟩ = some (.int .i64 d)
    ∧ wx.cell? ⟨w0.heap.size + 1, 0, none⟩ = some (.int .i64 e) ∧ wx.cell? ⟨w0.heap.size + 1, 1, none⟩ = some (.int .i64 f) ∧ wx.cell? ⟨w0.heap.size + 1, 2, none⟩ = some (.int .i64 g) ∧ wx.cell? ⟨w0.heap.size + 1, 3, none⟩ = some (.int .i64 h) :=
  fun wx p => ⟨p.1.c0, p.1.c1, p.1.c2, p.1.c3, p.2.1.c0, p.2.1.c1, p.2.1.c2, p.2.1.c3⟩
/-- well formed ints -/
def Wf4 (a b c d : Int) : Prop := (Lit.int .i64 a).wf = true ∧ (Lit.int .i64 b).wf = true ∧ (Lit.int .i64 c).wf = true ∧ (Lit.int .i64 d).wf = true

set_option maxRecDepth 100000 in
set_option maxHeartbeats 4000000 in
theorem lessK_any (K : List P4) (hK : K.length ≤ 1000000000) (a b c d e f g h : Int) (h1 : Wf4 a b c d) (h2 : Wf4 e f g h) (i1 : (a, b, c, d) ∈ K) (i2 : (e, f, g, h) ∈ K) (bm : Nat) (w : World) (hm : HoldsK K bm w) :
    Calls Tryz.prog 64 #[.map (some bm), pv a b c d, pv e f g h] w fun o w' => o = .returned (.bool (lessR a b c d e f g h)) ∧ HoldsK K bm w' ∧ w.grownBy w' (some bm) := by
  have C1 := hide (fun wx (hx : HoldsK K bm wx) => ofK_any K hK a b c d h1.1 h1.2.1 h1.2.2.1 h1.2.2.2 i1 bm wx hx)
  have C2 := hide (fun wx (hx : HoldsK K bm wx) => ofK_any K hK e f g h h2.1 h2.2.1 h2.2.2.1 h2.2.2.2 i2 bm wx hx)
  have C3 := hide (fun wx => fracLess_any _ _ _ _ wx (ratio_frac a b c d) (ratio_frac e f g h))
  have hlt := hm.lt
  have A0 := hide (show PairsK K w bm a b c d e f g h ((w.alloc (.cells #[.int .i64 a, .int .i64 b, .int .i64 c, .int .i64 d] 66)).alloc (.cells #[.int .i64 e, .int .i64 f, .int .i64 g, .int .i64 h] 66)) from
    ⟨(var4_new w 66 a b c d).al _, by have := var4_new (w.alloc (.cells #[.int .i64 a, .int .i64 b, .int .i64 c, .int .i64 d] 66)) 66 e f g h; simpa using this, grownBy_below (grownBy_refl _ _) (below_al (below_al (Below.refl _ _) _) _), hlt, hm.below (below_al (below_al (Below.refl _ w) _) _)⟩)
  have R := PairsK.read K w bm a b c d e f g h
  unfold lessR
  obtain ⟨l, hl⟩ : ∃ l, less (ratio a b c d).1 (ratio a b c d).2 (ratio e f g h).1 (ratio e f g h).2 = l := ⟨_, rfl⟩
  rw [hl] at C3 ⊢
  obtain ⟨⟨x1, y1⟩, e1⟩ : ∃ p, ratio a b c d = p := ⟨_, rfl⟩
  obtain ⟨⟨x2, y2⟩, e2⟩ : ∃ p, ratio e f g h = p := ⟨_, rfl⟩
  rw [e1] at C1 C3
  rw [e2] at C2 C3
  clear hl e1 e2 h1 h2 hm i1 i2
  go_enter Tryz.func64, Tryz.ntmps64
  go_wp2_with fail
  go_region_held3 (fun wx => PairsK K w bm a b c d e f g h wx)
    (first | (with_reducible assumption) | exact (unhide A0).drew | exact PairsK.drew (by assumption))
    (first
    | (go_at_call_of 102 a; refine (unhide C1 _ ?_).mono ?_; (exact (show PairsK K w bm a b c d e f g h _ by assumption).2.2.2.2); rintro o wt ⟨rfl, hh, hg⟩; have SA := PairsK.call (K := K) (w0 := w) (bm := bm) (a := a) (b := b) (c := c) (d := d) (e := e) (f := f) (g := g) (h := h) (by assumption) hh hg)
    | (go_at_call_of 102 e; refine (unhide C2 _ ?_).mono ?_; (exact (show PairsK K w bm a b c d e f g h _ by assumption).2.2.2.2); rintro o wt ⟨rfl, hh, hg⟩; have SA := PairsK.call (K := K) (w0 := w) (bm := bm) (a := a) (b := b) (c := c) (d := d) (e := e) (f := f) (g := g) (h := h) (by assumption) hh hg)
    | (go_at_call 103; refine (unhide C3 _).mono ?_; rintro o wt ⟨rfl, hb⟩; have SA := PairsK.below (K := K) (w0 := w) (bm := bm) (a := a) (b := b) (c := c) (d := d) (e := e) (f := f) (g := g) (h := h) (by assumption) hb))
  all_goals
    have HG := hide SA.2.2
    go_wp2
    go_ret
    exact ⟨rfl, (unhide HG).2.2, (unhide HG).1⟩
end Go.Proofs.YtbgamlegiikggaaGreat
