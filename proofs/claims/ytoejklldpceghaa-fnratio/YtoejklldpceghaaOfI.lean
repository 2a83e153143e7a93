/-
  A ratio asked of the map of ratios: found there, or reckoned and laid there; a walk over the dump.
-/
import Derived.Test.YtoejklldpceghaaKnownI
namespace Go.Proofs.Ytoejklldpceghaa
open Go.RowKit Go.Maps
set_option linter.unusedVariables false

/-- the map of ratios stands at block bm -/
def Holds (bm n : Nat) (w : World) : Prop := ∃ D, w.ownsMap Try.prog 50 fracElem bm n D ∧ Known D
theorem Holds.lt {bm n : Nat} {w : World} (h : Holds bm n w) : bm < w.heap.size := let ⟨_, h, _⟩ := h; h.lt
theorem Holds.grown {bm n : Nat} {w w' : World} {row : Option Nat} (h : Holds bm n w) (hg : w.grownBy w' row) (hne : some bm ≠ row) : Holds bm n w' := let ⟨D, h, k⟩ := h; ⟨D, h.kept hg hne, k⟩
theorem Holds.mono {bm n m : Nat} {w : World} (h : Holds bm n w) (hm : n ≤ m) : Holds bm m w := let ⟨D, h, k⟩ := h; ⟨D, h.mono hm, k⟩
theorem Holds.below {bm n : Nat} {w w' : World} (h : Holds bm n w) (hb : Below w.heap.size w w') : Holds bm n w' := h.grown (grownBy_below (grownBy_refl w none) hb) (by simp)

set_option maxRecDepth 100000 in
set_option maxHeartbeats 2000000 in
theorem of_any (a b c d : Int) (ha : (Lit.int .i64 a).wf = true) (hb : (Lit.int .i64 b).wf = true) (hc : (Lit.int .i64 c).wf = true) (hd : (Lit.int .i64 d).wf = true) (bm n : Nat) (hn : n < 100) (w : World) (hm : Holds bm n w) :
    Calls Try.prog 44 #[.map (some bm), pv a b c d] w fun e w' => e = .returned (fv (ratio a b c d)) ∧ Holds bm (n + 1) w' ∧ w.grownBy w' (some bm) := by
  obtain ⟨D, hown, hk⟩ := hm
  obtain ⟨kl, hkey⟩ := pairKey ha hb hc hd
  have hlt := hown.lt
  have hl := look ((hown.alloc (.cells #[.int .i64 a, .int .i64 b, .int .i64 c, .int .i64 d] 50)).alloc (.cells #[.int .i64 0, .int .i64 0] 52)) hk hkey
  have hpr := hide (pairRatio_any a b c d)
  have HK := hide hk
  have HKEY := hide hkey
  have HOWN := hide hown
  clear ha hb hc hd hk hkey hown
  obtain ⟨f, hf⟩ : ∃ f, Maps.has D kl = f := ⟨_, rfl⟩
  rw [hf] at hl
  obtain ⟨⟨x, y⟩, hr⟩ : ∃ p, ratio a b c d = p := ⟨_, rfl⟩
  rw [hr] at hl hpr ⊢
  have HR := hide hr
  clear hf hr
  cases f with
  | true =>
    replace hl : (Instr.lookup 47 (.map (some bm)) (pv a b c d) true).run Try.prog ((w.alloc (.cells #[.int .i64 a, .int .i64 b, .int .i64 c, .int .i64 d] 50)).alloc (.cells #[.int .i64 0, .int .i64 0] 52)) = .ok (.tuple #[rv x y, .bool true]) ((w.alloc (.cells #[.int .i64 a, .int .i64 b, .int .i64 c, .int .i64 d] 50)).alloc (.cells #[.int .i64 0, .int .i64 0] 52)) := hl
    go_enter Try.func44, Try.ntmps44
    go_wp2
    have HG : ∀ wx : World, Below w.heap.size w wx → wx = wx → Holds bm (n + 1) wx ∧ w.grownBy wx (some bm) := fun wx hb _ =>
      have hg : w.grownBy wx none := grownBy_below (grownBy_refl w none) hb
      ⟨⟨D, ((unhide HOWN).kept hg (by simp)).mono (by omega), unhide HK⟩, grownBy_below (grownBy_refl w (some bm)) hb⟩
    refine bodyPost_ret (v := rv x y) (by simp [results, Try.results44, go_sem]) rfl ⟨rfl, HG _ ?_ rfl⟩
    repeat (first | exact Below.refl _ _ | refine below_al ?_ _ | refine Below.drew ?_ | refine below_sc ?_ _ _ _ (by omega))
  | false =>
    replace hl : (Instr.lookup 47 (.map (some bm)) (pv a b c d) true).run Try.prog ((w.alloc (.cells #[.int .i64 a, .int .i64 b, .int .i64 c, .int .i64 d] 50)).alloc (.cells #[.int .i64 0, .int .i64 0] 52)) = .ok (.tuple #[rv 0 0, .bool false]) ((w.alloc (.cells #[.int .i64 a, .int .i64 b, .int .i64 c, .int .i64 d] 50)).alloc (.cells #[.int .i64 0, .int .i64 0] 52)) := hl
    have HV1 := hide (((var4_new w 50 a b c d).al (.cells #[.int .i64 0, .int .i64 0] 52)).al (.cells #[.int .i64 0, .int .i64 0] 52))
    have HV2 := hide (show Var (((w.alloc (.cells #[.int .i64 a, .int .i64 b, .int .i64 c, .int .i64 d] 50)).alloc (.cells #[.int .i64 0, .int .i64 0] 52)).alloc (.cells #[.int .i64 0, .int .i64 0] 52)) 52 (w.heap.size + 1) 0 0 by
      have := (var_new (w.alloc (.cells #[.int .i64 a, .int .i64 b, .int .i64 c, .int .i64 d] 50)) 52 0 0).al (.cells #[.int .i64 0, .int .i64 0] 52); simpa using this)
    have HV3 := hide (show Var (((w.alloc (.cells #[.int .i64 a, .int .i64 b, .int .i64 c, .int .i64 d] 50)).alloc (.cells #[.int .i64 0, .int .i64 0] 52)).alloc (.cells #[.int .i64 0, .int .i64 0] 52)) 52 (w.heap.size + 1 + 1) 0 0 by
      have := var_new ((w.alloc (.cells #[.int .i64 a, .int .i64 b, .int .i64 c, .int .i64 d] 50)).alloc (.cells #[.int .i64 0, .int .i64 0] 52)) 52 0 0; simpa using this)
    have HB0 := hide (below_al (below_al (below_al (Below.refl _ w) (.cells #[.int .i64 a, .int .i64 b, .int .i64 c, .int .i64 d] 50)) (.cells #[.int .i64 0, .int .i64 0] 52)) (.cells #[.int .i64 0, .int .i64 0] 52))
    go_enter Try.func44, Try.ntmps44
    go_wp2_with fail
    refine (unhide hpr _).mono ?_
    rintro e w1 ⟨rfl, hb⟩
    have V1 := hide ((unhide HV1).below hb)
    have V2 := hide ((unhide HV2).below hb)
    have V3 := hide ((unhide HV3).below hb)
    have HB := hide (below_on (unhide HB0) hb)
    clear hb hl hpr HV1 HV2 HV3 HB0
    have a1 := (unhide V1).c0
    have a2 := (unhide V1).c1
    have a3 := (unhide V1).c2
    have a4 := (unhide V1).c3
    have k0 := (unhide V3).c0
    have k1 := (unhide V3).c1
    have k2 := (unhide V3).f 0
    have k3 := (unhide V3).f 1
    have k4 := (unhide V3).s0 (.int .i64 x)
    have k5 := (unhide V3).s1 (.int .i64 x) (.int .i64 y)
    have ho1 := (((unhide HOWN).kept (grownBy_below (grownBy_refl w none) (unhide HB)) (by simp)).setCell (a := ⟨w.heap.size + 1 + 1, 0, none⟩) (by simp; omega) (.int .i64 x)).setCell (a := ⟨w.heap.size + 1 + 1, 1, none⟩) (by simp; omega) (.int .i64 y)
    obtain ⟨w2, hrun, hown2, hgrow2⟩ := ho1.update pairLaw Try.underlying47 (by unfold maxLen; omega) (unhide HKEY) (fracElem_mk x y)
    have V4 := hide (((unhide V3).set x y).grown' hgrow2 (by simp; omega))
    have V5 := hide ((((unhide V2).other (w.heap.size + 1 + 1) 0 (.int .i64 x) (by omega)).other (w.heap.size + 1 + 1) 1 (.int .i64 y) (by omega)).grown' hgrow2 (by simp; omega))
    have b0 := (unhide V4).c0
    have b1 := (unhide V4).c1
    have b2 := (unhide V5).c0
    have b3 := (unhide V5).c1
    have b4 := (unhide V5).f 0
    have b5 := (unhide V5).f 1
    have b6 := (unhide V5).s0 (.int .i64 x)
    have b7 := (unhide V5).s1 (.int .i64 x) (.int .i64 y)
    have hm2 : Holds bm (n + 1) w2 := ⟨_, hown2, by rw [← unhide HR]; exact (unhide HK).put (unhide HOWN).isMap (unhide HKEY)⟩
    have hg1 : w.grownBy w2 (some bm) := by
      have g1 : w.grownBy ((w1.setCell ⟨w.heap.size + 1 + 1, 0, none⟩ (.int .i64 x)).setCell ⟨w.heap.size + 1 + 1, 1, none⟩ (.int .i64 y)) (some bm) := grownBy_below (grownBy_refl w (some bm)) (below_sc (below_sc (unhide HB) _ _ _ (by omega)) _ _ _ (by omega))
      exact grownBy_trans g1 hgrow2
    have HM2 := hide hm2
    have HG1 := hide hg1
    clear ho1 hown2 hgrow2 hm2 hg1 V1 V2 V3 V4 V5 HB
    go_wp2
    have hsz := (unhide HG1).size
    refine bodyPost_ret (v := rv x y) (by simp [results, Try.results44, go_sem, b6, b7]) rfl ⟨rfl, ?_, ?_⟩
    · have hg : w2.grownBy ((w2.setCell ⟨w.heap.size + 1, 0, none⟩ (.int .i64 x)).setCell ⟨w.heap.size + 1, 1, none⟩ (.int .i64 y)) (some (w.heap.size + 1)) := grownBy_set (grownBy_set (grownBy_refl _ _) _ _) _ _
      exact (unhide HM2).grown hg (by simp; omega)
    · exact ⟨(unhide HG1).os, (unhide HG1).tape, (unhide HG1).output, by simpa using hsz, fun k hk hne => by
        rw [heap_setCell_other _ ⟨w.heap.size + 1, 1, none⟩ k _ (by simp; omega), heap_setCell_other _ ⟨w.heap.size + 1, 0, none⟩ k _ (by simp; omega)]
        exact (unhide HG1).block k hk hne⟩
end Go.Proofs.Ytoejklldpceghaa
