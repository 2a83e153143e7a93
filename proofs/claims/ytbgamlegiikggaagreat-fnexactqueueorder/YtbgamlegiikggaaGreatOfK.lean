/-
  The map of ratios that are known, where many are asked for: it holds none but those that are asked for, each once; walks over the dump.
-/
import Derived.Test.YtbgamlegiikggaaGreatLessRatioS
import Derived.Test.YtbgamlegiikggaaGreatKnownI
import Derived.Deep.RegionHeld3
namespace Go.Proofs.YtbgamlegiikggaaGreat
open Go.RowKit Go.Maps
set_option linter.unusedVariables false

abbrev P4 := Int × Int × Int × Int
theorem nodup_len {α : Type} : ∀ (ps K : List α), ps.Nodup → (∀ p ∈ ps, p ∈ K) → ps.length ≤ K.length
  | [], _, _, _ => Nat.zero_le _
  | p :: t, K, h, s => by
    obtain ⟨h1, h2⟩ := List.nodup_cons.1 h
    obtain ⟨a, b, rfl⟩ := List.append_of_mem (s p (List.mem_cons_self ..))
    have := nodup_len t (a ++ b) h2 (fun q hq => by
      have h3 := s q (List.mem_cons_of_mem _ hq)
      rcases List.mem_append.1 h3 with h3 | h3
      · exact List.mem_append.2 (.inl h3)
      · rcases List.mem_cons.1 h3 with rfl | h3
        · exact absurd hq h1
        · exact List.mem_append.2 (.inr h3))
    simp at this ⊢
    omega
/-- the map holds ratios of pairs of K alone, each once -/
def HoldsK (K : List P4) (bm : Nat) (w : World) : Prop := ∃ (ps : List P4) (D : DataW Unit), ps.Nodup ∧ (∀ p ∈ ps, p ∈ K) ∧ w.ownsMap Tryz.prog 66 fracElem bm ps.length D ∧ Known D ∧ ∀ p ∈ ps, ∀ kl, keyOf Tryz.prog 66 (pv p.1 p.2.1 p.2.2.1 p.2.2.2) = some kl → Maps.has D kl = true
theorem HoldsK.lt {K : List P4} {bm : Nat} {w : World} (h : HoldsK K bm w) : bm < w.heap.size := let ⟨_, _, _, _, h, _⟩ := h; h.lt
theorem HoldsK.grown {K : List P4} {bm : Nat} {w w' : World} {row : Option Nat} (h : HoldsK K bm w) (hg : w.grownBy w' row) (hne : some bm ≠ row) : HoldsK K bm w' := let ⟨ps, D, a, b, h, k⟩ := h; ⟨ps, D, a, b, h.kept hg hne, k⟩
theorem HoldsK.below {K : List P4} {bm : Nat} {w w' : World} (h : HoldsK K bm w) (hb : Below w.heap.size w w') : HoldsK K bm w' := h.grown (grownBy_below (grownBy_refl w none) hb) (by simp)
theorem holdsK_made (K : List P4) {bm : Nat} {w : World} (h : w.ownsMap Tryz.prog 66 fracElem bm 0 (.map [])) : HoldsK K bm w := ⟨[], .map [], List.nodup_nil, (fun _ h => absurd h (by simp)), h, known_empty, (fun _ h => absurd h (by simp))⟩
theorem pairLit_ex {a b c d : Int} (ha : (Lit.int .i64 a).wf = true) (hb : (Lit.int .i64 b).wf = true) (hc : (Lit.int .i64 c).wf = true) (hd : (Lit.int .i64 d).wf = true) : ∃ kl, keyOf Tryz.prog 66 (pv a b c d) = some kl := pairKey ha hb hc hd

set_option maxRecDepth 100000 in
set_option maxHeartbeats 2000000 in
theorem ofK_any (K : List P4) (hK : K.length ≤ 1000000000) (a b c d : Int) (ha : (Lit.int .i64 a).wf = true) (hb : (Lit.int .i64 b).wf = true) (hc : (Lit.int .i64 c).wf = true) (hd : (Lit.int .i64 d).wf = true) (hin : (a, b, c, d) ∈ K) (bm : Nat) (w : World) (hm : HoldsK K bm w) :
    Calls Tryz.prog 102 #[.map (some bm), pv a b c d] w fun e w' => e = .returned (fv (ratio a b c d)) ∧ HoldsK K bm w' ∧ w.grownBy w' (some bm) := by
  obtain ⟨ps, D, nd, sub, hown, hk, hps⟩ := hm
  obtain ⟨kl, hkey⟩ := pairLit_ex ha hb hc hd
  have hpl := nodup_len ps K nd sub
  have HPS := hide (fun (h : Maps.has D kl = false) => show (a, b, c, d) ∉ ps from fun hp => by have := hps _ hp _ hkey; rw [h] at this; exact absurd this (by simp))
  have HND := hide nd
  have HSUB := hide sub
  have HPP := hide hps

  have hlt := hown.lt
  have hl := look ((hown.alloc (.cells #[.int .i64 a, .int .i64 b, .int .i64 c, .int .i64 d] 66)).alloc (.cells #[.int .i64 0, .int .i64 0] 160)) hk hkey
  have hpr := hide (pairRatio_any a b c d)
  have HK := hide hk
  have HKEY := hide hkey
  have HOWN := hide hown
  have HIN := hide hin
  clear ha hb hc hd hk hkey hown nd sub hps hin
  obtain ⟨f, hf⟩ : ∃ f, Maps.has D kl = f := ⟨_, rfl⟩
  rw [hf] at hl HPS
  obtain ⟨⟨x, y⟩, hr⟩ : ∃ p, ratio a b c d = p := ⟨_, rfl⟩
  rw [hr] at hl hpr ⊢
  have HR := hide hr
  clear hf hr
  cases f with
  | true =>
    replace hl : (Instr.lookup 115 (.map (some bm)) (pv a b c d) true).run Tryz.prog ((w.alloc (.cells #[.int .i64 a, .int .i64 b, .int .i64 c, .int .i64 d] 66)).alloc (.cells #[.int .i64 0, .int .i64 0] 160)) = .ok (.tuple #[rv x y, .bool true]) ((w.alloc (.cells #[.int .i64 a, .int .i64 b, .int .i64 c, .int .i64 d] 66)).alloc (.cells #[.int .i64 0, .int .i64 0] 160)) := hl
    go_enter Tryz.func102, Tryz.ntmps102
    go_wp2
    have HG : ∀ wx : World, Below w.heap.size w wx → wx = wx → HoldsK K bm wx ∧ w.grownBy wx (some bm) := fun wx hb _ =>
      have hg : w.grownBy wx none := grownBy_below (grownBy_refl w none) hb
      ⟨⟨ps, D, unhide HND, unhide HSUB, (unhide HOWN).kept hg (by simp), unhide HK, unhide HPP⟩, grownBy_below (grownBy_refl w (some bm)) hb⟩
    refine bodyPost_ret (v := rv x y) (by simp [results, Tryz.results102, go_sem]) rfl ⟨rfl, HG _ ?_ rfl⟩
    repeat (first | exact Below.refl _ _ | refine below_al ?_ _ | refine Below.drew ?_ | refine below_sc ?_ _ _ _ (by omega))
  | false =>
    replace hl : (Instr.lookup 115 (.map (some bm)) (pv a b c d) true).run Tryz.prog ((w.alloc (.cells #[.int .i64 a, .int .i64 b, .int .i64 c, .int .i64 d] 66)).alloc (.cells #[.int .i64 0, .int .i64 0] 160)) = .ok (.tuple #[rv 0 0, .bool false]) ((w.alloc (.cells #[.int .i64 a, .int .i64 b, .int .i64 c, .int .i64 d] 66)).alloc (.cells #[.int .i64 0, .int .i64 0] 160)) := hl
    have HV1 := hide (((var4_new w 66 a b c d).al (.cells #[.int .i64 0, .int .i64 0] 160)).al (.cells #[.int .i64 0, .int .i64 0] 160))
    have HV2 := hide (show Var (((w.alloc (.cells #[.int .i64 a, .int .i64 b, .int .i64 c, .int .i64 d] 66)).alloc (.cells #[.int .i64 0, .int .i64 0] 160)).alloc (.cells #[.int .i64 0, .int .i64 0] 160)) 160 (w.heap.size + 1) 0 0 by
      have := (var_new (w.alloc (.cells #[.int .i64 a, .int .i64 b, .int .i64 c, .int .i64 d] 66)) 160 0 0).al (.cells #[.int .i64 0, .int .i64 0] 160); simpa using this)
    have HV3 := hide (show Var (((w.alloc (.cells #[.int .i64 a, .int .i64 b, .int .i64 c, .int .i64 d] 66)).alloc (.cells #[.int .i64 0, .int .i64 0] 160)).alloc (.cells #[.int .i64 0, .int .i64 0] 160)) 160 (w.heap.size + 1 + 1) 0 0 by
      have := var_new ((w.alloc (.cells #[.int .i64 a, .int .i64 b, .int .i64 c, .int .i64 d] 66)).alloc (.cells #[.int .i64 0, .int .i64 0] 160)) 160 0 0; simpa using this)
    have HB0 := hide (below_al (below_al (below_al (Below.refl _ w) (.cells #[.int .i64 a, .int .i64 b, .int .i64 c, .int .i64 d] 66)) (.cells #[.int .i64 0, .int .i64 0] 160)) (.cells #[.int .i64 0, .int .i64 0] 160))
    go_enter Tryz.func102, Tryz.ntmps102
    go_wp2_with fail
    refine (unhide hpr _).mono ?_
    rintro e w1 ⟨rfl, hb⟩
    have V1 := hide ((unhide HV1).below hb)
    have V2 := hide ((unhide HV2).below hb)
    have V3 := hide ((unhide HV3).below hb)
    have HB := hide (below_on (unhide HB0) hb)
    clear hb hl hpr HV1 HV2 HV3 HB0
    have a1 := (unhide V1).c0
    have a2 := (unhide V1).c1
    have a3 := (unhide V1).c2
    have a4 := (unhide V1).c3
    have k0 := (unhide V3).c0
    have k1 := (unhide V3).c1
    have k2 := (unhide V3).f 0
    have k3 := (unhide V3).f 1
    have k4 := (unhide V3).s0 (.int .i64 x)
    have k5 := (unhide V3).s1 (.int .i64 x) (.int .i64 y)
    have ho1 := (((unhide HOWN).kept (grownBy_below (grownBy_refl w none) (unhide HB)) (by simp)).setCell (a := ⟨w.heap.size + 1 + 1, 0, none⟩) (by simp; omega) (.int .i64 x)).setCell (a := ⟨w.heap.size + 1 + 1, 1, none⟩) (by simp; omega) (.int .i64 y)
    obtain ⟨w2, hrun, hown2, hgrow2⟩ := ho1.update pairLaw Tryz.underlying115 (by unfold maxLen; omega) (unhide HKEY) (fracElem_mk x y)
    have V4 := hide (((unhide V3).set x y).grown' hgrow2 (by simp; omega))
    have V5 := hide ((((unhide V2).other (w.heap.size + 1 + 1) 0 (.int .i64 x) (by omega)).other (w.heap.size + 1 + 1) 1 (.int .i64 y) (by omega)).grown' hgrow2 (by simp; omega))
    have b0 := (unhide V4).c0
    have b1 := (unhide V4).c1
    have b2 := (unhide V5).c0
    have b3 := (unhide V5).c1
    have b4 := (unhide V5).f 0
    have b5 := (unhide V5).f 1
    have b6 := (unhide V5).s0 (.int .i64 x)
    have b7 := (unhide V5).s1 (.int .i64 x) (.int .i64 y)
    have hm2 : HoldsK K bm w2 := ⟨(a, b, c, d) :: ps, _, List.nodup_cons.2 ⟨unhide HPS (by first | rfl | trivial), unhide HND⟩, fun p hp => by
      rcases List.mem_cons.1 hp with rfl | hp
      · exact unhide HIN
      · exact unhide HSUB p hp, hown2, by rw [← unhide HR]; exact (unhide HK).put (unhide HOWN).isMap (unhide HKEY), fun p hp kl' hk' => by
      by_cases e : kl' = kl
      · subst e; exact has_put_same (unhide HOWN).isMap (pairLaw.key (unhide HKEY)) _
      · rcases List.mem_cons.1 hp with rfl | hp
        · have := hk'.symm.trans (unhide HKEY); cases this; exact absurd rfl e
        · rw [has_put_other e]; exact unhide HPP p hp kl' hk'⟩
    have hg1 : w.grownBy w2 (some bm) := by
      have g1 : w.grownBy ((w1.setCell ⟨w.heap.size + 1 + 1, 0, none⟩ (.int .i64 x)).setCell ⟨w.heap.size + 1 + 1, 1, none⟩ (.int .i64 y)) (some bm) := grownBy_below (grownBy_refl w (some bm)) (below_sc (below_sc (unhide HB) _ _ _ (by omega)) _ _ _ (by omega))
      exact grownBy_trans g1 hgrow2
    have HM2 := hide hm2
    have HG1 := hide hg1
    clear ho1 hown2 hgrow2 hm2 hg1 V1 V2 V3 V4 V5 HB
    go_wp2
    have hsz := (unhide HG1).size
    refine bodyPost_ret (v := rv x y) (by simp [results, Tryz.results102, go_sem, b6, b7]) rfl ⟨rfl, ?_, ?_⟩
    · have hg : w2.grownBy ((w2.setCell ⟨w.heap.size + 1, 0, none⟩ (.int .i64 x)).setCell ⟨w.heap.size + 1, 1, none⟩ (.int .i64 y)) (some (w.heap.size + 1)) := grownBy_set (grownBy_set (grownBy_refl _ _) _ _) _ _
      exact (unhide HM2).grown hg (by simp; omega)
    · exact ⟨(unhide HG1).os, (unhide HG1).tape, (unhide HG1).output, by simpa using hsz, fun k hk hne => by
        rw [heap_setCell_other _ ⟨w.heap.size + 1, 1, none⟩ k _ (by simp; omega), heap_setCell_other _ ⟨w.heap.size + 1, 0, none⟩ k _ (by simp; omega)]
        exact (unhide HG1).block k hk hne⟩
end Go.Proofs.YtbgamlegiikggaaGreat
