/-
  The law FnExactDrop answers true at every state and every number: the program's Drop answers as the model's, writes into nothing that it was handed and keeps nothing of it, and its answer owns its memory, behind another call too; no condition.
-/
import Derived.Test.YtjjnmiajkjibeaaGreatRows
import Derived.Test.YtjjnmiajkjibeaaGreatTakGD
import Derived.Test.YtjjnmiajkjibeaaGreatTakE
import Derived.Test.YtjjnmiajkjibeaaGreatPackT
import Derived.Test.YtjjnmiajkjibeaaGreatStAll
import Derived.WalkKit
import Derived.Deep.CutRange
import Derived.Deep.RegionHeld3
import Derived.Deep.RegionWith
import Derived.Deep.QuietTactic
import Derived.ProofKit
import Derived.OpenShut
import Derived.ShutString
import Derived.ChangeOld
import Derived.Below
namespace Go.Proofs.YtjjnmiajkjibeaaGreat.fnExactDrop
open Go.ChangeShapes Go.WideShapes Go.ChangeAt Go.RowKit
open Go.ChangeMaps (open_string shut_string)
set_option linter.unusedVariables false

theorem own : ownKnob Tryz.prog.godebug = none := by kernel_rfl
theorem laidOut : laidOutB Tryz.prog = true := by kernel_rfl

set_option maxRecDepth 100000 in
set_option maxHeartbeats 16000000 in
theorem walk (a0 : Sls) (b0 : St) (a1 : Int) (w : World) (w0 : SRow w a0 b0) (x0 : StFit a0 b0) (w1 : (Lit.int .i64 a1).wf = true) :
    Calls Tryz.prog 4 #[sv a0 b0, .int .i64 a1] w fun e w' => e = .returned (.bool true) ∧ Below w.heap.size w w' := by
  have HR := hide w0
  have HLEN := hide w0.len
  have I0 := hide (InBox.new w a0 b0)
  have C0 := hide (szState_any a0 b0 _ (w0.below (unhide I0).2) x0.big)
  have RB := hide (InBox.read w a0 b0)
  have HFIT := hide (fun hf : FitSt b0 => fit_drop hf a1)
  obtain ⟨⟨S1, G1⟩, hap⟩ : ∃ r, dropV b0 a1 = r := ⟨_, rfl⟩
  rw [hap] at HFIT
  simp only at HFIT
  have CS := hide (fun (hf : FitSt b0) g1 g2 g3 g4 wx (h : SOwn4 wx g1 g2 g3 g4 a0.ql a0.al a0.ml a0.cl b0) => by
    obtain ⟨hs0, h1, h2, h3⟩ := own4_heads h (unhide HLEN)
    have := (specDrop_any (own4 g1 g2 g3 g4 a0.ql a0.al a0.ml a0.cl) b0 hs0 a1 wx (h.row (unhide HLEN)) h1 h2 h3 hf).mono (fun e w' h => h.lay)
    rw [hap] at this
    exact this)
  have CI := hide (fun (hf : FitSt b0) g1 g2 g3 g4 wx (h : SOwn4 wx g1 g2 g3 g4 a0.ql a0.al a0.ml a0.cl b0) => by
    have := (implDrop_any (own4 g1 g2 g3 g4 a0.ql a0.al a0.ml a0.cl) b0 a1 wx (h.row (unhide HLEN)) hf (Nat.le_refl _) x0.wfs).mono (fun e w' h => h.lay)
    rw [hap] at this
    exact this)
  have CT := hide (fun (hf : FitSt b0) wx (hb : Below w.heap.size w wx) => toState_any a0 b0 wx ((unhide HR).below hb) hf)
  have CE := hide (fun (hf : FitSt b0) g1 g2 g3 g4 k1 k2 k3 k4 wx (h : SOwn4 wx g1 g2 g3 g4 a0.ql a0.al a0.ml a0.cl b0) (k : SOwn4 wx k1 k2 k3 k4 a0.ql a0.al a0.ml a0.cl b0) => eqState_same (own4 g1 g2 g3 g4 a0.ql a0.al a0.ml a0.cl) (own4 k1 k2 k3 k4 a0.ql a0.al a0.ml a0.cl) b0 wx (h.row (unhide HLEN)) (k.row (unhide HLEN)) hf)
  have CM := hide (fun (hf : FitSt b0) B E g1 g2 g3 g4 wx (h : SOwn4 wx g1 g2 g3 g4 a0.ql a0.al a0.ml a0.cl b0) (ha : AWh wx B E g2 a0.al) (hb : B ≤ g1 ∧ g1 < g2 ∧ g2 < g3 ∧ g3 < g4 ∧ g4 < E) (hE : E ≤ wx.heap.size) => markState_any B E g1 g2 g3 g4 a0.ql a0.al a0.ml a0.cl b0 wx h.1.cel ha h.2.2.1.cel h.2.2.2.cel hb hE (by have := (unhide HLEN).1; have := hf.1.1; omega) (by have := (unhide HLEN).2.1; have := hf.2.1.1; omega) (by have := (unhide HLEN).2.2.1; have := hf.2.2.1.1; omega) (by have := (unhide HLEN).2.2.2; have := hf.2.2.2.1; omega))
  have CW := hide (fun (hf : FitSt b0) g1 g2 g3 g4 wx (h : SOwn4 wx g1 g2 g3 g4 a0.ql a0.al a0.ml a0.cl b0) => h.2.1.wh (unhide HLEN).2.1 (fun q hq => (hf.2.1.2 q hq).2.1))
  clear w0 x0 hap w1
  obtain ⟨qa, ql, qc, aa, al, ac, ma, ml, mc, ca, cl, cc⟩ := a0
  obtain ⟨qs, clock, epoch, next, serial, apps, ms, cs⟩ := b0
  simp only at CS CI CT CE CM CW
  go_enter Tryz.func4, Tryz.ntmps4
  go_wp2_with fail
  refine (unhide C0).mono ?_
  rintro e w1 ⟨r, rfl, hr, hb⟩
  have I1 := hide ((unhide I0).call hb)
  clear hb C0 I0
  rcases hr with rfl | ⟨hr, hfit⟩
  · go_wp2
    go_ret
    exact ⟨rfl, (unhide I1).2⟩
  have HF := hide hfit
  obtain ⟨hfs, hla⟩ := unhide HFIT hfit
  have HFS := hide hfs
  obtain ⟨n, hnn⟩ : ∃ n, G1.length = n := ⟨_, rfl⟩
  rw [hnn] at hla
  have HNN := hide hnn
  clear hfit HFIT hnn hfs
  obtain ⟨p0, p1, p2, p3, p4, p5, p6, p7⟩ := unhide RB _ (unhide I1)
  try simp only at p0 p1 p2 p3 p4 p5 p6 p7
  go_wp2_with fail
  refine (unhide CT (unhide HF) _ (unhide I1).2).mono ?_
  rintro e w2 ⟨f1, f2, f3, f4, rfl, hq, _, hb⟩
  have I2 := hide ((unhide I1).call hb)
  have Q2 := hide hq
  have z2 : w.heap.size < w2.heap.size := (unhide I2).1.lt
  clear hb hq I1 p0 p1 p2 p3 p4 p5 p6 p7
  go_wp2_with fail
  refine (unhide CS (unhide HF) _ _ _ _ _ (unhide Q2)).mono ?_
  rintro e w3 ⟨yw, hw, wo, wn, wc, rfl, haw, hb⟩
  obtain rfl : wn = n := haw.c.1.trans (unhide HNN)
  have I3 := hide (((unhide I2).call hb).al (.cells (svc yw S1) 35))
  have A3 := hide haw
  have z3 : w.heap.size < w3.heap.size := by have := hb.size; omega
  clear hb haw I2 Q2 CS
  obtain ⟨p0, p1, p2, p3, p4, p5, p6, p7⟩ := unhide RB _ (unhide I3)
  try simp only at p0 p1 p2 p3 p4 p5 p6 p7
  go_wp2_with fail
  refine (unhide CT (unhide HF) _ (unhide I3).2).mono ?_
  rintro e w4 ⟨g1, g2, g3, g4, rfl, hq, hgs, hb⟩
  have A4 := hide (((unhide A3).below hb).al (.cells (svc (own4 g1 g2 g3 g4 ql al ml cl) ⟨qs, clock, epoch, next, serial, apps, ms, cs⟩) 35))
  have N4 := hide (show InTwo w ⟨qa, ql, qc, aa, al, ac, ma, ml, mc, ca, cl, cc⟩ ⟨qs, clock, epoch, next, serial, apps, ms, cs⟩ w4.heap.size g1 g2 g3 g4 (w4.alloc (.cells (svc (own4 g1 g2 g3 g4 ql al ml cl) ⟨qs, clock, epoch, next, serial, apps, ms, cs⟩) 35)) from ⟨((unhide I3).call hb).al _, blk_new _ _ _, SOwn4.below hq (below_al (Below.refl _ _) _)⟩)
  have W4 := hide (((unhide CW (unhide HF) _ _ _ _ _ hq).mono (show w3.heap.size + 1 ≤ g2 + 1 by rw [al_size] at hgs; omega) (Nat.le_refl _)).below (below_al (Below.refl _ _) (.cells (svc (own4 g1 g2 g3 g4 ql al ml cl) ⟨qs, clock, epoch, next, serial, apps, ms, cs⟩) 35)))
  have hg4 : g4 < w4.heap.size := hq.2.2.2.lt
  rw [al_size] at hgs
  obtain ⟨hg1, hg2, hg3, hg3'⟩ := hgs
  clear hb hq I3 A3 p0 p1 p2 p3 p4 p5 p6 p7
  go_wp2_with fail
  refine (unhide CI (unhide HF) _ _ _ _ _ (unhide N4).2.2).mono ?_
  rintro e w5 ⟨yg, hg, go, gn, gc, rfl, hag, hb⟩
  obtain rfl : gn = wn := hag.c.1.trans (unhide HNN)
  rw [al_size] at hag
  have A5 := hide (((unhide A4).below hb).al (.cells (svc yg S1) 35))
  have N5 := hide (((unhide N4).call hb).al (.cells (svc yg S1) 35))
  have W5 := hide ((((unhide W4).below hb)).below (below_al (Below.refl _ _) (.cells (svc yg S1) 35)))
  have G5 := hide hag
  have z5 : w4.heap.size < w5.heap.size := ((unhide N4).2.1.below hb).lt
  have HLIM := hide (hag.a.lim (unhide HFS))
  clear hb hag N4 A4 W4
  obtain ⟨v0, v1, v2, v3, v4, v5, v6, v7⟩ := (unhide A5).read
  obtain ⟨u0, u1, u2, u3, u4, u5, u6, u7⟩ := (unhide G5).read
  obtain ⟨gw, hgw⟩ : ∃ g, w3.heap.size = g := ⟨_, rfl⟩
  obtain ⟨gx, hgx⟩ : ∃ g, w4.heap.size = g := ⟨_, rfl⟩
  rw [hgw] at A5 W5 z3 hg1 v0 v1 v2 v3 v4 v5 v6 v7
  rw [hgx] at N5 W5 G5 z5 hg4
  rw [hgw, hgx]
  clear hgw hgx
  go_wp2_with fail
  refine (eqState_same yg yw S1 _ (unhide G5).a.row (unhide A5).a.row (unhide HFS)).mono ?_
  rintro e w6 ⟨rfl, hb⟩
  have A6 := hide ((unhide A5).below hb)
  have N6 := hide ((unhide N5).call hb)
  have W6 := hide ((unhide W5).below hb)
  have G6 := hide ((unhide G5).below hb)
  clear hb A5 N5 W5 G5 v0 v1 v2 v3 v4 v5 v6 v7 u0 u1 u2 u3 u4 u5 u6 u7
  obtain ⟨gg, hgg⟩ : ∃ g, w5.heap.size = g := ⟨_, rfl⟩
  rw [hgg] at G6 z5
  rw [hgg]
  clear hgg
  go_wp2_with fail
  refine (eqContS_same go wo gn gc wc G1 _ (unhide G6).c (unhide A6).c hla).mono ?_
  rintro e w6b ⟨rfl, hb⟩
  have A6b := hide ((unhide A6).below hb)
  have N6b := hide ((unhide N6).call hb)
  have W6b := hide ((unhide W6).below hb)
  have G6b := hide ((unhide G6).below hb)
  clear hb A6 N6 W6 G6
  have R := fun wx (h : InTwoB w6b w ⟨qa, ql, qc, aa, al, ac, ma, ml, mc, ca, cl, cc⟩ ⟨qs, clock, epoch, next, serial, apps, ms, cs⟩ gx g1 g2 g3 g4 wx) => InTwo.read w ⟨qa, ql, qc, aa, al, ac, ma, ml, mc, ca, cl, cc⟩ ⟨qs, clock, epoch, next, serial, apps, ms, cs⟩ gx g1 g2 g3 g4 wx h.1
  simp only at R
  have N6B := hide (show InTwoB w6b w ⟨qa, ql, qc, aa, al, ac, ma, ml, mc, ca, cl, cc⟩ ⟨qs, clock, epoch, next, serial, apps, ms, cs⟩ gx g1 g2 g3 g4 w6b from ⟨unhide N6b, Below.refl _ _⟩)
  clear N6b
  go_wp2_with fail
  go_region_held3 (fun wx => InTwoB w6b w ⟨qa, ql, qc, aa, al, ac, ma, ml, mc, ca, cl, cc⟩ ⟨qs, clock, epoch, next, serial, apps, ms, cs⟩ gx g1 g2 g3 g4 wx)
    (first | (with_reducible assumption) | exact unhide SA | exact (unhide N6B).drew | exact InTwoB.call (by assumption) (by assumption))
    (first
    | (go_at_call 8; refine (unhide CT (unhide HF) _ ?_).mono ?_; (exact (show InTwoB w6b w ⟨qa, ql, qc, aa, al, ac, ma, ml, mc, ca, cl, cc⟩ ⟨qs, clock, epoch, next, serial, apps, ms, cs⟩ gx g1 g2 g3 g4 _ by assumption).1.1.2); rintro e wt ⟨k1, k2, k3, k4, rfl, hk, _, hb⟩; have HK := hide hk; have SA := InTwoB.call (w9 := w6b) (w := w) (x := ⟨qa, ql, qc, aa, al, ac, ma, ml, mc, ca, cl, cc⟩) (s := ⟨qs, clock, epoch, next, serial, apps, ms, cs⟩) (g := gx) (g1 := g1) (g2 := g2) (g3 := g3) (g4 := g4) (by assumption) hb)
    | (go_at_call 11; refine (unhide CE (unhide HF) _ _ _ _ _ _ _ _ _ ?_ ?_).mono ?_; (exact (show InTwoB w6b w ⟨qa, ql, qc, aa, al, ac, ma, ml, mc, ca, cl, cc⟩ ⟨qs, clock, epoch, next, serial, apps, ms, cs⟩ gx g1 g2 g3 g4 _ by assumption).1.2.2); (exact unhide HK); rintro e wu ⟨rfl, hb⟩; have SA := InTwoB.call (w9 := w6b) (w := w) (x := ⟨qa, ql, qc, aa, al, ac, ma, ml, mc, ca, cl, cc⟩) (s := ⟨qs, clock, epoch, next, serial, apps, ms, cs⟩) (g := gx) (g1 := g1) (g2 := g2) (g3 := g3) (g4 := g4) (by assumption) hb))
  all_goals
    have A7 := hide ((unhide A6b).below SA.2)
    have G7 := hide ((unhide G6b).below SA.2)
    have W7 := hide ((unhide W6b).below SA.2)
    have N7 := hide SA.1
    clear SA A6b G6b W6b N6B R
    obtain ⟨_, q0, q1, q2, q3, q4, q5, q6, q7⟩ := InTwo.read w ⟨qa, ql, qc, aa, al, ac, ma, ml, mc, ca, cl, cc⟩ ⟨qs, clock, epoch, next, serial, apps, ms, cs⟩ gx g1 g2 g3 g4 _ (unhide N7)
    try simp only at q0 q1 q2 q3 q4 q5 q6 q7
    go_wp2_with fail
    refine (unhide CM (unhide HF) (gw + 1) gx g1 g2 g3 g4 _ (unhide N7).2.2 (unhide W7) ⟨by omega, hg2, hg3, hg3', hg4⟩ (Nat.le_of_lt (unhide N7).2.1.lt)).mono ?_
    rintro e w8 ⟨k, rfl, hk, hm⟩
    have I8 := hide ((unhide N7).1.mkd hm (by omega) (by have := (unhide N7).2.1.lt; omega))
    have A8 := hide ((unhide A7).offd hm (.inl (by omega)) (.inl (by omega)))
    have G8 := hide ((unhide G7).offd hm (.inr (by omega)) (.inr (by omega)))
    clear hm N7 A7 G7 W7 q0 q1 q2 q3 q4 q5 q6 q7 CM CE CW
    obtain ⟨v0, v1, v2, v3, v4, v5, v6, v7⟩ := (unhide A8).read
    obtain ⟨u0, u1, u2, u3, u4, u5, u6, u7⟩ := (unhide G8).read
    have hkn : ¬ k < 0 := by omega
    go_wp2_with fail
    refine (eqState_same yg yw S1 _ (unhide G8).a.row (unhide A8).a.row (unhide HFS)).mono ?_
    rintro e w9 ⟨rfl, hb⟩
    have A9 := hide ((unhide A8).below hb)
    have G9 := hide ((unhide G8).below hb)
    have I9 := hide ((unhide I8).call hb)
    clear hb A8 G8 I8 v0 v1 v2 v3 v4 v5 v6 v7 u0 u1 u2 u3 u4 u5 u6 u7
    go_wp2_with fail
    refine (eqContS_same go wo gn gc wc G1 _ (unhide G9).c (unhide A9).c hla).mono ?_
    rintro e w9b ⟨rfl, hb⟩
    have A9b := hide ((unhide A9).below hb)
    have G9b := hide ((unhide G9).below hb)
    have I9b := hide ((unhide I9).call hb)
    clear hb A9 G9 I9
    obtain ⟨u0, u1, u2, u3, u4, u5, u6, u7⟩ := (unhide G9b).read
    go_wp2_with fail
    refine (mark_st (unhide G9b) (unhide HLIM)).mono ?_
    rintro e w10 ⟨rfl, hH, hm⟩
    have hin := (unhide G9b).a.ins
    have zg := (unhide G9b).box.lt
    have I10 := hide ((unhide I9b).off hm (B := gx + 1) (fun k hk => (hin k hk).1) (by omega) (by omega))
    have A10 := hide ((unhide A9b).off hm hin (.inl (by omega)) (.inl (by omega)))
    have H10 := hide hH
    clear hm hH hin zg A9b G9b I9b u0 u1 u2 u3 u4 u5 u6 u7
    go_wp2_with fail
    refine (mark_gone (unhide H10) (unhide HLIM) hla).mono ?_
    rintro e w10b ⟨rfl, hM, hm⟩
    have hin := fun k hk => (unhide H10).co.lies k hk
    have zg := (unhide H10).box.lt
    have I10b := hide ((unhide I10).off hm (B := gx + 1) (fun k hk => (hin k hk).1) (by omega) (by omega))
    have A10b := hide ((unhide A10).off hm (fun k hk => ⟨(hin k hk).1, (hin k hk).2.1⟩) (.inl (by omega)) (.inl (by omega)))
    have M10 := hide hM
    clear hm hM hin zg A10 H10 I10
    obtain ⟨u0, u1, u2, u3, u4, u5, u6, u7⟩ := (unhide M10).read
    go_wp2_with fail
    refine (heldState_ans S1 (unhide M10).m (unhide HLIM)).mono ?_
    rintro e w11 ⟨rfl, hb⟩
    have I11 := hide ((unhide I10b).call hb)
    have A11 := hide ((unhide A10b).below hb)
    have M11 := hide ((unhide M10).below hb)
    clear hb I10b A10b M10 u0 u1 u2 u3 u4 u5 u6 u7
    have he1 : ¬ ((endS yg hg : Nat) : Int) < 0 := by omega
    have he2 : ¬ (((endS yg hg : Nat) : Int) + 5 * (gn : Int)) < 0 := by omega
    go_wp2_with fail
    refine (held_gone (unhide M11) (unhide HLIM) hla).mono ?_
    rintro e w11b ⟨rfl, hb⟩
    have I11b := hide ((unhide I11).call hb)
    have A11b := hide ((unhide A11).below hb)
    have M11b := hide ((unhide M11).below hb)
    clear hb I11 A11 M11
    obtain ⟨p0, p1, p2, p3, p4, p5, p6, p7⟩ := unhide RB _ (unhide I11b)
    try simp only at p0 p1 p2 p3 p4 p5 p6 p7
    go_wp2_with fail
    refine (unhide CT (unhide HF) _ (unhide I11b).2).mono ?_
    rintro e w12 ⟨h1, h2, h3, h4, rfl, hq, _, hb⟩
    have I12 := hide ((unhide I11b).call hb)
    have A12 := hide ((unhide A11b).below hb)
    have M12 := hide ((unhide M11b).below hb)
    have Q12 := hide hq
    clear hb hq I11b A11b M11b p0 p1 p2 p3 p4 p5 p6 p7
    go_wp2_with fail
    refine (unhide CI (unhide HF) _ _ _ _ _ (unhide Q12)).mono ?_
    rintro e w13 ⟨yh, hh, so, sn, sc, rfl, hah, hb⟩
    obtain rfl : sn = gn := hah.c.1.trans (unhide HNN)
    have I13 := hide (((unhide I12).call hb).al (.cells (svc yh S1) 35))
    have A13 := hide (((unhide A12).below hb).al (.cells (svc yh S1) 35))
    have M13 := hide (((unhide M12).below hb).al (.cells (svc yh S1) 35))
    have S13 := hide hah
    clear hb hah I12 A12 M12 Q12 CI CT
    obtain ⟨v0, v1, v2, v3, v4, v5, v6, v7⟩ := (unhide A13).read
    obtain ⟨u0, u1, u2, u3, u4, u5, u6, u7⟩ := (unhide S13).read
    go_wp2_with fail
    refine (eqState_same yh yw S1 _ (unhide S13).a.row (unhide A13).a.row (unhide HFS)).mono ?_
    rintro e w14 ⟨rfl, hb⟩
    have I14 := hide ((unhide I13).call hb)
    have A14 := hide ((unhide A13).below hb)
    have M14 := hide ((unhide M13).below hb)
    have S14 := hide ((unhide S13).below hb)
    clear hb I13 A13 M13 S13 v0 v1 v2 v3 v4 v5 v6 v7 u0 u1 u2 u3 u4 u5 u6 u7
    go_wp2_with fail
    refine (eqContS_same so wo sn sc wc G1 _ (unhide S14).c (unhide A14).c hla).mono ?_
    rintro e w14b ⟨rfl, hb⟩
    have I14b := hide ((unhide I14).call hb)
    have M14b := hide ((unhide M14).below hb)
    clear hb I14 A14 M14 S14
    obtain ⟨u0, u1, u2, u3, u4, u5, u6, u7⟩ := (unhide M14b).read
    go_wp2_with fail
    refine (heldState_ans S1 (unhide M14b).m (unhide HLIM)).mono ?_
    rintro e w15 ⟨rfl, hb⟩
    have I15 := hide ((unhide I14b).call hb)
    have M15 := hide ((unhide M14b).below hb)
    clear hb I14b M14b u0 u1 u2 u3 u4 u5 u6 u7
    go_wp2_with fail
    refine (held_gone (unhide M15) (unhide HLIM) hla).mono ?_
    rintro e w16 ⟨rfl, hb⟩
    have HB := hide (below_on (unhide I15).2 hb)
    clear hb I15 M15
    go_wp2
    go_ret
    exact ⟨rfl, unhide HB⟩

set_option maxRecDepth 100000 in
theorem lifted (os : Os) (started : os.Started) (H : Type) (enc : TypeId × Value → H) :
    ReturnsInHanded {} Tryz.checked os 4 .any (Rows.fnExactDropSpec.pre6 enc Tryz.prog Tryz.f4 Rows.fnExactDropRow.domain false) (Rows.fnExactDropSpec.post enc Tryz.prog Tryz.f4 false true false false) := by
  refine returnsInHanded_of_change (C := Tryz.checked) own started (by kernel_rfl) Tryz.func4
    (ChangeSpec.witness6 (enc := enc) (C := Tryz.checked) false ⟨#[], #[.agg #[.slice none 0 0, .int .i64 0, .int .i64 0, .int .i64 0, .int .i64 0, .slice none 0 0, .slice none 0 0, .slice none 0 0], .int .i64 0], []⟩ 8 (by kernel_rfl) (by kernel_rfl) (by kernel_rfl) (by kernel_rfl)) ?_
  intro W base args ds gs before hval0 hW hcnd _
  have hval : ∀ (j : Nat) t v, Tryz.f4.params[j]? = some t → args[j]? = some v → Value.okWide Tryz.prog W .any base t v := hval0
  have hW' := hW
  obtain ⟨p, q, hA0, hV, rfl, hfz, hnd⟩ := hW
  have hA : DataW.TrodAll enc Tryz.prog W 0 (fun _ => true) true Tryz.f4.params.toList args.toList ds p := hA0
  rw [Tryz.params4] at hA hval
  obtain ⟨v0, vs0, d0, ds0, p0, q0, hargs, rfl, rfl, h0, r0⟩ := trodAll_cons hA
  obtain ⟨v1, vs1, d1, ds1, p1, q1, rfl, rfl, rfl, h1, r1⟩ := trodAll_cons r0
  obtain ⟨rfl, rfl, rfl⟩ := trodAll_nil r1
  obtain rfl : args = #[v0, v1] := by cases args; simp_all
  obtain ⟨rfl, rfl⟩ := trodVars_none hV
  have k0 := h0
  have lt0 : ∀ x ∈ p0, x.block < W.heap.size := by obtain ⟨m, hm⟩ := k0; exact DataW.trod_lt m _ _ _ hm
  obtain ⟨a0, b0, rfl, w0, x0⟩ := open_state (hval 0 27 v0 rfl rfl) h0
  obtain ⟨a1, rfl, rfl, rfl, w1⟩ := open_int Tryz.underlying3 (hval 1 3 v1 rfl rfl) h1
  clear hA0 hval0
  refine (walk a0 b0 a1 W w0 x0 w1).mono fun e W' ⟨he, bel⟩ => ?_
  subst he
  exact ⟨_, rfl, _, _, _, [], _, [], hW', trodAll_mk1 (shut_bool Tryz.underlying4 _), (trodAll_cons_mk (Below.trod laidOut (by kernel_rfl) (of_decide_eq_true (by kernel_rfl)) k0 bel lt0) (trodAll_cons_mk (shut_int Tryz.underlying3 w1) trodAll_mk0)), rfl, bel.frame _, fun h => by cases h⟩

theorem over : Rows.fnExactDropRow.holds Tryz.pinned (OpenSpec.ofChange Rows.fnExactDropSpec) :=
  OpenClaim.holds_of_wide 4 Tryz.f4 rfl rfl rfl rfl rfl rfl rfl ⟨rfl, rfl, rfl, rfl, rfl⟩ rfl rfl rfl rfl rfl (by kernel_rfl) Tryz.func4 (by kernel_rfl)
    (of_decide_eq_true (by kernel_rfl)) (by unfold Func.isWrapper; first | (rw [if_pos (by decide +kernel)]; kernel_rfl) | (rw [if_neg (by decide +kernel)]; exact ⟨rfl, rfl⟩))
    (fun os started H enc _ => lifted os started H enc)
end Go.Proofs.YtjjnmiajkjibeaaGreat.fnExactDrop

namespace Go.Proofs.YtjjnmiajkjibeaaGreat
theorem fnExactDrop_holds : Rows.FnExactDropSaid := fnExactDrop.over
#print axioms fnExactDrop_holds
end Go.Proofs.YtjjnmiajkjibeaaGreat
