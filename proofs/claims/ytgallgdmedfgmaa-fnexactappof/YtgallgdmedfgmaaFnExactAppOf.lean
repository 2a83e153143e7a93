/-
  The law FnExactAppOf answers true at every state and every number: the program's AppOf answers as the model's, writes into nothing that it was handed and keeps nothing of it, and its answer owns its memory, behind another call too; no condition.
-/
import Derived.Test.YtgallgdmedfgmaaRows
import Derived.Test.YtgallgdmedfgmaaAppLaw
import Derived.Test.YtgallgdmedfgmaaStAll
import Derived.WalkKit
import Derived.Deep.CutRange
import Derived.Deep.RegionHeld3
import Derived.Deep.RegionWith
import Derived.Deep.QuietTactic
import Derived.ProofKit
import Derived.OpenShut
import Derived.ShutString
import Derived.ChangeOld
import Derived.Below

namespace Go.Proofs.Ytgallgdmedfgmaa.fnExactAppOf
open Go.ChangeShapes Go.WideShapes Go.ChangeAt Go.RowKit
open Go.ChangeMaps (open_string shut_string)
set_option linter.unusedVariables false

theorem own : ownKnob Try.prog.godebug = none := by kernel_rfl
theorem laidOut : laidOutB Try.prog = true := by kernel_rfl

set_option maxRecDepth 100000 in
set_option maxHeartbeats 8000000 in
theorem walk (a0 : Sls) (b0 : St) (a1 : Int) (w : World) (w0 : SRow w a0 b0) (x0 : StFit a0 b0) (w1 : (Lit.int .i64 a1).wf = true) :
    Calls Try.prog 5 #[sv a0 b0, .int .i64 a1] w fun e w' => e = .returned (.bool true) ∧ Below w.heap.size w w' := by
  have HR := hide w0
  have HLEN := hide w0.len
  have I0 := hide (InBox.new w a0 b0)
  have C0 := hide (szState_any a0 b0 _ (w0.below (unhide I0).2) x0.big)
  have RB := hide (InBox.read w a0 b0)
  have HLA := hide (fun hf : FitSt b0 => appOfV_len (id := a1) hf)
  obtain ⟨⟨⟨ai, aq, aas⟩, fo⟩, hap⟩ : ∃ r, appOfV b0 a1 = r := ⟨_, rfl⟩
  rw [hap] at HLA
  have CS := hide (fun (hf : FitSt b0) g1 g2 g3 g4 wx (h : SOwn4 wx g1 g2 g3 g4 a0.ql a0.al a0.ml a0.cl b0) => by have := specAppOf_any (g2 + 1) wx.heap.size g1 g2 g3 g4 a0.ql a0.al a0.ml a0.cl b0 a1 wx (h.row (unhide HLEN)) (h.2.1.wh (unhide HLEN).2.1 (fun q hq => (hf.2.1.2 q hq).2.1)) hf; rw [hap] at this; exact this)
  have CI := hide (fun (hf : FitSt b0) g1 g2 g3 g4 wx (h : SOwn4 wx g1 g2 g3 g4 a0.ql a0.al a0.ml a0.cl b0) => by have := implAppOf_any (own4 g1 g2 g3 g4 a0.ql a0.al a0.ml a0.cl) b0 a1 wx (h.row (unhide HLEN)) hf (fun a ha => (x0.2.1.2 a ha).2.1) w1; rw [hap] at this; exact this)
  have CT := hide (fun (hf : FitSt b0) wx (hb : Below w.heap.size w wx) => toState_any a0 b0 wx ((unhide HR).below hb) hf)
  have CE := hide (fun (hf : FitSt b0) g1 g2 g3 g4 k1 k2 k3 k4 wx (h : SOwn4 wx g1 g2 g3 g4 a0.ql a0.al a0.ml a0.cl b0) (k : SOwn4 wx k1 k2 k3 k4 a0.ql a0.al a0.ml a0.cl b0) => eqState_same (own4 g1 g2 g3 g4 a0.ql a0.al a0.ml a0.cl) (own4 k1 k2 k3 k4 a0.ql a0.al a0.ml a0.cl) b0 wx (h.row (unhide HLEN)) (k.row (unhide HLEN)) hf)
  have CM := hide (fun (hf : FitSt b0) B E g1 g2 g3 g4 wx (h : SOwn4 wx g1 g2 g3 g4 a0.ql a0.al a0.ml a0.cl b0) (ha : AWh wx B E g2 a0.al) (hb : B ≤ g1 ∧ g1 < g2 ∧ g2 < g3 ∧ g3 < g4 ∧ g4 < E) (hE : E ≤ wx.heap.size) => markState_any B E g1 g2 g3 g4 a0.ql a0.al a0.ml a0.cl b0 wx h.1.cel ha h.2.2.1.cel h.2.2.2.cel hb hE (by have := (unhide HLEN).1; have := hf.1.1; omega) (by have := (unhide HLEN).2.1; have := hf.2.1.1; omega) (by have := (unhide HLEN).2.2.1; have := hf.2.2.1.1; omega) (by have := (unhide HLEN).2.2.2; have := hf.2.2.2.1; omega))
  have CW := hide (fun (hf : FitSt b0) g1 g2 g3 g4 wx (h : SOwn4 wx g1 g2 g3 g4 a0.ql a0.al a0.ml a0.cl b0) => h.2.1.wh (unhide HLEN).2.1 (fun q hq => (hf.2.1.2 q hq).2.1))
  clear w0 x0 hap w1
  obtain ⟨qa, ql, qc, aa, al, ac, ma, ml, mc, ca, cl, cc⟩ := a0
  obtain ⟨qs, clock, epoch, next, serial, apps, ms, cs⟩ := b0
  simp only at CS CI CT CE CM CW HLA
  go_enter Try.func5, Try.ntmps5
  go_wp2_with fail
  refine (unhide C0).mono ?_
  rintro e w1 ⟨r, rfl, hr, hb⟩
  have I1 := hide ((unhide I0).call hb)
  clear hb C0 I0
  rcases hr with rfl | ⟨hr, hfit⟩
  · go_wp2
    go_ret
    exact ⟨rfl, (unhide I1).2⟩
  have HF := hide hfit
  have hla := unhide HLA hfit
  obtain ⟨n, hnn⟩ : ∃ n, aas.length = n := ⟨_, rfl⟩
  rw [hnn] at hla
  have HNN := hide hnn
  clear hfit HLA hnn
  obtain ⟨p0, p1, p2, p3, p4, p5, p6, p7⟩ := unhide RB _ (unhide I1)
  try simp only at p0 p1 p2 p3 p4 p5 p6 p7
  go_wp2_with fail
  refine (unhide CT (unhide HF) _ (unhide I1).2).mono ?_
  rintro e w2 ⟨f1, f2, f3, f4, rfl, hq, _, hb⟩
  have I2 := hide ((unhide I1).call hb)
  have Q2 := hide hq
  clear hb hq I1 p0 p1 p2 p3 p4 p5 p6 p7
  go_wp2_with fail
  refine (unhide CS (unhide HF) _ _ _ _ _ (unhide Q2)).mono ?_
  rintro e w3 ⟨v, rfl, hoo⟩
  obtain ⟨ho, hb⟩ := unhide hoo
  obtain ⟨wo, wc, rfl, _⟩ := ho.row
  rw [unhide HNN] at ho
  rw [unhide HNN]
  have I3 := hide (((unhide I2).call hb).al (.cells #[.int .i64 ai, .string (bs aq), .slice wo n wc] 53))
  have A3 := hide (ans_new ai aq ho (unhide HNN))
  have O3 := hide (World.ownsRow.lt ho)
  have z3 : w.heap.size < w3.heap.size := ((unhide I2).call hb).1.lt
  clear hb ho hoo I2 Q2 CS
  obtain ⟨p0, p1, p2, p3, p4, p5, p6, p7⟩ := unhide RB _ (unhide I3)
  try simp only at p0 p1 p2 p3 p4 p5 p6 p7
  go_wp2_with fail
  refine (unhide CT (unhide HF) _ (unhide I3).2).mono ?_
  rintro e w4 ⟨g1, g2, g3, g4, rfl, hq, hgs, hb⟩
  have A4 := hide (((unhide A3).below hb).al (.cells (svc (own4 g1 g2 g3 g4 ql al ml cl) ⟨qs, clock, epoch, next, serial, apps, ms, cs⟩) 46))
  have N4 := hide (show InTwo w ⟨qa, ql, qc, aa, al, ac, ma, ml, mc, ca, cl, cc⟩ ⟨qs, clock, epoch, next, serial, apps, ms, cs⟩ w4.heap.size g1 g2 g3 g4 (w4.alloc (.cells (svc (own4 g1 g2 g3 g4 ql al ml cl) ⟨qs, clock, epoch, next, serial, apps, ms, cs⟩) 46)) from ⟨((unhide I3).call hb).al _, blk_new _ _ _, SOwn4.below hq (below_al (Below.refl _ _) _)⟩)
  have W4 := hide (((unhide CW (unhide HF) _ _ _ _ _ hq).mono (show w3.heap.size + 1 ≤ g2 + 1 by rw [al_size] at hgs; omega) (Nat.le_refl _)).below (below_al (Below.refl _ _) (.cells (svc (own4 g1 g2 g3 g4 ql al ml cl) ⟨qs, clock, epoch, next, serial, apps, ms, cs⟩) 46)))
  have hg4 : g4 < w4.heap.size := hq.2.2.2.lt
  rw [al_size] at hgs
  obtain ⟨hg1, hg2, hg3, hg3'⟩ := hgs
  clear hb hq I3 A3 p0 p1 p2 p3 p4 p5 p6 p7
  go_wp2_with fail
  refine (unhide CI (unhide HF) _ _ _ _ _ (unhide N4).2.2).mono ?_
  rintro e w5 ⟨v, rfl, hoo⟩
  obtain ⟨ho, hb⟩ := unhide hoo
  obtain ⟨go, gc, rfl, _⟩ := ho.row
  rw [unhide HNN] at ho
  rw [unhide HNN]
  rw [al_size] at ho
  have A5 := hide (((unhide A4).below hb).al (.cells #[.int .i64 ai, .string (bs aq), .slice go n gc] 53))
  have N5 := hide (((unhide N4).call hb).al (.cells #[.int .i64 ai, .string (bs aq), .slice go n gc] 53))
  have W5 := hide ((((unhide W4).below hb)).below (below_al (Below.refl _ _) (.cells #[.int .i64 ai, .string (bs aq), .slice go n gc] 53)))
  have G5 := hide (ans_new ai aq ho (unhide HNN))
  have O5 := hide (World.ownsRow.lt ho)
  have z5 : w4.heap.size < w5.heap.size := ((unhide N4).2.1.below hb).lt
  clear hb ho hoo N4 A4 W4
  obtain ⟨v0, v1, v2⟩ := (unhide A5).read
  obtain ⟨u0, u1, u2⟩ := (unhide G5).read
  obtain ⟨gw, hgw⟩ : ∃ g, w3.heap.size = g := ⟨_, rfl⟩
  obtain ⟨gx, hgx⟩ : ∃ g, w4.heap.size = g := ⟨_, rfl⟩
  rw [hgw] at A5 W5 O3 z3 hg1 v0 v1 v2
  rw [hgx] at N5 W5 G5 O5 z5 hg4
  rw [hgw, hgx]
  clear hgw hgx
  go_wp2_with fail
  refine (eqApp_same ai aq go wo n gc wc aas _ (unhide G5).row (unhide A5).row hla).mono ?_
  rintro e w6 ⟨rfl, hb⟩
  have A6 := hide ((unhide A5).below hb)
  have N6 := hide ((unhide N5).call hb)
  have W6 := hide ((unhide W5).below hb)
  have G6 := hide ((unhide G5).below hb)
  clear hb A5 N5 W5 G5 v0 v1 v2 u0 u1 u2
  obtain ⟨gg, hgg⟩ : ∃ g, w5.heap.size = g := ⟨_, rfl⟩
  rw [hgg] at G6 z5
  rw [hgg]
  clear hgg
  have R := fun wx (h : InTwoB w6 w ⟨qa, ql, qc, aa, al, ac, ma, ml, mc, ca, cl, cc⟩ ⟨qs, clock, epoch, next, serial, apps, ms, cs⟩ gx g1 g2 g3 g4 wx) => InTwo.read w ⟨qa, ql, qc, aa, al, ac, ma, ml, mc, ca, cl, cc⟩ ⟨qs, clock, epoch, next, serial, apps, ms, cs⟩ gx g1 g2 g3 g4 wx h.1
  simp only at R
  have N6B := hide (show InTwoB w6 w ⟨qa, ql, qc, aa, al, ac, ma, ml, mc, ca, cl, cc⟩ ⟨qs, clock, epoch, next, serial, apps, ms, cs⟩ gx g1 g2 g3 g4 w6 from ⟨unhide N6, Below.refl _ _⟩)
  clear N6
  go_wp2_with fail
  go_region_held3 (fun wx => InTwoB w6 w ⟨qa, ql, qc, aa, al, ac, ma, ml, mc, ca, cl, cc⟩ ⟨qs, clock, epoch, next, serial, apps, ms, cs⟩ gx g1 g2 g3 g4 wx)
    (first | (with_reducible assumption) | exact unhide SA | exact (unhide N6B).drew | exact InTwoB.call (by assumption) (by assumption))
    (first
    | (go_at_call 14; refine (unhide CT (unhide HF) _ ?_).mono ?_; (exact (show InTwoB w6 w ⟨qa, ql, qc, aa, al, ac, ma, ml, mc, ca, cl, cc⟩ ⟨qs, clock, epoch, next, serial, apps, ms, cs⟩ gx g1 g2 g3 g4 _ by assumption).1.1.2); rintro e wt ⟨k1, k2, k3, k4, rfl, hk, _, hb⟩; have HK := hide hk; have SA := InTwoB.call (w9 := w6) (w := w) (x := ⟨qa, ql, qc, aa, al, ac, ma, ml, mc, ca, cl, cc⟩) (s := ⟨qs, clock, epoch, next, serial, apps, ms, cs⟩) (g := gx) (g1 := g1) (g2 := g2) (g3 := g3) (g4 := g4) (by assumption) hb)
    | (go_at_call 17; refine (unhide CE (unhide HF) _ _ _ _ _ _ _ _ _ ?_ ?_).mono ?_; (exact (show InTwoB w6 w ⟨qa, ql, qc, aa, al, ac, ma, ml, mc, ca, cl, cc⟩ ⟨qs, clock, epoch, next, serial, apps, ms, cs⟩ gx g1 g2 g3 g4 _ by assumption).1.2.2); (exact unhide HK); rintro e wu ⟨rfl, hb⟩; have SA := InTwoB.call (w9 := w6) (w := w) (x := ⟨qa, ql, qc, aa, al, ac, ma, ml, mc, ca, cl, cc⟩) (s := ⟨qs, clock, epoch, next, serial, apps, ms, cs⟩) (g := gx) (g1 := g1) (g2 := g2) (g3 := g3) (g4 := g4) (by assumption) hb))
  all_goals
    have A7 := hide ((unhide A6).below SA.2)
    have G7 := hide ((unhide G6).below SA.2)
    have W7 := hide ((unhide W6).below SA.2)
    have N7 := hide SA.1
    clear SA A6 G6 W6 N6B R
    obtain ⟨_, q0, q1, q2, q3, q4, q5, q6, q7⟩ := InTwo.read w ⟨qa, ql, qc, aa, al, ac, ma, ml, mc, ca, cl, cc⟩ ⟨qs, clock, epoch, next, serial, apps, ms, cs⟩ gx g1 g2 g3 g4 _ (unhide N7)
    try simp only at q0 q1 q2 q3 q4 q5 q6 q7
    go_wp2_with fail
    refine (unhide CM (unhide HF) (gw + 1) gx g1 g2 g3 g4 _ (unhide N7).2.2 (unhide W7) ⟨by omega, hg2, hg3, hg3', hg4⟩ (Nat.le_of_lt (unhide N7).2.1.lt)).mono ?_
    rintro e w8 ⟨k, rfl, hk, hm⟩
    have I8 := hide ((unhide N7).1.mkd hm (by omega) (by have := (unhide N7).2.1.lt; omega))
    have A8 := hide ((unhide A7).mkd hm (.inl (by omega)) (fun i hi => .inl (by have := unhide O3 i hi; omega)))
    have G8 := hide ((unhide G7).mkd hm (.inr (by omega)) (fun i hi => .inr (by have := unhide O5 i hi; omega)))
    clear hm N7 A7 G7 W7 q0 q1 q2 q3 q4 q5 q6 q7 CM CE CW
    obtain ⟨v0, v1, v2⟩ := (unhide A8).read
    obtain ⟨u0, u1, u2⟩ := (unhide G8).read
    have hkn : ¬ k < 0 := by omega
    go_wp2_with fail
    refine (eqApp_same ai aq go wo n gc wc aas _ (unhide G8).row (unhide A8).row hla).mono ?_
    rintro e w9 ⟨rfl, hb⟩
    have A9 := hide ((unhide A8).below hb)
    have G9 := hide ((unhide G8).below hb)
    have I9 := hide ((unhide I8).call hb)
    clear hb A8 G8 I8 v0 v1 v2 u0 u1 u2
    obtain ⟨u0, u1, u2⟩ := (unhide G9).read
    go_wp2_with fail
    refine (markApp_ans (unhide G9) (by have := (unhide G9).1.lt; omega) hla).mono ?_
    rintro e w10 ⟨rfl, hM, hb⟩
    have I10 := hide ((unhide I9).low hb (by omega))
    have A10 := hide ((unhide A9).low hb (by omega) (fun i hi => by have := unhide O3 i hi; omega))
    have M10 := hide hM
    clear hb hM A9 G9 I9 u0 u1 u2
    obtain ⟨u0, u1, u2⟩ := (unhide M10).read
    go_wp2_with fail
    refine (heldApp_any ai (bs aq) go n gc _ (unhide M10).2 hla).mono ?_
    rintro e w11 ⟨rfl, hb⟩
    have I11 := hide ((unhide I10).call hb)
    have A11 := hide ((unhide A10).below hb)
    have M11 := hide ((unhide M10).below hb)
    clear hb I10 A10 M10 u0 u1 u2
    obtain ⟨p0, p1, p2, p3, p4, p5, p6, p7⟩ := unhide RB _ (unhide I11)
    try simp only at p0 p1 p2 p3 p4 p5 p6 p7
    go_wp2_with fail
    refine (unhide CT (unhide HF) _ (unhide I11).2).mono ?_
    rintro e w12 ⟨h1, h2, h3, h4, rfl, hq, _, hb⟩
    have I12 := hide ((unhide I11).call hb)
    have A12 := hide ((unhide A11).below hb)
    have M12 := hide ((unhide M11).below hb)
    have Q12 := hide hq
    clear hb hq I11 A11 M11 p0 p1 p2 p3 p4 p5 p6 p7
    go_wp2_with fail
    refine (unhide CI (unhide HF) _ _ _ _ _ (unhide Q12)).mono ?_
    rintro e w13 ⟨v, rfl, hoo⟩
    obtain ⟨ho, hb⟩ := unhide hoo
    obtain ⟨so, sc, rfl, _⟩ := ho.row
    rw [unhide HNN] at ho
    rw [unhide HNN]
    have I13 := hide (((unhide I12).call hb).al (.cells #[.int .i64 ai, .string (bs aq), .slice so n sc] 53))
    have A13 := hide (((unhide A12).below hb).al (.cells #[.int .i64 ai, .string (bs aq), .slice so n sc] 53))
    have M13 := hide (((unhide M12).below hb).al (.cells #[.int .i64 ai, .string (bs aq), .slice so n sc] 53))
    have S13 := hide (ans_new ai aq ho (unhide HNN))
    clear hb ho hoo I12 A12 M12 Q12 CI CT
    obtain ⟨v0, v1, v2⟩ := (unhide A13).read
    obtain ⟨u0, u1, u2⟩ := (unhide S13).read
    go_wp2_with fail
    refine (eqApp_same ai aq so wo n sc wc aas _ (unhide S13).row (unhide A13).row hla).mono ?_
    rintro e w14 ⟨rfl, hb⟩
    have I14 := hide ((unhide I13).call hb)
    have M14 := hide ((unhide M13).below hb)
    clear hb I13 A13 M13 S13 v0 v1 v2 u0 u1 u2
    obtain ⟨u0, u1, u2⟩ := (unhide M14).read
    go_wp2_with fail
    refine (heldApp_any ai (bs aq) go n gc _ (unhide M14).2 hla).mono ?_
    rintro e w15 ⟨rfl, hb⟩
    have HB := hide (below_on (unhide I14).2 hb)
    clear hb I14 M14 u0 u1 u2
    go_wp2
    go_ret
    exact ⟨rfl, unhide HB⟩

set_option maxRecDepth 100000 in
theorem lifted (os : Os) (started : os.Started) (H : Type) (enc : TypeId × Value → H) :
    ReturnsInHanded {} Try.checked os 5 .any (Rows.fnExactAppOfSpec.pre6 enc Try.prog Try.f5 Rows.fnExactAppOfRow.domain false) (Rows.fnExactAppOfSpec.post enc Try.prog Try.f5 false true false false) := by
  refine returnsInHanded_of_change (C := Try.checked) own started (by kernel_rfl) Try.func5
    (ChangeSpec.witness6 (enc := enc) (C := Try.checked) false ⟨#[], #[.agg #[.slice none 0 0, .int .i64 0, .int .i64 0, .int .i64 0, .int .i64 0, .slice none 0 0, .slice none 0 0, .slice none 0 0], .int .i64 0], []⟩ 8 (by kernel_rfl) (by kernel_rfl) (by kernel_rfl) (by kernel_rfl)) ?_
  intro W base args ds gs before hval0 hW hcnd _
  have hval : ∀ (j : Nat) t v, Try.f5.params[j]? = some t → args[j]? = some v → Value.okWide Try.prog W .any base t v := hval0
  have hW' := hW
  obtain ⟨p, q, hA0, hV, rfl, hfz, hnd⟩ := hW
  have hA : DataW.TrodAll enc Try.prog W 0 (fun _ => true) true Try.f5.params.toList args.toList ds p := hA0
  rw [Try.params5] at hA hval
  obtain ⟨v0, vs0, d0, ds0, p0, q0, hargs, rfl, rfl, h0, r0⟩ := trodAll_cons hA
  obtain ⟨v1, vs1, d1, ds1, p1, q1, rfl, rfl, rfl, h1, r1⟩ := trodAll_cons r0
  obtain ⟨rfl, rfl, rfl⟩ := trodAll_nil r1
  obtain rfl : args = #[v0, v1] := by cases args; simp_all
  obtain ⟨rfl, rfl⟩ := trodVars_none hV
  have k0 := h0
  have lt0 : ∀ x ∈ p0, x.block < W.heap.size := by obtain ⟨m, hm⟩ := k0; exact DataW.trod_lt m _ _ _ hm
  obtain ⟨a0, b0, rfl, w0, x0⟩ := open_state (hval 0 38 v0 rfl rfl) h0
  obtain ⟨a1, rfl, rfl, rfl, w1⟩ := open_int Try.underlying3 (hval 1 3 v1 rfl rfl) h1
  clear hA0 hval0
  refine (walk a0 b0 a1 W w0 x0 w1).mono fun e W' ⟨he, bel⟩ => ?_
  subst he
  exact ⟨_, rfl, _, _, _, [], _, [], hW', trodAll_mk1 (shut_bool Try.underlying4 _), (trodAll_cons_mk (Below.trod laidOut (by kernel_rfl) (of_decide_eq_true (by kernel_rfl)) k0 bel lt0) (trodAll_cons_mk (shut_int Try.underlying3 w1) trodAll_mk0)), rfl, bel.frame _, fun h => by cases h⟩

theorem over : Rows.fnExactAppOfRow.holds Try.pinned (OpenSpec.ofChange Rows.fnExactAppOfSpec) :=
  OpenClaim.holds_of_wide 5 Try.f5 rfl rfl rfl rfl rfl rfl rfl ⟨rfl, rfl, rfl, rfl, rfl⟩ rfl rfl rfl rfl rfl (by kernel_rfl) Try.func5 (by kernel_rfl)
    (of_decide_eq_true (by kernel_rfl)) (by unfold Func.isWrapper; first | (rw [if_pos (by decide +kernel)]; kernel_rfl) | (rw [if_neg (by decide +kernel)]; exact ⟨rfl, rfl⟩))
    (fun os started H enc _ => lifted os started H enc)
end Go.Proofs.Ytgallgdmedfgmaa.fnExactAppOf

namespace Go.Proofs.Ytgallgdmedfgmaa
theorem fnExactAppOf_holds : Rows.FnExactAppOfSaid := fnExactAppOf.over
#print axioms fnExactAppOf_holds
end Go.Proofs.Ytgallgdmedfgmaa
