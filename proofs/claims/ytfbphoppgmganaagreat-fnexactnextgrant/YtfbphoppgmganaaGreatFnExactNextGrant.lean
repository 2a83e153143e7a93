/-
  The law FnExactNextGrant answers true at every state and every text, and leaves it as it was: the program's NextGrant answers as the model's, and writes into nothing; no condition.
-/
import Derived.Test.YtfbphoppgmganaaGreatRows
import Derived.Test.YtfbphoppgmganaaGreatNxS
import Derived.Test.YtfbphoppgmganaaGreatPackP
import Derived.Test.YtfbphoppgmganaaGreatStAll
import Derived.WalkKit
import Derived.Deep.CutRange
import Derived.Deep.RegionHeld3
import Derived.Deep.RegionWith
import Derived.Deep.QuietTactic
import Derived.ProofKit
import Derived.OpenShut
import Derived.ShutString
import Derived.ChangeOld
import Derived.Below
namespace Go.Proofs.YtfbphoppgmganaaGreat.fnExactNextGrant
open Go.ChangeShapes Go.WideShapes Go.ChangeAt Go.RowKit
open Go.ChangeMaps (open_string shut_string)
set_option linter.unusedVariables false

theorem own : ownKnob Tryz.prog.godebug = none := by kernel_rfl
theorem laidOut : laidOutB Tryz.prog = true := by kernel_rfl

set_option maxRecDepth 100000 in
set_option maxHeartbeats 4000000 in
theorem walk (a0 : Sls) (b0 : St) (a1 : ByteArray) (w : World) (w0 : SRow w a0 b0) (x0 : StFit a0 b0) (w1 : a1.size ≤ maxLen) :
    Calls Tryz.prog 3 #[sv a0 b0, .string a1] w fun e w' => e = .returned (.bool true) ∧ Below w.heap.size w w' := by
  have hsz : a1.size ≤ 9223372036854775807 := w1
  clear w1
  obtain ⟨nm, rfl⟩ : ∃ nm, a1 = bs nm := ⟨a1.data.toList, (bs_back a1).symm⟩
  by_cases hbig : (bs nm).size ≤ 1048576
  case neg =>
    go_enter Tryz.func3, Tryz.ntmps3
    go_wp2
    go_ret
    exact ⟨rfl, below_al (Below.refl _ _) _⟩
  have HR := hide w0
  have HLEN := hide w0.len
  have I0 := hide (InBox.new w a0 b0)
  have C0 := hide (szState_any a0 b0 _ (w0.below (unhide I0).2) x0.big)
  have RB := hide (InBox.read w a0 b0)
  have hnm : nm.length ≤ 1048576 := by rw [bs_size] at hbig; exact hbig
  obtain ⟨gv, hgv⟩ : ∃ o, nextGV b0 nm = o := ⟨_, rfl⟩
  obtain ⟨⟨id, ap, cn, me, cp⟩, hcn⟩ : ∃ g, conOf gv = g := ⟨_, rfl⟩
  obtain ⟨ok, hok⟩ : ∃ g, gv.isSome = g := ⟨_, rfl⟩
  have CS := hide (fun (hf : FitSt b0) g1 g2 g3 g4 wx (h : SOwn4 wx g1 g2 g3 g4 a0.ql a0.al a0.ml a0.cl b0) => by have := specNextGrant_any (own4 g1 g2 g3 g4 a0.ql a0.al a0.ml a0.cl) b0 nm wx (h.row (unhide HLEN)) hf; rw [hgv, hcn, hok] at this; exact this)
  have CI := hide (fun (hf : FitSt b0) g1 g2 g3 g4 wx (h : SOwn4 wx g1 g2 g3 g4 a0.ql a0.al a0.ml a0.cl b0) => by have := implNextGrant_any (own4 g1 g2 g3 g4 a0.ql a0.al a0.ml a0.cl) b0 nm wx (h.row (unhide HLEN)) hf (Nat.le_refl _) x0.wfs hnm; rw [hgv, hcn, hok] at this; exact this)
  have CT := hide (fun (hf : FitSt b0) wx (hb : Below w.heap.size w wx) => toState_any a0 b0 wx ((unhide HR).below hb) hf)
  have CE := hide (fun (hf : FitSt b0) g1 g2 g3 g4 k1 k2 k3 k4 wx (h : SOwn4 wx g1 g2 g3 g4 a0.ql a0.al a0.ml a0.cl b0) (k : SOwn4 wx k1 k2 k3 k4 a0.ql a0.al a0.ml a0.cl b0) => eqState_same (own4 g1 g2 g3 g4 a0.ql a0.al a0.ml a0.cl) (own4 k1 k2 k3 k4 a0.ql a0.al a0.ml a0.cl) b0 wx (h.row (unhide HLEN)) (k.row (unhide HLEN)) hf)
  clear w0 x0 hgv hcn hok
  obtain ⟨qa, ql, qc, aa, al, ac, ma, ml, mc, ca, cl, cc⟩ := a0
  obtain ⟨qs, clock, epoch, next, serial, apps, ms, cs⟩ := b0
  go_enter Tryz.func3, Tryz.ntmps3
  go_wp2_with fail
  refine (unhide C0).mono ?_
  rintro e w1 ⟨r, rfl, hr, hb⟩
  have I1 := hide ((unhide I0).call hb)
  clear hb C0 I0
  rcases hr with rfl | ⟨hr, hfit⟩
  · go_wp2
    go_ret
    exact ⟨rfl, (unhide I1).2⟩
  have HF := hide hfit
  clear hfit
  obtain ⟨p0, p1, p2, p3, p4, p5, p6, p7⟩ := unhide RB _ (unhide I1)
  try simp only at p0 p1 p2 p3 p4 p5 p6 p7
  go_wp2_with fail
  refine (unhide CT (unhide HF) _ (unhide I1).2).mono ?_
  rintro e w2 ⟨f1, f2, f3, f4, rfl, hq, _, hb⟩
  have I2 := hide ((unhide I1).call hb)
  have Q2 := hide hq
  clear hb hq I1 p0 p1 p2 p3 p4 p5 p6 p7
  go_wp2_with fail
  refine (unhide CS (unhide HF) _ _ _ _ _ (unhide Q2)).mono ?_
  rintro e w3 ⟨rfl, hb⟩
  have I3 := hide (((unhide I2).call hb).al (.cells #[.int .i64 id, .int .i64 ap, .string (bs cn), .int .i64 me, .int .i64 cp] 32))
  have V3 := hide (blk_new w3 #[.int .i64 id, .int .i64 ap, .string (bs cn), .int .i64 me, .int .i64 cp] 32)
  clear hb I2 Q2 CS
  obtain ⟨p0, p1, p2, p3, p4, p5, p6, p7⟩ := unhide RB _ (unhide I3)
  try simp only at p0 p1 p2 p3 p4 p5 p6 p7
  go_wp2_with fail
  refine (unhide CT (unhide HF) _ (unhide I3).2).mono ?_
  rintro e w4 ⟨g1, g2, g3, g4, rfl, hq, _, hb⟩
  have V4 := hide (((unhide V3).below hb).al (.cells (svc (own4 g1 g2 g3 g4 ql al ml cl) ⟨qs, clock, epoch, next, serial, apps, ms, cs⟩) 40))
  have N4 := hide (show InTwo w ⟨qa, ql, qc, aa, al, ac, ma, ml, mc, ca, cl, cc⟩ ⟨qs, clock, epoch, next, serial, apps, ms, cs⟩ w4.heap.size g1 g2 g3 g4 (w4.alloc (.cells (svc (own4 g1 g2 g3 g4 ql al ml cl) ⟨qs, clock, epoch, next, serial, apps, ms, cs⟩) 40)) from ⟨((unhide I3).call hb).al _, blk_new _ _ _, SOwn4.below hq (below_al (Below.refl _ _) _)⟩)
  clear hb hq I3 p0 p1 p2 p3 p4 p5 p6 p7 V3
  go_wp2_with fail
  refine (unhide CI (unhide HF) _ _ _ _ _ (unhide N4).2.2).mono ?_
  rintro e w5 ⟨rfl, hb⟩
  have V5 := hide (((unhide V4).below hb).al (.cells #[.int .i64 id, .int .i64 ap, .string (bs cn), .int .i64 me, .int .i64 cp] 32))
  have N5 := hide (((unhide N4).call hb).al (.cells #[.int .i64 id, .int .i64 ap, .string (bs cn), .int .i64 me, .int .i64 cp] 32))
  have v0 := (unhide V5).at 0; have v1 := (unhide V5).at 1; have v2 := (unhide V5).at 2; have v3 := (unhide V5).at 3; have v4 := (unhide V5).at 4
  simp at v0 v1 v2 v3 v4
  clear hb N4 V4 CI
  go_wp2_with fail
  refine (eqCont_same ⟨id, ap, cn, me, cp⟩ _).mono ?_
  rintro e w6 ⟨rfl, hb⟩
  have N6 := hide ((unhide N5).call hb)
  clear hb N5 V5 v0 v1 v2 v3 v4
  have R := InTwo.read w ⟨qa, ql, qc, aa, al, ac, ma, ml, mc, ca, cl, cc⟩ ⟨qs, clock, epoch, next, serial, apps, ms, cs⟩ w4.heap.size g1 g2 g3 g4
  simp only at R
  obtain ⟨g, hg⟩ : ∃ g, w4.heap.size = g := ⟨_, rfl⟩
  rw [hg] at N6 R
  rw [hg]
  clear hg
  go_wp2_with fail
  go_region_held3 (fun wx => InTwo w ⟨qa, ql, qc, aa, al, ac, ma, ml, mc, ca, cl, cc⟩ ⟨qs, clock, epoch, next, serial, apps, ms, cs⟩ g g1 g2 g3 g4 wx)
    (first | (with_reducible assumption) | exact unhide SA | exact (unhide N6).drew | exact InTwo.call (by assumption) (by assumption))
    (first
    | (go_at_call 10; refine (unhide CT (unhide HF) _ ?_).mono ?_; (exact (show InTwo w ⟨qa, ql, qc, aa, al, ac, ma, ml, mc, ca, cl, cc⟩ ⟨qs, clock, epoch, next, serial, apps, ms, cs⟩ g g1 g2 g3 g4 _ by assumption).1.2); rintro e wt ⟨k1, k2, k3, k4, rfl, hk, _, hb⟩; have HK := hide hk; have SA := InTwo.call (w := w) (x := ⟨qa, ql, qc, aa, al, ac, ma, ml, mc, ca, cl, cc⟩) (s := ⟨qs, clock, epoch, next, serial, apps, ms, cs⟩) (g := g) (g1 := g1) (g2 := g2) (g3 := g3) (g4 := g4) (by assumption) hb)
    | (go_at_call 13; refine (unhide CE (unhide HF) _ _ _ _ _ _ _ _ _ ?_ ?_).mono ?_; (exact (show InTwo w ⟨qa, ql, qc, aa, al, ac, ma, ml, mc, ca, cl, cc⟩ ⟨qs, clock, epoch, next, serial, apps, ms, cs⟩ g g1 g2 g3 g4 _ by assumption).2.2); (exact unhide HK); rintro e wu ⟨rfl, hb⟩; have SA := InTwo.call (w := w) (x := ⟨qa, ql, qc, aa, al, ac, ma, ml, mc, ca, cl, cc⟩) (s := ⟨qs, clock, epoch, next, serial, apps, ms, cs⟩) (g := g) (g1 := g1) (g2 := g2) (g3 := g3) (g4 := g4) (by assumption) hb))
  all_goals
    have HB9 := hide SA.1.2
    clear SA R N6
    go_wp2
    go_ret
    exact ⟨rfl, unhide HB9⟩

set_option maxRecDepth 100000 in
theorem lifted (os : Os) (started : os.Started) (H : Type) (enc : TypeId × Value → H) :
    ReturnsInHanded {} Tryz.checked os 3 .any (Rows.fnExactNextGrantSpec.pre6 enc Tryz.prog Tryz.f3 Rows.fnExactNextGrantRow.domain false) (Rows.fnExactNextGrantSpec.post enc Tryz.prog Tryz.f3 false true false false) := by
  refine returnsInHanded_of_change (C := Tryz.checked) own started (by kernel_rfl) Tryz.func3
    (ChangeSpec.witness6 (enc := enc) (C := Tryz.checked) false ⟨#[], #[.agg #[.slice none 0 0, .int .i64 0, .int .i64 0, .int .i64 0, .int .i64 0, .slice none 0 0, .slice none 0 0, .slice none 0 0], .string ByteArray.empty], []⟩ 8 (by kernel_rfl) (by kernel_rfl) (by kernel_rfl) (by kernel_rfl)) ?_
  intro W base args ds gs before hval0 hW hcnd _
  have hval : ∀ (j : Nat) t v, Tryz.f3.params[j]? = some t → args[j]? = some v → Value.okWide Tryz.prog W .any base t v := hval0
  have hW' := hW
  obtain ⟨p, q, hA0, hV, rfl, hfz, hnd⟩ := hW
  have hA : DataW.TrodAll enc Tryz.prog W 0 (fun _ => true) true Tryz.f3.params.toList args.toList ds p := hA0
  rw [Tryz.params3] at hA hval
  obtain ⟨v0, vs0, d0, ds0, p0, q0, hargs, rfl, rfl, h0, r0⟩ := trodAll_cons hA
  obtain ⟨v1, vs1, d1, ds1, p1, q1, rfl, rfl, rfl, h1, r1⟩ := trodAll_cons r0
  obtain ⟨rfl, rfl, rfl⟩ := trodAll_nil r1
  obtain rfl : args = #[v0, v1] := by cases args; simp_all
  obtain ⟨rfl, rfl⟩ := trodVars_none hV
  have k0 := h0
  have lt0 : ∀ x ∈ p0, x.block < W.heap.size := by obtain ⟨m, hm⟩ := k0; exact DataW.trod_lt m _ _ _ hm
  obtain ⟨a0, b0, rfl, w0, x0⟩ := open_state (hval 0 27 v0 rfl rfl) h0
  obtain ⟨a1, rfl, rfl, rfl, w1⟩ := open_string Tryz.underlying9 (hval 1 9 v1 rfl rfl) h1
  clear hA0 hval0
  refine (walk a0 b0 a1 W w0 x0 w1).mono fun e W' ⟨he, bel⟩ => ?_
  subst he
  exact ⟨_, rfl, _, _, _, [], _, [], hW', trodAll_mk1 (shut_bool Tryz.underlying4 _), (trodAll_cons_mk (Below.trod laidOut (by kernel_rfl) (of_decide_eq_true (by kernel_rfl)) k0 bel lt0) (trodAll_cons_mk (shut_string Tryz.underlying9 w1) trodAll_mk0)), rfl, bel.frame _, fun h => by cases h⟩

set_option maxRecDepth 100000 in
set_option maxHeartbeats 16000000 in
theorem closed : joinedFacts Tryz.prog 3 Tryz.f3 Rows.fnExactNextGrantSpec Rows.fnExactNextGrantRow = true := by
  unfold joinedFacts
  repeat rw [Bool.and_eq_true]
  repeat' apply And.intro
  all_goals (as_aux_lemma => kernel_rfl)
theorem over : Rows.fnExactNextGrantRow.holds Tryz.pinned (OpenSpec.ofChange Rows.fnExactNextGrantSpec) :=
  OpenClaim.holds_of_wide 3 Tryz.f3 rfl rfl rfl rfl rfl rfl rfl ⟨rfl, rfl, rfl, rfl, rfl⟩ rfl rfl rfl rfl rfl (by kernel_rfl) Tryz.func3 closed
    (of_decide_eq_true (by kernel_rfl)) (by unfold Func.isWrapper; first | (rw [if_pos (by decide +kernel)]; kernel_rfl) | (rw [if_neg (by decide +kernel)]; exact ⟨rfl, rfl⟩))
    (fun os started H enc _ => lifted os started H enc)
end Go.Proofs.YtfbphoppgmganaaGreat.fnExactNextGrant

namespace Go.Proofs.YtfbphoppgmganaaGreat
theorem fnExactNextGrant_holds : Rows.FnExactNextGrantSaid := fnExactNextGrant.over
#print axioms fnExactNextGrant_holds
end Go.Proofs.YtfbphoppgmganaaGreat
