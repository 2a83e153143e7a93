/-
  The law FnExactRoom answers true at every state, every text and every amount, and leaves the state as it was: the program's Room answers as the model's, and writes into nothing; no condition.
-/
import Derived.Test.YtgallgdmedfgmaaGreatRows
import Derived.Test.YtgallgdmedfgmaaGreatRoomI
import Derived.Test.YtgallgdmedfgmaaGreatRoomS
import Derived.Test.YtgallgdmedfgmaaGreatToRes
import Derived.Test.YtgallgdmedfgmaaGreatOpenRes
import Derived.Test.YtgallgdmedfgmaaGreatStAll
import Derived.WalkKit
import Derived.Deep.CutRange
import Derived.Deep.RegionHeld3
import Derived.Deep.RegionWith
import Derived.Deep.QuietTactic
import Derived.ProofKit
import Derived.OpenShut
import Derived.ShutString
import Derived.ChangeOld
import Derived.Below
namespace Go.Proofs.YtgallgdmedfgmaaGreat.fnExactRoom
open Go.ChangeShapes Go.WideShapes Go.ChangeAt Go.RowKit
open Go.ChangeMaps (open_string shut_string)
set_option linter.unusedVariables false

theorem own : ownKnob Tryz.prog.godebug = none := by kernel_rfl
theorem laidOut : laidOutB Tryz.prog = true := by kernel_rfl

set_option maxRecDepth 100000 in
set_option maxHeartbeats 4000000 in
theorem walk (a0 : Sls) (b0 : St) (a1 : ByteArray) (a2 b2 : Int) (w : World) (w0 : SRow w a0 b0) (x0 : StFit a0 b0) (w1 : a1.size ≤ maxLen) (w2 : (Lit.int .i64 a2).wf = true) (x2 : (Lit.int .i64 b2).wf = true) :
    Calls Tryz.prog 3 #[sv a0 b0, .string a1, rv a2 b2] w fun e w' => e = .returned (.bool true) ∧ Below w.heap.size w w' := by
  have hsz : a1.size ≤ 9223372036854775807 := w1
  clear w1 w2 x2
  obtain ⟨nm, rfl⟩ : ∃ nm, a1 = bs nm := ⟨a1.data.toList, (bs_back a1).symm⟩
  have I0 := hide ((InBox.new w a0 b0).al (.cells #[.int .i64 a2, .int .i64 b2] 29))
  have U0 := hide (show Var ((w.alloc (.cells (svc a0 b0) 27)).alloc (.cells #[.int .i64 a2, .int .i64 b2] 29)) 29 (w.heap.size + 1) a2 b2 by have := var_new (w.alloc (.cells (svc a0 b0) 27)) 29 a2 b2; rwa [al_size] at this)
  by_cases hbig : (bs nm).size ≤ 1048576
  case neg =>
    go_enter Tryz.func3, Tryz.ntmps3
    go_wp2
    go_ret
    exact ⟨rfl, (unhide I0).2⟩
  have HR := hide w0
  have HLEN := hide w0.len
  have C0 := hide (szState_any a0 b0 _ (w0.below (unhide I0).2) x0.big)
  have RB := hide (InBox.read w a0 b0)
  obtain ⟨ox, ho⟩ : ∃ o, roomV b0 nm a2 b2 = o := ⟨_, rfl⟩
  have CS := hide (fun (hf : FitSt b0) g1 g2 g3 g4 wx (h : SOwn4 wx g1 g2 g3 g4 a0.ql a0.al a0.ml a0.cl b0) => by have := specRoom_any (own4 g1 g2 g3 g4 a0.ql a0.al a0.ml a0.cl) b0 nm a2 b2 wx (h.row (unhide HLEN)) hf; rw [ho] at this; exact this)
  have CI := hide (fun (hf : FitSt b0) g1 g2 g3 g4 wx (h : SOwn4 wx g1 g2 g3 g4 a0.ql a0.al a0.ml a0.cl b0) => by have := implRoom_any (own4 g1 g2 g3 g4 a0.ql a0.al a0.ml a0.cl) b0 nm a2 b2 wx (h.row (unhide HLEN)) hf (Nat.le_refl _) x0.wfs; rw [ho] at this; exact this)
  have CT := hide (fun (hf : FitSt b0) wx (hb : Below w.heap.size w wx) => toState_any a0 b0 wx ((unhide HR).below hb) hf)
  have CE := hide (fun (hf : FitSt b0) g1 g2 g3 g4 k1 k2 k3 k4 wx (h : SOwn4 wx g1 g2 g3 g4 a0.ql a0.al a0.ml a0.cl b0) (k : SOwn4 wx k1 k2 k3 k4 a0.ql a0.al a0.ml a0.cl b0) => eqState_same (own4 g1 g2 g3 g4 a0.ql a0.al a0.ml a0.cl) (own4 k1 k2 k3 k4 a0.ql a0.al a0.ml a0.cl) b0 wx (h.row (unhide HLEN)) (k.row (unhide HLEN)) hf)
  have CR := hide (fun wx => toRes_any a2 b2 wx)
  clear w0 x0 ho
  obtain ⟨qa, ql, qc, aa, al, ac, ma, ml, mc, ca, cl, cc⟩ := a0
  obtain ⟨qs, clock, epoch, next, serial, apps, ms, cs⟩ := b0
  go_enter Tryz.func3, Tryz.ntmps3
  go_wp2_with fail
  refine (unhide C0).mono ?_
  rintro e w1 ⟨r, rfl, hr, hb⟩
  have I1 := hide ((unhide I0).call hb)
  have U1 := hide ((unhide U0).below hb)
  clear hb C0 I0 U0
  rcases hr with rfl | ⟨hr, hfit⟩
  · go_wp2
    go_ret
    exact ⟨rfl, (unhide I1).2⟩
  have HF := hide hfit
  clear hfit
  obtain ⟨p0, p1, p2, p3, p4, p5, p6, p7⟩ := unhide RB _ (unhide I1)
  try simp only at p0 p1 p2 p3 p4 p5 p6 p7
  have u0 := (unhide U1).c0
  have u1 := (unhide U1).c1
  have R : ∀ wx, Kp w1 wx → wx.cell? ⟨w.heap.size, 0, none⟩ = some (.slice qa ql qc) ∧ wx.cell? ⟨w.heap.size, 1, none⟩ = some (.int .i64 clock) ∧ wx.cell? ⟨w.heap.size, 2, none⟩ = some (.int .i64 epoch) ∧ wx.cell? ⟨w.heap.size, 3, none⟩ = some (.int .i64 next) ∧ wx.cell? ⟨w.heap.size, 4, none⟩ = some (.int .i64 serial) ∧ wx.cell? ⟨w.heap.size, 5, none⟩ = some (.slice aa al ac) ∧ wx.cell? ⟨w.heap.size, 6, none⟩ = some (.slice ma ml mc) ∧ wx.cell? ⟨w.heap.size, 7, none⟩ = some (.slice ca cl cc) ∧ wx.cell? ⟨w.heap.size + 1, 0, none⟩ = some (.int .i64 a2) ∧ wx.cell? ⟨w.heap.size + 1, 1, none⟩ = some (.int .i64 b2) := fun wx h =>
    ⟨h.cell p0, h.cell p1, h.cell p2, h.cell p3, h.cell p4, h.cell p5, h.cell p6, h.cell p7, h.cell u0, h.cell u1⟩
  have A0 := hide (Kp.new w1)
  have HS := hide (kp_holds w1)
  clear p0 p1 p2 p3 p4 p5 p6 p7 u0 u1
  go_wp2_with fail
  go_cut [8] from 19 to 24 (fun v8 wx => v8 = .bool ox ∧ Kp w1 wx)
  case first =>
    go_region_held3 (fun wx => Kp w1 wx)
      (first | (with_reducible assumption) | exact unhide SA | exact (unhide HS).drew (unhide A0) | exact (unhide HS).call (by assumption) (by assumption))
      (first
      | (go_at_call 6; refine (unhide CT (unhide HF) _ ?_).mono ?_; (exact below_on (unhide I1).2 ((unhide HS).below (by assumption))); rintro e wt ⟨k1, k2, k3, k4, rfl, hk, _, hb⟩; have HK := hide hk; have SA := hide ((unhide HS).call (by assumption) hb))
      | (go_at_call 7; refine (unhide CR _).mono ?_; rintro e wt2 ⟨rfl, hb⟩; (first | (have HK := hide (SOwn4.below (unhide HK) hb)) | skip); have SA := hide ((unhide HS).call (by assumption) hb))
      | (go_at_call 5; refine (unhide CS (unhide HF) _ _ _ _ _ (unhide HK)).mono ?_; rintro e wt3 ⟨rfl, hb⟩; have SA := hide ((unhide HS).call (by assumption) hb)))
    all_goals
      go_wp2_with fail
      go_meet
      exact ⟨rfl, by first | assumption | exact unhide SA⟩
  case rest =>
    obtain ⟨rfl, hA⟩ := hcut
    obtain ⟨w3, rfl⟩ : ∃ w3, w3 = wc := ⟨wc, rfl⟩
    have I3 := hide ((unhide I1).call hA)
    have U3 := hide ((unhide U1).below hA)
    clear hA I1 U1 R A0 HS CS
    obtain ⟨p0, p1, p2, p3, p4, p5, p6, p7⟩ := unhide RB _ (unhide I3)
    try simp only at p0 p1 p2 p3 p4 p5 p6 p7
    go_wp2_with fail
    refine (unhide CT (unhide HF) _ (unhide I3).2).mono ?_
    rintro e w4 ⟨g1, g2, g3, g4, rfl, hq, _, hb⟩
    have N4 := hide (show InTwo w ⟨qa, ql, qc, aa, al, ac, ma, ml, mc, ca, cl, cc⟩ ⟨qs, clock, epoch, next, serial, apps, ms, cs⟩ w4.heap.size g1 g2 g3 g4 (w4.alloc (.cells (svc (own4 g1 g2 g3 g4 ql al ml cl) ⟨qs, clock, epoch, next, serial, apps, ms, cs⟩) 37)) from ⟨((unhide I3).call hb).al _, blk_new _ _ _, SOwn4.below hq (below_al (Below.refl _ _) _)⟩)
    have U4 := hide (((unhide U3).below hb).al (.cells (svc (own4 g1 g2 g3 g4 ql al ml cl) ⟨qs, clock, epoch, next, serial, apps, ms, cs⟩) 37))
    clear hb hq I3 U3 p0 p1 p2 p3 p4 p5 p6 p7
    have RT := InTwo.read w ⟨qa, ql, qc, aa, al, ac, ma, ml, mc, ca, cl, cc⟩ ⟨qs, clock, epoch, next, serial, apps, ms, cs⟩ w4.heap.size g1 g2 g3 g4 _ (unhide N4)
    simp only at RT
    obtain ⟨_, t0, t1, t2, t3, t4, t5, t6, t7⟩ := RT
    have u0 := (unhide U4).c0
    have u1 := (unhide U4).c1
    go_wp2_with fail
    obtain ⟨W4, hW4⟩ : ∃ W, w4.alloc (.cells (svc (own4 g1 g2 g3 g4 ql al ml cl) ⟨qs, clock, epoch, next, serial, apps, ms, cs⟩) 37) = W := ⟨_, rfl⟩
    have R : ∀ wx, Kp W4 wx → wx.cell? ⟨w4.heap.size, 0, none⟩ = some (.slice (some ⟨g1, 0, none⟩) ql ql) ∧ wx.cell? ⟨w4.heap.size, 1, none⟩ = some (.int .i64 clock) ∧ wx.cell? ⟨w4.heap.size, 2, none⟩ = some (.int .i64 epoch) ∧ wx.cell? ⟨w4.heap.size, 3, none⟩ = some (.int .i64 next) ∧ wx.cell? ⟨w4.heap.size, 4, none⟩ = some (.int .i64 serial) ∧ wx.cell? ⟨w4.heap.size, 5, none⟩ = some (.slice (some ⟨g2, 0, none⟩) al al) ∧ wx.cell? ⟨w4.heap.size, 6, none⟩ = some (.slice (some ⟨g3, 0, none⟩) ml ml) ∧ wx.cell? ⟨w4.heap.size, 7, none⟩ = some (.slice (some ⟨g4, 0, none⟩) cl cl) ∧ wx.cell? ⟨w.heap.size + 1, 0, none⟩ = some (.int .i64 a2) ∧ wx.cell? ⟨w.heap.size + 1, 1, none⟩ = some (.int .i64 b2) := fun wx h => by
      rw [hW4] at t0 t1 t2 t3 t4 t5 t6 t7 u0 u1
      exact ⟨h.cell t0, h.cell t1, h.cell t2, h.cell t3, h.cell t4, h.cell t5, h.cell t6, h.cell t7, h.cell u0, h.cell u1⟩
    change Code.wp _ _ _ _ (w4.alloc (.cells (svc (own4 g1 g2 g3 g4 ql al ml cl) ⟨qs, clock, epoch, next, serial, apps, ms, cs⟩) 37))
    rw [hW4] at N4 ⊢
    clear t0 t1 t2 t3 t4 t5 t6 t7 u0 u1 U4 hW4
    have A0 := hide (Kp.new W4)
    have HS := hide (kp_holds W4)
    go_cut [10] from 27 to 31 (fun v10 wx => v10 = .bool ox ∧ Kp W4 wx)
    case first =>
      go_region_held3 (fun wx => Kp W4 wx)
        (first | (with_reducible assumption) | exact unhide SA | exact (unhide HS).drew (unhide A0) | exact (unhide HS).call (by assumption) (by assumption))
        (first
        | (go_at_call 7; refine (unhide CR _).mono ?_; rintro e wt2 ⟨rfl, hb⟩; have SA := hide ((unhide HS).call (by assumption) hb))
        | (go_at_call 8; refine (unhide CI (unhide HF) _ _ _ _ _ ?_).mono ?_; (exact (unhide N4).2.2.below ((unhide HS).below (by assumption))); rintro e wt3 ⟨rfl, hb⟩; have SA := hide ((unhide HS).call (by assumption) hb)))
      all_goals
        go_wp2_with fail
        go_meet
        exact ⟨rfl, by first | assumption | exact unhide SA⟩
    case rest =>
      obtain ⟨rfl, hA⟩ := hcut
      obtain ⟨w5, rfl⟩ : ∃ w5, w5 = wc := ⟨wc, rfl⟩
      have N6 := hide ((unhide N4).call hA)
      clear hA N4 R A0 HS CI
      have R := InTwo.read w ⟨qa, ql, qc, aa, al, ac, ma, ml, mc, ca, cl, cc⟩ ⟨qs, clock, epoch, next, serial, apps, ms, cs⟩ w4.heap.size g1 g2 g3 g4
      simp only at R
      obtain ⟨g, hg⟩ : ∃ g, w4.heap.size = g := ⟨_, rfl⟩
      rw [hg] at N6 R
      rw [hg]
      clear hg
      go_wp2_with fail
      go_region_held3 (fun wx => InTwo w ⟨qa, ql, qc, aa, al, ac, ma, ml, mc, ca, cl, cc⟩ ⟨qs, clock, epoch, next, serial, apps, ms, cs⟩ g g1 g2 g3 g4 wx)
        (first | (with_reducible assumption) | exact unhide SA | exact (unhide N6).drew | exact InTwo.call (by assumption) (by assumption))
        (first
        | (go_at_call 6; refine (unhide CT (unhide HF) _ ?_).mono ?_; (exact (show InTwo w ⟨qa, ql, qc, aa, al, ac, ma, ml, mc, ca, cl, cc⟩ ⟨qs, clock, epoch, next, serial, apps, ms, cs⟩ g g1 g2 g3 g4 _ by assumption).1.2); rintro e wt ⟨k1, k2, k3, k4, rfl, hk, _, hb⟩; have HK := hide hk; have SA := InTwo.call (w := w) (x := ⟨qa, ql, qc, aa, al, ac, ma, ml, mc, ca, cl, cc⟩) (s := ⟨qs, clock, epoch, next, serial, apps, ms, cs⟩) (g := g) (g1 := g1) (g2 := g2) (g3 := g3) (g4 := g4) (by assumption) hb)
        | (go_at_call 9; refine (unhide CE (unhide HF) _ _ _ _ _ _ _ _ _ ?_ ?_).mono ?_; (exact (show InTwo w ⟨qa, ql, qc, aa, al, ac, ma, ml, mc, ca, cl, cc⟩ ⟨qs, clock, epoch, next, serial, apps, ms, cs⟩ g g1 g2 g3 g4 _ by assumption).2.2); (exact unhide HK); rintro e wu ⟨rfl, hb⟩; have SA := InTwo.call (w := w) (x := ⟨qa, ql, qc, aa, al, ac, ma, ml, mc, ca, cl, cc⟩) (s := ⟨qs, clock, epoch, next, serial, apps, ms, cs⟩) (g := g) (g1 := g1) (g2 := g2) (g3 := g3) (g4 := g4) (by assumption) hb))
      all_goals
        have HB9 := hide SA.1.2
        clear SA R N6
        go_wp2
        go_ret
        exact ⟨rfl, unhide HB9⟩

set_option maxRecDepth 100000 in
theorem lifted (os : Os) (started : os.Started) (H : Type) (enc : TypeId × Value → H) :
    ReturnsInHanded {} Tryz.checked os 3 .any (Rows.fnExactRoomSpec.pre6 enc Tryz.prog Tryz.f3 Rows.fnExactRoomRow.domain false) (Rows.fnExactRoomSpec.post enc Tryz.prog Tryz.f3 false true false false) := by
  refine returnsInHanded_of_change (C := Tryz.checked) own started (by kernel_rfl) Tryz.func3
    (ChangeSpec.witness6 (enc := enc) (C := Tryz.checked) false ⟨#[], #[.agg #[.slice none 0 0, .int .i64 0, .int .i64 0, .int .i64 0, .int .i64 0, .slice none 0 0, .slice none 0 0, .slice none 0 0], .string ByteArray.empty, .agg #[.int .i64 0, .int .i64 0]], []⟩ 8 (by kernel_rfl) (by kernel_rfl) (by kernel_rfl) (by kernel_rfl)) ?_
  intro W base args ds gs before hval0 hW hcnd _
  have hval : ∀ (j : Nat) t v, Tryz.f3.params[j]? = some t → args[j]? = some v → Value.okWide Tryz.prog W .any base t v := hval0
  have hW' := hW
  obtain ⟨p, q, hA0, hV, rfl, hfz, hnd⟩ := hW
  have hA : DataW.TrodAll enc Tryz.prog W 0 (fun _ => true) true Tryz.f3.params.toList args.toList ds p := hA0
  rw [Tryz.params3] at hA hval
  obtain ⟨v0, vs0, d0, ds0, p0, q0, hargs, rfl, rfl, h0, r0⟩ := trodAll_cons hA
  obtain ⟨v1, vs1, d1, ds1, p1, q1, rfl, rfl, rfl, h1, r1⟩ := trodAll_cons r0
  obtain ⟨v2, vs2, d2, ds2, p2, q2, rfl, rfl, rfl, h2, r2⟩ := trodAll_cons r1
  obtain ⟨rfl, rfl, rfl⟩ := trodAll_nil r2
  obtain rfl : args = #[v0, v1, v2] := by cases args; simp_all
  obtain ⟨rfl, rfl⟩ := trodVars_none hV
  have k0 := h0
  have lt0 : ∀ x ∈ p0, x.block < W.heap.size := by obtain ⟨m, hm⟩ := k0; exact DataW.trod_lt m _ _ _ hm
  obtain ⟨a0, b0, rfl, w0, x0⟩ := open_state (hval 0 27 v0 rfl rfl) h0
  obtain ⟨a1, rfl, rfl, rfl, w1⟩ := open_string Tryz.underlying9 (hval 1 9 v1 rfl rfl) h1
  have k2 := h2
  have lt2 : ∀ x ∈ p2, x.block < W.heap.size := by obtain ⟨m, hm⟩ := k2; exact DataW.trod_lt m _ _ _ hm
  obtain ⟨a2, b2, rfl, w2, x2⟩ := open_res (hval 2 29 v2 rfl rfl) h2
  clear hA0 hval0
  refine (walk a0 b0 a1 a2 b2 W w0 x0 w1 w2 x2).mono fun e W' ⟨he, bel⟩ => ?_
  subst he
  exact ⟨_, rfl, _, _, _, [], _, [], hW', trodAll_mk1 (shut_bool Tryz.underlying4 _), (trodAll_cons_mk (Below.trod laidOut (by kernel_rfl) (of_decide_eq_true (by kernel_rfl)) k0 bel lt0) (trodAll_cons_mk (shut_string Tryz.underlying9 w1) (trodAll_cons_mk (Below.trod laidOut (by kernel_rfl) (of_decide_eq_true (by kernel_rfl)) k2 bel lt2) trodAll_mk0))), rfl, bel.frame _, fun h => by cases h⟩

theorem over : Rows.fnExactRoomRow.holds Tryz.pinned (OpenSpec.ofChange Rows.fnExactRoomSpec) :=
  OpenClaim.holds_of_wide 3 Tryz.f3 rfl rfl rfl rfl rfl rfl rfl ⟨rfl, rfl, rfl, rfl, rfl⟩ rfl rfl rfl rfl rfl (by kernel_rfl) Tryz.func3 (by kernel_rfl)
    (of_decide_eq_true (by kernel_rfl)) (by unfold Func.isWrapper; first | (rw [if_pos (by decide +kernel)]; kernel_rfl) | (rw [if_neg (by decide +kernel)]; exact ⟨rfl, rfl⟩))
    (fun os started H enc _ => lifted os started H enc)
end Go.Proofs.YtgallgdmedfgmaaGreat.fnExactRoom

namespace Go.Proofs.YtgallgdmedfgmaaGreat
theorem fnExactRoom_holds : Rows.FnExactRoomSaid := fnExactRoom.over
#print axioms fnExactRoom_holds
end Go.Proofs.YtgallgdmedfgmaaGreat
