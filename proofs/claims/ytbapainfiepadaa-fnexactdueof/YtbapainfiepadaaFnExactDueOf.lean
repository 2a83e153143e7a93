/-
  The law FnExactDueOf answers true at every list of queues, name and total, and leaves them as they were: the program's DueOf answers as the model's, and writes into nothing; no condition.
-/
import Derived.Test.YtbapainfiepadaaRows
import Derived.Test.YtbapainfiepadaaOpenQ
import Derived.Test.YtbapainfiepadaaOpenRes
import Derived.Test.YtbapainfiepadaaSzQ
import Derived.Test.YtbapainfiepadaaToQ
import Derived.Test.YtbapainfiepadaaEqQ
import Derived.Test.YtbapainfiepadaaToRes
import Derived.Test.YtbapainfiepadaaEqRes
import Derived.Test.YtbapainfiepadaaOfS
import Derived.Test.YtbapainfiepadaaBoxedMore
import Derived.Test.YtbapainfiepadaaOfQI
import Derived.WalkKit
import Derived.Deep.CutRange
import Derived.Deep.RegionHeld3
import Derived.Deep.RegionWith
import Derived.Deep.QuietTactic
import Derived.ProofKit
import Derived.OpenShut
import Derived.ShutString
import Derived.ChangeOld
import Derived.Below

namespace Go.Proofs.Ytbapainfiepadaa.fnExactDueOf
open Go.ChangeShapes Go.WideShapes Go.ChangeAt Go.RowKit
open Go.ChangeMaps (open_string shut_string)
set_option linter.unusedVariables false

theorem own : ownKnob Try.prog.godebug = none := by kernel_rfl
theorem laidOut : laidOutB Try.prog = true := by kernel_rfl

set_option maxRecDepth 100000 in
set_option maxHeartbeats 4000000 in
theorem walk (a0 : Option Addr) (len0 cap0 : Nat) (l0 : List Q) (a1 : ByteArray) (a2 b2 : Int) (w : World) (w0 : QRow w a0 len0 l0) (x0 : len0 ≤ 9223372036854775807) (y0 : ∀ q ∈ l0, QFit q ∧ (Lit.int .i64 q.due).wf = true ∧ (Lit.int .i64 q.most).wf = true) (w1 : a1.size ≤ maxLen) (w2 : (Lit.int .i64 a2).wf = true) (x2 : (Lit.int .i64 b2).wf = true) :
    Calls Try.prog 6 #[.slice a0 len0 cap0, .string a1, rv a2 b2] w fun e w' => e = .returned (.bool true) ∧ Below w.heap.size w w' := by
  have hsz : a1.size ≤ 9223372036854775807 := w1
  clear w1 w2 x2
  obtain ⟨nm, rfl⟩ : ∃ nm, a1 = bs nm := ⟨a1.data.toList, (bs_back a1).symm⟩
  by_cases hbig : (bs nm).size ≤ 1048576
  case neg =>
    go_enter Try.func6, Try.ntmps6
    go_wp2
    go_ret
    exact ⟨rfl, below_al (Below.refl _ _) _⟩
  have HR := hide w0
  have HB0 := hide (below_al (Below.refl _ w) (.cells #[.int .i64 a2, .int .i64 b2] 46))
  have HV0 := hide (var_new w 46 a2 b2)
  have C0 := hide (szQueueS_any a0 len0 cap0 l0 _ (w0.below (unhide HB0)) x0 (fun q hq => (y0 q hq).1))
  clear w0 y0
  go_enter Try.func6, Try.ntmps6
  go_wp2_with fail
  refine (unhide C0).mono ?_
  rintro e w1 ⟨r, rfl, hr, hb⟩
  have HB1 := hide (below_on (unhide HB0) hb)
  have V1 := hide ((unhide HV0).below hb)
  clear hb C0 HB0 HV0
  rcases hr with rfl | ⟨hr, hfit⟩
  · go_wp2
    go_ret
    exact ⟨rfl, unhide HB1⟩
  have hlen : len0 ≤ 1048576 := by have := hfit.1; have := (unhide HR).1; omega
  have HF := hide hfit
  obtain ⟨⟨ox, oy⟩, ho⟩ : ∃ o, ofR l0 nm a2 b2 false = o := ⟨_, rfl⟩
  have CS := hide (fun (g : Nat) wx (h : QRow wx (some ⟨g, 0, none⟩) len0 l0) => by have := specDueOf_any _ len0 len0 l0 nm a2 b2 wx h hlen (fun q hq => ((unhide HF).2 q hq).1); rw [ho] at this; exact this)
  have CI := hide (fun (g : Nat) wx (h : QRow wx (some ⟨g, 0, none⟩) len0 l0) => by have := implDueOf_any _ len0 len0 l0 nm a2 b2 wx h hlen (fun q hq => ((unhide HF).2 q hq).1) (Nat.le_refl _); rw [ho] at this; exact this)
  have HLL := hide (unhide HR).1
  clear ho hfit
  have A1 := hide (show Boxed w 46 a2 b2 w1 from ⟨unhide V1, unhide HB1⟩)
  have R := Boxed.read w 46 a2 b2
  have sz1 := (unhide A1).lt
  clear V1 HB1
  go_wp2_with fail
  go_cut [8] from 19 to 24 (fun v8 wx => ∃ g, v8 = .pointer (some ⟨g, 0, none⟩) ∧ Boxed w 46 a2 b2 wx ∧ Var wx 26 g ox oy ∧ w.heap.size < g)
  case first =>
    go_region_held3 (fun wx => Boxed w 46 a2 b2 wx)
      (first | (with_reducible assumption) | exact unhide SA | exact (unhide A1).drew | exact Boxed.al (unhide SA) _ | exact Boxed.al (by assumption) _ | exact Boxed.al (unhide A1).drew _ | exact Boxed.call (by assumption) (by assumption) | exact Boxed.set (Boxed.set (unhide SA) _ _ _ (by first | omega | (simp <;> omega))) _ _ _ (by first | omega | (simp <;> omega)) | exact Boxed.set (Boxed.set (by assumption) _ _ _ (by first | omega | (simp <;> omega))) _ _ _ (by first | omega | (simp <;> omega)))
      (first
      | (go_at_call 21; refine (toQueueS_any a0 len0 cap0 l0 _ ?_ hlen).mono ?_; (exact (unhide HR).below (Boxed.bel (w0 := w) (t := 46) (a := a2) (b := b2) (by assumption))); rintro e wt ⟨rfl, hq, hb⟩; (try simp at hq); have HQ := hide hq; have SA := hide (Boxed.call (w0 := w) (t := 46) (a := a2) (b := b2) (by assumption) hb); have sz := (unhide SA).lt
         first
           | (have V5 := (var_new _ 26 0 0).below hb; (try simp at V5); have c50 := V5.c0; have c51 := V5.c1; have f50 := V5.f 0; have f51 := V5.f 1; have V5 := hide V5)
           | (have V5 := (var_new _ 26 0 0).drew.below hb; (try simp at V5); have c50 := V5.c0; have c51 := V5.c1; have f50 := V5.f 0; have f51 := V5.f 1; have V5 := hide V5)
           | (have V5 := hide ((unhide V5).below hb); have c50 := (unhide V5).c0; have c51 := (unhide V5).c1; have f50 := (unhide V5).f 0; have f51 := (unhide V5).f 1)
           | skip)
      | (go_at_call 26; refine (toRes_any _ _ _).mono ?_; rintro e wt ⟨rfl, hb⟩; have SA := hide (Boxed.call (w0 := w) (t := 46) (a := a2) (b := b2) (by assumption) hb); have sz := (unhide SA).lt
         first | (have HQ := hide ((unhide HQ).below hb)) | (have HQ := hide (QBlk.below (QBlk.below (unhide HQ) (below_al (Below.refl _ _) (.cells #[.int .i64 0, .int .i64 0] 26))) hb)) | skip
         first
           | (have V5 := (var_new _ 26 0 0).below hb; (try simp at V5); have c50 := V5.c0; have c51 := V5.c1; have f50 := V5.f 0; have f51 := V5.f 1; have V5 := hide V5)
           | (have V5 := (var_new _ 26 0 0).drew.below hb; (try simp at V5); have c50 := V5.c0; have c51 := V5.c1; have f50 := V5.f 0; have f51 := V5.f 1; have V5 := hide V5)
           | (have V5 := hide ((unhide V5).below hb); have c50 := (unhide V5).c0; have c51 := (unhide V5).c1; have f50 := (unhide V5).f 0; have f51 := (unhide V5).f 1)
           | skip)
      | (go_at_call 13; refine (unhide CS _ _ ?_).mono ?_; (first | exact (unhide HQ).row (unhide HLL) | exact QRow.below ((unhide HQ).row (unhide HLL)) (below_al (Below.refl _ _) (.cells #[.int .i64 0, .int .i64 0] 26))); rintro e wt ⟨rfl, hb⟩; have SA := hide (Boxed.call (w0 := w) (t := 46) (a := a2) (b := b2) (by assumption) hb); have sz := (unhide SA).lt
         first
           | (have V5 := (var_new _ 26 0 0).below hb; (try simp at V5); have c50 := V5.c0; have c51 := V5.c1; have f50 := V5.f 0; have f51 := V5.f 1; have V5 := hide V5)
           | (have V5 := (var_new _ 26 0 0).drew.below hb; (try simp at V5); have c50 := V5.c0; have c51 := V5.c1; have f50 := V5.f 0; have f51 := V5.f 1; have V5 := hide V5)
           | (have V5 := hide ((unhide V5).below hb); have c50 := (unhide V5).c0; have c51 := (unhide V5).c1; have f50 := (unhide V5).f 0; have f51 := (unhide V5).f 1)
           | skip))
    all_goals
      go_wp2_with fail
      go_meet
      exact ⟨_, rfl, by first | assumption | exact unhide SA | exact Boxed.al (unhide SA) _, by first | exact var_new _ _ _ _ | exact (unhide V5).set _ _, by first | omega | (simp <;> omega)⟩
  case rest =>
    obtain ⟨g, rfl, hA, hV, hg⟩ := hcut
    have A2 := hide hA
    have VG := hide hV
    have hgl := hV.lt
    clear hA hV A1 CS
    go_wp2_with fail
    refine (toQueueS_any a0 len0 cap0 l0 _ ((unhide HR).below (unhide A2).bel) hlen).mono ?_
    rintro e w4 ⟨rfl, hq, hb⟩
    have HQ4 := hide hq
    have A4 := hide ((unhide A2).call hb)
    have VG4 := hide ((unhide VG).below hb)
    obtain ⟨r0, r1⟩ := R _ (unhide A4)
    clear hq hb A2 VG
    go_wp2_with fail
    refine (toRes_any _ _ _).mono ?_
    rintro e w5 ⟨rfl, hb⟩
    have HQ5 := hide ((unhide HQ4).below hb)
    have A5 := hide ((unhide A4).call hb)
    have VG5 := hide ((unhide VG4).below hb)
    clear hb A4 VG4 HQ4 r0 r1
    go_wp2_with fail
    refine (unhide CI _ _ ((unhide HQ5).row (unhide HLL))).mono ?_
    rintro e w6 ⟨rfl, hb⟩
    have HQ6 := hide (((unhide HQ5).below hb).below (below_al (Below.refl _ _) (.cells #[.int .i64 ox, .int .i64 oy] 26)))
    have A6 := hide (((unhide A5).call hb).al (.cells #[.int .i64 ox, .int .i64 oy] 26))
    have VG6 := hide (((unhide VG5).below hb).al (.cells #[.int .i64 ox, .int .i64 oy] 26))
    have VN := hide (var_new w6 26 ox oy)
    have g0 := (unhide VG6).c0
    have g1 := (unhide VG6).c1
    have n0 := (unhide VN).c0
    have n1 := (unhide VN).c1
    clear hb A5 VG5 HQ5 CI
    go_wp2_with fail
    refine (eqRes_any _ _ _ _ _).mono ?_
    rintro e w7 ⟨rfl, hb⟩
    have HQ7 := hide ((unhide HQ6).below hb)
    have A7 := hide ((unhide A6).call hb)
    clear hb A6 VG6 VN HQ6 g0 g1 n0 n1
    go_wp2_with fail
    refine (toQueueS_any a0 len0 cap0 l0 _ ((unhide HR).below (unhide A7).bel) hlen).mono ?_
    rintro e w8 ⟨rfl, hq, hb⟩
    have HQ8 := hide hq
    have HQ7' := hide ((unhide HQ7).below hb)
    have A8 := hide ((unhide A7).call hb)
    clear hq hb A7 HQ7
    go_wp2_with fail
    refine (eqQueueS_same _ _ len0 len0 len0 l0 _ ((unhide HQ7').row (unhide HLL)) ((unhide HQ8).row (unhide HLL)) hlen).mono ?_
    rintro e w9 ⟨rfl, hb⟩
    have HB9 := hide ((unhide A8).call hb).bel
    clear hb A8 HQ7' HQ8
    go_wp2
    go_ret
    exact ⟨rfl, unhide HB9⟩

set_option maxRecDepth 100000 in
theorem lifted (os : Os) (started : os.Started) (H : Type) (enc : TypeId × Value → H) :
    ReturnsInHanded {} Try.checked os 6 .any (Rows.fnExactDueOfSpec.pre6 enc Try.prog Try.f6 Rows.fnExactDueOfRow.domain false) (Rows.fnExactDueOfSpec.post enc Try.prog Try.f6 false true false false) := by
  refine returnsInHanded_of_change (C := Try.checked) own started (by kernel_rfl) Try.func6
    (ChangeSpec.witness6 (enc := enc) (C := Try.checked) false ⟨#[], #[.slice none 0 0, .string ByteArray.empty, .agg #[.int .i64 0, .int .i64 0]], []⟩ 8 (by kernel_rfl) (by kernel_rfl) (by kernel_rfl) (by kernel_rfl)) ?_
  intro W base args ds gs before hval0 hW hcnd _
  have hval : ∀ (j : Nat) t v, Try.f6.params[j]? = some t → args[j]? = some v → Value.okWide Try.prog W .any base t v := hval0
  have hW' := hW
  obtain ⟨p, q, hA0, hV, rfl, hfz, hnd⟩ := hW
  have hA : DataW.TrodAll enc Try.prog W 0 (fun _ => true) true Try.f6.params.toList args.toList ds p := hA0
  rw [Try.params6] at hA hval
  obtain ⟨v0, vs0, d0, ds0, p0, q0, hargs, rfl, rfl, h0, r0⟩ := trodAll_cons hA
  obtain ⟨v1, vs1, d1, ds1, p1, q1, rfl, rfl, rfl, h1, r1⟩ := trodAll_cons r0
  obtain ⟨v2, vs2, d2, ds2, p2, q2, rfl, rfl, rfl, h2, r2⟩ := trodAll_cons r1
  obtain ⟨rfl, rfl, rfl⟩ := trodAll_nil r2
  obtain rfl : args = #[v0, v1, v2] := by cases args; simp_all
  obtain ⟨rfl, rfl⟩ := trodVars_none hV
  obtain ⟨a0, len0, cap0, rfl⟩ := okWide_slice Try.underlying39 (hval 0 39 v0 rfl rfl)
  have k0 := h0
  have lt0 : ∀ x ∈ p0, x.block < W.heap.size := by obtain ⟨m, hm⟩ := k0; exact DataW.trod_lt m _ _ _ hm
  obtain ⟨l0, w0, x0, y0⟩ := open_queues h0
  obtain ⟨a1, rfl, rfl, rfl, w1⟩ := open_string Try.underlying9 (hval 1 9 v1 rfl rfl) h1
  have k2 := h2
  have lt2 : ∀ x ∈ p2, x.block < W.heap.size := by obtain ⟨m, hm⟩ := k2; exact DataW.trod_lt m _ _ _ hm
  obtain ⟨a2, b2, rfl, w2, x2⟩ := open_res (hval 2 46 v2 rfl rfl) h2
  clear hA0 hval0
  refine (walk a0 len0 cap0 l0 a1 a2 b2 W w0 x0 y0 w1 w2 x2).mono fun e W' ⟨he, bel⟩ => ?_
  subst he
  exact ⟨_, rfl, _, _, _, [], _, [], hW', trodAll_mk1 (shut_bool Try.underlying4 _), (trodAll_cons_mk (Below.trod laidOut (by kernel_rfl) (of_decide_eq_true (by kernel_rfl)) k0 bel lt0) (trodAll_cons_mk (shut_string Try.underlying9 w1) (trodAll_cons_mk (Below.trod laidOut (by kernel_rfl) (of_decide_eq_true (by kernel_rfl)) k2 bel lt2) trodAll_mk0))), rfl, bel.frame _, fun h => by cases h⟩

theorem over : Rows.fnExactDueOfRow.holds Try.pinned (OpenSpec.ofChange Rows.fnExactDueOfSpec) :=
  OpenClaim.holds_of_wide 6 Try.f6 rfl rfl rfl rfl rfl rfl rfl ⟨rfl, rfl, rfl, rfl, rfl⟩ rfl rfl rfl rfl rfl (by kernel_rfl) Try.func6 (by kernel_rfl)
    (of_decide_eq_true (by kernel_rfl)) (by unfold Func.isWrapper; first | (rw [if_pos (by decide +kernel)]; kernel_rfl) | (rw [if_neg (by decide +kernel)]; exact ⟨rfl, rfl⟩))
    (fun os started H enc _ => lifted os started H enc)
end Go.Proofs.Ytbapainfiepadaa.fnExactDueOf

namespace Go.Proofs.Ytbapainfiepadaa
theorem fnExactDueOf_holds : Rows.FnExactDueOfSaid := fnExactDueOf.over
#print axioms fnExactDueOf_holds
end Go.Proofs.Ytbapainfiepadaa
