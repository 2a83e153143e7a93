/-
  The law FnRatio answers true at every slice of bytes, and leaves it as it was: of two ratios at most one is less, none is less than itself, what is less than a lesser one is less; so many as go in go in, and no more; no condition.
-/
import Derived.Test.YtoejklldpceghaaRows
import Derived.Test.YtoejklldpceghaaRatioM
import Derived.Test.YtoejklldpceghaaDrawLessRatio
import Derived.Test.YtoejklldpceghaaDrawRatio
import Derived.Test.YtoejklldpceghaaDrawTimes
import Derived.Test.YtoejklldpceghaaCode
import Derived.Test.YtoejklldpceghaaVars
import Derived.Test.YtoejklldpceghaaLessRatioI
import Derived.Test.YtoejklldpceghaaRatioI
import Derived.Test.YtoejklldpceghaaTimesI
import Derived.Test.YtoejklldpceghaaLessRatioS
import Derived.Test.YtoejklldpceghaaTimesS
import Derived.WalkKit
import Derived.Deep.CutRange
import Derived.Deep.RegionHeld3
import Derived.Deep.RegionWith
import Derived.Deep.QuietTactic
import Derived.ProofKit
import Derived.OpenShut
import Derived.ShutString
import Derived.ChangeOld
import Derived.Below
namespace Go.Proofs.Ytoejklldpceghaa.fnRatio
open Go.ChangeShapes Go.WideShapes Go.ChangeAt Go.RowKit
open Go.ChangeMaps (open_string shut_string)
set_option linter.unusedVariables false

theorem own : ownKnob Try.prog.godebug = none := by kernel_rfl
theorem laidOut : laidOutB Try.prog = true := by kernel_rfl

set_option maxRecDepth 100000 in
set_option maxHeartbeats 4000000 in
theorem walk (a0 : Option Addr) (len0 cap0 : Nat) (z0 : List Int) (w : World) (w0 : IsRow w a0 len0 cap0 z0) :
    Calls Try.prog 3 #[.slice a0 len0 cap0] w fun e w' => e = .returned (.bool true) ∧ Below w.heap.size w w' := by
  have hl := w0.len
  by_cases hbig : len0 ≤ 1048576
  · have HK := hide (code_of w0 hbig)
    have hbb : bigB len0 = false := by simp [bigB]; omega
    clear w0
    go_enter Try.func3, Try.ntmps3
    go_wp2_with fail
    refine (big_any _ _ _ _ hl).mono ?_
    rintro e wb ⟨rfl, rfl⟩
    go_wp2_with fail
    refine (drawLessRatio_any _ _ _ _ _ (unhide HK)).mono ?_
    rintro e w1 ⟨p0, p1, p2, p3, p4, p5, p6, p7, rfl, hj, hb⟩
    have WA := hide (show Wf4 p0 p1 p2 p3 from ⟨WalkArith.wf_i64 hj.1, WalkArith.wf_i64 hj.2.1, WalkArith.wf_i64 hj.2.2.1, WalkArith.wf_i64 hj.2.2.2.1⟩)
    have WB := hide (show Wf4 p4 p5 p6 p7 from ⟨WalkArith.wf_i64 hj.2.2.2.2.1, WalkArith.wf_i64 hj.2.2.2.2.2.1, WalkArith.wf_i64 hj.2.2.2.2.2.2.1, WalkArith.wf_i64 hj.2.2.2.2.2.2.2⟩)
    clear hj
    have V1 := hide ((Vars.nil w1).four p0 p1 p2 p3 p4 p5 p6 p7)
    have HB1 := hide (below_al (below_al (below_al (below_al hb (.cells #[.int .i64 p0, .int .i64 p1] 25)) (.cells #[.int .i64 p2, .int .i64 p3] 25)) (.cells #[.int .i64 p4, .int .i64 p5] 25)) (.cells #[.int .i64 p6, .int .i64 p7] 25))
    clear hb
    obtain ⟨l, hl2⟩ : ∃ l, lessR p0 p1 p2 p3 p4 p5 p6 p7 = l := ⟨_, rfl⟩
    have HL := hide hl2
    have HLI := hide (fun wx => by have := implLessRatio_any p0 p1 p2 p3 p4 p5 p6 p7 wx (unhide WA) (unhide WB); rw [hl2] at this; exact this)
    have HLS := hide (fun wx => by have := specLessRatio_any p0 p1 p2 p3 p4 p5 p6 p7 wx; rw [hl2] at this; exact this)
    clear hl2
    go_wp2_with fail
    refine (unhide HLI _).mono ?_
    rintro e w2 ⟨rfl, hb⟩
    have V2 := hide ((unhide V1).below hb)
    have HB2 := hide (below_on (unhide HB1) hb)
    have F2 := vars_read4 (unhide V2)
    clear hb V1 HB1
    go_wp2_with fail
    refine (drawRatio_any _ _ _ _ _ ((unhide HK).below (unhide HB2) (Nat.le_refl _))).mono ?_
    rintro e w3 ⟨u0, u1, d0, d1, rfl, hi, hb⟩
    have WC := hide (show Wf4 u0 u1 d0 d1 from ⟨WalkArith.wf_i64 hi.1, WalkArith.wf_i64 hi.2.1, WalkArith.wf_i64 hi.2.2.1, WalkArith.wf_i64 hi.2.2.2⟩)
    have V3 := hide (((unhide V2).below hb).two u0 u1 d0 d1)
    have HB3 := hide (below_al (below_al (below_on (unhide HB2) hb) (.cells #[.int .i64 u0, .int .i64 u1] 25)) (.cells #[.int .i64 d0, .int .i64 d1] 25))
    clear hb hi V2 HB2 F2
    go_wp2_with fail
    refine (implRatio_any _ _ _ _ _).mono ?_
    rintro e w4 ⟨rfl, hb⟩
    have V4 := hide ((unhide V3).below hb)
    have HB4 := hide (below_on (unhide HB3) hb)
    have F4 := vars_read6 (unhide V4)
    clear hb V3 HB3
    go_wp2_with fail
    refine (specRatio_any _ _ _ _ _).mono ?_
    rintro e w5 ⟨rfl, hb⟩
    have V5 := hide ((unhide V4).below hb)
    have HB5 := hide (below_on (unhide HB4) hb)
    clear hb V4 HB4 F4
    go_wp2_with fail
    refine (drawTimes_any _ _ _ _ _ ((unhide HK).below (unhide HB5) (Nat.le_refl _))).mono ?_
    rintro e w6 ⟨t0, t1, x0, x1, rfl, hi, hb⟩
    have V6 := hide (((unhide V5).below hb).two t0 t1 x0 x1)
    have HB6 := hide (below_al (below_al (below_on (unhide HB5) hb) (.cells #[.int .i64 t0, .int .i64 t1] 25)) (.cells #[.int .i64 x0, .int .i64 x1] 25))
    clear hb hi V5 HB5
    obtain ⟨n, hn⟩ : ∃ n, times t0 t1 x0 x1 = n := ⟨_, rfl⟩
    have HN := hide hn
    have HTI := hide (fun wx => by have := implTimes_any t0 t1 x0 x1 wx; rw [hn] at this; exact this)
    have HTS := hide (fun wx => by have := specTimes_any t0 t1 x0 x1 wx; rw [hn] at this; exact this)
    clear hn
    go_wp2_with fail
    refine (unhide HTI _).mono ?_
    rintro e w7 ⟨rfl, hb⟩
    have V7 := hide ((unhide V6).below hb)
    have HB7 := hide (below_on (unhide HB6) hb)
    clear hb V6 HB6 HK
    go_upto_region 10 with (fail)
    go_cut [96] from 56 to 96 (fun b wx => b = .bool false ∧ Vars [(w6.heap.size + 1, x0, x1), (w6.heap.size, t0, t1), (w3.heap.size + 1, d0, d1), (w3.heap.size, u0, u1), (w1.heap.size + 1 + 1 + 1, p6, p7), (w1.heap.size + 1 + 1, p4, p5), (w1.heap.size + 1, p2, p3), (w1.heap.size, p0, p1)] wx ∧ Below w.heap.size w wx)
    case first =>
      have F7 := vars_read8 (unhide V7)
      go_wp2_with fail
      refine (unhide HLS _).mono ?_
      rintro e w8 ⟨rfl, hb⟩
      have V8 := hide ((unhide V7).below hb)
      have HB8 := hide (below_on (unhide HB7) hb)
      have F8 := vars_read8 (unhide V8)
      clear hb V7 HB7 F7
      go_wp2_with fail
      refine (unhide HTS _).mono ?_
      rintro e w9 ⟨rfl, hb⟩
      have V9 := hide ((unhide V8).below hb)
      have HB9 := hide (below_on (unhide HB8) hb)
      have F9 := vars_read8 (unhide V9)
      clear hb V8 HB8 F8
      clear HLI HLS
      cases l with
      | true =>
        have h1 := lessR_asym (unhide HL)
        have h2 := lessR_irrefl p0 p1 p2 p3
        go_wp2_with fail
        refine (implLessRatio_any _ _ _ _ _ _ _ _ _ (unhide WB) (unhide WA)).mono ?_
        rintro e w10 ⟨rfl, hb⟩
        have V10 := hide ((unhide V9).below hb)
        have HB10 := hide (below_on (unhide HB9) hb)
        have F10 := vars_read8 (unhide V10)
        rw [h1]
        clear hb V9 HB9 F9
        go_wp2_with fail
        refine (implLessRatio_any _ _ _ _ _ _ _ _ _ (unhide WA) (unhide WA)).mono ?_
        rintro e w11 ⟨rfl, hb⟩
        have V11 := hide ((unhide V10).below hb)
        have HB11 := hide (below_on (unhide HB10) hb)
        rw [h2]
        clear hb V10 HB10 F10
        go_wp2_with fail
        go_meet
        exact ⟨rfl, unhide V11, unhide HB11⟩
      | false =>
        have h2 := lessR_irrefl p0 p1 p2 p3
        go_wp2_with fail
        refine (implLessRatio_any _ _ _ _ _ _ _ _ _ (unhide WA) (unhide WA)).mono ?_
        rintro e w11 ⟨rfl, hb⟩
        have V11 := hide ((unhide V9).below hb)
        have HB11 := hide (below_on (unhide HB9) hb)
        rw [h2]
        clear hb V9 HB9 F9
        go_wp2_with fail
        go_meet
        exact ⟨rfl, unhide V11, unhide HB11⟩
    case rest =>
      obtain ⟨rfl, v12, b12⟩ := hcut
      have V12 := hide v12
      have HB12 := hide b12
      clear v12 b12 V7 HB7
      go_upto_region 12 with (fail)
      go_cut [112] from 97 to 112 (fun b wx => b = .bool false ∧ Vars [(w6.heap.size + 1, x0, x1), (w6.heap.size, t0, t1), (w3.heap.size + 1, d0, d1), (w3.heap.size, u0, u1), (w1.heap.size + 1 + 1 + 1, p6, p7), (w1.heap.size + 1 + 1, p4, p5), (w1.heap.size + 1, p2, p3), (w1.heap.size, p0, p1)] wx ∧ Below w.heap.size w wx)
      case first =>
        have F12 := vars_read8 (unhide V12)
        obtain ⟨m, hm⟩ : ∃ m, lessR p4 p5 p6 p7 u0 u1 d0 d1 = m := ⟨_, rfl⟩
        have HM := hide hm
        have HMI := hide (fun wx => by have := implLessRatio_any p4 p5 p6 p7 u0 u1 d0 d1 wx (unhide WB) (unhide WC); rw [hm] at this; exact this)
        clear hm
        clear HLI HLS
        cases l with
        | true =>
          go_wp2_with fail
          refine (unhide HMI _).mono ?_
          rintro e w13 ⟨rfl, hb⟩
          have V13 := hide ((unhide V12).below hb)
          have HB13 := hide (below_on (unhide HB12) hb)
          have F13 := vars_read8 (unhide V13)
          clear hb V12 HB12 F12
          cases m with
          | true =>
            have h3 := lessR_trans (unhide HL) (unhide HM)
            go_wp2_with fail
            refine (implLessRatio_any _ _ _ _ _ _ _ _ _ (unhide WA) (unhide WC)).mono ?_
            rintro e w14 ⟨rfl, hb⟩
            have V14 := hide ((unhide V13).below hb)
            have HB14 := hide (below_on (unhide HB13) hb)
            rw [h3]
            clear hb V13 HB13 F13
            go_wp2_with fail
            go_meet
            exact ⟨rfl, unhide V14, unhide HB14⟩
          | false =>
            go_wp2_with fail
            go_meet
            exact ⟨rfl, unhide V13, unhide HB13⟩
        | false =>
          go_wp2_with fail
          go_meet
          exact ⟨rfl, unhide V12, unhide HB12⟩
      case rest =>
        obtain ⟨rfl, v15, b15⟩ := hcut
        have V15 := hide v15
        have HB15 := hide b15
        clear v15 b15 V12 HB12
        have F15 := vars_read8 (unhide V15)
        have hn := unhide HN
        have hbd := times_bd t0 t1 x0 x1
        rw [hn] at hbd
        have v15x := (unhide V15) _ (by simp : (w6.heap.size + 1, x0, x1) ∈ [(w6.heap.size + 1, x0, x1), (w6.heap.size, t0, t1), (w3.heap.size + 1, d0, d1), (w3.heap.size, u0, u1), (w1.heap.size + 1 + 1 + 1, p6, p7), (w1.heap.size + 1 + 1, p4, p5), (w1.heap.size + 1, p2, p3), (w1.heap.size, p0, p1)])
        have HV := hide v15x
        clear v15x V15 HTI HTS HLI HLS HL
        by_cases n0 : n < 0
        · have hk := times_neg (show times t0 t1 x0 x1 < 0 by rw [hn]; exact n0)
          cases o1 : resOk t0 t1 with
          | false =>
            go_wp2_with fail
            refine (specResOk_any _ _ _).mono ?_
            rintro e w16 ⟨rfl, rfl⟩
            rw [o1]
            have HB16 := hide (below_al (unhide HB15) (.cells #[.int .i64 t0, .int .i64 t1] 25))
            go_wp2
            go_ret
            exact ⟨rfl, unhide HB16⟩
          | true =>
            have o2 : resOk x0 x1 = false := by rw [o1] at hk; simpa using hk
            have lt1 := cell_lt F15.1
            go_wp2_with fail
            refine (specResOk_bel _ _ _).mono ?_
            rintro e w16 ⟨rfl, hb⟩
            rw [o1]
            have V16 := hide (Vars.below (show Vars [(w6.heap.size + 1, x0, x1)] wc from fun v hv => by simp at hv; subst hv; exact unhide HV) hb)
            have F16 := vars_read1 (unhide V16)
            have HB16 := hide (below_on (unhide HB15) hb)
            clear hb V16
            go_wp2_with fail
            refine (specResOk_bel _ _ _).mono ?_
            rintro e w17 ⟨rfl, hb⟩
            rw [o2]
            have HB17 := hide (below_on (unhide HB16) hb)
            clear hb
            go_wp2
            go_ret
            exact ⟨rfl, unhide HB17⟩
        · have hk := times_pos (show 0 ≤ times t0 t1 x0 x1 by rw [hn]; omega)
          have hk2 := hk
          simp only [Bool.and_eq_true] at hk2
          obtain ⟨o1, o2⟩ := hk2
          by_cases n1 : 1000 ≤ n
          · go_wp2_with fail
            refine (specResOk_bel _ _ _).mono ?_
            rintro e w16 ⟨rfl, hb⟩
            rw [o1]
            have V16 := hide (Vars.below (show Vars [(w6.heap.size + 1, x0, x1)] wc from fun v hv => by simp at hv; subst hv; exact unhide HV) hb)
            have F16 := vars_read1 (unhide V16)
            have HB16 := hide (below_on (unhide HB15) hb)
            clear hb V16
            go_wp2_with fail
            refine (specResOk_bel _ _ _).mono ?_
            rintro e w17 ⟨rfl, hb⟩
            rw [o2]
            have HB17 := hide (below_on (unhide HB16) hb)
            clear hb
            go_wp2
            go_ret
            exact ⟨rfl, unhide HB17⟩
          · obtain ⟨f1, f2, f3⟩ := times_fit (a := t0) (b := t1) (c := x0) (d := x1) (by rw [hn]; omega) (by rw [hn]; omega)
            obtain ⟨s1, s2, s3, s4⟩ := times_big (a := t0) (b := t1) (c := x0) (d := x1) (by rw [hn]; omega)
            rw [hn] at f1 f2 f3
            have sn : Small n := ⟨by omega, by omega⟩
            have sn1 : Small (n + 1) := ⟨by omega, by omega⟩
            obtain ⟨g1, g2⟩ := small_mul sn s1
            obtain ⟨g3, g4⟩ := small_mul sn s2
            obtain ⟨g5, g6⟩ := small_mul sn1 s1
            obtain ⟨g7, g8⟩ := small_mul sn1 s2
            clear hk hn HN
            by_cases f4 : t0 < (n + 1) * x0
            · go_wp2
              go_ret
              exact ⟨rfl, unhide HB15⟩
            · have f5 : t1 < (n + 1) * x1 := by rcases f3 with h | h; (exact absurd h f4); exact h
              go_wp2
              go_ret
              first | exact ⟨rfl, unhide HB15⟩ | exact ⟨ret_bool (decide_eq_true f5), unhide HB15⟩
  · have hbb : bigB len0 = true := by simp [bigB]; omega
    go_enter Try.func3, Try.ntmps3
    go_wp2_with fail
    refine (big_any _ _ _ _ hl).mono ?_
    rintro e wb ⟨rfl, rfl⟩
    go_wp2
    go_ret
    exact ⟨rfl, Below.refl _ _⟩

set_option maxRecDepth 100000 in
theorem lifted (os : Os) (started : os.Started) (H : Type) (enc : TypeId × Value → H) :
    ReturnsInHanded {} Try.checked os 3 .any (Rows.fnRatioSpec.pre6 enc Try.prog Try.f3 Rows.fnRatioRow.domain false) (Rows.fnRatioSpec.post enc Try.prog Try.f3 false true false false) := by
  refine returnsInHanded_of_change (C := Try.checked) own started (by kernel_rfl) Try.func3
    (ChangeSpec.witness6 (enc := enc) (C := Try.checked) false ⟨#[], #[.slice none 0 0], []⟩ 8 (by kernel_rfl) (by kernel_rfl) (by kernel_rfl) (by kernel_rfl)) ?_
  intro W base args ds gs before hval0 hW hcnd _
  have hval : ∀ (j : Nat) t v, Try.f3.params[j]? = some t → args[j]? = some v → Value.okWide Try.prog W .any base t v := hval0
  have hW' := hW
  obtain ⟨p, q, hA0, hV, rfl, hfz, hnd⟩ := hW
  have hA : DataW.TrodAll enc Try.prog W 0 (fun _ => true) true Try.f3.params.toList args.toList ds p := hA0
  rw [Try.params3] at hA hval
  obtain ⟨v0, vs0, d0, ds0, p0, q0, hargs, rfl, rfl, h0, r0⟩ := trodAll_cons hA
  obtain ⟨rfl, rfl, rfl⟩ := trodAll_nil r0
  obtain rfl : args = #[v0] := by cases args; simp_all
  obtain ⟨rfl, rfl⟩ := trodVars_none hV
  obtain ⟨a0, len0, cap0, rfl⟩ := okWide_slice Try.underlying22 (hval 0 22 v0 rfl rfl)
  have k0 := h0
  have lt0 : ∀ x ∈ p0, x.block < W.heap.size := by obtain ⟨m, hm⟩ := k0; exact DataW.trod_lt m _ _ _ hm
  obtain ⟨z0, w0⟩ : ∃ zs, IsRow W a0 len0 cap0 zs := by
    obtain ⟨fuel, hf⟩ := h0
    rcases open_ints Try.underlying22 Try.underlying5 (by kernel_rfl) hf with ⟨hcs, _⟩ | ⟨x, l, c, zs, hcs, _, hl, hm, hz, _, hcell, hwz⟩
    · simp [Value.cells] at hcs
      obtain ⟨rfl, rfl, rfl⟩ := hcs
      exact ⟨[], .inl ⟨rfl, rfl, rfl, rfl⟩⟩
    · simp [Value.cells] at hcs
      obtain ⟨rfl, rfl, rfl⟩ := hcs
      exact ⟨zs, .inr ⟨_, rfl, hl, hm, by simpa using hz, hcell, hwz⟩⟩
  clear hA0 hval0
  refine (walk a0 len0 cap0 z0 W w0).mono fun e W' ⟨he, bel⟩ => ?_
  subst he
  exact ⟨_, rfl, _, _, _, [], _, [], hW', trodAll_mk1 (shut_bool Try.underlying4 _), (trodAll_cons_mk (Below.trod laidOut (by kernel_rfl) (of_decide_eq_true (by kernel_rfl)) k0 bel lt0) trodAll_mk0), rfl, bel.frame _, fun h => by cases h⟩

theorem over : Rows.fnRatioRow.holds Try.pinned (OpenSpec.ofChange Rows.fnRatioSpec) :=
  OpenClaim.holds_of_wide 3 Try.f3 rfl rfl rfl rfl rfl rfl rfl ⟨rfl, rfl, rfl, rfl, rfl⟩ rfl rfl rfl rfl rfl (by kernel_rfl) Try.func3 (by kernel_rfl)
    (of_decide_eq_true (by kernel_rfl)) (by unfold Func.isWrapper; first | (rw [if_pos (by decide +kernel)]; kernel_rfl) | (rw [if_neg (by decide +kernel)]; exact ⟨rfl, rfl⟩))
    (fun os started H enc _ => lifted os started H enc)
end Go.Proofs.Ytoejklldpceghaa.fnRatio

namespace Go.Proofs.Ytoejklldpceghaa
theorem fnRatio_holds : Rows.FnRatioSaid := fnRatio.over
#print axioms fnRatio_holds
end Go.Proofs.Ytoejklldpceghaa
