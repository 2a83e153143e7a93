/-
  The law FnExactPath answers true at every list of queues and every name, and leaves them as they were: the program's Path answers as the model's, writes into nothing, and its answer is memory of its own; no condition.
-/
import Derived.Test.YtbapainfiepadaaRows
import Derived.Test.YtbapainfiepadaaOpenQ
import Derived.Test.YtbapainfiepadaaSzQ
import Derived.Test.YtbapainfiepadaaToQ
import Derived.Test.YtbapainfiepadaaEqQ
import Derived.Test.YtbapainfiepadaaMarkQ
import Derived.Test.YtbapainfiepadaaStrNil
import Derived.Test.YtbapainfiepadaaOfS
import Derived.Test.YtbapainfiepadaaPathI
import Derived.WalkKit
import Derived.Deep.CutRange
import Derived.Deep.RegionHeld3
import Derived.Deep.RegionWith
import Derived.Deep.QuietTactic
import Derived.ProofKit
import Derived.OpenShut
import Derived.ShutString
import Derived.ChangeOld
import Derived.Below

namespace Go.Proofs.Ytbapainfiepadaa.fnExactPath
open Go.ChangeShapes Go.WideShapes Go.ChangeAt Go.RowKit
open Go.ChangeMaps (open_string shut_string)
set_option linter.unusedVariables false

theorem own : ownKnob Try.prog.godebug = none := by kernel_rfl
theorem laidOut : laidOutB Try.prog = true := by kernel_rfl

set_option maxRecDepth 100000 in
set_option maxHeartbeats 8000000 in
theorem walk (a0 : Option Addr) (len0 cap0 : Nat) (l0 : List Q) (a1 : ByteArray) (w : World) (w0 : QRow w a0 len0 l0) (x0 : len0 ≤ 9223372036854775807) (y0 : ∀ q ∈ l0, QFit q ∧ (Lit.int .i64 q.due).wf = true ∧ (Lit.int .i64 q.most).wf = true) (w1 : a1.size ≤ maxLen) :
    Calls Try.prog 8 #[.slice a0 len0 cap0, .string a1] w fun e w' => e = .returned (.bool true) ∧ Below w.heap.size w w' := by
  have hsz : a1.size ≤ 9223372036854775807 := w1
  clear w1
  obtain ⟨nm, rfl⟩ : ∃ nm, a1 = bs nm := ⟨a1.data.toList, (bs_back a1).symm⟩
  by_cases hbig : (bs nm).size ≤ 1048576
  case neg =>
    go_enter Try.func8, Try.ntmps8
    go_wp2
    go_ret
    exact ⟨rfl, Below.refl _ _⟩
  have HR := hide w0
  have C0 := hide (szQueueS_any a0 len0 cap0 l0 w w0 x0 (fun q hq => (y0 q hq).1))
  clear w0 y0
  go_enter Try.func8, Try.ntmps8
  go_wp2_with fail
  refine (unhide C0).mono ?_
  rintro e w1 ⟨r, rfl, hr, hb⟩
  have HB1 := hide hb
  clear hb C0
  rcases hr with rfl | ⟨hr, hfit⟩
  · go_wp2
    go_ret
    exact ⟨rfl, unhide HB1⟩
  have hlen : len0 ≤ 1048576 := by have := hfit.1; have := (unhide HR).1; omega
  have HF := hide hfit
  have hpl := path_len l0 nm
  have hpl2 : (path l0 nm).length ≤ 1048577 := by have := (unhide HR).1; omega
  obtain ⟨ps, hps⟩ : ∃ ps, path l0 nm = ps := ⟨_, rfl⟩
  rw [hps] at hpl2
  have CS := hide (fun (g : Nat) wx (h : QRow wx (some ⟨g, 0, none⟩) len0 l0) => by have := specPath_any _ len0 len0 l0 nm wx h hlen (fun q hq => ((unhide HF).2 q hq).1); rw [hps] at this; exact this)
  have CI := hide (fun (g : Nat) wx (h : QRow wx (some ⟨g, 0, none⟩) len0 l0) => by have := implPath_any _ len0 len0 l0 nm wx h hlen (fun q hq => ((unhide HF).2 q hq).1) (Nat.le_refl _); rw [hps] at this; exact this)
  have HLL := hide (unhide HR).1
  clear hps hfit hpl
  go_wp2_with fail
  refine (toQueueS_any a0 len0 cap0 l0 _ ((unhide HR).below (unhide HB1)) hlen).mono ?_
  rintro e w2 ⟨rfl, hq, hb⟩
  have HQ2 := hide hq
  have HB2 := hide (below_on (unhide HB1) hb)
  clear hq hb HB1
  go_wp2_with fail
  refine (unhide CS _ _ ((unhide HQ2).row (unhide HLL))).mono ?_
  rintro e w3 ⟨v0, rfl, ht, hb⟩
  have HT0 := hide ht
  have HB3 := hide (below_on (unhide HB2) hb)
  clear ht hb HB2 HQ2 CS
  go_wp2_with fail
  refine (toQueueS_any a0 len0 cap0 l0 _ ((unhide HR).below (unhide HB3)) hlen).mono ?_
  rintro e w4 ⟨rfl, hq, hb⟩
  have HQ4 := hide hq
  have HT4 := hide ((unhide HT0).below hb)
  have HB4 := hide (below_on (unhide HB3) hb)
  have sz3 : w.heap.size ≤ w3.heap.size := (unhide HB3).size
  have sz4 : w3.heap.size < w4.heap.size := (unhide HQ4).lt
  clear hq hb HB3
  go_wp2_with fail
  refine (unhide CI _ _ ((unhide HQ4).row (unhide HLL))).mono ?_
  rintro e w5 ⟨v1, rfl, ht, hb⟩
  have HQ5 := hide ((unhide HQ4).below hb)
  have HT5 := hide ((unhide HT4).below hb)
  have HT1 := hide ht
  have HB5 := hide (below_on (unhide HB4) hb)
  clear ht hb HB4 HQ4 HT4
  by_cases hp : ps = []
  · subst hp
    obtain ⟨p0, q0, rfl⟩ := texts_none (unhide HT0)
    obtain ⟨p1, q1, rfl⟩ := texts_none (unhide HT1)
    clear HT0 HT5 HT1
    go_wp2_with fail
    refine (eqS_nil _ _ _ _ _).mono ?_
    rintro e w6 ⟨rfl, rfl⟩
    go_wp2_with fail
    refine (toQueueS_any a0 len0 cap0 l0 _ ((unhide HR).below (unhide HB5)) hlen).mono ?_
    rintro e w7 ⟨rfl, hq, hb⟩
    have HQ7 := hide hq
    have HQ5' := hide ((unhide HQ5).below hb)
    have HB7 := hide (below_on (unhide HB5) hb)
    clear hq hb HB5 HQ5
    go_wp2_with fail
    refine (eqQueueS_same _ _ len0 len0 len0 l0 _ ((unhide HQ5').row (unhide HLL)) ((unhide HQ7).row (unhide HLL)) hlen).mono ?_
    rintro e w8 ⟨rfl, hb⟩
    have HQ8 := hide ((unhide HQ5').below hb)
    have HB8 := hide (below_on (unhide HB7) hb)
    clear hb HB7 HQ5' HQ7
    go_wp2_with fail
    refine (markQueueS_any _ len0 _ (unhide HQ8).any hlen).mono ?_
    rintro e w9 ⟨rfl, hg⟩
    have HB9 := hide (below_grownBy (unhide HB8) hg (by have := (unhide HB8).size; omega) (by omega))
    clear hg HB8 HQ8
    go_wp2_with fail
    refine (eqS_nil _ _ _ _ _).mono ?_
    rintro e w10 ⟨rfl, rfl⟩
    go_wp2_with fail
    refine (markS_nil _ _ _ _).mono ?_
    rintro e w11 ⟨rfl, rfl⟩
    go_wp2_with fail
    refine (heldS_nil _ _ _ _).mono ?_
    rintro e w12 ⟨rfl, rfl⟩
    go_wp2_with fail
    refine (toQueueS_any a0 len0 cap0 l0 _ ((unhide HR).below (unhide HB9)) hlen).mono ?_
    rintro e w13 ⟨rfl, hq, hb⟩
    have HQ13 := hide hq
    have HB13 := hide (below_on (unhide HB9) hb)
    clear hq hb HB9
    go_wp2_with fail
    refine (unhide CI _ _ ((unhide HQ13).row (unhide HLL))).mono ?_
    rintro e w14 ⟨v2, rfl, ht, hb⟩
    obtain ⟨p2, q2, rfl⟩ := texts_none ht
    have HB14 := hide (below_on (unhide HB13) hb)
    clear ht hb HB13 HQ13 CI
    go_wp2_with fail
    refine (eqS_nil _ _ _ _ _).mono ?_
    rintro e w15 ⟨rfl, rfl⟩
    go_wp2_with fail
    refine (heldS_nil _ _ _ _).mono ?_
    rintro e w16 ⟨rfl, rfl⟩
    go_wp2
    go_ret
    exact ⟨rfl, unhide HB14⟩
  · have HP := hide hp
    obtain ⟨g0, c0, rfl, _, hb0⟩ := texts_some (unhide HT0) hp
    obtain ⟨g0', c0', e0, hs0, _⟩ := texts_some (unhide HT5) hp
    simp only [Value.slice.injEq, Option.some.injEq, Addr.mk.injEq, and_true, true_and] at e0
    obtain ⟨rfl, rfl⟩ := e0
    have hl0 : g0 < w3.heap.size := by obtain ⟨g, c, e1, h1, _⟩ := texts_some (unhide HT0) hp; simp only [Value.slice.injEq, Option.some.injEq, Addr.mk.injEq, and_true, true_and] at e1; obtain ⟨rfl, rfl⟩ := e1; exact h1.lt
    obtain ⟨g1, c1, rfl, hs1, hb1⟩ := texts_some (unhide HT1) hp
    have S0 := hide hs0
    have S1 := hide hs1
    have hlm : (ps.map bs).length ≤ 9000000000 := by simp; omega
    have hml : (ps.map bs).length = ps.length := by simp
    clear hp hs0 hs1 HT0 HT5 HT1
    have CE := hide (fun (g c g' c' : Nat) wx (h : SS wx g c (ps.map bs)) (h' : SS wx g' c' (ps.map bs)) => show Calls Try.prog 29 #[.slice (some ⟨g, 0, none⟩) ps.length c, .slice (some ⟨g', 0, none⟩) ps.length c'] wx fun e w' => e = .returned (.bool true) ∧ Below wx.heap.size wx w' by
      have := eqS_any g c g' c' _ _ wx h h' hlm hlm rfl
      rw [hml] at this
      exact this.mono (fun e w' ⟨he, n, hn⟩ => ⟨he, by rw [hn]; exact below_drewN (Below.refl _ _) n⟩))
    have CM := hide (fun wx (h : SS wx g1 c1 (ps.map bs)) => by have := markS_any g1 c1 1 _ wx h (by omega) (by simp; omega); rw [hml] at this; exact this)
    have CH := hide (fun wx (h : SS wx g1 c1 (marks 1 ps.length)) => heldS_any g1 c1 1 ps.length wx h (by omega) (by omega))
    clear hlm hml
    go_wp2_with fail
    refine (unhide CE _ _ _ _ _ (unhide S1) (unhide S0)).mono ?_
    rintro e w6 ⟨rfl, hb⟩
    have HB6 := hide (below_on (unhide HB5) hb)
    have S06 := hide ((unhide S0).below hb (unhide S0).lt)
    have S16 := hide ((unhide S1).below hb (unhide S1).lt)
    have HQ6 := hide ((unhide HQ5).below hb)
    clear hb HB5 S0 S1 HQ5
    go_wp2_with fail
    refine (toQueueS_any a0 len0 cap0 l0 _ ((unhide HR).below (unhide HB6)) hlen).mono ?_
    rintro e w7 ⟨rfl, hq, hb⟩
    have HQ7 := hide hq
    have HQ6' := hide ((unhide HQ6).below hb)
    have S07 := hide ((unhide S06).below hb (unhide S06).lt)
    have S17 := hide ((unhide S16).below hb (unhide S16).lt)
    have HB7 := hide (below_on (unhide HB6) hb)
    clear hq hb HB6 HQ6 S06 S16
    go_wp2_with fail
    refine (eqQueueS_same _ _ len0 len0 len0 l0 _ ((unhide HQ6').row (unhide HLL)) ((unhide HQ7).row (unhide HLL)) hlen).mono ?_
    rintro e w8 ⟨rfl, hb⟩
    have HQ8 := hide ((unhide HQ6').below hb)
    have S08 := hide ((unhide S07).below hb (unhide S07).lt)
    have S18 := hide ((unhide S17).below hb (unhide S17).lt)
    have HB8 := hide (below_on (unhide HB7) hb)
    clear hb HB7 HQ6' HQ7 S07 S17
    go_wp2_with fail
    refine (markQueueS_any _ len0 _ (unhide HQ8).any hlen).mono ?_
    rintro e w9 ⟨rfl, hg⟩
    have S09 := hide ((unhide S08).same (hg.block g0 (unhide S08).lt (by simp; omega)))
    have S19 := hide ((unhide S18).same (hg.block g1 (unhide S18).lt (by simp; omega)))
    have HB9 := hide (below_grownBy (unhide HB8) hg (by have := (unhide HB8).size; omega) (by omega))
    clear hg HB8 HQ8 S08 S18
    go_wp2_with fail
    refine (unhide CE _ _ _ _ _ (unhide S19) (unhide S09)).mono ?_
    rintro e w10 ⟨rfl, hb⟩
    have S010 := hide ((unhide S09).below hb (unhide S09).lt)
    have S110 := hide ((unhide S19).below hb (unhide S19).lt)
    have HB10 := hide (below_on (unhide HB9) hb)
    clear hb HB9 S09 S19
    go_wp2_with fail
    refine (unhide CM _ (unhide S110)).mono ?_
    rintro e w11 ⟨rfl, hm, hg⟩
    have M11 := hide hm
    have S011 := hide ((unhide S010).same (hg.block g0 (unhide S010).lt (by simp; omega)))
    have HB11 := hide (below_grownBy (unhide HB10) hg (by have := (unhide HB10).size; omega) (by omega))
    clear hm hg HB10 S010 S110 CM
    go_wp2_with fail
    refine (unhide CH _ (unhide M11)).mono ?_
    rintro e w12 ⟨rfl, hb⟩
    have M12 := hide ((unhide M11).below hb (unhide M11).lt)
    have S012 := hide ((unhide S011).below hb (unhide S011).lt)
    have HB12 := hide (below_on (unhide HB11) hb)
    clear hb HB11 M11 S011
    go_wp2_with fail
    refine (toQueueS_any a0 len0 cap0 l0 _ ((unhide HR).below (unhide HB12)) hlen).mono ?_
    rintro e w13 ⟨rfl, hq, hb⟩
    have HQ13 := hide hq
    have M13 := hide ((unhide M12).below hb (unhide M12).lt)
    have S013 := hide ((unhide S012).below hb (unhide S012).lt)
    have HB13 := hide (below_on (unhide HB12) hb)
    clear hq hb HB12 M12 S012
    go_wp2_with fail
    refine (unhide CI _ _ ((unhide HQ13).row (unhide HLL))).mono ?_
    rintro e w14 ⟨v2, rfl, ht, hb⟩
    obtain ⟨g2, c2, rfl, hs2, _⟩ := texts_some ht (unhide HP)
    have S2 := hide hs2
    have M14 := hide ((unhide M13).below hb (unhide M13).lt)
    have S014 := hide ((unhide S013).below hb (unhide S013).lt)
    have HB14 := hide (below_on (unhide HB13) hb)
    clear ht hs2 hb HB13 HQ13 CI M13 S013
    go_wp2_with fail
    refine (unhide CE _ _ _ _ _ (unhide S2) (unhide S014)).mono ?_
    rintro e w15 ⟨rfl, hb⟩
    have M15 := hide ((unhide M14).below hb (unhide M14).lt)
    have HB15 := hide (below_on (unhide HB14) hb)
    clear hb HB14 M14 S014 S2 CE
    go_wp2_with fail
    refine (unhide CH _ (unhide M15)).mono ?_
    rintro e w16 ⟨rfl, hb⟩
    have HB16 := hide (below_on (unhide HB15) hb)
    clear hb HB15 M15 CH
    go_wp2
    go_ret
    exact ⟨rfl, unhide HB16⟩

set_option maxRecDepth 100000 in
theorem lifted (os : Os) (started : os.Started) (H : Type) (enc : TypeId × Value → H) :
    ReturnsInHanded {} Try.checked os 8 .any (Rows.fnExactPathSpec.pre6 enc Try.prog Try.f8 Rows.fnExactPathRow.domain false) (Rows.fnExactPathSpec.post enc Try.prog Try.f8 false true false false) := by
  refine returnsInHanded_of_change (C := Try.checked) own started (by kernel_rfl) Try.func8
    (ChangeSpec.witness6 (enc := enc) (C := Try.checked) false ⟨#[], #[.slice none 0 0, .string ByteArray.empty], []⟩ 8 (by kernel_rfl) (by kernel_rfl) (by kernel_rfl) (by kernel_rfl)) ?_
  intro W base args ds gs before hval0 hW hcnd _
  have hval : ∀ (j : Nat) t v, Try.f8.params[j]? = some t → args[j]? = some v → Value.okWide Try.prog W .any base t v := hval0
  have hW' := hW
  obtain ⟨p, q, hA0, hV, rfl, hfz, hnd⟩ := hW
  have hA : DataW.TrodAll enc Try.prog W 0 (fun _ => true) true Try.f8.params.toList args.toList ds p := hA0
  rw [Try.params8] at hA hval
  obtain ⟨v0, vs0, d0, ds0, p0, q0, hargs, rfl, rfl, h0, r0⟩ := trodAll_cons hA
  obtain ⟨v1, vs1, d1, ds1, p1, q1, rfl, rfl, rfl, h1, r1⟩ := trodAll_cons r0
  obtain ⟨rfl, rfl, rfl⟩ := trodAll_nil r1
  obtain rfl : args = #[v0, v1] := by cases args; simp_all
  obtain ⟨rfl, rfl⟩ := trodVars_none hV
  obtain ⟨a0, len0, cap0, rfl⟩ := okWide_slice Try.underlying39 (hval 0 39 v0 rfl rfl)
  have k0 := h0
  have lt0 : ∀ x ∈ p0, x.block < W.heap.size := by obtain ⟨m, hm⟩ := k0; exact DataW.trod_lt m _ _ _ hm
  obtain ⟨l0, w0, x0, y0⟩ := open_queues h0
  obtain ⟨a1, rfl, rfl, rfl, w1⟩ := open_string Try.underlying9 (hval 1 9 v1 rfl rfl) h1
  clear hA0 hval0
  refine (walk a0 len0 cap0 l0 a1 W w0 x0 y0 w1).mono fun e W' ⟨he, bel⟩ => ?_
  subst he
  exact ⟨_, rfl, _, _, _, [], _, [], hW', trodAll_mk1 (shut_bool Try.underlying4 _), (trodAll_cons_mk (Below.trod laidOut (by kernel_rfl) (of_decide_eq_true (by kernel_rfl)) k0 bel lt0) (trodAll_cons_mk (shut_string Try.underlying9 w1) trodAll_mk0)), rfl, bel.frame _, fun h => by cases h⟩

theorem over : Rows.fnExactPathRow.holds Try.pinned (OpenSpec.ofChange Rows.fnExactPathSpec) :=
  OpenClaim.holds_of_wide 8 Try.f8 rfl rfl rfl rfl rfl rfl rfl ⟨rfl, rfl, rfl, rfl, rfl⟩ rfl rfl rfl rfl rfl (by kernel_rfl) Try.func8 (by kernel_rfl)
    (of_decide_eq_true (by kernel_rfl)) (by unfold Func.isWrapper; first | (rw [if_pos (by decide +kernel)]; kernel_rfl) | (rw [if_neg (by decide +kernel)]; exact ⟨rfl, rfl⟩))
    (fun os started H enc _ => lifted os started H enc)
end Go.Proofs.Ytbapainfiepadaa.fnExactPath

namespace Go.Proofs.Ytbapainfiepadaa
theorem fnExactPath_holds : Rows.FnExactPathSaid := fnExactPath.over
#print axioms fnExactPath_holds
end Go.Proofs.Ytbapainfiepadaa
