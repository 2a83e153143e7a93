/-
  The law FnExactWrite answers true at every text and every record: the program's Write answers as the model's; no condition.
-/
import Derived.Test.YthnkbdjombiodaaRows
import Derived.Test.YthnkbdjombiodaaWriteB
import Derived.Test.YthnkbdjombiodaaRecW
import Derived.WalkKit
import Derived.Deep.CutRange
import Derived.Deep.RegionHeld3
import Derived.Deep.RegionWith
import Derived.Deep.QuietTactic
import Derived.ProofKit
import Derived.OpenShut
import Derived.ShutString
import Derived.ChangeOld
import Derived.Below

namespace Go.Proofs.Ythnkbdjombiodaa.fnExactWrite
open Go.ChangeShapes Go.WideShapes Go.ChangeAt Go.RowKit
open Go.ChangeMaps (open_string shut_string)
set_option linter.unusedVariables false

theorem own : ownKnob Try.prog.godebug = none := by kernel_rfl
theorem laidOut : laidOutB Try.prog = true := by kernel_rfl

set_option maxRecDepth 100000 in
set_option maxHeartbeats 4000000 in
theorem walk (a0 : ByteArray) (a1 : Rc) (w0 : a0.size ≤ maxLen) (w1 : RcFit a1) (w : World) :
    Calls Try.prog 4 #[.string a0, rcv a1] w fun e w' => e = .returned (.bool true) ∧ Below w.heap.size w w' := by
  have hsz : a0.size ≤ 9223372036854775807 := w0
  clear w0
  obtain ⟨l, rfl⟩ : ∃ l, a0 = bs l := ⟨a0.data.toList, (bs_back a0).symm⟩
  have CZ := hide (fun wx => szRec_any a1 1048576 wx (by omega) (by omega) w1.1)
  have hcs := szRec_cases a1 1048576 (by omega) (by omega)
  obtain ⟨r, hr⟩ : ∃ r, szRc a1 1048576 = r := ⟨_, rfl⟩
  rw [hr] at CZ hcs
  have CT := hide (fun wx => toRec_any a1 wx)
  obtain ⟨⟨o, b⟩, ho⟩ : ∃ o, wrote l a1 = o := ⟨_, rfl⟩
  have CS := hide (fun wx (h0 : l.length ≤ 1048576) (hl : a1.queue.length ≤ 1048576) => by have := specWrite_any l a1 wx h0 hl; rw [ho] at this; exact this)
  have CI := hide (fun wx (h0 : l.length ≤ 1048576) (hl : a1.queue.length ≤ 1048576) => by have := implWrite_any l a1 wx h0 hl; rw [ho] at this; exact this)
  have K0 := hide (blk_new w #[.int .i64 a1.kind, .int .i64 a1.app, .string (bs a1.queue)] 26)
  have HB0 := hide (below_al (Below.refl _ w) (.cells #[.int .i64 a1.kind, .int .i64 a1.app, .string (bs a1.queue)] 26))
  clear ho hr w1
  obtain ⟨x0, x1, x2⟩ := a1
  simp only at hcs CS CI
  by_cases hbig : (bs l).size ≤ 1048576
  case neg =>
    go_enter Try.func4, Try.ntmps4
    go_wp2
    go_ret
    exact ⟨rfl, unhide HB0⟩
  have HL0 := hide (show l.length ≤ 1048576 by rw [← bs_size]; exact hbig)
  go_enter Try.func4, Try.ntmps4
  go_wp2_with fail
  refine (unhide CZ _).mono ?_
  rintro e w1 ⟨rfl, hb⟩
  have HB1 := hide (below_on (unhide HB0) hb)
  have K1 := hide ((unhide K0).below hb)
  clear hb CZ HB0 K0
  rcases hcs with rfl | ⟨r0, r1, hl⟩
  · go_wp2
    go_ret
    exact ⟨rfl, unhide HB1⟩
  have HL := hide hl
  clear hl
  have p0 := (unhide K1).at 0
  have p1 := (unhide K1).at 1
  have p2 := (unhide K1).at 2
  simp at p0 p1 p2
  go_wp2_with fail
  refine (unhide CT _).mono ?_
  rintro e w2 ⟨rfl, hb⟩
  have HB2 := hide (below_on (unhide HB1) hb)
  have K2 := hide ((unhide K1).below hb)
  clear hb HB1 K1 p0 p1 p2
  go_wp2_with fail
  refine (unhide CS _ (unhide HL0) (unhide HL)).mono ?_
  rintro e w3 ⟨rfl, hb⟩
  have HB3 := hide (below_on (unhide HB2) hb)
  have K3 := hide ((unhide K2).below hb)
  clear hb HB2 K2
  have p0 := (unhide K3).at 0
  have p1 := (unhide K3).at 1
  have p2 := (unhide K3).at 2
  simp at p0 p1 p2
  go_wp2_with fail
  refine (unhide CT _).mono ?_
  rintro e w4 ⟨rfl, hb⟩
  have HB4 := hide (below_on (unhide HB3) hb)
  clear hb HB3 K3 p0 p1 p2
  go_wp2_with fail
  refine (unhide CI _ (unhide HL0) (unhide HL)).mono ?_
  rintro e w5 ⟨rfl, hb⟩
  have HB5 := hide (below_on (unhide HB4) hb)
  clear hb HB4
  cases b
  all_goals
    go_wp2
    go_ret
    exact ⟨rfl, unhide HB5⟩

set_option maxRecDepth 100000 in
theorem lifted (os : Os) (started : os.Started) (H : Type) (enc : TypeId × Value → H) :
    ReturnsInHanded {} Try.checked os 4 .any (Rows.fnExactWriteSpec.pre6 enc Try.prog Try.f4 Rows.fnExactWriteRow.domain false) (Rows.fnExactWriteSpec.post enc Try.prog Try.f4 false true false false) := by
  refine returnsInHanded_of_change (C := Try.checked) own started (by kernel_rfl) Try.func4
    (ChangeSpec.witness6 (enc := enc) (C := Try.checked) false ⟨#[], #[.string ByteArray.empty, .agg #[.int .i64 0, .int .i64 0, .string ByteArray.empty]], []⟩ 8 (by kernel_rfl) (by kernel_rfl) (by kernel_rfl) (by kernel_rfl)) ?_
  intro W base args ds gs before hval0 hW hcnd _
  have hval : ∀ (j : Nat) t v, Try.f4.params[j]? = some t → args[j]? = some v → Value.okWide Try.prog W .any base t v := hval0
  have hW' := hW
  obtain ⟨p, q, hA0, hV, rfl, hfz, hnd⟩ := hW
  have hA : DataW.TrodAll enc Try.prog W 0 (fun _ => true) true Try.f4.params.toList args.toList ds p := hA0
  rw [Try.params4] at hA hval
  obtain ⟨v0, vs0, d0, ds0, p0, q0, hargs, rfl, rfl, h0, r0⟩ := trodAll_cons hA
  obtain ⟨v1, vs1, d1, ds1, p1, q1, rfl, rfl, rfl, h1, r1⟩ := trodAll_cons r0
  obtain ⟨rfl, rfl, rfl⟩ := trodAll_nil r1
  obtain rfl : args = #[v0, v1] := by cases args; simp_all
  obtain ⟨rfl, rfl⟩ := trodVars_none hV
  obtain ⟨a0, rfl, rfl, rfl, w0⟩ := open_string Try.underlying9 (hval 0 9 v0 rfl rfl) h0
  have k1 := h1
  have lt1 : ∀ x ∈ p1, x.block < W.heap.size := by obtain ⟨m, hm⟩ := k1; exact DataW.trod_lt m _ _ _ hm
  obtain ⟨a1, rfl, w1⟩ := open_recv (hval 1 26 v1 rfl rfl) h1
  clear hA0 hval0
  refine (walk a0 a1 w0 w1 W).mono fun e W' ⟨he, bel⟩ => ?_
  subst he
  exact ⟨_, rfl, _, _, _, [], _, [], hW', trodAll_mk1 (shut_bool Try.underlying4 _), (trodAll_cons_mk (shut_string Try.underlying9 w0) (trodAll_cons_mk (Below.trod laidOut (by kernel_rfl) (of_decide_eq_true (by kernel_rfl)) k1 bel lt1) trodAll_mk0)), rfl, bel.frame _, fun h => by cases h⟩

theorem over : Rows.fnExactWriteRow.holds Try.pinned (OpenSpec.ofChange Rows.fnExactWriteSpec) :=
  OpenClaim.holds_of_wide 4 Try.f4 rfl rfl rfl rfl rfl rfl rfl ⟨rfl, rfl, rfl, rfl, rfl⟩ rfl rfl rfl rfl rfl (by kernel_rfl) Try.func4 (by kernel_rfl)
    (of_decide_eq_true (by kernel_rfl)) (by unfold Func.isWrapper; first | (rw [if_pos (by decide +kernel)]; kernel_rfl) | (rw [if_neg (by decide +kernel)]; exact ⟨rfl, rfl⟩))
    (fun os started H enc _ => lifted os started H enc)
end Go.Proofs.Ythnkbdjombiodaa.fnExactWrite

namespace Go.Proofs.Ythnkbdjombiodaa
theorem fnExactWrite_holds : Rows.FnExactWriteSaid := fnExactWrite.over
#print axioms fnExactWrite_holds
end Go.Proofs.Ythnkbdjombiodaa
