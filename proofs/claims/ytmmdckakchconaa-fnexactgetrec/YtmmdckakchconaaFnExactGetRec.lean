/-
  The law FnExactGetRec answers true at every text: the program's GetRec answers as the model's; no condition.
-/
import Derived.Test.YtmmdckakchconaaRows
import Derived.Test.YtmmdckakchconaaGRecM
import Derived.Test.YtmmdckakchconaaEqRec
import Derived.WalkKit
import Derived.Deep.CutRange
import Derived.Deep.RegionHeld3
import Derived.Deep.RegionWith
import Derived.Deep.QuietTactic
import Derived.ProofKit
import Derived.OpenShut
import Derived.ShutString
import Derived.ChangeOld
import Derived.Below

namespace Go.Proofs.Ytmmdckakchconaa.fnExactGetRec
open Go.ChangeShapes Go.WideShapes Go.ChangeAt Go.RowKit
open Go.ChangeMaps (open_string shut_string)
set_option linter.unusedVariables false

theorem own : ownKnob Try.prog.godebug = none := by kernel_rfl
theorem laidOut : laidOutB Try.prog = true := by kernel_rfl

set_option maxRecDepth 100000 in
set_option maxHeartbeats 4000000 in
theorem walk (a0 : ByteArray) (w0 : a0.size ≤ maxLen) (w : World) :
    Calls Try.prog 3 #[.string a0] w fun e w' => e = .returned (.bool true) ∧ Below w.heap.size w w' := by
  have hsz : a0.size ≤ 9223372036854775807 := w0
  clear w0
  by_cases hbig : a0.size ≤ 1048576
  case neg =>
    go_enter Try.func3, Try.ntmps3
    go_wp2
    go_ret
    exact ⟨rfl, Below.refl _ _⟩
  obtain ⟨v, hv⟩ : ∃ v, v = recAns (gotRec a0.data.toList) := ⟨_, rfl⟩
  have HV : ∃ (r : Rc) (b : Bool), v = .tuple #[rcv r, .bool b] := by
    rw [hv]
    cases gotRec a0.data.toList with
    | none => exact ⟨⟨0, 0, []⟩, false, rfl⟩
    | some r => exact ⟨r, true, rfl⟩
  obtain ⟨r, b, hrb⟩ := HV
  rw [hrb] at hv
  have CS := hide (fun wx => by have := specGetRec_any a0 wx hbig; rw [← hv] at this; exact this)
  have CI := hide (fun wx => by have := implGetRec_any a0 wx hbig; rw [← hv] at this; exact this)
  have CE := hide (fun wx => eqRec_any r wx)
  clear hv hrb
  obtain ⟨x0, x1, x2⟩ := r
  go_enter Try.func3, Try.ntmps3
  go_wp2_with fail
  refine (unhide CS _).mono ?_
  rintro e w1 ⟨rfl, hb⟩
  have HB1 := hide (below_al hb (.cells #[.int .i64 x0, .int .i64 x1, .string (bs x2)] 23))
  have K1 := hide (blk_new w1 #[.int .i64 x0, .int .i64 x1, .string (bs x2)] 23)
  clear hb CS
  go_wp2_with fail
  refine (unhide CI _).mono ?_
  rintro e w2 ⟨rfl, hb⟩
  have HB2 := hide (below_al (below_on (unhide HB1) hb) (.cells #[.int .i64 x0, .int .i64 x1, .string (bs x2)] 23))
  have K2 := hide (((unhide K1).below hb).al (.cells #[.int .i64 x0, .int .i64 x1, .string (bs x2)] 23))
  have k0 := (unhide K2).at 0
  have k1 := (unhide K2).at 1
  have k2 := (unhide K2).at 2
  simp only [List.getElem?_toArray, List.getElem?_cons_succ, List.getElem?_cons_zero] at k0 k1 k2
  clear hb CI HB1 K1
  go_wp2_with fail
  refine (unhide CE _).mono ?_
  rintro e w3 ⟨rfl, hb⟩
  have HB3 := hide (below_on (unhide HB2) hb)
  clear hb
  cases b
  all_goals
    go_wp2
    go_ret
    exact ⟨rfl, unhide HB3⟩

set_option maxRecDepth 100000 in
theorem lifted (os : Os) (started : os.Started) (H : Type) (enc : TypeId × Value → H) :
    ReturnsInHanded {} Try.checked os 3 .any (Rows.fnExactGetRecSpec.pre6 enc Try.prog Try.f3 Rows.fnExactGetRecRow.domain false) (Rows.fnExactGetRecSpec.post enc Try.prog Try.f3 false true false false) := by
  refine returnsInHanded_of_change (C := Try.checked) own started (by kernel_rfl) Try.func3
    (ChangeSpec.witness6 (enc := enc) (C := Try.checked) false ⟨#[], #[.string ByteArray.empty], []⟩ 8 (by kernel_rfl) (by kernel_rfl) (by kernel_rfl) (by kernel_rfl)) ?_
  intro W base args ds gs before hval0 hW hcnd _
  have hval : ∀ (j : Nat) t v, Try.f3.params[j]? = some t → args[j]? = some v → Value.okWide Try.prog W .any base t v := hval0
  have hW' := hW
  obtain ⟨p, q, hA0, hV, rfl, hfz, hnd⟩ := hW
  have hA : DataW.TrodAll enc Try.prog W 0 (fun _ => true) true Try.f3.params.toList args.toList ds p := hA0
  rw [Try.params3] at hA hval
  obtain ⟨v0, vs0, d0, ds0, p0, q0, hargs, rfl, rfl, h0, r0⟩ := trodAll_cons hA
  obtain ⟨rfl, rfl, rfl⟩ := trodAll_nil r0
  obtain rfl : args = #[v0] := by cases args; simp_all
  obtain ⟨rfl, rfl⟩ := trodVars_none hV
  obtain ⟨a0, rfl, rfl, rfl, w0⟩ := open_string Try.underlying9 (hval 0 9 v0 rfl rfl) h0
  clear hA0 hval0
  refine (walk a0 w0 W).mono fun e W' ⟨he, bel⟩ => ?_
  subst he
  exact ⟨_, rfl, _, _, _, [], _, [], hW', trodAll_mk1 (shut_bool Try.underlying4 _), (trodAll_cons_mk (shut_string Try.underlying9 w0) trodAll_mk0), rfl, bel.frame _, fun h => by cases h⟩

theorem over : Rows.fnExactGetRecRow.holds Try.pinned (OpenSpec.ofChange Rows.fnExactGetRecSpec) :=
  OpenClaim.holds_of_wide 3 Try.f3 rfl rfl rfl rfl rfl rfl rfl ⟨rfl, rfl, rfl, rfl, rfl⟩ rfl rfl rfl rfl rfl (by kernel_rfl) Try.func3 (by kernel_rfl)
    (of_decide_eq_true (by kernel_rfl)) (by unfold Func.isWrapper; first | (rw [if_pos (by decide +kernel)]; kernel_rfl) | (rw [if_neg (by decide +kernel)]; exact ⟨rfl, rfl⟩))
    (fun os started H enc _ => lifted os started H enc)
end Go.Proofs.Ytmmdckakchconaa.fnExactGetRec

namespace Go.Proofs.Ytmmdckakchconaa
theorem fnExactGetRec_holds : Rows.FnExactGetRecSaid := fnExactGetRec.over
#print axioms fnExactGetRec_holds
end Go.Proofs.Ytmmdckakchconaa
