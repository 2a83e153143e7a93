/-
  The law FnExactResOk answers true at any amount, be it one or not: the program's ResOk answers as the model's; no condition.
-/
import Derived.Test.YtoejklldpceghaaRows
import Derived.Test.YtoejklldpceghaaOpenRes
import Derived.Test.YtoejklldpceghaaToRes
import Derived.Test.YtoejklldpceghaaArgs
import Derived.Test.YtoejklldpceghaaRes
import Derived.Test.YtoejklldpceghaaResOkI
import Derived.WalkKit
import Derived.Deep.CutRange
import Derived.Deep.RegionHeld3
import Derived.Deep.RegionWith
import Derived.Deep.QuietTactic
import Derived.ProofKit
import Derived.OpenShut
import Derived.ShutString
import Derived.ChangeOld
import Derived.Below
namespace Go.Proofs.Ytoejklldpceghaa.fnExactResOk
open Go.ChangeShapes Go.WideShapes Go.ChangeAt Go.RowKit
open Go.ChangeMaps (open_string shut_string)
set_option linter.unusedVariables false

theorem own : ownKnob Try.prog.godebug = none := by kernel_rfl
theorem laidOut : laidOutB Try.prog = true := by kernel_rfl

set_option maxRecDepth 100000 in
set_option maxHeartbeats 4000000 in
theorem walk (a0 b0 : Int) (w0 : (Lit.int .i64 a0).wf = true) (x0 : (Lit.int .i64 b0).wf = true) (w : World) :
    Calls Try.prog 4 #[rv a0 b0] w fun e w' => e = .returned (.bool true) ∧ Below w.heap.size w w' := by
  clear w0 x0
  obtain ⟨ok, hok⟩ : ∃ ok, resOk a0 b0 = ok := ⟨_, rfl⟩
  have A0 := hide (args1 w a0 b0)
  have R := read1 w a0 b0
  have hsp : ∀ w, Calls Try.prog 18 #[rv a0 b0] w fun e w' => e = .returned (.bool ok) ∧ Below w.heap.size w w' := fun w => by rw [← hok]; exact specResOk_bel a0 b0 w
  have him : ∀ w, Calls Try.prog 20 #[rv a0 b0] w fun e w' => e = .returned (.bool ok) ∧ Below w.heap.size w w' := fun w => by rw [← hok]; exact implResOk_any a0 b0 w
  have HSP := hide hsp
  have HIM := hide him
  clear hsp him hok
  go_enter Try.func4, Try.ntmps4
  go_wp2_with fail
  refine (toRes_any _ _ _).mono ?_
  rintro e ws1 ⟨rfl, hb⟩
  have Ss1 := hide (Args.call (unhide A0) hb)
  clear hb
  go_wp2_with fail
  refine (unhide HSP _).mono ?_
  rintro e ws2 ⟨rfl, hb⟩
  have Ss2 := hide (Args.call (unhide Ss1) hb)
  obtain ⟨r0, r1, r2⟩ := R _ (unhide Ss2)
  clear hb
  go_wp2_with fail
  refine (toRes_any _ _ _).mono ?_
  rintro e wi1 ⟨rfl, hb⟩
  have Si1 := hide (Args.call (unhide Ss2) hb)
  clear hb
  go_wp2_with fail
  refine (unhide HIM _).mono ?_
  rintro e wi2 ⟨rfl, hb⟩
  have Si2 := hide (Args.call (unhide Si1) hb)
  obtain ⟨r0, r1, r2⟩ := R _ (unhide Si2)
  clear hb
  go_wp2
  go_ret
  exact ⟨rfl, (unhide Si2).below⟩

set_option maxRecDepth 100000 in
theorem lifted (os : Os) (started : os.Started) (H : Type) (enc : TypeId × Value → H) :
    ReturnsInHanded {} Try.checked os 4 .any (Rows.fnExactResOkSpec.pre6 enc Try.prog Try.f4 Rows.fnExactResOkRow.domain false) (Rows.fnExactResOkSpec.post enc Try.prog Try.f4 false true false false) := by
  refine returnsInHanded_of_change (C := Try.checked) own started (by kernel_rfl) Try.func4
    (ChangeSpec.witness6 (enc := enc) (C := Try.checked) false ⟨#[], #[.agg #[.int .i64 0, .int .i64 0]], []⟩ 8 (by kernel_rfl) (by kernel_rfl) (by kernel_rfl) (by kernel_rfl)) ?_
  intro W base args ds gs before hval0 hW hcnd _
  have hval : ∀ (j : Nat) t v, Try.f4.params[j]? = some t → args[j]? = some v → Value.okWide Try.prog W .any base t v := hval0
  have hW' := hW
  obtain ⟨p, q, hA0, hV, rfl, hfz, hnd⟩ := hW
  have hA : DataW.TrodAll enc Try.prog W 0 (fun _ => true) true Try.f4.params.toList args.toList ds p := hA0
  rw [Try.params4] at hA hval
  obtain ⟨v0, vs0, d0, ds0, p0, q0, hargs, rfl, rfl, h0, r0⟩ := trodAll_cons hA
  obtain ⟨rfl, rfl, rfl⟩ := trodAll_nil r0
  obtain rfl : args = #[v0] := by cases args; simp_all
  obtain ⟨rfl, rfl⟩ := trodVars_none hV
  have k0 := h0
  have lt0 : ∀ x ∈ p0, x.block < W.heap.size := by obtain ⟨m, hm⟩ := k0; exact DataW.trod_lt m _ _ _ hm
  obtain ⟨a0, b0, rfl, w0, x0⟩ := open_res (hval 0 35 v0 rfl rfl) h0
  clear hA0 hval0
  refine (walk a0 b0 w0 x0 W).mono fun e W' ⟨he, bel⟩ => ?_
  subst he
  exact ⟨_, rfl, _, _, _, [], _, [], hW', trodAll_mk1 (shut_bool Try.underlying4 _), (trodAll_cons_mk (Below.trod laidOut (by kernel_rfl) (of_decide_eq_true (by kernel_rfl)) k0 bel lt0) trodAll_mk0), rfl, bel.frame _, fun h => by cases h⟩

theorem over : Rows.fnExactResOkRow.holds Try.pinned (OpenSpec.ofChange Rows.fnExactResOkSpec) :=
  OpenClaim.holds_of_wide 4 Try.f4 rfl rfl rfl rfl rfl rfl rfl ⟨rfl, rfl, rfl, rfl, rfl⟩ rfl rfl rfl rfl rfl (by kernel_rfl) Try.func4 (by kernel_rfl)
    (of_decide_eq_true (by kernel_rfl)) (by unfold Func.isWrapper; first | (rw [if_pos (by decide +kernel)]; kernel_rfl) | (rw [if_neg (by decide +kernel)]; exact ⟨rfl, rfl⟩))
    (fun os started H enc _ => lifted os started H enc)
end Go.Proofs.Ytoejklldpceghaa.fnExactResOk

namespace Go.Proofs.Ytoejklldpceghaa
theorem fnExactResOk_holds : Rows.FnExactResOkSaid := fnExactResOk.over
#print axioms fnExactResOk_holds
end Go.Proofs.Ytoejklldpceghaa
