/-
  The law FnExactTimes answers true at any amounts, be they such or not: the program's Times answers as the model's; no condition.
-/
import Derived.Test.YtoejklldpceghabRows
import Derived.Test.YtoejklldpceghabOpenRes
import Derived.Test.YtoejklldpceghabToRes
import Derived.Test.YtoejklldpceghabArgs
import Derived.Test.YtoejklldpceghabTimesS
import Derived.Test.YtoejklldpceghabTimesI
import Derived.WalkKit
import Derived.Deep.CutRange
import Derived.Deep.RegionHeld3
import Derived.Deep.RegionWith
import Derived.Deep.QuietTactic
import Derived.ProofKit
import Derived.OpenShut
import Derived.ShutString
import Derived.ChangeOld
import Derived.Below
namespace Go.Proofs.Ytoejklldpceghab.fnExactTimes
open Go.ChangeShapes Go.WideShapes Go.ChangeAt Go.RowKit
open Go.ChangeMaps (open_string shut_string)
set_option linter.unusedVariables false

theorem own : ownKnob Try.prog.godebug = none := by kernel_rfl
theorem laidOut : laidOutB Try.prog = true := by kernel_rfl

set_option maxRecDepth 100000 in
set_option maxHeartbeats 4000000 in
theorem walk (a0 b0 a1 b1 : Int) (w0 : (Lit.int .i64 a0).wf = true) (x0 : (Lit.int .i64 b0).wf = true) (w1 : (Lit.int .i64 a1).wf = true) (x1 : (Lit.int .i64 b1).wf = true) (w : World) :
    Calls Try.prog 4 #[rv a0 b0, rv a1 b1] w fun e w' => e = .returned (.bool true) ∧ Below w.heap.size w w' := by
  clear w0 x0 w1 x1
  obtain ⟨n, hn⟩ : ∃ n, times a0 b0 a1 b1 = n := ⟨_, rfl⟩
  have A0 := hide (args2 w a0 b0 a1 b1)
  have R := read2 w a0 b0 a1 b1
  have hsp : ∀ w, Calls Try.prog 12 #[rv a0 b0, rv a1 b1] w fun e w' => e = .returned (.int .i64 n) ∧ Below w.heap.size w w' := fun w => by rw [← hn]; exact specTimes_any a0 b0 a1 b1 w
  have him : ∀ w, Calls Try.prog 13 #[rv a0 b0, rv a1 b1] w fun e w' => e = .returned (.int .i64 n) ∧ Below w.heap.size w w' := fun w => by rw [← hn]; exact implTimes_any a0 b0 a1 b1 w
  have HSP := hide hsp
  have HIM := hide him
  clear hsp him hn
  go_enter Try.func4, Try.ntmps4
  go_wp2_with fail
  go_region_held3 (fun wx => Args w [(a0, b0), (a1, b1)] wx)
    (first | assumption | exact (unhide A0).drew | exact Args.drew (by assumption) | exact Args.call (by assumption) (by assumption))
    (first
    | (go_at_call 9; refine (toRes_any _ _ _).mono ?_; rintro e wt ⟨rfl, hb⟩; have SA := Args.call (w0 := w) (l := [(a0, b0), (a1, b1)]) (by assumption) hb)
    | (go_at_call 12; refine (unhide HSP _).mono ?_; rintro e wt ⟨rfl, hb⟩; have SA := Args.call (w0 := w) (l := [(a0, b0), (a1, b1)]) (by assumption) hb))
  go_wp2_with fail
  go_region_held3 (fun wx => Args w [(a0, b0), (a1, b1)] wx)
    (first | assumption | exact (unhide A0).drew | exact Args.drew (by assumption) | exact Args.call (by assumption) (by assumption))
    (first
    | (go_at_call 9; refine (toRes_any _ _ _).mono ?_; rintro e wt ⟨rfl, hb⟩; have SA := Args.call (w0 := w) (l := [(a0, b0), (a1, b1)]) (by assumption) hb)
    | (go_at_call 13; refine (unhide HIM _).mono ?_; rintro e wt ⟨rfl, hb⟩; have SA := Args.call (w0 := w) (l := [(a0, b0), (a1, b1)]) (by assumption) hb))
  have HB := hide (Args.below (w0 := w) (l := [(a0, b0), (a1, b1)]) SA)
  go_wp2
  go_ret
  exact ⟨rfl, unhide HB⟩

set_option maxRecDepth 100000 in
theorem lifted (os : Os) (started : os.Started) (H : Type) (enc : TypeId × Value → H) :
    ReturnsInHanded {} Try.checked os 4 .any (Rows.fnExactTimesSpec.pre6 enc Try.prog Try.f4 Rows.fnExactTimesRow.domain false) (Rows.fnExactTimesSpec.post enc Try.prog Try.f4 false true false false) := by
  refine returnsInHanded_of_change (C := Try.checked) own started (by kernel_rfl) Try.func4
    (ChangeSpec.witness6 (enc := enc) (C := Try.checked) false ⟨#[], #[.agg #[.int .i64 0, .int .i64 0], .agg #[.int .i64 0, .int .i64 0]], []⟩ 8 (by kernel_rfl) (by kernel_rfl) (by kernel_rfl) (by kernel_rfl)) ?_
  intro W base args ds gs before hval0 hW hcnd _
  have hval : ∀ (j : Nat) t v, Try.f4.params[j]? = some t → args[j]? = some v → Value.okWide Try.prog W .any base t v := hval0
  have hW' := hW
  obtain ⟨p, q, hA0, hV, rfl, hfz, hnd⟩ := hW
  have hA : DataW.TrodAll enc Try.prog W 0 (fun _ => true) true Try.f4.params.toList args.toList ds p := hA0
  rw [Try.params4] at hA hval
  obtain ⟨v0, vs0, d0, ds0, p0, q0, hargs, rfl, rfl, h0, r0⟩ := trodAll_cons hA
  obtain ⟨v1, vs1, d1, ds1, p1, q1, rfl, rfl, rfl, h1, r1⟩ := trodAll_cons r0
  obtain ⟨rfl, rfl, rfl⟩ := trodAll_nil r1
  obtain rfl : args = #[v0, v1] := by cases args; simp_all
  obtain ⟨rfl, rfl⟩ := trodVars_none hV
  have k0 := h0
  have lt0 : ∀ x ∈ p0, x.block < W.heap.size := by obtain ⟨m, hm⟩ := k0; exact DataW.trod_lt m _ _ _ hm
  obtain ⟨a0, b0, rfl, w0, x0⟩ := open_res (hval 0 23 v0 rfl rfl) h0
  have k1 := h1
  have lt1 : ∀ x ∈ p1, x.block < W.heap.size := by obtain ⟨m, hm⟩ := k1; exact DataW.trod_lt m _ _ _ hm
  obtain ⟨a1, b1, rfl, w1, x1⟩ := open_res (hval 1 23 v1 rfl rfl) h1
  clear hA0 hval0
  refine (walk a0 b0 a1 b1 w0 x0 w1 x1 W).mono fun e W' ⟨he, bel⟩ => ?_
  subst he
  exact ⟨_, rfl, _, _, _, [], _, [], hW', trodAll_mk1 (shut_bool Try.underlying4 _), (trodAll_cons_mk (Below.trod laidOut (by kernel_rfl) (of_decide_eq_true (by kernel_rfl)) k0 bel lt0) (trodAll_cons_mk (Below.trod laidOut (by kernel_rfl) (of_decide_eq_true (by kernel_rfl)) k1 bel lt1) trodAll_mk0)), rfl, bel.frame _, fun h => by cases h⟩

theorem over : Rows.fnExactTimesRow.holds Try.pinned (OpenSpec.ofChange Rows.fnExactTimesSpec) :=
  OpenClaim.holds_of_wide 4 Try.f4 rfl rfl rfl rfl rfl rfl rfl ⟨rfl, rfl, rfl, rfl, rfl⟩ rfl rfl rfl rfl rfl (by kernel_rfl) Try.func4 (by kernel_rfl)
    (of_decide_eq_true (by kernel_rfl)) (by unfold Func.isWrapper; first | (rw [if_pos (by decide +kernel)]; kernel_rfl) | (rw [if_neg (by decide +kernel)]; exact ⟨rfl, rfl⟩))
    (fun os started H enc _ => lifted os started H enc)
end Go.Proofs.Ytoejklldpceghab.fnExactTimes

namespace Go.Proofs.Ytoejklldpceghab
theorem fnExactTimes_holds : Rows.FnExactTimesSaid := fnExactTimes.over
#print axioms fnExactTimes_holds
end Go.Proofs.Ytoejklldpceghab
