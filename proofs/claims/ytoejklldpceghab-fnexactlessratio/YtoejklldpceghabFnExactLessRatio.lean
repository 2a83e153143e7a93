/-
  The law FnExactLessRatio answers true at any amounts, be they such or not: the program's LessRatio answers as the model's; no condition.
-/
import Derived.Test.YtoejklldpceghabRows
import Derived.Test.YtoejklldpceghabOpenRes
import Derived.Test.YtoejklldpceghabToRes
import Derived.Test.YtoejklldpceghabArgs
import Derived.Test.YtoejklldpceghabLessRatioS
import Derived.Test.YtoejklldpceghabLessRatioI
import Derived.WalkKit
import Derived.Deep.CutRange
import Derived.Deep.RegionHeld3
import Derived.Deep.RegionWith
import Derived.Deep.QuietTactic
import Derived.ProofKit
import Derived.OpenShut
import Derived.ShutString
import Derived.ChangeOld
import Derived.Below
namespace Go.Proofs.Ytoejklldpceghab.fnExactLessRatio
open Go.ChangeShapes Go.WideShapes Go.ChangeAt Go.RowKit
open Go.ChangeMaps (open_string shut_string)
set_option linter.unusedVariables false

theorem own : ownKnob Try.prog.godebug = none := by kernel_rfl
theorem laidOut : laidOutB Try.prog = true := by kernel_rfl

set_option maxRecDepth 100000 in
set_option maxHeartbeats 4000000 in
theorem walk (a0 b0 a1 b1 a2 b2 a3 b3 : Int) (w0 : (Lit.int .i64 a0).wf = true) (x0 : (Lit.int .i64 b0).wf = true) (w1 : (Lit.int .i64 a1).wf = true) (x1 : (Lit.int .i64 b1).wf = true) (w2 : (Lit.int .i64 a2).wf = true) (x2 : (Lit.int .i64 b2).wf = true) (w3 : (Lit.int .i64 a3).wf = true) (x3 : (Lit.int .i64 b3).wf = true) (w : World) :
    Calls Try.prog 6 #[rv a0 b0, rv a1 b1, rv a2 b2, rv a3 b3] w fun e w' => e = .returned (.bool true) ∧ Below w.heap.size w w' := by
  have WA : Wf4 a0 b0 a1 b1 := ⟨w0, x0, w1, x1⟩
  have WB : Wf4 a2 b2 a3 b3 := ⟨w2, x2, w3, x3⟩
  clear w0 x0 w1 x1 w2 x2 w3 x3
  obtain ⟨ok, hok⟩ : ∃ ok, lessR a0 b0 a1 b1 a2 b2 a3 b3 = ok := ⟨_, rfl⟩
  have A0 := hide (args4 w a0 b0 a1 b1 a2 b2 a3 b3)
  have R := read4 w a0 b0 a1 b1 a2 b2 a3 b3
  have hsp : ∀ w, Calls Try.prog 16 #[rv a0 b0, rv a1 b1, rv a2 b2, rv a3 b3] w fun e w' => e = .returned (.bool ok) ∧ Below w.heap.size w w' := fun w => by rw [← hok]; exact specLessRatio_any a0 b0 a1 b1 a2 b2 a3 b3 w
  have him : ∀ w, Calls Try.prog 17 #[rv a0 b0, rv a1 b1, rv a2 b2, rv a3 b3] w fun e w' => e = .returned (.bool ok) ∧ Below w.heap.size w w' := fun w => by rw [← hok]; exact implLessRatio_any a0 b0 a1 b1 a2 b2 a3 b3 w WA WB
  have HSP := hide hsp
  have HIM := hide him
  clear hsp him hok WA WB
  go_enter Try.func6, Try.ntmps6
  go_wp2_with fail
  go_region_held3 (fun wx => Args w [(a0, b0), (a1, b1), (a2, b2), (a3, b3)] wx)
    (first | assumption | exact (unhide A0).drew | exact Args.drew (by assumption) | exact Args.call (by assumption) (by assumption))
    (first
    | (go_at_call 9; refine (toRes_any _ _ _).mono ?_; rintro e wt ⟨rfl, hb⟩; have SA := Args.call (w0 := w) (l := [(a0, b0), (a1, b1), (a2, b2), (a3, b3)]) (by assumption) hb)
    | (go_at_call 16; refine (unhide HSP _).mono ?_; rintro e wt ⟨rfl, hb⟩; have SA := Args.call (w0 := w) (l := [(a0, b0), (a1, b1), (a2, b2), (a3, b3)]) (by assumption) hb))
  go_wp2_with fail
  go_region_held3 (fun wx => Args w [(a0, b0), (a1, b1), (a2, b2), (a3, b3)] wx)
    (first | assumption | exact (unhide A0).drew | exact Args.drew (by assumption) | exact Args.call (by assumption) (by assumption))
    (first
    | (go_at_call 9; refine (toRes_any _ _ _).mono ?_; rintro e wt ⟨rfl, hb⟩; have SA := Args.call (w0 := w) (l := [(a0, b0), (a1, b1), (a2, b2), (a3, b3)]) (by assumption) hb)
    | (go_at_call 17; refine (unhide HIM _).mono ?_; rintro e wt ⟨rfl, hb⟩; have SA := Args.call (w0 := w) (l := [(a0, b0), (a1, b1), (a2, b2), (a3, b3)]) (by assumption) hb))
  have HB := hide (Args.below (w0 := w) (l := [(a0, b0), (a1, b1), (a2, b2), (a3, b3)]) SA)
  go_wp2
  go_ret
  exact ⟨rfl, unhide HB⟩

set_option maxRecDepth 100000 in
theorem lifted (os : Os) (started : os.Started) (H : Type) (enc : TypeId × Value → H) :
    ReturnsInHanded {} Try.checked os 6 .any (Rows.fnExactLessRatioSpec.pre6 enc Try.prog Try.f6 Rows.fnExactLessRatioRow.domain false) (Rows.fnExactLessRatioSpec.post enc Try.prog Try.f6 false true false false) := by
  refine returnsInHanded_of_change (C := Try.checked) own started (by kernel_rfl) Try.func6
    (ChangeSpec.witness6 (enc := enc) (C := Try.checked) false ⟨#[], #[.agg #[.int .i64 0, .int .i64 0], .agg #[.int .i64 0, .int .i64 0], .agg #[.int .i64 0, .int .i64 0], .agg #[.int .i64 0, .int .i64 0]], []⟩ 8 (by kernel_rfl) (by kernel_rfl) (by kernel_rfl) (by kernel_rfl)) ?_
  intro W base args ds gs before hval0 hW hcnd _
  have hval : ∀ (j : Nat) t v, Try.f6.params[j]? = some t → args[j]? = some v → Value.okWide Try.prog W .any base t v := hval0
  have hW' := hW
  obtain ⟨p, q, hA0, hV, rfl, hfz, hnd⟩ := hW
  have hA : DataW.TrodAll enc Try.prog W 0 (fun _ => true) true Try.f6.params.toList args.toList ds p := hA0
  rw [Try.params6] at hA hval
  obtain ⟨v0, vs0, d0, ds0, p0, q0, hargs, rfl, rfl, h0, r0⟩ := trodAll_cons hA
  obtain ⟨v1, vs1, d1, ds1, p1, q1, rfl, rfl, rfl, h1, r1⟩ := trodAll_cons r0
  obtain ⟨v2, vs2, d2, ds2, p2, q2, rfl, rfl, rfl, h2, r2⟩ := trodAll_cons r1
  obtain ⟨v3, vs3, d3, ds3, p3, q3, rfl, rfl, rfl, h3, r3⟩ := trodAll_cons r2
  obtain ⟨rfl, rfl, rfl⟩ := trodAll_nil r3
  obtain rfl : args = #[v0, v1, v2, v3] := by cases args; simp_all
  obtain ⟨rfl, rfl⟩ := trodVars_none hV
  have k0 := h0
  have lt0 : ∀ x ∈ p0, x.block < W.heap.size := by obtain ⟨m, hm⟩ := k0; exact DataW.trod_lt m _ _ _ hm
  obtain ⟨a0, b0, rfl, w0, x0⟩ := open_res (hval 0 23 v0 rfl rfl) h0
  have k1 := h1
  have lt1 : ∀ x ∈ p1, x.block < W.heap.size := by obtain ⟨m, hm⟩ := k1; exact DataW.trod_lt m _ _ _ hm
  obtain ⟨a1, b1, rfl, w1, x1⟩ := open_res (hval 1 23 v1 rfl rfl) h1
  have k2 := h2
  have lt2 : ∀ x ∈ p2, x.block < W.heap.size := by obtain ⟨m, hm⟩ := k2; exact DataW.trod_lt m _ _ _ hm
  obtain ⟨a2, b2, rfl, w2, x2⟩ := open_res (hval 2 23 v2 rfl rfl) h2
  have k3 := h3
  have lt3 : ∀ x ∈ p3, x.block < W.heap.size := by obtain ⟨m, hm⟩ := k3; exact DataW.trod_lt m _ _ _ hm
  obtain ⟨a3, b3, rfl, w3, x3⟩ := open_res (hval 3 23 v3 rfl rfl) h3
  clear hA0 hval0
  refine (walk a0 b0 a1 b1 a2 b2 a3 b3 w0 x0 w1 x1 w2 x2 w3 x3 W).mono fun e W' ⟨he, bel⟩ => ?_
  subst he
  exact ⟨_, rfl, _, _, _, [], _, [], hW', trodAll_mk1 (shut_bool Try.underlying4 _), (trodAll_cons_mk (Below.trod laidOut (by kernel_rfl) (of_decide_eq_true (by kernel_rfl)) k0 bel lt0) (trodAll_cons_mk (Below.trod laidOut (by kernel_rfl) (of_decide_eq_true (by kernel_rfl)) k1 bel lt1) (trodAll_cons_mk (Below.trod laidOut (by kernel_rfl) (of_decide_eq_true (by kernel_rfl)) k2 bel lt2) (trodAll_cons_mk (Below.trod laidOut (by kernel_rfl) (of_decide_eq_true (by kernel_rfl)) k3 bel lt3) trodAll_mk0)))), rfl, bel.frame _, fun h => by cases h⟩

theorem over : Rows.fnExactLessRatioRow.holds Try.pinned (OpenSpec.ofChange Rows.fnExactLessRatioSpec) :=
  OpenClaim.holds_of_wide 6 Try.f6 rfl rfl rfl rfl rfl rfl rfl ⟨rfl, rfl, rfl, rfl, rfl⟩ rfl rfl rfl rfl rfl (by kernel_rfl) Try.func6 (by kernel_rfl)
    (of_decide_eq_true (by kernel_rfl)) (by unfold Func.isWrapper; first | (rw [if_pos (by decide +kernel)]; kernel_rfl) | (rw [if_neg (by decide +kernel)]; exact ⟨rfl, rfl⟩))
    (fun os started H enc _ => lifted os started H enc)
end Go.Proofs.Ytoejklldpceghab.fnExactLessRatio

namespace Go.Proofs.Ytoejklldpceghab
theorem fnExactLessRatio_holds : Rows.FnExactLessRatioSaid := fnExactLessRatio.over
#print axioms fnExactLessRatio_holds
end Go.Proofs.Ytoejklldpceghab
