/-
  The law FnExactShare answers true at any amount, be it one or not, and any points: the program's Share answers as the model's; no condition.
-/
import Derived.Test.YtoejklldpceghabRows
import Derived.Test.YtoejklldpceghabOpenRes
import Derived.Test.YtoejklldpceghabToRes
import Derived.Test.YtoejklldpceghabEqRes
import Derived.Test.YtoejklldpceghabArgs
import Derived.Test.YtoejklldpceghabShareS
import Derived.Test.YtoejklldpceghabShareI
import Derived.WalkKit
import Derived.Deep.CutRange
import Derived.Deep.RegionHeld3
import Derived.Deep.RegionWith
import Derived.Deep.QuietTactic
import Derived.ProofKit
import Derived.OpenShut
import Derived.ShutString
import Derived.ChangeOld
import Derived.Below
namespace Go.Proofs.Ytoejklldpceghab.fnExactShare
open Go.ChangeShapes Go.WideShapes Go.ChangeAt Go.RowKit
open Go.ChangeMaps (open_string shut_string)
set_option linter.unusedVariables false

theorem own : ownKnob Try.prog.godebug = none := by kernel_rfl
theorem laidOut : laidOutB Try.prog = true := by kernel_rfl

set_option maxRecDepth 100000 in
set_option maxHeartbeats 4000000 in
theorem walk (a0 b0 a1 : Int) (w0 : (Lit.int .i64 a0).wf = true) (x0 : (Lit.int .i64 b0).wf = true) (w1 : (Lit.int .i64 a1).wf = true) (w : World) :
    Calls Try.prog 3 #[rv a0 b0, .int .i64 a1] w fun e w' => e = .returned (.bool true) ∧ Below w.heap.size w w' := by
  clear w0 x0 w1
  obtain ⟨x, y, hx, hy⟩ : ∃ x y, shareM a0 b0 a1 = x ∧ shareC a0 b0 a1 = y := ⟨_, _, rfl, rfl⟩
  have A0 := hide (args1 w a0 b0)
  have R := read1 w a0 b0
  have hsp : ∀ w, Calls Try.prog 8 #[rv a0 b0, .int .i64 a1] w fun e w' => e = .returned (rv x y) ∧ Below w.heap.size w w' := fun w => by rw [← hx, ← hy]; exact specShare_any a0 b0 a1 w
  have him : ∀ w, Calls Try.prog 10 #[rv a0 b0, .int .i64 a1] w fun e w' => e = .returned (rv x y) ∧ Below w.heap.size w w' := fun w => by rw [← hx, ← hy]; exact implShare_any a0 b0 a1 w
  have HSP := hide hsp
  have HIM := hide him
  clear hsp him hx hy
  go_enter Try.func3, Try.ntmps3
  go_wp2_with fail
  refine (toRes_any _ _ _).mono ?_
  rintro e ws1 ⟨rfl, hb⟩
  have S1 := hide (Args.call (unhide A0) hb)
  clear hb
  go_wp2_with fail
  refine (unhide HSP _).mono ?_
  rintro e ws2 ⟨rfl, hb⟩
  have S2 := hide (Args.call (unhide S1) hb)
  obtain ⟨r0, r1, r2⟩ := R _ (unhide S2)
  clear hb
  go_wp2_with fail
  refine (toRes_any _ _ _).mono ?_
  rintro e wi1 ⟨rfl, hb⟩
  have S3 := hide (Args.call (Args.al (unhide S2) _) hb)
  have V3 := hide ((var_new _ _ _ _).below hb)
  clear hb
  go_wp2_with fail
  refine (unhide HIM _).mono ?_
  rintro e wi2 ⟨rfl, hb⟩
  have S4 := hide (Args.call (unhide S3) hb)
  have V4 := hide ((unhide V3).below hb)
  have c1 := (unhide V4).c0
  have c2 := (unhide V4).c1
  have l1 := (unhide V4).lt
  have HB := hide (unhide S4).below
  clear hb r0 r1 r2
  go_wp2_with fail
  refine (eqRes_any _ _ _ _ _).mono ?_
  rintro e w9 ⟨rfl, hb⟩
  have HB9 := hide (below_on (below_al (unhide HB) _) hb)
  clear hb
  go_wp2
  go_ret
  exact ⟨rfl, unhide HB9⟩

set_option maxRecDepth 100000 in
theorem lifted (os : Os) (started : os.Started) (H : Type) (enc : TypeId × Value → H) :
    ReturnsInHanded {} Try.checked os 3 .any (Rows.fnExactShareSpec.pre6 enc Try.prog Try.f3 Rows.fnExactShareRow.domain false) (Rows.fnExactShareSpec.post enc Try.prog Try.f3 false true false false) := by
  refine returnsInHanded_of_change (C := Try.checked) own started (by kernel_rfl) Try.func3
    (ChangeSpec.witness6 (enc := enc) (C := Try.checked) false ⟨#[], #[.agg #[.int .i64 0, .int .i64 0], .int .i64 0], []⟩ 8 (by kernel_rfl) (by kernel_rfl) (by kernel_rfl) (by kernel_rfl)) ?_
  intro W base args ds gs before hval0 hW hcnd _
  have hval : ∀ (j : Nat) t v, Try.f3.params[j]? = some t → args[j]? = some v → Value.okWide Try.prog W .any base t v := hval0
  have hW' := hW
  obtain ⟨p, q, hA0, hV, rfl, hfz, hnd⟩ := hW
  have hA : DataW.TrodAll enc Try.prog W 0 (fun _ => true) true Try.f3.params.toList args.toList ds p := hA0
  rw [Try.params3] at hA hval
  obtain ⟨v0, vs0, d0, ds0, p0, q0, hargs, rfl, rfl, h0, r0⟩ := trodAll_cons hA
  obtain ⟨v1, vs1, d1, ds1, p1, q1, rfl, rfl, rfl, h1, r1⟩ := trodAll_cons r0
  obtain ⟨rfl, rfl, rfl⟩ := trodAll_nil r1
  obtain rfl : args = #[v0, v1] := by cases args; simp_all
  obtain ⟨rfl, rfl⟩ := trodVars_none hV
  have k0 := h0
  have lt0 : ∀ x ∈ p0, x.block < W.heap.size := by obtain ⟨m, hm⟩ := k0; exact DataW.trod_lt m _ _ _ hm
  obtain ⟨a0, b0, rfl, w0, x0⟩ := open_res (hval 0 23 v0 rfl rfl) h0
  obtain ⟨a1, rfl, rfl, rfl, w1⟩ := open_int Try.underlying3 (hval 1 3 v1 rfl rfl) h1
  clear hA0 hval0
  refine (walk a0 b0 a1 w0 x0 w1 W).mono fun e W' ⟨he, bel⟩ => ?_
  subst he
  exact ⟨_, rfl, _, _, _, [], _, [], hW', trodAll_mk1 (shut_bool Try.underlying4 _), (trodAll_cons_mk (Below.trod laidOut (by kernel_rfl) (of_decide_eq_true (by kernel_rfl)) k0 bel lt0) (trodAll_cons_mk (shut_int Try.underlying3 w1) trodAll_mk0)), rfl, bel.frame _, fun h => by cases h⟩

theorem over : Rows.fnExactShareRow.holds Try.pinned (OpenSpec.ofChange Rows.fnExactShareSpec) :=
  OpenClaim.holds_of_wide 3 Try.f3 rfl rfl rfl rfl rfl rfl rfl ⟨rfl, rfl, rfl, rfl, rfl⟩ rfl rfl rfl rfl rfl (by kernel_rfl) Try.func3 (by kernel_rfl)
    (of_decide_eq_true (by kernel_rfl)) (by unfold Func.isWrapper; first | (rw [if_pos (by decide +kernel)]; kernel_rfl) | (rw [if_neg (by decide +kernel)]; exact ⟨rfl, rfl⟩))
    (fun os started H enc _ => lifted os started H enc)
end Go.Proofs.Ytoejklldpceghab.fnExactShare

namespace Go.Proofs.Ytoejklldpceghab
theorem fnExactShare_holds : Rows.FnExactShareSaid := fnExactShare.over
#print axioms fnExactShare_holds
end Go.Proofs.Ytoejklldpceghab
