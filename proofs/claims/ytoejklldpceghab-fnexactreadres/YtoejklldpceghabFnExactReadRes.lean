/-
  The law FnExactReadRes answers true at every string, and leaves it as it was: the program's ReadRes answers as the model's; no condition.
-/
import Derived.Test.YtoejklldpceghabRows
import Derived.Test.YtoejklldpceghabOpenRes
import Derived.Test.YtoejklldpceghabEqRes
import Derived.Test.YtoejklldpceghabReadResS
import Derived.Test.YtoejklldpceghabReadResI
import Derived.WalkKit
import Derived.Deep.CutRange
import Derived.Deep.RegionHeld3
import Derived.Deep.RegionWith
import Derived.Deep.QuietTactic
import Derived.ProofKit
import Derived.OpenShut
import Derived.ShutString
import Derived.ChangeOld
import Derived.Below
import Derived.HandedShaped
namespace Go.Proofs.Ytoejklldpceghab.fnExactReadRes
open Go.ChangeShapes Go.WideShapes Go.ChangeAt Go.RowKit
open Go.ChangeMaps (open_string shut_string)
set_option linter.unusedVariables false

theorem own : ownKnob Try.prog.godebug = none := by kernel_rfl
theorem laidOut : laidOutB Try.prog = true := by kernel_rfl

set_option maxRecDepth 100000 in
set_option maxHeartbeats 4000000 in
theorem walk (a0 : ByteArray) (w0 : a0.size ≤ maxLen) (w : World) (hsh : w.ShapedOpen Try.prog) :
    Calls Try.prog 7 #[.string a0] w fun e w' => e = .returned (.bool true) ∧ Below w.heap.size w w' := by
  unfold maxLen at w0
  have HML := hide (MaxLenAt.of hsh)
  clear hsh
  by_cases hs : a0.size ≤ 1048576
  · obtain ⟨x, y, hv⟩ : ∃ x y, readRV a0.data.toList = rv x y := by unfold readRV; split <;> exact ⟨_, _, rfl⟩
    obtain ⟨ok, hok⟩ : ∃ ok, readROk a0.data.toList = ok := ⟨_, rfl⟩
    have hsp : ∀ w, Calls Try.prog 18 #[.string a0] w fun e w' => e = .returned (.tuple #[rv x y, .bool ok]) ∧ Below w.heap.size w w' := fun w => by rw [← hv, ← hok]; exact specReadRes_any a0 w hs
    have him : ∀ w, MaxLenAt w → Calls Try.prog 19 #[.string a0] w fun e w' => e = .returned (.tuple #[rv x y, .bool ok]) ∧ Below w.heap.size w w' := fun w hm => by rw [← hv, ← hok]; exact implReadRes_any a0 w hs hm
    have HSP := hide hsp
    have HIM := hide him
    clear hsp him hv hok
    go_enter Try.func7, Try.ntmps7
    go_wp2_with fail
    refine (unhide HSP _).mono ?_
    rintro e ws2 ⟨rfl, hb⟩
    have HB1 := hide hb
    clear hb
    go_wp2_with fail
    refine (unhide HIM _ ?_).mono ?_
    · exact (unhide HML).below (below_al (unhide HB1) _)
    rintro e wi2 ⟨rfl, hb⟩
    have V4 := hide ((var_new _ _ _ _).below hb)
    have c1 := (unhide V4).c0
    have c2 := (unhide V4).c1
    have l1 := (unhide V4).lt
    have HB2 := hide (below_on (below_al (unhide HB1) _) hb)
    clear hb
    go_wp2_with fail
    refine (eqRes_any _ _ _ _ _).mono ?_
    rintro e w9 ⟨rfl, hb⟩
    have HB9 := hide (below_on (below_al (unhide HB2) _) hb)
    clear hb
    go_wp2
    go_ret
    exact ⟨rfl, unhide HB9⟩
  · go_enter Try.func7, Try.ntmps7
    go_wp2
    go_ret
    exact ⟨rfl, Below.refl _ _⟩

set_option maxRecDepth 100000 in
theorem lifted (os : Os) (started : os.Started) (H : Type) (enc : TypeId × Value → H) :
    ReturnsInHanded {} Try.checked os 7 .any (Rows.fnExactReadResSpec.pre6 enc Try.prog Try.f7 Rows.fnExactReadResRow.domain false) (Rows.fnExactReadResSpec.post enc Try.prog Try.f7 false true false false) := by
  refine returnsInHanded_of_change_shaped (C := Try.checked) own started (by kernel_rfl) Try.func7
    (ChangeSpec.witness6 (enc := enc) (C := Try.checked) false ⟨#[], #[.string ByteArray.empty], []⟩ 8 (by kernel_rfl) (by kernel_rfl) (by kernel_rfl) (by kernel_rfl)) ?_
  intro W base args ds gs before hval0 hW hcnd _ hsh _
  have hval : ∀ (j : Nat) t v, Try.f7.params[j]? = some t → args[j]? = some v → Value.okWide Try.prog W .any base t v := hval0
  have hW' := hW
  obtain ⟨p, q, hA0, hV, rfl, hfz, hnd⟩ := hW
  have hA : DataW.TrodAll enc Try.prog W 0 (fun _ => true) true Try.f7.params.toList args.toList ds p := hA0
  rw [Try.params7] at hA hval
  obtain ⟨v0, vs0, d0, ds0, p0, q0, hargs, rfl, rfl, h0, r0⟩ := trodAll_cons hA
  obtain ⟨rfl, rfl, rfl⟩ := trodAll_nil r0
  obtain rfl : args = #[v0] := by cases args; simp_all
  obtain ⟨rfl, rfl⟩ := trodVars_none hV
  obtain ⟨a0, rfl, rfl, rfl, w0⟩ := open_string Try.underlying9 (hval 0 9 v0 rfl rfl) h0
  clear hA0 hval0
  refine (walk a0 w0 W hsh).mono fun e W' ⟨he, bel⟩ => ?_
  subst he
  exact ⟨_, rfl, _, _, _, [], _, [], hW', trodAll_mk1 (shut_bool Try.underlying4 _), (trodAll_cons_mk (shut_string Try.underlying9 w0) trodAll_mk0), rfl, bel.frame _, fun h => by cases h⟩

theorem over : Rows.fnExactReadResRow.holds Try.pinned (OpenSpec.ofChange Rows.fnExactReadResSpec) :=
  OpenClaim.holds_of_wide 7 Try.f7 rfl rfl rfl rfl rfl rfl rfl ⟨rfl, rfl, rfl, rfl, rfl⟩ rfl rfl rfl rfl rfl (by kernel_rfl) Try.func7 (by kernel_rfl)
    (of_decide_eq_true (by kernel_rfl)) (by unfold Func.isWrapper; first | (rw [if_pos (by decide +kernel)]; kernel_rfl) | (rw [if_neg (by decide +kernel)]; exact ⟨rfl, rfl⟩))
    (fun os started H enc _ => lifted os started H enc)
end Go.Proofs.Ytoejklldpceghab.fnExactReadRes

namespace Go.Proofs.Ytoejklldpceghab
theorem fnExactReadRes_holds : Rows.FnExactReadResSaid := fnExactReadRes.over
#print axioms fnExactReadRes_holds
end Go.Proofs.Ytoejklldpceghab
