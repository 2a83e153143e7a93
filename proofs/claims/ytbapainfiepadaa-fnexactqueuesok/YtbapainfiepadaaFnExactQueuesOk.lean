/-
  The law FnExactQueuesOk answers true at every list of queues, and leaves it as it was: the program's QueuesOk answers as the model's, and writes into nothing; no condition.
-/
import Derived.Test.YtbapainfiepadaaRows
import Derived.Test.YtbapainfiepadaaOpenQ
import Derived.Test.YtbapainfiepadaaSzQ
import Derived.Test.YtbapainfiepadaaToQ
import Derived.Test.YtbapainfiepadaaEqQ
import Derived.Test.YtbapainfiepadaaQueuesOkS
import Derived.Test.YtbapainfiepadaaQueuesOkI
import Derived.WalkKit
import Derived.Deep.CutRange
import Derived.Deep.RegionHeld3
import Derived.Deep.RegionWith
import Derived.Deep.QuietTactic
import Derived.ProofKit
import Derived.OpenShut
import Derived.ShutString
import Derived.ChangeOld
import Derived.Below

namespace Go.Proofs.Ytbapainfiepadaa.fnExactQueuesOk
open Go.ChangeShapes Go.WideShapes Go.ChangeAt Go.RowKit
open Go.ChangeMaps (open_string shut_string)
set_option linter.unusedVariables false

theorem own : ownKnob Try.prog.godebug = none := by kernel_rfl
theorem laidOut : laidOutB Try.prog = true := by kernel_rfl

set_option maxRecDepth 100000 in
set_option maxHeartbeats 4000000 in
theorem walk (a0 : Option Addr) (len0 cap0 : Nat) (l0 : List Q) (w : World) (w0 : QRow w a0 len0 l0) (x0 : len0 ≤ 9223372036854775807) (y0 : ∀ q ∈ l0, QFit q ∧ (Lit.int .i64 q.due).wf = true ∧ (Lit.int .i64 q.most).wf = true) :
    Calls Try.prog 4 #[.slice a0 len0 cap0] w fun e w' => e = .returned (.bool true) ∧ Below w.heap.size w w' := by
  have HR := hide w0
  have C0 := hide (szQueueS_any a0 len0 cap0 l0 w w0 x0 (fun q hq => (y0 q hq).1))
  clear w0 y0
  go_enter Try.func4, Try.ntmps4
  go_wp2_with fail
  refine (unhide C0).mono ?_
  rintro e w1 ⟨r, rfl, hr, hb⟩
  have HB1 := hide hb
  clear hb C0
  rcases hr with rfl | ⟨hr, hfit⟩
  · go_wp2
    go_ret
    exact ⟨rfl, unhide HB1⟩
  have hlen : len0 ≤ 1048576 := by have := hfit.1; have := (unhide HR).1; omega
  have HF := hide hfit
  obtain ⟨o, ho⟩ : ∃ o, queuesOk l0 = o := ⟨_, rfl⟩
  have CS := hide (fun wx (h : QRow wx (some ⟨w1.heap.size, 0, none⟩) len0 l0) => by have := specQueuesOk_any _ len0 len0 l0 wx h hlen (fun q hq => ((unhide HF).2 q hq).1); rw [ho] at this; exact this)
  have CI := hide (fun (g : Nat) wx (h : QRow wx (some ⟨g, 0, none⟩) len0 l0) => by have := implQueuesOk_any _ len0 len0 l0 wx h hlen (fun q hq => ((unhide HF).2 q hq).1) (Nat.le_refl _); rw [ho] at this; exact this)
  have HLL := hide (unhide HR).1
  clear ho hfit
  go_wp2_with fail
  refine (toQueueS_any a0 len0 cap0 l0 _ ((unhide HR).below (unhide HB1)) hlen).mono ?_
  rintro e w2 ⟨rfl, hq, hb⟩
  have HQ2 := hide hq
  have HB2 := hide (below_on (unhide HB1) hb)
  clear hq hb HB1
  go_wp2_with fail
  refine (unhide CS _ ((unhide HQ2).row (unhide HLL))).mono ?_
  rintro e w3 ⟨rfl, hb⟩
  have HB3 := hide (below_on (unhide HB2) hb)
  clear hb HB2 HQ2 CS
  go_wp2_with fail
  refine (toQueueS_any a0 len0 cap0 l0 _ ((unhide HR).below (unhide HB3)) hlen).mono ?_
  rintro e w4 ⟨rfl, hq, hb⟩
  have HQ4 := hide hq
  have HB4 := hide (below_on (unhide HB3) hb)
  clear hq hb HB3
  go_wp2_with fail
  refine (unhide CI _ _ ((unhide HQ4).row (unhide HLL))).mono ?_
  rintro e w5 ⟨rfl, hb⟩
  have HQ5 := hide ((unhide HQ4).below hb)
  have HB5 := hide (below_on (unhide HB4) hb)
  clear hb HB4 HQ4 CI
  go_wp2_with fail
  refine (toQueueS_any a0 len0 cap0 l0 _ ((unhide HR).below (unhide HB5)) hlen).mono ?_
  rintro e w6 ⟨rfl, hq, hb⟩
  have HQ6 := hide hq
  have HQ5' := hide ((unhide HQ5).below hb)
  have HB6 := hide (below_on (unhide HB5) hb)
  clear hq hb HB5 HQ5
  go_wp2_with fail
  refine (eqQueueS_same _ _ len0 len0 len0 l0 _ ((unhide HQ5').row (unhide HLL)) ((unhide HQ6).row (unhide HLL)) hlen).mono ?_
  rintro e w7 ⟨rfl, hb⟩
  have HB7 := hide (below_on (unhide HB6) hb)
  clear hb HB6 HQ5' HQ6
  go_wp2
  go_ret
  exact ⟨rfl, unhide HB7⟩

set_option maxRecDepth 100000 in
theorem lifted (os : Os) (started : os.Started) (H : Type) (enc : TypeId × Value → H) :
    ReturnsInHanded {} Try.checked os 4 .any (Rows.fnExactQueuesOkSpec.pre6 enc Try.prog Try.f4 Rows.fnExactQueuesOkRow.domain false) (Rows.fnExactQueuesOkSpec.post enc Try.prog Try.f4 false true false false) := by
  refine returnsInHanded_of_change (C := Try.checked) own started (by kernel_rfl) Try.func4
    (ChangeSpec.witness6 (enc := enc) (C := Try.checked) false ⟨#[], #[.slice none 0 0], []⟩ 8 (by kernel_rfl) (by kernel_rfl) (by kernel_rfl) (by kernel_rfl)) ?_
  intro W base args ds gs before hval0 hW hcnd _
  have hval : ∀ (j : Nat) t v, Try.f4.params[j]? = some t → args[j]? = some v → Value.okWide Try.prog W .any base t v := hval0
  have hW' := hW
  obtain ⟨p, q, hA0, hV, rfl, hfz, hnd⟩ := hW
  have hA : DataW.TrodAll enc Try.prog W 0 (fun _ => true) true Try.f4.params.toList args.toList ds p := hA0
  rw [Try.params4] at hA hval
  obtain ⟨v0, vs0, d0, ds0, p0, q0, hargs, rfl, rfl, h0, r0⟩ := trodAll_cons hA
  obtain ⟨rfl, rfl, rfl⟩ := trodAll_nil r0
  obtain rfl : args = #[v0] := by cases args; simp_all
  obtain ⟨rfl, rfl⟩ := trodVars_none hV
  obtain ⟨a0, len0, cap0, rfl⟩ := okWide_slice Try.underlying39 (hval 0 39 v0 rfl rfl)
  have k0 := h0
  have lt0 : ∀ x ∈ p0, x.block < W.heap.size := by obtain ⟨m, hm⟩ := k0; exact DataW.trod_lt m _ _ _ hm
  obtain ⟨l0, w0, x0, y0⟩ := open_queues h0
  clear hA0 hval0
  refine (walk a0 len0 cap0 l0 W w0 x0 y0).mono fun e W' ⟨he, bel⟩ => ?_
  subst he
  exact ⟨_, rfl, _, _, _, [], _, [], hW', trodAll_mk1 (shut_bool Try.underlying4 _), (trodAll_cons_mk (Below.trod laidOut (by kernel_rfl) (of_decide_eq_true (by kernel_rfl)) k0 bel lt0) trodAll_mk0), rfl, bel.frame _, fun h => by cases h⟩

theorem over : Rows.fnExactQueuesOkRow.holds Try.pinned (OpenSpec.ofChange Rows.fnExactQueuesOkSpec) :=
  OpenClaim.holds_of_wide 4 Try.f4 rfl rfl rfl rfl rfl rfl rfl ⟨rfl, rfl, rfl, rfl, rfl⟩ rfl rfl rfl rfl rfl (by kernel_rfl) Try.func4 (by kernel_rfl)
    (of_decide_eq_true (by kernel_rfl)) (by unfold Func.isWrapper; first | (rw [if_pos (by decide +kernel)]; kernel_rfl) | (rw [if_neg (by decide +kernel)]; exact ⟨rfl, rfl⟩))
    (fun os started H enc _ => lifted os started H enc)
end Go.Proofs.Ytbapainfiepadaa.fnExactQueuesOk

namespace Go.Proofs.Ytbapainfiepadaa
theorem fnExactQueuesOk_holds : Rows.FnExactQueuesOkSaid := fnExactQueuesOk.over
#print axioms fnExactQueuesOk_holds
end Go.Proofs.Ytbapainfiepadaa
