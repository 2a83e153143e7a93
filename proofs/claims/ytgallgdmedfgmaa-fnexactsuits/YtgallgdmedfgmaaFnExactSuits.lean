/-
  The law FnExactSuits answers true at every ask and every text: the program's Suits answers as the model's; no condition.
-/
import Derived.Test.YtgallgdmedfgmaaRows
import Derived.Test.YtgallgdmedfgmaaSuitB
import Derived.Test.YtgallgdmedfgmaaStAll
import Derived.WalkKit
import Derived.Deep.CutRange
import Derived.Deep.RegionHeld3
import Derived.Deep.RegionWith
import Derived.Deep.QuietTactic
import Derived.ProofKit
import Derived.OpenShut
import Derived.ShutString
import Derived.ChangeOld
import Derived.Below

namespace Go.Proofs.Ytgallgdmedfgmaa.fnExactSuits
open Go.ChangeShapes Go.WideShapes Go.ChangeAt Go.RowKit
open Go.ChangeMaps (open_string shut_string)
set_option linter.unusedVariables false

theorem own : ownKnob Try.prog.godebug = none := by kernel_rfl
theorem laidOut : laidOutB Try.prog = true := by kernel_rfl

set_option maxRecDepth 100000 in
set_option maxHeartbeats 4000000 in
theorem walk (a0 : Ask) (a1 : ByteArray) (w0 : AskFit a0) (w1 : a1.size ≤ maxLen) (w : World) :
    Calls Try.prog 3 #[askv a0, .string a1] w fun e w' => e = .returned (.bool true) ∧ Below w.heap.size w w' := by
  have hsz : a1.size ≤ 9223372036854775807 := w1
  clear w1
  obtain ⟨nm, rfl⟩ : ∃ nm, a1 = bs nm := ⟨a1.data.toList, (bs_back a1).symm⟩
  have CZ := hide (fun wx => szAsk_any a0 1048576 wx (by omega) (by omega) w0.1)
  have hcs := szAsk_cases a0 1048576 (by omega) (by omega)
  obtain ⟨r, hr⟩ : ∃ r, szAsk a0 1048576 = r := ⟨_, rfl⟩
  rw [hr] at CZ hcs
  have CT := hide (fun wx => toAsk_any a0 wx)
  obtain ⟨o, ho⟩ : ∃ o, suitsV a0 nm = o := ⟨_, rfl⟩
  have CS := hide (fun wx => by have := specSuits_any a0 nm wx; rw [ho] at this; exact this)
  have CI := hide (fun wx => by have := implSuits_any a0 nm wx; rw [ho] at this; exact this)
  have K0 := hide (blk_new w #[.int .i64 a0.mem, .int .i64 a0.cpu, .int .i64 a0.count, .string (bs a0.node), .int .i64 a0.missed] 25)
  have HB0 := hide (below_al (Below.refl _ w) (.cells #[.int .i64 a0.mem, .int .i64 a0.cpu, .int .i64 a0.count, .string (bs a0.node), .int .i64 a0.missed] 25))
  clear ho hr w0
  obtain ⟨x0, x1, x2, x3, x4⟩ := a0
  by_cases hbig : (bs nm).size ≤ 1048576
  case neg =>
    go_enter Try.func3, Try.ntmps3
    go_wp2
    go_ret
    exact ⟨rfl, unhide HB0⟩
  go_enter Try.func3, Try.ntmps3
  go_wp2_with fail
  refine (unhide CZ _).mono ?_
  rintro e w1 ⟨rfl, hb⟩
  have HB1 := hide (below_on (unhide HB0) hb)
  have K1 := hide ((unhide K0).below hb)
  clear hb CZ HB0 K0
  rcases hcs with rfl | ⟨r0, r1, _⟩
  · go_wp2
    go_ret
    exact ⟨rfl, unhide HB1⟩
  have p0 := (unhide K1).at 0
  have p1 := (unhide K1).at 1
  have p2 := (unhide K1).at 2
  have p3 := (unhide K1).at 3
  have p4 := (unhide K1).at 4
  simp at p0 p1 p2 p3 p4
  go_wp2_with fail
  refine (unhide CT _).mono ?_
  rintro e w2 ⟨rfl, hb⟩
  have HB2 := hide (below_on (unhide HB1) hb)
  have K2 := hide ((unhide K1).below hb)
  clear hb HB1 K1 p0 p1 p2 p3 p4
  go_wp2_with fail
  refine (unhide CS _).mono ?_
  rintro e w3 ⟨rfl, hb⟩
  have HB3 := hide (below_on (unhide HB2) hb)
  have K3 := hide ((unhide K2).below hb)
  clear hb HB2 K2
  have p0 := (unhide K3).at 0
  have p1 := (unhide K3).at 1
  have p2 := (unhide K3).at 2
  have p3 := (unhide K3).at 3
  have p4 := (unhide K3).at 4
  simp at p0 p1 p2 p3 p4
  go_wp2_with fail
  refine (unhide CT _).mono ?_
  rintro e w4 ⟨rfl, hb⟩
  have HB4 := hide (below_on (unhide HB3) hb)
  clear hb HB3 K3 p0 p1 p2 p3 p4
  go_wp2_with fail
  refine (unhide CI _).mono ?_
  rintro e w5 ⟨rfl, hb⟩
  have HB5 := hide (below_on (unhide HB4) hb)
  clear hb HB4
  go_wp2
  go_ret
  exact ⟨rfl, unhide HB5⟩

set_option maxRecDepth 100000 in
theorem lifted (os : Os) (started : os.Started) (H : Type) (enc : TypeId × Value → H) :
    ReturnsInHanded {} Try.checked os 3 .any (Rows.fnExactSuitsSpec.pre6 enc Try.prog Try.f3 Rows.fnExactSuitsRow.domain false) (Rows.fnExactSuitsSpec.post enc Try.prog Try.f3 false true false false) := by
  refine returnsInHanded_of_change (C := Try.checked) own started (by kernel_rfl) Try.func3
    (ChangeSpec.witness6 (enc := enc) (C := Try.checked) false ⟨#[], #[.agg #[.int .i64 0, .int .i64 0, .int .i64 0, .string ByteArray.empty, .int .i64 0], .string ByteArray.empty], []⟩ 8 (by kernel_rfl) (by kernel_rfl) (by kernel_rfl) (by kernel_rfl)) ?_
  intro W base args ds gs before hval0 hW hcnd _
  have hval : ∀ (j : Nat) t v, Try.f3.params[j]? = some t → args[j]? = some v → Value.okWide Try.prog W .any base t v := hval0
  have hW' := hW
  obtain ⟨p, q, hA0, hV, rfl, hfz, hnd⟩ := hW
  have hA : DataW.TrodAll enc Try.prog W 0 (fun _ => true) true Try.f3.params.toList args.toList ds p := hA0
  rw [Try.params3] at hA hval
  obtain ⟨v0, vs0, d0, ds0, p0, q0, hargs, rfl, rfl, h0, r0⟩ := trodAll_cons hA
  obtain ⟨v1, vs1, d1, ds1, p1, q1, rfl, rfl, rfl, h1, r1⟩ := trodAll_cons r0
  obtain ⟨rfl, rfl, rfl⟩ := trodAll_nil r1
  obtain rfl : args = #[v0, v1] := by cases args; simp_all
  obtain ⟨rfl, rfl⟩ := trodVars_none hV
  have k0 := h0
  have lt0 : ∀ x ∈ p0, x.block < W.heap.size := by obtain ⟨m, hm⟩ := k0; exact DataW.trod_lt m _ _ _ hm
  obtain ⟨a0, rfl, w0⟩ := open_askv (hval 0 25 v0 rfl rfl) h0
  obtain ⟨a1, rfl, rfl, rfl, w1⟩ := open_string Try.underlying9 (hval 1 9 v1 rfl rfl) h1
  clear hA0 hval0
  refine (walk a0 a1 w0 w1 W).mono fun e W' ⟨he, bel⟩ => ?_
  subst he
  exact ⟨_, rfl, _, _, _, [], _, [], hW', trodAll_mk1 (shut_bool Try.underlying4 _), (trodAll_cons_mk (Below.trod laidOut (by kernel_rfl) (of_decide_eq_true (by kernel_rfl)) k0 bel lt0) (trodAll_cons_mk (shut_string Try.underlying9 w1) trodAll_mk0)), rfl, bel.frame _, fun h => by cases h⟩

theorem over : Rows.fnExactSuitsRow.holds Try.pinned (OpenSpec.ofChange Rows.fnExactSuitsSpec) :=
  OpenClaim.holds_of_wide 3 Try.f3 rfl rfl rfl rfl rfl rfl rfl ⟨rfl, rfl, rfl, rfl, rfl⟩ rfl rfl rfl rfl rfl (by kernel_rfl) Try.func3 (by kernel_rfl)
    (of_decide_eq_true (by kernel_rfl)) (by unfold Func.isWrapper; first | (rw [if_pos (by decide +kernel)]; kernel_rfl) | (rw [if_neg (by decide +kernel)]; exact ⟨rfl, rfl⟩))
    (fun os started H enc _ => lifted os started H enc)
end Go.Proofs.Ytgallgdmedfgmaa.fnExactSuits

namespace Go.Proofs.Ytgallgdmedfgmaa
theorem fnExactSuits_holds : Rows.FnExactSuitsSaid := fnExactSuits.over
#print axioms fnExactSuits_holds
end Go.Proofs.Ytgallgdmedfgmaa
