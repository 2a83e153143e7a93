/-
  The law FnExactPutRec answers true at every record: the program's PutRec answers as the model's; no condition.
-/
import Derived.Test.YtbnpcjfgaafeoaaRows
import Derived.Test.YtbnpcjfgaafeoaaPRec
import Derived.WalkKit
import Derived.Deep.CutRange
import Derived.Deep.RegionHeld3
import Derived.Deep.RegionWith
import Derived.Deep.QuietTactic
import Derived.ProofKit
import Derived.OpenShut
import Derived.ShutString
import Derived.ChangeOld
import Derived.Below

namespace Go.Proofs.Ytbnpcjfgaafeoaa.fnExactPutRec
open Go.ChangeShapes Go.WideShapes Go.ChangeAt Go.RowKit
open Go.ChangeMaps (open_string shut_string)
set_option linter.unusedVariables false

theorem own : ownKnob Try.prog.godebug = none := by kernel_rfl
theorem laidOut : laidOutB Try.prog = true := by kernel_rfl

set_option maxRecDepth 100000 in
set_option maxHeartbeats 4000000 in
theorem walk (a0 : Rc) (w0 : RcFit a0) (w : World) :
    Calls Try.prog 3 #[rcv a0] w fun e w' => e = .returned (.bool true) ∧ Below w.heap.size w w' := by
  have CZ := hide (fun wx => szRec_any a0 1048576 wx (by omega) (by omega) w0.1)
  have hcs := szRec_cases a0 1048576 (by omega) (by omega)
  obtain ⟨r, hr⟩ : ∃ r, szRc a0 1048576 = r := ⟨_, rfl⟩
  rw [hr] at CZ hcs
  have CT := hide (fun wx => toRec_any a0 wx)
  obtain ⟨o, ho⟩ : ∃ o, bs (putRec a0) = o := ⟨_, rfl⟩
  have CS := hide (fun wx (hl : a0.queue.length ≤ 1048576) => by have := specPutRec_any a0 wx hl; rw [ho] at this; exact this)
  have CI := hide (fun wx (hl : a0.queue.length ≤ 1048576) => by have := implPutRec_any a0 wx hl; rw [ho] at this; exact this)
  have K0 := hide (blk_new w #[.int .i64 a0.kind, .int .i64 a0.app, .string (bs a0.queue)] 23)
  have HB0 := hide (below_al (Below.refl _ w) (.cells #[.int .i64 a0.kind, .int .i64 a0.app, .string (bs a0.queue)] 23))
  clear ho hr w0
  obtain ⟨x0, x1, x2⟩ := a0
  simp only at hcs CS CI
  go_enter Try.func3, Try.ntmps3
  go_wp2_with fail
  refine (unhide CZ _).mono ?_
  rintro e w1 ⟨rfl, hb⟩
  have HB1 := hide (below_on (unhide HB0) hb)
  have K1 := hide ((unhide K0).below hb)
  clear hb CZ HB0 K0
  rcases hcs with rfl | ⟨r0, r1, hl⟩
  · go_wp2
    go_ret
    exact ⟨rfl, unhide HB1⟩
  have HL := hide hl
  clear hl
  have p0 := (unhide K1).at 0
  have p1 := (unhide K1).at 1
  have p2 := (unhide K1).at 2
  simp at p0 p1 p2
  go_wp2_with fail
  refine (unhide CT _).mono ?_
  rintro e w2 ⟨rfl, hb⟩
  have HB2 := hide (below_on (unhide HB1) hb)
  have K2 := hide ((unhide K1).below hb)
  clear hb HB1 K1 p0 p1 p2
  go_wp2_with fail
  refine (unhide CS _ (unhide HL)).mono ?_
  rintro e w3 ⟨rfl, hb⟩
  have HB3 := hide (below_on (unhide HB2) hb)
  have K3 := hide ((unhide K2).below hb)
  clear hb HB2 K2
  have p0 := (unhide K3).at 0
  have p1 := (unhide K3).at 1
  have p2 := (unhide K3).at 2
  simp at p0 p1 p2
  go_wp2_with fail
  refine (unhide CT _).mono ?_
  rintro e w4 ⟨rfl, hb⟩
  have HB4 := hide (below_on (unhide HB3) hb)
  clear hb HB3 K3 p0 p1 p2
  go_wp2_with fail
  refine (unhide CI _ (unhide HL)).mono ?_
  rintro e w5 ⟨rfl, hb⟩
  have HB5 := hide (below_on (unhide HB4) hb)
  clear hb HB4
  go_wp2
  go_ret
  exact ⟨rfl, unhide HB5⟩

set_option maxRecDepth 100000 in
theorem lifted (os : Os) (started : os.Started) (H : Type) (enc : TypeId × Value → H) :
    ReturnsInHanded {} Try.checked os 3 .any (Rows.fnExactPutRecSpec.pre6 enc Try.prog Try.f3 Rows.fnExactPutRecRow.domain false) (Rows.fnExactPutRecSpec.post enc Try.prog Try.f3 false true false false) := by
  refine returnsInHanded_of_change (C := Try.checked) own started (by kernel_rfl) Try.func3
    (ChangeSpec.witness6 (enc := enc) (C := Try.checked) false ⟨#[], #[.agg #[.int .i64 0, .int .i64 0, .string ByteArray.empty]], []⟩ 8 (by kernel_rfl) (by kernel_rfl) (by kernel_rfl) (by kernel_rfl)) ?_
  intro W base args ds gs before hval0 hW hcnd _
  have hval : ∀ (j : Nat) t v, Try.f3.params[j]? = some t → args[j]? = some v → Value.okWide Try.prog W .any base t v := hval0
  have hW' := hW
  obtain ⟨p, q, hA0, hV, rfl, hfz, hnd⟩ := hW
  have hA : DataW.TrodAll enc Try.prog W 0 (fun _ => true) true Try.f3.params.toList args.toList ds p := hA0
  rw [Try.params3] at hA hval
  obtain ⟨v0, vs0, d0, ds0, p0, q0, hargs, rfl, rfl, h0, r0⟩ := trodAll_cons hA
  obtain ⟨rfl, rfl, rfl⟩ := trodAll_nil r0
  obtain rfl : args = #[v0] := by cases args; simp_all
  obtain ⟨rfl, rfl⟩ := trodVars_none hV
  have k0 := h0
  have lt0 : ∀ x ∈ p0, x.block < W.heap.size := by obtain ⟨m, hm⟩ := k0; exact DataW.trod_lt m _ _ _ hm
  obtain ⟨a0, rfl, w0⟩ := open_recv (hval 0 23 v0 rfl rfl) h0
  clear hA0 hval0
  refine (walk a0 w0 W).mono fun e W' ⟨he, bel⟩ => ?_
  subst he
  exact ⟨_, rfl, _, _, _, [], _, [], hW', trodAll_mk1 (shut_bool Try.underlying4 _), (trodAll_cons_mk (Below.trod laidOut (by kernel_rfl) (of_decide_eq_true (by kernel_rfl)) k0 bel lt0) trodAll_mk0), rfl, bel.frame _, fun h => by cases h⟩

theorem over : Rows.fnExactPutRecRow.holds Try.pinned (OpenSpec.ofChange Rows.fnExactPutRecSpec) :=
  OpenClaim.holds_of_wide 3 Try.f3 rfl rfl rfl rfl rfl rfl rfl ⟨rfl, rfl, rfl, rfl, rfl⟩ rfl rfl rfl rfl rfl (by kernel_rfl) Try.func3 (by kernel_rfl)
    (of_decide_eq_true (by kernel_rfl)) (by unfold Func.isWrapper; first | (rw [if_pos (by decide +kernel)]; kernel_rfl) | (rw [if_neg (by decide +kernel)]; exact ⟨rfl, rfl⟩))
    (fun os started H enc _ => lifted os started H enc)
end Go.Proofs.Ytbnpcjfgaafeoaa.fnExactPutRec

namespace Go.Proofs.Ytbnpcjfgaafeoaa
theorem fnExactPutRec_holds : Rows.FnExactPutRecSaid := fnExactPutRec.over
#print axioms fnExactPutRec_holds
end Go.Proofs.Ytbnpcjfgaafeoaa
