/-
  The law FnExactAdd answers true at any two amounts, be they such or not: the program's Add answers as the model's; no condition.
-/
import Derived.Test.YtoejklldpceghaaRows
import Derived.Test.YtoejklldpceghaaOpenRes
import Derived.Test.YtoejklldpceghaaToRes
import Derived.Test.YtoejklldpceghaaEqRes
import Derived.Test.YtoejklldpceghaaArgs
import Derived.Test.YtoejklldpceghaaAddS
import Derived.Test.YtoejklldpceghaaAddI
import Derived.WalkKit
import Derived.Deep.CutRange
import Derived.Deep.RegionHeld3
import Derived.Deep.RegionWith
import Derived.Deep.QuietTactic
import Derived.ProofKit
import Derived.OpenShut
import Derived.ShutString
import Derived.ChangeOld
import Derived.Below
namespace Go.Proofs.Ytoejklldpceghaa.fnExactAdd
open Go.ChangeShapes Go.WideShapes Go.ChangeAt Go.RowKit
open Go.ChangeMaps (open_string shut_string)
set_option linter.unusedVariables false

theorem own : ownKnob Try.prog.godebug = none := by kernel_rfl
theorem laidOut : laidOutB Try.prog = true := by kernel_rfl

set_option maxRecDepth 100000 in
set_option maxHeartbeats 4000000 in
theorem walk (a0 b0 a1 b1 : Int) (w0 : (Lit.int .i64 a0).wf = true) (x0 : (Lit.int .i64 b0).wf = true) (w1 : (Lit.int .i64 a1).wf = true) (x1 : (Lit.int .i64 b1).wf = true) (w : World) :
    Calls Try.prog 5 #[rv a0 b0, rv a1 b1] w fun e w' => e = .returned (.bool true) ∧ Below w.heap.size w w' := by
  clear w0 x0 w1 x1
  obtain ⟨x, y, hv⟩ : ∃ x y, bothV 1 a0 b0 a1 b1 = rv x y := by unfold bothV; split <;> exact ⟨_, _, rfl⟩
  obtain ⟨ok, hok⟩ : ∃ ok, bothOk 1 a0 b0 a1 b1 = ok := ⟨_, rfl⟩
  have A0 := hide (args2 w a0 b0 a1 b1)
  have R := read2 w a0 b0 a1 b1
  have hsp : ∀ w, Calls Try.prog 21 #[rv a0 b0, rv a1 b1] w fun e w' => e = .returned (.tuple #[rv x y, .bool ok]) ∧ Below w.heap.size w w' := fun w => by rw [← hv, ← hok]; exact specAdd_any a0 b0 a1 b1 w
  have him : ∀ w, Calls Try.prog 22 #[rv a0 b0, rv a1 b1] w fun e w' => e = .returned (.tuple #[rv x y, .bool ok]) ∧ Below w.heap.size w w' := fun w => by rw [← hv, ← hok]; exact implAdd_any a0 b0 a1 b1 w
  have HSP := hide hsp
  have HIM := hide him
  clear hsp him hv hok
  go_enter Try.func5, Try.ntmps5
  go_wp2_with fail
  go_cut [5, 6] from 9 to 16 (fun v5 v6 wx => ∃ g, v5 = .pointer (some ⟨g, 0, none⟩) ∧ v6 = .bool ok ∧ ArgsV w [(a0, b0), (a1, b1)] g x y wx)
  case first =>
    go_region_held3 (fun wx => Args w [(a0, b0), (a1, b1)] wx)
      (first | assumption | exact (unhide A0).drew | exact Args.al (by assumption) _ | exact Args.al (unhide (by assumption)) _ | exact Args.al (unhide A0).drew _ | exact Args.call (by assumption) (by assumption) | exact Args.set (Args.set (by assumption) _ _ _ (by simp <;> omega)) _ _ _ (by simp <;> omega))
      (first
      | (go_at_call 19; refine (toRes_any _ _ _).mono ?_; rintro e wt ⟨rfl, hb⟩; have SA := hide (Args.call (w0 := w) (l := [(a0, b0), (a1, b1)]) (by assumption) hb); have sz := (unhide SA).2.2; simp only [List.length_cons, List.length_nil, Nat.zero_add, Nat.reduceAdd] at sz
         first
           | (have V5 := (var_new _ 25 0 0).below hb; (try simp at V5); have c50 := V5.c0; have c51 := V5.c1; have f50 := V5.f 0; have f51 := V5.f 1; have V5 := hide V5)
           | (have V5 := (var_new _ 25 0 0).drew.below hb; (try simp at V5); have c50 := V5.c0; have c51 := V5.c1; have f50 := V5.f 0; have f51 := V5.f 1; have V5 := hide V5)
           | (have V5 := hide ((unhide V5).below hb); have c50 := (unhide V5).c0; have c51 := (unhide V5).c1; have f50 := (unhide V5).f 0; have f51 := (unhide V5).f 1)
           | skip)
      | (go_at_call 21; refine (unhide HSP _).mono ?_; rintro e wt ⟨rfl, hb⟩; have SA := hide (Args.call (w0 := w) (l := [(a0, b0), (a1, b1)]) (by assumption) hb); have sz := (unhide SA).2.2; simp only [List.length_cons, List.length_nil, Nat.zero_add, Nat.reduceAdd] at sz
         first
           | (have V5 := (var_new _ 25 0 0).below hb; (try simp at V5); have c50 := V5.c0; have c51 := V5.c1; have f50 := V5.f 0; have f51 := V5.f 1; have V5 := hide V5)
           | (have V5 := (var_new _ 25 0 0).drew.below hb; (try simp at V5); have c50 := V5.c0; have c51 := V5.c1; have f50 := V5.f 0; have f51 := V5.f 1; have V5 := hide V5)
           | (have V5 := hide ((unhide V5).below hb); have c50 := (unhide V5).c0; have c51 := (unhide V5).c1; have f50 := (unhide V5).f 0; have f51 := (unhide V5).f 1)
           | skip))
    all_goals
      go_wp2_with fail
      go_meet
      exact ⟨_, rfl, rfl, by assumption, by first | exact var_new _ _ _ _ | exact (unhide V5).set _ _, by first | omega | (simp <;> omega)⟩
  case rest =>
    obtain ⟨g, rfl, rfl, hA⟩ := hcut
    have R2 : ∀ wx, ArgsV w [(a0, b0), (a1, b1)] g x y wx → _ := fun wx h => R wx h.1
    have A1 := hide hA
    clear A0 R hA
    go_wp2_with fail
    go_cut [7, 8] from 17 to 24 (fun v7 v8 wx => ∃ k, v7 = .pointer (some ⟨k, 0, none⟩) ∧ v8 = .bool ok ∧ Var wx 25 g x y ∧ Var wx 25 k x y ∧ Below w.heap.size w wx)
    case first =>
      go_region_held3 (fun wx => ArgsV w [(a0, b0), (a1, b1)] g x y wx)
        (first | assumption | exact (unhide A1).drew | exact ArgsV.al (by assumption) _ | exact ArgsV.al (unhide (by assumption)) _ | exact ArgsV.al (unhide A1).drew _ | exact ArgsV.call (by assumption) (by assumption) | exact ArgsV.set (ArgsV.set (by assumption) _ _ _ (by first | omega | exact (unhide A1).lt)) _ _ _ (by first | omega | exact (unhide A1).lt))
        (first
        | (go_at_call 19; refine (toRes_any _ _ _).mono ?_; rintro e wt ⟨rfl, hb⟩; have SA := hide (ArgsV.call (w0 := w) (l := [(a0, b0), (a1, b1)]) (g := g) (x := x) (y := y) (by assumption) hb); have sz := (unhide SA).lt
           first
             | (have V5 := (var_new _ 25 0 0).below hb; (try simp at V5); have c50 := V5.c0; have c51 := V5.c1; have f50 := V5.f 0; have f51 := V5.f 1; have V5 := hide V5)
             | (have V5 := (var_new _ 25 0 0).drew.below hb; (try simp at V5); have c50 := V5.c0; have c51 := V5.c1; have f50 := V5.f 0; have f51 := V5.f 1; have V5 := hide V5)
             | (have V5 := hide ((unhide V5).below hb); have c50 := (unhide V5).c0; have c51 := (unhide V5).c1; have f50 := (unhide V5).f 0; have f51 := (unhide V5).f 1)
             | skip)
        | (go_at_call 22; refine (unhide HIM _).mono ?_; rintro e wt ⟨rfl, hb⟩; have SA := hide (ArgsV.call (w0 := w) (l := [(a0, b0), (a1, b1)]) (g := g) (x := x) (y := y) (by assumption) hb); have sz := (unhide SA).lt
           first
             | (have V5 := (var_new _ 25 0 0).below hb; (try simp at V5); have c50 := V5.c0; have c51 := V5.c1; have f50 := V5.f 0; have f51 := V5.f 1; have V5 := hide V5)
             | (have V5 := (var_new _ 25 0 0).drew.below hb; (try simp at V5); have c50 := V5.c0; have c51 := V5.c1; have f50 := V5.f 0; have f51 := V5.f 1; have V5 := hide V5)
             | (have V5 := hide ((unhide V5).below hb); have c50 := (unhide V5).c0; have c51 := (unhide V5).c1; have f50 := (unhide V5).f 0; have f51 := (unhide V5).f 1)
             | skip))
      all_goals
        go_wp2_with fail
        go_meet
        exact ⟨_, rfl, rfl, argsV_end (by assumption) (by first | exact var_new _ _ _ _ | exact (unhide V5).set _ _)⟩
    case rest =>
      obtain ⟨k, rfl, rfl, h1, h2, h3⟩ := hcut
      have c1 := h1.c0
      have c2 := h1.c1
      have c3 := h2.c0
      have c4 := h2.c1
      have HB := hide h3
      clear h1 h2 h3 A1 R2 HSP HIM
      go_wp2_with fail
      refine (eqRes_any _ _ _ _ _).mono ?_
      rintro e w9 ⟨rfl, hb⟩
      have HB9 := hide (below_on (unhide HB) hb)
      clear hb HB
      go_wp2
      go_ret
      exact ⟨rfl, unhide HB9⟩

set_option maxRecDepth 100000 in
theorem lifted (os : Os) (started : os.Started) (H : Type) (enc : TypeId × Value → H) :
    ReturnsInHanded {} Try.checked os 5 .any (Rows.fnExactAddSpec.pre6 enc Try.prog Try.f5 Rows.fnExactAddRow.domain false) (Rows.fnExactAddSpec.post enc Try.prog Try.f5 false true false false) := by
  refine returnsInHanded_of_change (C := Try.checked) own started (by kernel_rfl) Try.func5
    (ChangeSpec.witness6 (enc := enc) (C := Try.checked) false ⟨#[], #[.agg #[.int .i64 0, .int .i64 0], .agg #[.int .i64 0, .int .i64 0]], []⟩ 8 (by kernel_rfl) (by kernel_rfl) (by kernel_rfl) (by kernel_rfl)) ?_
  intro W base args ds gs before hval0 hW hcnd _
  have hval : ∀ (j : Nat) t v, Try.f5.params[j]? = some t → args[j]? = some v → Value.okWide Try.prog W .any base t v := hval0
  have hW' := hW
  obtain ⟨p, q, hA0, hV, rfl, hfz, hnd⟩ := hW
  have hA : DataW.TrodAll enc Try.prog W 0 (fun _ => true) true Try.f5.params.toList args.toList ds p := hA0
  rw [Try.params5] at hA hval
  obtain ⟨v0, vs0, d0, ds0, p0, q0, hargs, rfl, rfl, h0, r0⟩ := trodAll_cons hA
  obtain ⟨v1, vs1, d1, ds1, p1, q1, rfl, rfl, rfl, h1, r1⟩ := trodAll_cons r0
  obtain ⟨rfl, rfl, rfl⟩ := trodAll_nil r1
  obtain rfl : args = #[v0, v1] := by cases args; simp_all
  obtain ⟨rfl, rfl⟩ := trodVars_none hV
  have k0 := h0
  have lt0 : ∀ x ∈ p0, x.block < W.heap.size := by obtain ⟨m, hm⟩ := k0; exact DataW.trod_lt m _ _ _ hm
  obtain ⟨a0, b0, rfl, w0, x0⟩ := open_res (hval 0 35 v0 rfl rfl) h0
  have k1 := h1
  have lt1 : ∀ x ∈ p1, x.block < W.heap.size := by obtain ⟨m, hm⟩ := k1; exact DataW.trod_lt m _ _ _ hm
  obtain ⟨a1, b1, rfl, w1, x1⟩ := open_res (hval 1 35 v1 rfl rfl) h1
  clear hA0 hval0
  refine (walk a0 b0 a1 b1 w0 x0 w1 x1 W).mono fun e W' ⟨he, bel⟩ => ?_
  subst he
  exact ⟨_, rfl, _, _, _, [], _, [], hW', trodAll_mk1 (shut_bool Try.underlying4 _), (trodAll_cons_mk (Below.trod laidOut (by kernel_rfl) (of_decide_eq_true (by kernel_rfl)) k0 bel lt0) (trodAll_cons_mk (Below.trod laidOut (by kernel_rfl) (of_decide_eq_true (by kernel_rfl)) k1 bel lt1) trodAll_mk0)), rfl, bel.frame _, fun h => by cases h⟩

theorem over : Rows.fnExactAddRow.holds Try.pinned (OpenSpec.ofChange Rows.fnExactAddSpec) :=
  OpenClaim.holds_of_wide 5 Try.f5 rfl rfl rfl rfl rfl rfl rfl ⟨rfl, rfl, rfl, rfl, rfl⟩ rfl rfl rfl rfl rfl (by kernel_rfl) Try.func5 (by kernel_rfl)
    (of_decide_eq_true (by kernel_rfl)) (by unfold Func.isWrapper; first | (rw [if_pos (by decide +kernel)]; kernel_rfl) | (rw [if_neg (by decide +kernel)]; exact ⟨rfl, rfl⟩))
    (fun os started H enc _ => lifted os started H enc)
end Go.Proofs.Ytoejklldpceghaa.fnExactAdd

namespace Go.Proofs.Ytoejklldpceghaa
theorem fnExactAdd_holds : Rows.FnExactAddSaid := fnExactAdd.over
#print axioms fnExactAdd_holds
end Go.Proofs.Ytoejklldpceghaa
