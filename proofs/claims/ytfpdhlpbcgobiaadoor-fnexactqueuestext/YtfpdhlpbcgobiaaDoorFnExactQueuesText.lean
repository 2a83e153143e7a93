/-
  The law FnExactQueuesText answers true at every list of queues, and leaves it as it was: the program's QueuesText answers as the model's; the library's tables stand as its text lays them (the card ties that); no other condition.
-/
import Derived.Test.YtfpdhlpbcgobiaaDoorCards
import Derived.Test.YtfpdhlpbcgobiaaDoorTie
import Derived.Test.YtfpdhlpbcgobiaaDoorOpenQ
import Derived.Test.YtfpdhlpbcgobiaaDoorSzQ
import Derived.Test.YtfpdhlpbcgobiaaDoorToQ
import Derived.Test.YtfpdhlpbcgobiaaDoorEqQ
import Derived.Test.YtfpdhlpbcgobiaaDoorQTextS
import Derived.Test.YtfpdhlpbcgobiaaDoorQTextI
import Derived.WalkKit
import Derived.Deep.CutRange
import Derived.Deep.RegionHeld3
import Derived.Deep.RegionWith
import Derived.Deep.QuietTactic
import Derived.ProofKit
import Derived.OpenShut
import Derived.ShutString
import Derived.ChangeOld
import Derived.Below
import Derived.Deep.DeepHandedRow
import Derived.Lib.LaidTab
import Derived.Lay
import Derived.LaidSub
import Derived.MakeChecks
namespace Go.Proofs.YtfpdhlpbcgobiaaDoor.fnExactQueuesText
open Go.ChangeShapes Go.WideShapes Go.ChangeAt Go.RowKit
open Go.ChangeMaps (open_string shut_string)
set_option linter.unusedVariables false

theorem own : ownKnob Tryd.prog.godebug = none := by kernel_rfl
theorem laidOut : laidOutB Tryd.prog = true := by kernel_rfl

theorem gTabType : (Tryd.prog.globals[2]?).map (·.type) = some 175 := by kernel_rfl
theorem cellsT : Tryd.prog.cellsOf 175 = 20 := by kernel_rfl
theorem cellsE : Tryd.prog.cellsOf 165 = 1 := by kernel_rfl
theorem table {W : World} (h : laidMetH Tryd.prog Rows.fnExactQueuesTextRow.laid W) : Lib.TabIs Tryd.prog W "internal/strconv.uint64pow10" .u64 Lib.pow10Tab := by
  have h1 : laidMet Tryd.prog Rows.fnExactQueuesTextRow.laid W := by rw [MakeChecks.laidMetH_plain _ _ _ (by kernel_rfl)] at h; exact h
  have h2 := h1.filter (fun x => x.1 == "internal/strconv.uint64pow10")
  have e : (Rows.fnExactQueuesTextRow.laid.filter fun x => x.1 == "internal/strconv.uint64pow10") = [("internal/strconv.uint64pow10", Lib.tabData .u64 Lib.pow10Tab)] := by kernel_rfl
  rw [e] at h2
  exact Lib.tabIs_of_head (rest := []) gTab gTabType Tryd.underlying175 Tryd.underlying165 cellsE cellsT h2
set_option maxRecDepth 100000 in
set_option maxHeartbeats 4000000 in
theorem walk (a0 : Option Addr) (len0 cap0 : Nat) (l0 : List Q) (w : World) (w0 : QRow w a0 len0 l0) (x0 : len0 ≤ 9223372036854775807) (y0 : ∀ q ∈ l0, QFit q ∧ (Lit.int .i64 q.due).wf = true ∧ (Lit.int .i64 q.most).wf = true) (hL : laidMetH Tryd.prog Rows.fnExactQueuesTextRow.laid w) (hsh : w.ShapedOpen Tryd.prog) :
    Calls Tryd.prog 4 #[.slice a0 len0 cap0] w fun e w' => e = .returned (.bool true) ∧ Below w.heap.size w w' := by
  have HR := hide w0
  have C0 := hide (szQueueS_any a0 len0 cap0 l0 w w0 x0 (fun q hq => (y0 q hq).1))
  have HTAB : Hid (Lib.TabIs Tryd.prog w "internal/strconv.uint64pow10" .u64 Lib.pow10Tab) := table hL
  clear w0 y0 hL hsh
  go_enter Tryd.func4, Tryd.ntmps4
  go_wp2_with fail
  refine (unhide C0).mono ?_
  rintro e w1 ⟨r, rfl, hr, hb⟩
  have HB1 := hide hb
  clear hb C0
  rcases hr with rfl | ⟨hr, hfit⟩
  · go_wp2
    go_ret
    exact ⟨rfl, unhide HB1⟩
  have hlen : len0 ≤ 1048576 := by have := hfit.1; have := (unhide HR).1; omega
  have HF := hide hfit
  obtain ⟨o, ho⟩ : ∃ o, bs (qtext l0) = o := ⟨_, rfl⟩
  have CS := hide (fun wx (h : QRow wx (some ⟨w1.heap.size, 0, none⟩) len0 l0) => by have := specQueuesText_any _ len0 len0 l0 wx h hlen (fun q hq => ((unhide HF).2 q hq).1); rw [ho] at this; exact this)
  have CI := hide (fun (g : Nat) wx (h : QRow wx (some ⟨g, 0, none⟩) len0 l0) (hb : Below w.heap.size w wx) => by have := implQueuesText_any _ len0 len0 l0 wx h hlen (fun q hq => ((unhide HF).2 q hq).1) (Nat.le_refl _) (tab_on (unhide HTAB) hb); rw [ho] at this; exact this)
  have HLL := hide (unhide HR).1
  clear ho hfit
  go_wp2_with fail
  refine (toQueueS_any a0 len0 cap0 l0 _ ((unhide HR).below (unhide HB1)) hlen).mono ?_
  rintro e w2 ⟨rfl, hq, hb⟩
  have HQ2 := hide hq
  have HB2 := hide (below_on (unhide HB1) hb)
  clear hq hb HB1
  go_wp2_with fail
  refine (unhide CS _ ((unhide HQ2).row (unhide HLL))).mono ?_
  rintro e w3 ⟨rfl, hb⟩
  have HB3 := hide (below_on (unhide HB2) hb)
  clear hb HB2 HQ2 CS
  go_wp2_with fail
  refine (toQueueS_any a0 len0 cap0 l0 _ ((unhide HR).below (unhide HB3)) hlen).mono ?_
  rintro e w4 ⟨rfl, hq, hb⟩
  have HQ4 := hide hq
  have HB4 := hide (below_on (unhide HB3) hb)
  clear hq hb HB3
  go_wp2_with fail
  refine (unhide CI _ _ ((unhide HQ4).row (unhide HLL)) (unhide HB4)).mono ?_
  rintro e w5 ⟨rfl, hb⟩
  have HQ5 := hide ((unhide HQ4).below hb)
  have HB5 := hide (below_on (unhide HB4) hb)
  clear hb HB4 HQ4 CI
  go_wp2_with fail
  refine (toQueueS_any a0 len0 cap0 l0 _ ((unhide HR).below (unhide HB5)) hlen).mono ?_
  rintro e w6 ⟨rfl, hq, hb⟩
  have HQ6 := hide hq
  have HQ5' := hide ((unhide HQ5).below hb)
  have HB6 := hide (below_on (unhide HB5) hb)
  clear hq hb HB5 HQ5
  go_wp2_with fail
  refine (eqQueueS_same _ _ len0 len0 len0 l0 _ ((unhide HQ5').row (unhide HLL)) ((unhide HQ6).row (unhide HLL)) hlen).mono ?_
  rintro e w7 ⟨rfl, hb⟩
  have HB7 := hide (below_on (unhide HB6) hb)
  clear hb HB6 HQ5' HQ6
  go_wp2
  go_ret
  exact ⟨rfl, unhide HB7⟩

set_option maxRecDepth 100000 in
theorem contract (H : Type) (enc : TypeId × Value → H) (W : World) (base : Nat) (args : Array Value) (ds gs : List (DataW H)) (before : List MemPlace)
    (hval : ∀ (j : Nat) t v, Tryd.f4.params[j]? = some t → args[j]? = some v → Value.okWide Tryd.prog W .any base t v)
    (hW : DataW.Whole enc Tryd.prog Tryd.f4.params.toList Rows.fnExactQueuesTextSpec.vars false W args.toList ds gs before) (hL : laidMetH Tryd.prog Rows.fnExactQueuesTextRow.laid W) (hsh : W.ShapedOpen Tryd.prog) :
    Calls Tryd.prog 4 args W fun e W' => ∃ v, e = .returned v ∧ Rows.fnExactQueuesTextSpec.post enc Tryd.prog Tryd.f4 false true false false W args v W' := by
  have hW' := hW
  obtain ⟨p, q, hA0, hV, rfl, hfz, hnd⟩ := hW
  have hA : DataW.TrodAll enc Tryd.prog W 0 (fun _ => true) true Tryd.f4.params.toList args.toList ds p := hA0
  rw [Tryd.params4] at hA hval
  obtain ⟨v0, vs0, d0, ds0, p0, q0, hargs, rfl, rfl, h0, r0⟩ := trodAll_cons hA
  obtain ⟨rfl, rfl, rfl⟩ := trodAll_nil r0
  obtain rfl : args = #[v0] := by cases args; simp_all
  obtain ⟨rfl, rfl⟩ := trodVars_none hV
  obtain ⟨a0, len0, cap0, rfl⟩ := okWide_slice Tryd.underlying40 (hval 0 40 v0 rfl rfl)
  have k0 := h0
  have lt0 : ∀ x ∈ p0, x.block < W.heap.size := by obtain ⟨m, hm⟩ := k0; exact DataW.trod_lt m _ _ _ hm
  obtain ⟨l0, w0, x0, y0⟩ := open_queues h0
  clear hA0
  refine (walk a0 len0 cap0 l0 W w0 x0 y0 hL hsh).mono fun e W' ⟨he, bel⟩ => ?_
  subst he
  exact ⟨_, rfl, _, _, _, [], _, [], hW', trodAll_mk1 (shut_bool Tryd.underlying4 _), (trodAll_cons_mk (Below.trod laidOut (by kernel_rfl) (of_decide_eq_true (by kernel_rfl)) k0 bel lt0) trodAll_mk0), rfl, bel.frame _, fun h => by cases h⟩

theorem reads (os : Os) {H : Type} (enc : TypeId × Value → H) : ∃ places, DataW.whole enc Tryd.prog ((World.laidAll Tryd.prog os Rows.fnExactQueuesTextRow.laid).forCall (fun _ _ => 0) ⟨#[], #[.slice none 0 0], []⟩).memory Tryd.f4.params.toList Rows.fnExactQueuesTextSpec.vars false #[Value.slice none 0 0].toList 8 = some ([.nil], [], places) :=
  ⟨[], by kernel_rfl⟩

set_option maxRecDepth 100000 in
theorem lifted (os : Os) (started : os.Started) (H : Type) (enc : TypeId × Value → H) (F : Stop.Interp) :
    ReturnsInHanded {} Tryd.checked os 4 .any ((OpenSpec.ofChange Rows.fnExactQueuesTextSpec).preRow enc Tryd.prog Tryd.f4 Rows.fnExactQueuesTextRow.domain false Rows.fnExactQueuesTextRow.laid) (((OpenSpec.ofChange Rows.fnExactQueuesTextSpec).at F).post enc Tryd.prog Tryd.f4 false true false false) := by
  obtain ⟨places, hx⟩ := reads os enc
  refine returnsInHanded_of_row (C := Tryd.checked) (s := OpenSpec.ofChange Rows.fnExactQueuesTextSpec) own started (by kernel_rfl) Tryd.func4
    (witness_row_at (enc := enc) (C := Tryd.checked) false (World.laidAll Tryd.prog os Rows.fnExactQueuesTextRow.laid) #[.slice none 0 0] (World.laidAll_os _ _ _) (by kernel_rfl) (by kernel_rfl) (by kernel_rfl)
      (OpenSpec.preRow_of_cond 8 hx (by kernel_rfl) (fun k hk => by cases hk) (by kernel_rfl) (laidMet_laidAll _ (by kernel_rfl) (by kernel_rfl)))) ?_
  intro W base args ds gs before hval hW _ _ _ hL hsh _
  exact contract H enc W base args ds gs before hval hW hL hsh

theorem said : Rows.FnExactQueuesTextSaid :=
  OpenClaim.holds_of_cond 4 Tryd.f4 rfl rfl rfl rfl rfl rfl rfl ⟨rfl, rfl, rfl, rfl, rfl⟩ rfl rfl rfl rfl rfl (by kernel_rfl) Tryd.func4 (by kernel_rfl)
    (of_decide_eq_true (by kernel_rfl)) (by unfold Func.isWrapper; first | (rw [if_pos (by decide +kernel)]; kernel_rfl) | (rw [if_neg (by decide +kernel)]; exact ⟨rfl, rfl⟩))
    (fun os started H enc _ F => by rw [OpenClaim.pre_eq_preRow]; exact lifted os started H enc F)

theorem plain (f : FuncId) (fn : Func) (hf : Tryd.pinned.checked.prog.funcNamed Rows.fnExactQueuesTextRow.func = some f) (hfn : Tryd.pinned.checked.prog.funcs[f]? = some fn) :
    true = Tryd.pinned.checked.prog.looks [] ∧ ∀ (j : Nat) t, fn.params[j]? = some t → Tryd.pinned.checked.prog.wantsStandIn t = false := by
  obtain rfl : f = 4 := Option.some.inj ((show Tryd.prog.funcNamed Rows.fnExactQueuesTextRow.func = some 4 by kernel_rfl).symm.trans hf) |>.symm
  obtain rfl : fn = Tryd.f4 := (Option.some.inj (Tryd.func4.symm.trans hfn)).symm
  refine ⟨by kernel_rfl, fun j t ht => ?_⟩
  rw [Tryd.params4] at ht
  obtain rfl : t = 40 := by simpa using Array.mem_of_getElem? ht
  exact (show Tryd.prog.wantsStandIn 40 = false by kernel_rfl)
end Go.Proofs.YtfpdhlpbcgobiaaDoor.fnExactQueuesText

namespace Go.Proofs.YtfpdhlpbcgobiaaDoor
theorem fnExactQueuesText_card : Rows.FnExactQueuesTextCardSaid :=
  Claim7.holds_tied_plain_at .later [] _ _ _ _ fnExactQueuesText.said (fun _ h => by cases h) (by kernel_rfl) (fun _ h => by cases h) fnExactQueuesText_row_tie rfl ⟨rfl, rfl⟩ (by kernel_rfl) rfl fnExactQueuesText.plain (by kernel_rfl)
#print axioms fnExactQueuesText_card
end Go.Proofs.YtfpdhlpbcgobiaaDoor
