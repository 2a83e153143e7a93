/-
  The law FnExactReadQueues answers true at every string, and leaves it as it was: the program's ReadQueues answers as the model's, in memory of its own; the library's variables stand as its text lays them (the card ties that); no other condition.
-/
import Derived.Test.YtfpdhlpbcgobiaaDoorCards
import Derived.Test.YtfpdhlpbcgobiaaDoorTie
import Derived.Test.YtfpdhlpbcgobiaaDoorReadS
import Derived.Test.YtfpdhlpbcgobiaaDoorReadI
import Derived.Test.YtfpdhlpbcgobiaaDoorEqQ
import Derived.Test.YtfpdhlpbcgobiaaDoorMarkZ
import Derived.WalkKit
import Derived.Deep.CutRange
import Derived.Deep.RegionHeld3
import Derived.Deep.RegionWith
import Derived.Deep.QuietTactic
import Derived.ProofKit
import Derived.OpenShut
import Derived.ShutString
import Derived.ChangeOld
import Derived.Below
import Derived.Deep.DeepHandedRow
import Derived.Lib.LaidTab
import Derived.Lay
import Derived.LaidHandle
import Derived.LaidSub
import Derived.MakeChecks
namespace Go.Proofs.YtfpdhlpbcgobiaaDoor.fnExactReadQueues
open Go.ChangeShapes Go.WideShapes Go.ChangeAt Go.RowKit
open Go.ChangeMaps (open_string shut_string)
set_option linter.unusedVariables false

theorem own : ownKnob Tryd.prog.godebug = none := by kernel_rfl
theorem laidOut : laidOutB Tryd.prog = true := by kernel_rfl

theorem et : Tryd.prog.globalNamed "errors.errorType" = some 0 := by kernel_rfl
theorem rt : (Tryd.prog.cutTypes.find? (·.1 == "internal/reflectlite.rtype")).map (·.2) = some 139 := by kernel_rfl
theorem tsize : Tryd.prog.types.size = 228 := by kernel_rfl
theorem oneRow : ((List.range 228).filter fun t => Tryd.prog.rowNamed t [101, 114, 114, 111, 114]) = [81] := by kernel_rfl
theorem handle_of_laid {W : World} (h : laidMetH Tryd.prog Rows.fnExactReadQueuesRow.laid W) : ErrTypeAt W := by
  have h' : laidMet Tryd.prog (Rows.fnExactReadQueuesRow.laid.filter fun x => x.2.handleName?.isNone) W ∧ handlesMet Tryd.prog [("errors.errorType", Rows.laid_errors_errorType)] W := h
  obtain ⟨name, u, ty, e1, e2, e3, e4, e5⟩ := h'.2 _ (List.mem_singleton.2 rfl)
  have en : name = [101, 114, 114, 111, 114] := (Option.some.inj e1).symm
  subst en
  obtain rfl := Option.some.inj (rt.symm.trans e2)
  have hm : ty ∈ (List.range 228).filter fun t => Tryd.prog.rowNamed t [101, 114, 114, 111, 114] := List.mem_filter.2 ⟨List.mem_range.2 (by rw [← tsize]; exact e3), e4⟩
  rw [oneRow] at hm
  obtain rfl := List.mem_singleton.1 hm
  have hh : typeHandle Tryd.prog 81 = hdl 81 := by kernel_rfl
  rw [hh] at e5
  show W.cell? ⟨0, 0, none⟩ = _
  simpa using World.var?_cell et e5 0
theorem laidMet_layOn {P : Program} {w0 : World} {laid : List (String × DataW Unit)} (args : Array Value)
    (hf : w0.layFits P laid [] = true) (hi : w0.layIfaces P laid (w0.layVars P laid) = true) :
    laidMet P laid ((w0.layVars P laid).forCall (fun _ _ => 0) ⟨#[], args, []⟩).memory := by
  have e1 : (laid.filter fun x => (laid.map (·.1)).contains x.1) = laid := List.filter_eq_self.2 fun x hx => List.contains_iff_mem.2 (List.mem_map.2 ⟨x, hx, rfl⟩)
  have e2 : (laid.filter fun x => !(laid.map (·.1)).contains x.1) = [] := List.filter_eq_nil_iff.2 fun x hx => by rw [List.contains_iff_mem.2 (List.mem_map.2 ⟨x, hx, rfl⟩)]; simp
  have h : laidMet P laid (w0.layVars P laid) := laidMet_layVars (w0 := w0) (laid.map (·.1)) [] (by rw [e1]) (by rw [e1]; exact hf) (by rw [e1]; exact hi) (by rw [e2]; exact LaidIn.none)
  exact h.of_heap (by simp [World.memory, World.forCall, Input.heap])
/-- the variable that is a handle, laid -/
def layH : Obj → Obj
  | .cells _ t frozen => .cells #[.iface 139 (.agg #[hdl 81])] t frozen
  | o => o
/- LAIDW (World.layVars Tryd.prog { World.holding Tryd.prog os ⟨#[], #[], []⟩ with heap := (World.holding Tryd.prog os ⟨#[], #[], []⟩).heap.modify 0 layH } (Rows.fnExactReadQueuesRow.laid.filter fun x => x.2.handleName?.isNone)) -/
theorem laidW_met (os : Os) (args : Array Value) : laidMetH Tryd.prog Rows.fnExactReadQueuesRow.laid (World.forCall (World.layVars Tryd.prog { World.holding Tryd.prog os ⟨#[], #[], []⟩ with heap := (World.holding Tryd.prog os ⟨#[], #[], []⟩).heap.modify 0 layH } (Rows.fnExactReadQueuesRow.laid.filter fun x => x.2.handleName?.isNone)) (fun _ _ => 0) ⟨#[], args, []⟩).memory :=
  laidMetH_of_parts (laidMet_layOn args (by kernel_rfl) (by kernel_rfl)) (by kernel_rfl)
theorem kept_own {w w' : World} {B g : Nat} {v : Value} {l : List Q} (h : QOwn B w v l) (hg : w.grownBy w' (some g)) (hn : v.ownBlock ≠ some g) : QOwn B w' v l := h.kept hg (.inr hn)
theorem own_below {w : World} {B : Nat} {v : Value} {l : List Q} (h : QOwn B w v l) : ∀ g, v.ownBlock = some g → g < w.heap.size := fun g e => by
  rcases h.2 with ⟨rfl, _⟩ | ⟨g', cap, cur, rfl, _, h2, _⟩
  · simp [Value.ownBlock] at e
  · simp [Value.ownBlock] at e; rw [← e]; exact lt_of_block h2
set_option maxRecDepth 100000 in
set_option maxHeartbeats 4000000 in
theorem walk (a0 : ByteArray) (w0 : a0.size ≤ maxLen) (w : World) (hL : laidMetH Tryd.prog Rows.fnExactReadQueuesRow.laid w) (hsh : w.ShapedOpen Tryd.prog) :
    Calls Tryd.prog 5 #[.string a0] w fun e w' => e = .returned (.bool true) ∧ Below w.heap.size w w' := by
  unfold maxLen at w0
  have HM := hide (MaxLenAt.of hsh)
  have HE := hide (handle_of_laid hL)
  clear hL hsh
  by_cases hs : a0.size ≤ 1048576
  · have CS := hide (specReadQueues_any a0 w hs)
    have CI := hide (fun wx (hb : Below w.heap.size w wx) => by
      have := implReadQueues_any a0.data.toList wx (by rw [len_eq]; exact hs) ((unhide HM).below hb) ((unhide HE).below hb)
      rw [show bs a0.data.toList = a0 from rfl] at this
      exact this)
    have hok : okT (rd [] a0.data.toList).1 = true := readL_ok _ _ _ rfl
    obtain ⟨⟨rl, rn⟩, hr⟩ : ∃ p, rd [] a0.data.toList = p := ⟨_, rfl⟩
    rw [hr] at CS CI hok
    simp only at CS CI hok
    have hl := okT_len hok
    clear hr hok
    go_enter Tryd.func5, Tryd.ntmps5
    go_wp2_with fail
    refine (unhide CS).mono ?_
    rintro e w1 ⟨v0, rfl, ho, hb⟩
    obtain ⟨ao0, c0, hv0, _, _⟩ := ho.row
    have HO0 := hide ho
    have HB1 := hide hb
    have hsz1 := hb.size
    clear ho hb CS
    subst hv0
    go_wp2_with fail
    refine (unhide CI _ (unhide HB1)).mono ?_
    rintro e w2 ⟨v1, rfl, ho, hb⟩
    have HO02 := hide ((unhide HO0).below hb)
    have HO1 := hide ho
    have HB2 := hide (below_on (unhide HB1) hb)
    have hlt0 := own_below (unhide HO0)
    clear ho hb HO0
    obtain ⟨ax, cx, ex, hr0, _⟩ := (unhide HO02).row
    simp only [Value.slice.injEq] at ex
    obtain ⟨rfl, _, rfl⟩ := ex
    have HR0 := hide hr0
    clear hr0
    by_cases hrl : rl = []
    · subst hrl
      obtain ⟨ao1, c1, hv1, hr1, _⟩ := (unhide HO1).row
      subst hv1
      have HR1 := hide hr1
      clear hr1 HO1 HO02
      go_wp2_with fail
      refine (eqQueueS_same _ _ 0 _ _ [] _ (unhide HR1) (unhide HR0) (by omega)).mono ?_
      rintro e w3 ⟨rfl, hb⟩
      have HR03 := hide ((unhide HR0).below hb)
      have HB3 := hide (below_on (unhide HB2) hb)
      clear hb HR0 HR1 HB2
      go_wp2_with fail
      refine (markQueueS_zero _ _ _).mono ?_
      rintro e w4 ⟨rfl, rfl⟩
      go_wp2_with fail
      refine (heldQueueS_zero _ _ _).mono ?_
      rintro e w5 ⟨rfl, rfl⟩
      go_wp2_with fail
      refine (unhide CI _ (unhide HB3)).mono ?_
      rintro e w6 ⟨v2, rfl, ho, hb⟩
      obtain ⟨ao2, c2, hv2, hr2, _⟩ := ho.row
      subst hv2
      have HR2 := hide hr2
      have HR06 := hide ((unhide HR03).below hb)
      have HB6 := hide (below_on (unhide HB3) hb)
      clear ho hb hr2
      go_wp2_with fail
      refine (eqQueueS_same _ _ 0 _ _ [] _ (unhide HR2) (unhide HR06) (by omega)).mono ?_
      rintro e w7 ⟨rfl, hb⟩
      have HB7 := hide (below_on (unhide HB6) hb)
      clear hb
      go_wp2_with fail
      refine (heldQueueS_zero _ _ _).mono ?_
      rintro e w8 ⟨rfl, rfl⟩
      go_wp2
      go_ret
      exact ⟨rfl, unhide HB7⟩
    · obtain ⟨g, c1, hv1, hany, hr1, hc1, hB1⟩ := (unhide HO1).some hrl
      subst hv1
      have HR1 := hide hr1
      have HA := hide hany
      have hgn : (Value.slice ao0 rl.length c0).ownBlock ≠ some g := fun e => by have := hlt0 g e; omega
      have hgw : w.heap.size ≤ g := by omega
      have HGN := hide hgn
      clear hr1 hany HO1 hrl hlt0 hgn
      go_wp2_with fail
      refine (eqQueueS_same _ _ rl.length _ _ rl _ (unhide HR1) (unhide HR0) (by omega)).mono ?_
      rintro e w3 ⟨rfl, hb⟩
      have HO3 := hide ((unhide HO02).below hb)
      have HA3 := hide ((unhide HA).below hb)
      have HB3 := hide (below_on (unhide HB2) hb)
      clear hb HR0 HR1 HB2 HA HO02
      go_wp2_with fail
      refine (markQueueS_full g rl.length c1 w3 (unhide HA3) hc1 (by omega)).mono ?_
      rintro e w4 ⟨rfl, hq, hgr⟩
      have HO4 := hide (kept_own (unhide HO3) hgr (unhide HGN))
      have HB4 := hide ((unhide HB3).grown hgr (unhide HB3).size (fun k e => by cases e; exact hgw))
      have HQ4 := hide hq
      clear hq hgr HO3 HB3 HA3
      go_wp2_with fail
      refine (heldQueueS_any g rl.length c1 w4 ((unhide HQ4).rowOf (marksQ_len _).symm) (by omega)).mono ?_
      rintro e w5 ⟨rfl, hb⟩
      have HO5 := hide ((unhide HO4).below hb)
      have HQ5 := hide ((unhide HQ4).below hb)
      have HB5 := hide (below_on (unhide HB4) hb)
      clear hb HO4 HQ4 HB4
      have hpos : ¬ (1 + 4 * (rl.length : Int)) < 0 := by omega
      go_wp2_with fail
      refine (unhide CI _ (unhide HB5)).mono ?_
      rintro e w6 ⟨v2, rfl, ho, hb⟩
      obtain ⟨ao2, c2, hv2, hr2, _⟩ := ho.row
      subst hv2
      have HR2 := hide hr2
      obtain ⟨ay, cy, ey, hr06, _⟩ := ((unhide HO5).below hb).row
      simp only [Value.slice.injEq] at ey
      obtain ⟨rfl, _, rfl⟩ := ey
      have HR06 := hide hr06
      have HQ6 := hide ((unhide HQ5).below hb)
      have HB6 := hide (below_on (unhide HB5) hb)
      clear ho hb hr2 hr06 HO5 HQ5 HB5
      go_wp2_with fail
      refine (eqQueueS_same _ _ rl.length _ _ rl _ (unhide HR2) (unhide HR06) (by omega)).mono ?_
      rintro e w7 ⟨rfl, hb⟩
      have HQ7 := hide ((unhide HQ6).below hb)
      have HB7 := hide (below_on (unhide HB6) hb)
      clear hb HQ6 HB6 HR2 HR06
      go_wp2_with fail
      refine (heldQueueS_any g rl.length c1 w7 ((unhide HQ7).rowOf (marksQ_len _).symm) (by omega)).mono ?_
      rintro e w8 ⟨rfl, hb⟩
      have HB8 := hide (below_on (unhide HB7) hb)
      clear hb
      go_wp2
      go_ret
      exact ⟨rfl, unhide HB8⟩
  · have h2 : (1048576 : Int) < a0.size := by omega
    go_enter Tryd.func5, Tryd.ntmps5
    go_wp2
    go_ret
    exact ⟨rfl, Below.refl _ _⟩

set_option maxRecDepth 100000 in
theorem contract (H : Type) (enc : TypeId × Value → H) (W : World) (base : Nat) (args : Array Value) (ds gs : List (DataW H)) (before : List MemPlace)
    (hval : ∀ (j : Nat) t v, Tryd.f5.params[j]? = some t → args[j]? = some v → Value.okWide Tryd.prog W .any base t v)
    (hW : DataW.Whole enc Tryd.prog Tryd.f5.params.toList Rows.fnExactReadQueuesSpec.vars false W args.toList ds gs before) (hL : laidMetH Tryd.prog Rows.fnExactReadQueuesRow.laid W) (hsh : W.ShapedOpen Tryd.prog) :
    Calls Tryd.prog 5 args W fun e W' => ∃ v, e = .returned v ∧ Rows.fnExactReadQueuesSpec.post enc Tryd.prog Tryd.f5 false true false false W args v W' := by
  have hW' := hW
  obtain ⟨p, q, hA0, hV, rfl, hfz, hnd⟩ := hW
  have hA : DataW.TrodAll enc Tryd.prog W 0 (fun _ => true) true Tryd.f5.params.toList args.toList ds p := hA0
  rw [Tryd.params5] at hA hval
  obtain ⟨v0, vs0, d0, ds0, p0, q0, hargs, rfl, rfl, h0, r0⟩ := trodAll_cons hA
  obtain ⟨rfl, rfl, rfl⟩ := trodAll_nil r0
  obtain rfl : args = #[v0] := by cases args; simp_all
  obtain ⟨rfl, rfl⟩ := trodVars_none hV
  obtain ⟨a0, rfl, rfl, rfl, w0⟩ := open_string Tryd.underlying9 (hval 0 9 v0 rfl rfl) h0
  clear hA0
  refine (walk a0 w0 W hL hsh).mono fun e W' ⟨he, bel⟩ => ?_
  subst he
  exact ⟨_, rfl, _, _, _, [], _, [], hW', trodAll_mk1 (shut_bool Tryd.underlying4 _), (trodAll_cons_mk (shut_string Tryd.underlying9 w0) trodAll_mk0), rfl, bel.frame _, fun h => by cases h⟩

theorem reads (os : Os) {H : Type} (enc : TypeId × Value → H) : ∃ places, DataW.whole enc Tryd.prog (((World.layVars Tryd.prog { World.holding Tryd.prog os ⟨#[], #[], []⟩ with heap := (World.holding Tryd.prog os ⟨#[], #[], []⟩).heap.modify 0 layH } (Rows.fnExactReadQueuesRow.laid.filter fun x => x.2.handleName?.isNone))).forCall (fun _ _ => 0) ⟨#[], #[.string ByteArray.empty], []⟩).memory Tryd.f5.params.toList Rows.fnExactReadQueuesSpec.vars false #[Value.string ByteArray.empty].toList 8 = some ([.lit (.string [])], [], places) :=
  ⟨[], by kernel_rfl⟩

set_option maxRecDepth 100000 in
theorem lifted (os : Os) (started : os.Started) (H : Type) (enc : TypeId × Value → H) (F : Stop.Interp) :
    ReturnsInHanded {} Tryd.checked os 5 .any ((OpenSpec.ofChange Rows.fnExactReadQueuesSpec).preRow enc Tryd.prog Tryd.f5 Rows.fnExactReadQueuesRow.domain false Rows.fnExactReadQueuesRow.laid) (((OpenSpec.ofChange Rows.fnExactReadQueuesSpec).at F).post enc Tryd.prog Tryd.f5 false true false false) := by
  obtain ⟨places, hx⟩ := reads os enc
  refine returnsInHanded_of_row (C := Tryd.checked) (s := OpenSpec.ofChange Rows.fnExactReadQueuesSpec) own started (by kernel_rfl) Tryd.func5
    (witness_row_at (enc := enc) (C := Tryd.checked) false ((World.layVars Tryd.prog { World.holding Tryd.prog os ⟨#[], #[], []⟩ with heap := (World.holding Tryd.prog os ⟨#[], #[], []⟩).heap.modify 0 layH } (Rows.fnExactReadQueuesRow.laid.filter fun x => x.2.handleName?.isNone))) #[.string ByteArray.empty] (World.layVars_os _ _ _) (by kernel_rfl) (by kernel_rfl) (by kernel_rfl)
      (OpenSpec.preRow_of_cond 8 hx (by kernel_rfl) (fun k hk => by cases hk) (by kernel_rfl) (laidW_met os _))) ?_
  intro W base args ds gs before hval hW _ _ _ hL hsh _
  exact contract H enc W base args ds gs before hval hW hL hsh

theorem said : Rows.FnExactReadQueuesSaid :=
  OpenClaim.holds_of_cond 5 Tryd.f5 rfl rfl rfl rfl rfl rfl rfl ⟨rfl, rfl, rfl, rfl, rfl⟩ rfl rfl rfl rfl rfl (by kernel_rfl) Tryd.func5 (by kernel_rfl)
    (of_decide_eq_true (by kernel_rfl)) (by unfold Func.isWrapper; first | (rw [if_pos (by decide +kernel)]; kernel_rfl) | (rw [if_neg (by decide +kernel)]; exact ⟨rfl, rfl⟩))
    (fun os started H enc _ F => by rw [OpenClaim.pre_eq_preRow]; exact lifted os started H enc F)

theorem plain (f : FuncId) (fn : Func) (hf : Tryd.pinned.checked.prog.funcNamed Rows.fnExactReadQueuesRow.func = some f) (hfn : Tryd.pinned.checked.prog.funcs[f]? = some fn) :
    true = Tryd.pinned.checked.prog.looks [] ∧ ∀ (j : Nat) t, fn.params[j]? = some t → Tryd.pinned.checked.prog.wantsStandIn t = false := by
  obtain rfl : f = 5 := Option.some.inj ((show Tryd.prog.funcNamed Rows.fnExactReadQueuesRow.func = some 5 by kernel_rfl).symm.trans hf) |>.symm
  obtain rfl : fn = Tryd.f5 := (Option.some.inj (Tryd.func5.symm.trans hfn)).symm
  refine ⟨by kernel_rfl, fun j t ht => ?_⟩
  rw [Tryd.params5] at ht
  obtain rfl : t = 9 := by simpa using Array.mem_of_getElem? ht
  exact (show Tryd.prog.wantsStandIn 9 = false by kernel_rfl)
end Go.Proofs.YtfpdhlpbcgobiaaDoor.fnExactReadQueues

namespace Go.Proofs.YtfpdhlpbcgobiaaDoor
theorem fnExactReadQueues_card : Rows.FnExactReadQueuesCardSaid :=
  Claim7.holds_tied_plain_at .later [] _ _ _ _ fnExactReadQueues.said (fun _ h => by cases h) (by kernel_rfl) (fun _ h => by cases h) fnExactReadQueues_row_tie rfl ⟨rfl, rfl⟩ (by kernel_rfl) rfl fnExactReadQueues.plain (by kernel_rfl)
#print axioms fnExactReadQueues_card
end Go.Proofs.YtfpdhlpbcgobiaaDoor
