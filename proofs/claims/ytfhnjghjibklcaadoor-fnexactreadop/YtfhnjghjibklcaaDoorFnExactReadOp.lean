/-
  The law FnExactReadOp answers true at every string, and leaves it as it was: the program's ReadOp answers as the model's, in memory of its own, behind another call too; the library's variables stand as its text lays them (the card ties that); no other condition.
-/
import Derived.Test.YtfhnjghjibklcaaDoorCards
import Derived.Test.YtfhnjghjibklcaaDoorTie
import Derived.Test.YtfhnjghjibklcaaDoorRoL
import Derived.WalkKit
import Derived.Deep.CutRange
import Derived.Deep.RegionHeld3
import Derived.Deep.RegionWith
import Derived.Deep.QuietTactic
import Derived.ProofKit
import Derived.OpenShut
import Derived.ShutString
import Derived.ChangeOld
import Derived.Below
import Derived.Deep.DeepHandedRow
import Derived.Lib.LaidTab
import Derived.Lay
import Derived.LaidSub
import Derived.MakeChecks
namespace Go.Proofs.YtfhnjghjibklcaaDoor.fnExactReadOp
open Go.ChangeShapes Go.WideShapes Go.ChangeAt Go.RowKit
open Go.ChangeMaps (open_string shut_string)
set_option linter.unusedVariables false

theorem own : ownKnob Tryd.prog.godebug = none := by kernel_rfl
theorem laidOut : laidOutB Tryd.prog = true := by kernel_rfl

set_option maxRecDepth 100000 in
set_option maxHeartbeats 4000000 in
theorem walk (a0 : ByteArray) (w0 : a0.size ≤ maxLen) (w : World) (hL : laidMetH Tryd.prog Rows.fnExactReadOpRow.laid w) (hsh : w.ShapedOpen Tryd.prog) :
    Calls Tryd.prog 3 #[.string a0] w fun e w' => e = .returned (.bool true) ∧ Below w.heap.size w w' := by
  unfold maxLen at w0
  have HM : Hid (∃ m, w.cell? ⟨0, 0, none⟩ = some (.int .i64 m)) := maxLen_cell w hsh
  have HM2 := hide (MaxLenAt.of hsh)
  clear hL hsh
  obtain ⟨l, rfl⟩ : ∃ l, a0 = bs l := ⟨a0.data.toList, (bs_back a0).symm⟩
  by_cases hs : (bs l).size ≤ 1048576
  case neg =>
    go_enter Tryd.func3, Tryd.ntmps3
    go_wp2
    go_ret
    exact ⟨rfl, Below.refl _ _⟩
  have hl : l.length ≤ 1048576 := by rw [bs_size] at hs; exact hs
  have CS := hide (fun wx => specReadOp_any l wx hl)
  have CI := hide (fun wx (hb : Below w.heap.size w wx) => implReadOp_any l wx hl ((unhide HM2).below hb) (cell_on (unhide HM) hb))
  have hco := rdOp_conts l
  obtain ⟨⟨⟨kind, queue, app, ⟨am, ac, an, ad, ai⟩, cont, node, mem, cpu, conts⟩, ok⟩, hr⟩ : ∃ r, rdOp l = r := ⟨_, rfl⟩
  rw [hr] at CS CI hco
  simp only at CS CI hco
  subst hco
  have CE := hide (fun wx => eqOp_same ⟨kind, queue, app, ⟨am, ac, an, ad, ai⟩, cont, node, mem, cpu, []⟩ none none 0 0 0 wx ⟨rfl, .inl rfl⟩ ⟨rfl, .inl rfl⟩ (by omega))
  have CM := hide (fun wx => markOp_nil ⟨kind, queue, app, ⟨am, ac, an, ad, ai⟩, cont, node, mem, cpu, []⟩ wx)
  have CH := hide (fun wx => heldOp_nil ⟨kind, queue, app, ⟨am, ac, an, ad, ai⟩, cont, node, mem, cpu, []⟩ wx)
  clear hr hl HM HM2
  go_enter Tryd.func3, Tryd.ntmps3
  go_wp2_with fail
  refine (unhide CS _).mono ?_
  rintro e w1 ⟨rfl, hb⟩
  have HB1 := hide (below_al hb (.cells (opc ⟨kind, queue, app, ⟨am, ac, an, ad, ai⟩, cont, node, mem, cpu, []⟩ none 0 0) 28))
  have V1 := hide (blk_new w1 (opc ⟨kind, queue, app, ⟨am, ac, an, ad, ai⟩, cont, node, mem, cpu, []⟩ none 0 0) 28)
  clear hb CS
  obtain ⟨k1, hk1⟩ : ∃ k, w1.heap.size = k := ⟨_, rfl⟩
  rw [hk1] at V1
  go_wp2_with fail
  refine (unhide CI _ (unhide HB1)).mono ?_
  rintro e w2 ⟨rfl, hb⟩
  have hba := below_on hb (below_al (Below.refl _ w2) (.cells (opc ⟨kind, queue, app, ⟨am, ac, an, ad, ai⟩, cont, node, mem, cpu, []⟩ none 0 0) 28))
  have HB2 := hide (below_on (unhide HB1) hba)
  have V2 := hide ((unhide V1).below hba)
  have G2 := hide (blk_new w2 (opc ⟨kind, queue, app, ⟨am, ac, an, ad, ai⟩, cont, node, mem, cpu, []⟩ none 0 0) 28)
  clear hb hba HB1 V1
  obtain ⟨k2, hk2⟩ : ∃ k, w2.heap.size = k := ⟨_, rfl⟩
  rw [hk2] at G2
  have v0 := (unhide V2).at 0; have v1 := (unhide V2).at 1; have v2 := (unhide V2).at 2; have v3 := (unhide V2).at 3; have v4 := (unhide V2).at 4; have v5 := (unhide V2).at 5; have v6 := (unhide V2).at 6; have v7 := (unhide V2).at 7; have v8 := (unhide V2).at 8; have v9 := (unhide V2).at 9; have v10 := (unhide V2).at 10; have v11 := (unhide V2).at 11; have v12 := (unhide V2).at 12
  simp at v0 v1 v2 v3 v4 v5 v6 v7 v8 v9 v10 v11 v12
  go_wp2_with fail
  try rw [hk1]
  try rw [hk2]
  refine (unhide CE _).mono ?_
  rintro e w3 ⟨rfl, hb⟩
  have HB3 := hide (below_on (unhide HB2) hb)
  have V3 := hide ((unhide V2).below hb)
  have G3 := hide ((unhide G2).below hb)
  clear hb HB2 V2 G2 v0 v1 v2 v3 v4 v5 v6 v7 v8 v9 v10 v11 v12
  have g0 := (unhide G3).at 0; have g1 := (unhide G3).at 1; have g2 := (unhide G3).at 2; have g3 := (unhide G3).at 3; have g4 := (unhide G3).at 4; have g5 := (unhide G3).at 5; have g6 := (unhide G3).at 6; have g7 := (unhide G3).at 7; have g8 := (unhide G3).at 8; have g9 := (unhide G3).at 9; have g10 := (unhide G3).at 10; have g11 := (unhide G3).at 11; have g12 := (unhide G3).at 12
  simp at g0 g1 g2 g3 g4 g5 g6 g7 g8 g9 g10 g11 g12
  go_wp2_with fail
  refine (unhide CM _).mono ?_
  rintro e w4 ⟨rfl, hb⟩
  have HB4 := hide (below_on (unhide HB3) hb)
  have V4 := hide ((unhide V3).below hb)
  have G4 := hide ((unhide G3).below hb)
  clear hb HB3 V3 G3 g0 g1 g2 g3 g4 g5 g6 g7 g8 g9 g10 g11 g12 CM
  have g0 := (unhide G4).at 0; have g1 := (unhide G4).at 1; have g2 := (unhide G4).at 2; have g3 := (unhide G4).at 3; have g4 := (unhide G4).at 4; have g5 := (unhide G4).at 5; have g6 := (unhide G4).at 6; have g7 := (unhide G4).at 7; have g8 := (unhide G4).at 8; have g9 := (unhide G4).at 9; have g10 := (unhide G4).at 10; have g11 := (unhide G4).at 11; have g12 := (unhide G4).at 12
  simp at g0 g1 g2 g3 g4 g5 g6 g7 g8 g9 g10 g11 g12
  go_wp2_with fail
  refine (unhide CH _).mono ?_
  rintro e w5 ⟨rfl, hb⟩
  have HB5 := hide (below_on (unhide HB4) hb)
  have V5 := hide ((unhide V4).below hb)
  have G5 := hide ((unhide G4).below hb)
  clear hb HB4 V4 G4 g0 g1 g2 g3 g4 g5 g6 g7 g8 g9 g10 g11 g12
  go_wp2_with fail
  refine (unhide CI _ (unhide HB5)).mono ?_
  rintro e w6 ⟨rfl, hb⟩
  have hba := below_on hb (below_al (Below.refl _ w6) (.cells (opc ⟨kind, queue, app, ⟨am, ac, an, ad, ai⟩, cont, node, mem, cpu, []⟩ none 0 0) 28))
  have HB6 := hide (below_on (unhide HB5) hba)
  have V6 := hide ((unhide V5).below hba)
  have G6 := hide ((unhide G5).below hba)
  clear hb hba HB5 V5 G5 CI
  have v0 := (unhide V6).at 0; have v1 := (unhide V6).at 1; have v2 := (unhide V6).at 2; have v3 := (unhide V6).at 3; have v4 := (unhide V6).at 4; have v5 := (unhide V6).at 5; have v6 := (unhide V6).at 6; have v7 := (unhide V6).at 7; have v8 := (unhide V6).at 8; have v9 := (unhide V6).at 9; have v10 := (unhide V6).at 10; have v11 := (unhide V6).at 11; have v12 := (unhide V6).at 12
  simp at v0 v1 v2 v3 v4 v5 v6 v7 v8 v9 v10 v11 v12
  go_wp2_with fail
  refine (unhide CE _).mono ?_
  rintro e w7 ⟨rfl, hb⟩
  have HB7 := hide (below_on (unhide HB6) hb)
  have G7 := hide ((unhide G6).below hb)
  clear hb HB6 V6 G6 v0 v1 v2 v3 v4 v5 v6 v7 v8 v9 v10 v11 v12 CE
  have g0 := (unhide G7).at 0; have g1 := (unhide G7).at 1; have g2 := (unhide G7).at 2; have g3 := (unhide G7).at 3; have g4 := (unhide G7).at 4; have g5 := (unhide G7).at 5; have g6 := (unhide G7).at 6; have g7 := (unhide G7).at 7; have g8 := (unhide G7).at 8; have g9 := (unhide G7).at 9; have g10 := (unhide G7).at 10; have g11 := (unhide G7).at 11; have g12 := (unhide G7).at 12
  simp at g0 g1 g2 g3 g4 g5 g6 g7 g8 g9 g10 g11 g12
  go_wp2_with fail
  refine (unhide CH _).mono ?_
  rintro e w8 ⟨rfl, hb⟩
  have HB8 := hide (below_on (unhide HB7) hb)
  clear hb HB7 G7 g0 g1 g2 g3 g4 g5 g6 g7 g8 g9 g10 g11 g12
  go_wp2
  go_ret
  exact ⟨rfl, unhide HB8⟩

set_option maxRecDepth 100000 in
theorem contract (H : Type) (enc : TypeId × Value → H) (W : World) (base : Nat) (args : Array Value) (ds gs : List (DataW H)) (before : List MemPlace)
    (hval : ∀ (j : Nat) t v, Tryd.f3.params[j]? = some t → args[j]? = some v → Value.okWide Tryd.prog W .any base t v)
    (hW : DataW.Whole enc Tryd.prog Tryd.f3.params.toList Rows.fnExactReadOpSpec.vars false W args.toList ds gs before) (hL : laidMetH Tryd.prog Rows.fnExactReadOpRow.laid W) (hsh : W.ShapedOpen Tryd.prog) :
    Calls Tryd.prog 3 args W fun e W' => ∃ v, e = .returned v ∧ Rows.fnExactReadOpSpec.post enc Tryd.prog Tryd.f3 false true false false W args v W' := by
  have hW' := hW
  obtain ⟨p, q, hA0, hV, rfl, hfz, hnd⟩ := hW
  have hA : DataW.TrodAll enc Tryd.prog W 0 (fun _ => true) true Tryd.f3.params.toList args.toList ds p := hA0
  rw [Tryd.params3] at hA hval
  obtain ⟨v0, vs0, d0, ds0, p0, q0, hargs, rfl, rfl, h0, r0⟩ := trodAll_cons hA
  obtain ⟨rfl, rfl, rfl⟩ := trodAll_nil r0
  obtain rfl : args = #[v0] := by cases args; simp_all
  obtain ⟨rfl, rfl⟩ := trodVars_none hV
  obtain ⟨a0, rfl, rfl, rfl, w0⟩ := open_string Tryd.underlying9 (hval 0 9 v0 rfl rfl) h0
  clear hA0
  refine (walk a0 w0 W hL hsh).mono fun e W' ⟨he, bel⟩ => ?_
  subst he
  exact ⟨_, rfl, _, _, _, [], _, [], hW', trodAll_mk1 (shut_bool Tryd.underlying4 _), (trodAll_cons_mk (shut_string Tryd.underlying9 w0) trodAll_mk0), rfl, bel.frame _, fun h => by cases h⟩

theorem reads (os : Os) {H : Type} (enc : TypeId × Value → H) : ∃ places, DataW.whole enc Tryd.prog ((World.laidAll Tryd.prog os Rows.fnExactReadOpRow.laid).forCall (fun _ _ => 0) ⟨#[], #[.string ByteArray.empty], []⟩).memory Tryd.f3.params.toList Rows.fnExactReadOpSpec.vars false #[Value.string ByteArray.empty].toList 8 = some ([.lit (.string [])], [], places) :=
  ⟨[], by kernel_rfl⟩

set_option maxRecDepth 100000 in
theorem lifted (os : Os) (started : os.Started) (H : Type) (enc : TypeId × Value → H) (F : Stop.Interp) :
    ReturnsInHanded {} Tryd.checked os 3 .any ((OpenSpec.ofChange Rows.fnExactReadOpSpec).preRow enc Tryd.prog Tryd.f3 Rows.fnExactReadOpRow.domain false Rows.fnExactReadOpRow.laid) (((OpenSpec.ofChange Rows.fnExactReadOpSpec).at F).post enc Tryd.prog Tryd.f3 false true false false) := by
  obtain ⟨places, hx⟩ := reads os enc
  refine returnsInHanded_of_row (C := Tryd.checked) (s := OpenSpec.ofChange Rows.fnExactReadOpSpec) own started (by kernel_rfl) Tryd.func3
    (witness_row_at (enc := enc) (C := Tryd.checked) false (World.laidAll Tryd.prog os Rows.fnExactReadOpRow.laid) #[.string ByteArray.empty] (World.laidAll_os _ _ _) (by kernel_rfl) (by kernel_rfl) (by kernel_rfl)
      (OpenSpec.preRow_of_cond 8 hx (by kernel_rfl) (fun k hk => by cases hk) (by kernel_rfl) (laidMet_laidAll _ (by kernel_rfl) (by kernel_rfl)))) ?_
  intro W base args ds gs before hval hW _ _ _ hL hsh _
  exact contract H enc W base args ds gs before hval hW hL hsh

theorem said : Rows.FnExactReadOpSaid :=
  OpenClaim.holds_of_cond 3 Tryd.f3 rfl rfl rfl rfl rfl rfl rfl ⟨rfl, rfl, rfl, rfl, rfl⟩ rfl rfl rfl rfl rfl (by kernel_rfl) Tryd.func3 (by kernel_rfl)
    (of_decide_eq_true (by kernel_rfl)) (by unfold Func.isWrapper; first | (rw [if_pos (by decide +kernel)]; kernel_rfl) | (rw [if_neg (by decide +kernel)]; exact ⟨rfl, rfl⟩))
    (fun os started H enc _ F => by rw [OpenClaim.pre_eq_preRow]; exact lifted os started H enc F)

theorem plain (f : FuncId) (fn : Func) (hf : Tryd.pinned.checked.prog.funcNamed Rows.fnExactReadOpRow.func = some f) (hfn : Tryd.pinned.checked.prog.funcs[f]? = some fn) :
    false = Tryd.pinned.checked.prog.looks [] ∧ ∀ (j : Nat) t, fn.params[j]? = some t → Tryd.pinned.checked.prog.wantsStandIn t = false := by
  obtain rfl : f = 3 := Option.some.inj ((show Tryd.prog.funcNamed Rows.fnExactReadOpRow.func = some 3 by kernel_rfl).symm.trans hf) |>.symm
  obtain rfl : fn = Tryd.f3 := (Option.some.inj (Tryd.func3.symm.trans hfn)).symm
  refine ⟨by kernel_rfl, fun j t ht => ?_⟩
  rw [Tryd.params3] at ht
  obtain rfl : t = 9 := by simpa using Array.mem_of_getElem? ht
  exact (show Tryd.prog.wantsStandIn 9 = false by kernel_rfl)
end Go.Proofs.YtfhnjghjibklcaaDoor.fnExactReadOp

namespace Go.Proofs.YtfhnjghjibklcaaDoor
theorem fnExactReadOp_card : Rows.FnExactReadOpCardSaid :=
  Claim7.holds_tied_plain_at .later [] _ _ _ _ fnExactReadOp.said (fun _ h => by cases h) (by kernel_rfl) (fun _ h => by cases h) fnExactReadOp_row_tie rfl ⟨rfl, rfl⟩ (by kernel_rfl) rfl fnExactReadOp.plain (by kernel_rfl)
#print axioms fnExactReadOp_card
end Go.Proofs.YtfhnjghjibklcaaDoor
