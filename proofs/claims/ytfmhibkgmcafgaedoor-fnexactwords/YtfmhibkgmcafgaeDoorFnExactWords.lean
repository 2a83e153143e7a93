/-
  The law FnExactWords answers true at every string, and leaves it as it was: the program's Words answers as the model's, in memory of its own; the library's variables stand as its text lays them (the card ties that); no other condition.
-/
import Derived.Test.YtfmhibkgmcafgaeDoorCards
import Derived.Test.YtfmhibkgmcafgaeDoorTie
import Derived.Test.YtfmhibkgmcafgaeDoorWordsI
import Derived.WalkKit
import Derived.ProofKit
import Derived.OpenShut
import Derived.ShutString
import Derived.Deep.DeepHandedRow
import Derived.Lib.LaidTab
import Derived.Lay
import Derived.LaidSub
import Derived.MakeChecks
namespace Go.Proofs.YtfmhibkgmcafgaeDoor.fnExactWords
open Go.ChangeShapes Go.WideShapes Go.ChangeAt Go.RowKit
open Go.ChangeMaps (open_string shut_string)
set_option linter.unusedVariables false

theorem own : ownKnob Tryd.prog.godebug = none := by kernel_rfl

theorem walk (a0 : ByteArray) (w0 : a0.size ≤ maxLen) (w : World) (hL : laidMetH Tryd.prog Rows.fnExactWordsRow.laid w) (hsh : w.ShapedOpen Tryd.prog) :
    Calls Tryd.prog 4 #[.string a0] w fun e w' => e = .returned (.bool true) ∧ Below w.heap.size w w' := by
  unfold maxLen at w0
  have hm : Hid (∃ m, w.cell? ⟨1, 0, none⟩ = some (.int .i64 m)) := maxLen_cell w hsh
  clear hL hsh
  by_cases hs : a0.size ≤ 1048576
  · have hwl := wordsB_len a0.data.toList
    rw [len_eq] at hwl
    obtain ⟨ws, hws⟩ : ∃ ws, ws = wordsB a0.data.toList := ⟨_, rfl⟩
    have HW := hide hws
    rw [← hws] at hwl
    clear hws
    go_enter Tryd.func4, Tryd.ntmps4
    go_wp2_with fail
    refine (specWords_any _ _ hs).mono ?_
    rintro e w1 ⟨g0, c0, rfl, hs0, hg0, hb1⟩
    rw [← unhide HW] at hs0 ⊢
    have HS0 := hide hs0
    have HB1 := hide hb1
    clear hs0 hb1
    go_wp2_with fail
    refine (implWords_any _ _ hs (cell_on (unhide hm) (unhide HB1))).mono ?_
    rintro e w2 ⟨g1, c1, rfl, hs1, hg1, hb2⟩
    rw [← unhide HW] at hs1 ⊢
    have HB2 := hide (Below.trans (unhide HB1) (hb2.mono (unhide HB1).size))
    have HS02 := hide ((unhide HS0).below hb2 (unhide HS0).lt)
    have hne : Hid (g0 ≠ g1) := hide (by have := (unhide HS0).lt; omega)
    have HS1 := hide hs1
    clear hs1 hb2
    go_wp2_with fail
    refine (eqS_any _ _ _ _ _ _ _ (unhide HS1) (unhide HS02) (by omega) (by omega) rfl).mono ?_
    rintro e w3 ⟨rfl, n3, rfl⟩
    have HB3 := hide (Below.trans (unhide HB2) ((below_drewAny w2 n3).mono (unhide HB2).size))
    have HS03 := hide (ss_drewN (n := n3) (unhide HS02))
    have HS13 := hide (ss_drewN (n := n3) (unhide HS1))
    clear HB2 HS02 HS1
    go_wp2_with fail
    refine (markS_one g1 c1 ws _ (unhide HS13) (by omega)).mono ?_
    rintro e w4 ⟨rfl, hs4, hgr⟩
    have HB4 := hide (below_grownBy (unhide HB3) hgr (unhide HB3).size (by have := (unhide HB1).size; omega))
    have HS04 := hide (ss_grown (unhide HS03) hgr (unhide hne))
    have HS4 := hide hs4
    clear hs4 hgr
    go_wp2_with fail
    refine (heldS_one g1 c1 _ _ (unhide HS4) (by omega)).mono ?_
    rintro e w5 ⟨rfl, hb5⟩
    have HB5 := hide (Below.trans (unhide HB4) (hb5.mono (unhide HB4).size))
    have HS05 := hide ((unhide HS04).below hb5 (unhide HS04).lt)
    have HS5 := hide ((unhide HS4).below hb5 (unhide HS4).lt)
    clear hb5
    go_wp2_with fail
    refine (implWords_any _ _ hs (cell_on (unhide hm) (unhide HB5))).mono ?_
    rintro e w6 ⟨g6, c6, rfl, hs6, hg6, hb6⟩
    rw [← unhide HW] at hs6 ⊢
    have HB6 := hide (Below.trans (unhide HB5) (hb6.mono (unhide HB5).size))
    have HS06 := hide ((unhide HS05).below hb6 (unhide HS05).lt)
    have HS16 := hide ((unhide HS5).below hb6 (unhide HS5).lt)
    have HS6 := hide hs6
    clear hs6 hb6
    go_wp2_with fail
    refine (eqS_any _ _ _ _ _ _ _ (unhide HS6) (unhide HS06) (by omega) (by omega) rfl).mono ?_
    rintro e w7 ⟨rfl, n7, rfl⟩
    have HB7 := hide (Below.trans (unhide HB6) ((below_drewAny w6 n7).mono (unhide HB6).size))
    have HS17 := hide (ss_drewN (n := n7) (unhide HS16))
    go_wp2_with fail
    refine (heldS_one g1 c1 _ _ (unhide HS17) (by omega)).mono ?_
    rintro e w8 ⟨rfl, hb8⟩
    have HB8 := hide (Below.trans (unhide HB7) (hb8.mono (unhide HB7).size))
    clear hb8
    go_wp2
    go_ret
    exact ⟨rfl, unhide HB8⟩
  · go_enter Tryd.func4, Tryd.ntmps4
    go_wp2
    go_ret
    exact ⟨rfl, Below.refl _ _⟩

theorem contract (H : Type) (enc : TypeId × Value → H) (W : World) (base : Nat) (args : Array Value) (ds gs : List (DataW H)) (before : List MemPlace)
    (hval : ∀ (j : Nat) t v, Tryd.f4.params[j]? = some t → args[j]? = some v → Value.okWide Tryd.prog W .any base t v)
    (hW : DataW.Whole enc Tryd.prog Tryd.f4.params.toList Rows.fnExactWordsSpec.vars false W args.toList ds gs before) (hL : laidMetH Tryd.prog Rows.fnExactWordsRow.laid W) (hsh : W.ShapedOpen Tryd.prog) :
    Calls Tryd.prog 4 args W fun e W' => ∃ v, e = .returned v ∧ Rows.fnExactWordsSpec.post enc Tryd.prog Tryd.f4 false true false false W args v W' := by
  have hW' := hW
  obtain ⟨p, q, hA0, hV, rfl, hfz, hnd⟩ := hW
  have hA : DataW.TrodAll enc Tryd.prog W 0 (fun _ => true) true Tryd.f4.params.toList args.toList ds p := hA0
  rw [Tryd.params4] at hA hval
  obtain ⟨v0, vs0, d0, ds0, p0, q0, hargs, rfl, rfl, h0, r0⟩ := trodAll_cons hA
  obtain ⟨rfl, rfl, rfl⟩ := trodAll_nil r0
  obtain rfl : args = #[v0] := by cases args; simp_all
  obtain ⟨rfl, rfl⟩ := trodVars_none hV
  obtain ⟨a0, rfl, rfl, rfl, w0⟩ := open_string Tryd.underlying9 (hval 0 9 v0 rfl rfl) h0
  clear hA0
  refine (walk a0 w0 W hL hsh).mono fun e W' ⟨he, bel⟩ => ?_
  subst he
  exact ⟨_, rfl, _, _, _, [], _, [], hW', trodAll_mk1 (shut_bool Tryd.underlying4 _), (trodAll_cons_mk (shut_string Tryd.underlying9 w0) trodAll_mk0), rfl, bel.frame _, fun h => by cases h⟩

theorem reads (os : Os) {H : Type} (enc : TypeId × Value → H) : ∃ places, DataW.whole enc Tryd.prog ((World.laidAll Tryd.prog os Rows.fnExactWordsRow.laid).forCall (fun _ _ => 0) ⟨#[], #[.string ByteArray.empty], []⟩).memory Tryd.f4.params.toList Rows.fnExactWordsSpec.vars false #[Value.string ByteArray.empty].toList 8 = some ([.lit (.string [])], [], places) :=
  ⟨[], by kernel_rfl⟩

set_option maxRecDepth 100000 in
theorem lifted (os : Os) (started : os.Started) (H : Type) (enc : TypeId × Value → H) (F : Stop.Interp) :
    ReturnsInHanded {} Tryd.checked os 4 .any ((OpenSpec.ofChange Rows.fnExactWordsSpec).preRow enc Tryd.prog Tryd.f4 Rows.fnExactWordsRow.domain false Rows.fnExactWordsRow.laid) (((OpenSpec.ofChange Rows.fnExactWordsSpec).at F).post enc Tryd.prog Tryd.f4 false true false false) := by
  obtain ⟨places, hx⟩ := reads os enc
  refine returnsInHanded_of_row (C := Tryd.checked) (s := OpenSpec.ofChange Rows.fnExactWordsSpec) own started (by kernel_rfl) Tryd.func4
    (witness_row_at (enc := enc) (C := Tryd.checked) false (World.laidAll Tryd.prog os Rows.fnExactWordsRow.laid) #[.string ByteArray.empty] (World.laidAll_os _ _ _) (by kernel_rfl) (by kernel_rfl) (by kernel_rfl)
      (OpenSpec.preRow_of_cond 8 hx (by kernel_rfl) (fun k hk => by cases hk) (by kernel_rfl) (laidMet_laidAll _ (by kernel_rfl) (by kernel_rfl)))) ?_
  intro W base args ds gs before hval hW _ _ _ hL hsh _
  exact contract H enc W base args ds gs before hval hW hL hsh

theorem said : Rows.FnExactWordsSaid :=
  OpenClaim.holds_of_cond 4 Tryd.f4 rfl rfl rfl rfl rfl rfl rfl ⟨rfl, rfl, rfl, rfl, rfl⟩ rfl rfl rfl rfl rfl (by kernel_rfl) Tryd.func4 (by kernel_rfl)
    (of_decide_eq_true (by kernel_rfl)) (by unfold Func.isWrapper; first | (rw [if_pos (by decide +kernel)]; kernel_rfl) | (rw [if_neg (by decide +kernel)]; exact ⟨rfl, rfl⟩))
    (fun os started H enc _ F => by rw [OpenClaim.pre_eq_preRow]; exact lifted os started H enc F)

theorem plain (f : FuncId) (fn : Func) (hf : Tryd.pinned.checked.prog.funcNamed Rows.fnExactWordsRow.func = some f) (hfn : Tryd.pinned.checked.prog.funcs[f]? = some fn) :
    false = Tryd.pinned.checked.prog.looks [] ∧ ∀ (j : Nat) t, fn.params[j]? = some t → Tryd.pinned.checked.prog.wantsStandIn t = false := by
  obtain rfl : f = 4 := Option.some.inj ((show Tryd.prog.funcNamed Rows.fnExactWordsRow.func = some 4 by kernel_rfl).symm.trans hf) |>.symm
  obtain rfl : fn = Tryd.f4 := (Option.some.inj (Tryd.func4.symm.trans hfn)).symm
  refine ⟨by kernel_rfl, fun j t ht => ?_⟩
  rw [Tryd.params4] at ht
  obtain rfl : t = 9 := by simpa using Array.mem_of_getElem? ht
  exact (show Tryd.prog.wantsStandIn 9 = false by kernel_rfl)
end Go.Proofs.YtfmhibkgmcafgaeDoor.fnExactWords

namespace Go.Proofs.YtfmhibkgmcafgaeDoor
theorem fnExactWords_card : Rows.FnExactWordsCardSaid :=
  Claim7.holds_tied_plain_at .later [] _ _ _ _ fnExactWords.said (fun _ h => by cases h) (by kernel_rfl) (fun _ h => by cases h) fnExactWords_row_tie rfl ⟨rfl, rfl⟩ (by kernel_rfl) rfl fnExactWords.plain (by kernel_rfl)
#print axioms fnExactWords_card
end Go.Proofs.YtfmhibkgmcafgaeDoor
