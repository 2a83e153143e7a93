/-
  The law FnExactRead answers true at every text: the program's Read answers as the model's, in memory of its own; no condition.
-/
import Derived.Test.YtmmdckakchconaaRows
import Derived.Test.YtmmdckakchconaaReadL
import Derived.WalkKit
import Derived.Deep.CutRange
import Derived.Deep.RegionHeld3
import Derived.Deep.RegionWith
import Derived.Deep.QuietTactic
import Derived.ProofKit
import Derived.OpenShut
import Derived.ShutString
import Derived.ChangeOld
import Derived.Below

namespace Go.Proofs.Ytmmdckakchconaa.fnExactRead
open Go.ChangeShapes Go.WideShapes Go.ChangeAt Go.RowKit
open Go.ChangeMaps (open_string shut_string)
set_option linter.unusedVariables false

theorem own : ownKnob Try.prog.godebug = none := by kernel_rfl
theorem laidOut : laidOutB Try.prog = true := by kernel_rfl

set_option maxRecDepth 100000 in
set_option maxHeartbeats 4000000 in
theorem walk (a0 : ByteArray) (w0 : a0.size ≤ maxLen) (w : World) :
    Calls Try.prog 4 #[.string a0] w fun e w' => e = .returned (.bool true) ∧ Below w.heap.size w w' := by
  have hsz : a0.size ≤ 9223372036854775807 := w0
  clear w0
  by_cases hs : a0.size ≤ 1048576
  case neg =>
    go_enter Try.func4, Try.ntmps4
    go_wp2
    go_ret
    exact ⟨rfl, Below.refl _ _⟩
  have CS := hide (specRead_any a0 w hs)
  have CI := hide (fun wx => implRead_any a0 wx hs)
  have hl := readV_len a0
  obtain ⟨⟨rl, rn⟩, hr⟩ : ∃ p, readV a0 = p := ⟨_, rfl⟩
  rw [hr] at CS CI hl
  simp only at CS CI hl
  clear hr
  go_enter Try.func4, Try.ntmps4
  go_wp2_with fail
  refine (unhide CS).mono ?_
  rintro e w1 ⟨v0, rfl, ho, hb⟩
  obtain ⟨ao0, c0, hv0, _, _, _⟩ := jown_row ho
  have HO0 := hide ho
  have HB1 := hide hb
  have hsz1 := hb.size
  clear ho hb CS
  subst hv0
  go_wp2_with fail
  refine (unhide CI _).mono ?_
  rintro e w2 ⟨v1, rfl, ho, hb⟩
  have HO02 := hide (jown_below (unhide HO0) hb)
  have HO1 := hide ho
  have HB2 := hide (below_on (unhide HB1) hb)
  have hlt0 := jown_lt (unhide HO0)
  clear ho hb HO0
  obtain ⟨ax, cx, ex, hr0, _, _⟩ := jown_row (unhide HO02)
  simp only [Value.slice.injEq] at ex
  obtain ⟨rfl, _, rfl⟩ := ex
  have HR0 := hide hr0
  clear hr0
  obtain ⟨ao1, c1, hv1, hr1, hc1, hany⟩ := jown_row (unhide HO1)
  subst hv1
  by_cases hrl : rl = []
  · subst hrl
    have HR1 := hide hr1
    clear hr1 HO1 HO02 hany
    go_wp2_with fail
    refine (eqRecS_same _ _ 0 _ _ [] _ (unhide HR1) (unhide HR0) (by omega)).mono ?_
    rintro e w3 ⟨rfl, hb⟩
    have HR03 := hide ((unhide HR0).below hb)
    have HB3 := hide (below_on (unhide HB2) hb)
    clear hb HR0 HR1 HB2
    go_wp2_with fail
    refine (markRecS_zero _ _ _ _).mono ?_
    rintro e w4 ⟨rfl, rfl⟩
    go_wp2_with fail
    refine (heldRecS_any ao1 0 c1 1 _ (RcRow.nil _ _) (by omega) (by omega) (by omega)).mono ?_
    rintro e w5 ⟨rfl, hb⟩
    have HR05 := hide ((unhide HR03).below hb)
    have HB5 := hide (below_on (unhide HB3) hb)
    clear hb
    go_wp2_with fail
    refine (unhide CI _).mono ?_
    rintro e w6 ⟨v2, rfl, ho, hb⟩
    obtain ⟨ao2, c2, hv2, hr2, _, _⟩ := jown_row ho
    subst hv2
    have HR2 := hide hr2
    have HR06 := hide ((unhide HR05).below hb)
    have HB6 := hide (below_on (unhide HB5) hb)
    clear ho hb hr2
    go_wp2_with fail
    refine (eqRecS_same _ _ 0 _ _ [] _ (unhide HR2) (unhide HR06) (by omega)).mono ?_
    rintro e w7 ⟨rfl, hb⟩
    have HB7 := hide (below_on (unhide HB6) hb)
    clear hb
    go_wp2_with fail
    refine (heldRecS_any ao1 0 c1 1 _ (RcRow.nil _ _) (by omega) (by omega) (by omega)).mono ?_
    rintro e w8 ⟨rfl, hb⟩
    have HB8 := hide (below_on (unhide HB7) hb)
    clear hb
    go_wp2
    go_ret
    exact ⟨rfl, unhide HB8⟩
  · obtain ⟨g, cur, rfl, hB1, hcur, hcs⟩ := hany hrl
    have HR1 := hide hr1
    have HA := hide (show Cel w2 23 g (c1 * 3) from ⟨cur, hcur, hcs⟩)
    have hgn : (Value.slice ao0 rl.length c0).ownBlock ≠ some g := fun e => by have := hlt0 g e; omega
    have hgw : w.heap.size ≤ g := by omega
    have HGN := hide hgn
    clear hr1 hany HO1 hrl hlt0 hgn hcur hcs
    go_wp2_with fail
    refine (eqRecS_same _ _ rl.length _ _ rl _ (unhide HR1) (unhide HR0) (by omega)).mono ?_
    rintro e w3 ⟨rfl, hb⟩
    have HO3 := hide (jown_below (unhide HO02) hb)
    have HA3 := hide ((unhide HA).below hb)
    have HB3 := hide (below_on (unhide HB2) hb)
    clear hb HR0 HR1 HB2 HA HO02
    go_wp2_with fail
    refine (markRecS_full g rl.length c1 1 w3 (unhide HA3) hc1 (by omega) (by omega) (by omega)).mono ?_
    rintro e w4 ⟨rfl, hq, hmk⟩
    have hgr := mkd_gby hmk
    have HO4 := hide (jown_kept (unhide HO3) hgr (unhide HGN))
    have HB4 := hide ((unhide HB3).grown hgr (unhide HB3).size (fun k e => by cases e; exact hgw))
    have HQ4 := hide hq
    clear hq hgr hmk HO3 HB3 HA3
    go_wp2_with fail
    refine (heldRecS_any (some ⟨g, 0, none⟩) rl.length c1 1 w4 (unhide HQ4) (by omega) (by omega) (by omega)).mono ?_
    rintro e w5 ⟨rfl, hb⟩
    have HO5 := hide (jown_below (unhide HO4) hb)
    have HQ5 := hide ((unhide HQ4).below hb)
    have HB5 := hide (below_on (unhide HB4) hb)
    clear hb HO4 HQ4 HB4
    have hpos : ¬ ((1 : Nat) : Int) + 3 * (rl.length : Int) < 0 := by omega
    have hpos2 : ¬ 1 + 3 * (rl.length : Int) < 0 := by omega
    go_wp2_with fail
    refine (unhide CI _).mono ?_
    rintro e w6 ⟨v2, rfl, ho, hb⟩
    obtain ⟨ao2, c2, hv2, hr2, _, _⟩ := jown_row ho
    subst hv2
    have HR2 := hide hr2
    have HO6 := hide (jown_below (unhide HO5) hb)
    have HQ6 := hide ((unhide HQ5).below hb)
    have HB6 := hide (below_on (unhide HB5) hb)
    clear ho hb hr2 HO5 HQ5 HB5
    obtain ⟨ay, cy, ey, hr06, _, _⟩ := jown_row (unhide HO6)
    simp only [Value.slice.injEq] at ey
    obtain ⟨rfl, _, rfl⟩ := ey
    have HR06 := hide hr06
    clear hr06
    go_wp2_with fail
    refine (eqRecS_same _ _ rl.length _ _ rl _ (unhide HR2) (unhide HR06) (by omega)).mono ?_
    rintro e w7 ⟨rfl, hb⟩
    have HQ7 := hide ((unhide HQ6).below hb)
    have HB7 := hide (below_on (unhide HB6) hb)
    clear hb
    go_wp2_with fail
    refine (heldRecS_any (some ⟨g, 0, none⟩) rl.length c1 1 w7 (unhide HQ7) (by omega) (by omega) (by omega)).mono ?_
    rintro e w8 ⟨rfl, hb⟩
    have HB8 := hide (below_on (unhide HB7) hb)
    clear hb
    go_wp2
    go_ret
    exact ⟨rfl, unhide HB8⟩

set_option maxRecDepth 100000 in
theorem lifted (os : Os) (started : os.Started) (H : Type) (enc : TypeId × Value → H) :
    ReturnsInHanded {} Try.checked os 4 .any (Rows.fnExactReadSpec.pre6 enc Try.prog Try.f4 Rows.fnExactReadRow.domain false) (Rows.fnExactReadSpec.post enc Try.prog Try.f4 false true false false) := by
  refine returnsInHanded_of_change (C := Try.checked) own started (by kernel_rfl) Try.func4
    (ChangeSpec.witness6 (enc := enc) (C := Try.checked) false ⟨#[], #[.string ByteArray.empty], []⟩ 8 (by kernel_rfl) (by kernel_rfl) (by kernel_rfl) (by kernel_rfl)) ?_
  intro W base args ds gs before hval0 hW hcnd _
  have hval : ∀ (j : Nat) t v, Try.f4.params[j]? = some t → args[j]? = some v → Value.okWide Try.prog W .any base t v := hval0
  have hW' := hW
  obtain ⟨p, q, hA0, hV, rfl, hfz, hnd⟩ := hW
  have hA : DataW.TrodAll enc Try.prog W 0 (fun _ => true) true Try.f4.params.toList args.toList ds p := hA0
  rw [Try.params4] at hA hval
  obtain ⟨v0, vs0, d0, ds0, p0, q0, hargs, rfl, rfl, h0, r0⟩ := trodAll_cons hA
  obtain ⟨rfl, rfl, rfl⟩ := trodAll_nil r0
  obtain rfl : args = #[v0] := by cases args; simp_all
  obtain ⟨rfl, rfl⟩ := trodVars_none hV
  obtain ⟨a0, rfl, rfl, rfl, w0⟩ := open_string Try.underlying9 (hval 0 9 v0 rfl rfl) h0
  clear hA0 hval0
  refine (walk a0 w0 W).mono fun e W' ⟨he, bel⟩ => ?_
  subst he
  exact ⟨_, rfl, _, _, _, [], _, [], hW', trodAll_mk1 (shut_bool Try.underlying4 _), (trodAll_cons_mk (shut_string Try.underlying9 w0) trodAll_mk0), rfl, bel.frame _, fun h => by cases h⟩

theorem over : Rows.fnExactReadRow.holds Try.pinned (OpenSpec.ofChange Rows.fnExactReadSpec) :=
  OpenClaim.holds_of_wide 4 Try.f4 rfl rfl rfl rfl rfl rfl rfl ⟨rfl, rfl, rfl, rfl, rfl⟩ rfl rfl rfl rfl rfl (by kernel_rfl) Try.func4 (by kernel_rfl)
    (of_decide_eq_true (by kernel_rfl)) (by unfold Func.isWrapper; first | (rw [if_pos (by decide +kernel)]; kernel_rfl) | (rw [if_neg (by decide +kernel)]; exact ⟨rfl, rfl⟩))
    (fun os started H enc _ => lifted os started H enc)
end Go.Proofs.Ytmmdckakchconaa.fnExactRead

namespace Go.Proofs.Ytmmdckakchconaa
theorem fnExactRead_holds : Rows.FnExactReadSaid := fnExactRead.over
#print axioms fnExactRead_holds
end Go.Proofs.Ytmmdckakchconaa
