/-
  The law FnExactRecover answers true at every list of queues and every log: the program's Recover answers as the model's, writes into nothing that it was handed and keeps nothing of it, and its answer owns its memory, behind another call too; no condition.
-/
import Derived.Test.YtgdndekmkaknlaaGreatRows
import Derived.Test.YtgdndekmkaknlaaGreatPackW
import Derived.Test.YtgdndekmkaknlaaGreatPackP
import Derived.Test.YtgdndekmkaknlaaGreatReadN
import Derived.Test.YtgdndekmkaknlaaGreatPackA
import Derived.WalkKit
import Derived.Deep.CutRange
import Derived.Deep.RegionHeld3
import Derived.Deep.RegionWith
import Derived.Deep.QuietTactic
import Derived.ProofKit
import Derived.OpenShut
import Derived.ShutString
import Derived.ChangeOld
import Derived.Below
namespace Go.Proofs.YtgdndekmkaknlaaGreat.fnExactRecover
open Go.ChangeShapes Go.WideShapes Go.ChangeAt Go.RowKit
open Go.ChangeMaps (open_string shut_string)
set_option linter.unusedVariables false

theorem own : ownKnob Tryz.prog.godebug = none := by kernel_rfl
theorem laidOut : laidOutB Tryz.prog = true := by kernel_rfl

theorem RecAns.lay {w w' : World} {l : List Q} {rs : List Rc} {e : Ending} (h : RecAns w l rs e w') : ∃ y hs, e = .returned (.tuple #[sv y (recSt l rs), .bool (queuesOk l)]) ∧ AnsL w.heap.size w'.heap.size (w'.alloc (.cells (svc y (recSt l rs)) 29)) w'.heap.size y (recSt l rs) hs none 0 [] ∧ Below w.heap.size w w' := by
  obtain ⟨y, hs, rfl, h1, h2⟩ := h
  have hb := below_al (Below.refl _ w') (.cells (svc y (recSt l rs)) 29)
  exact ⟨y, hs, rfl, ⟨blk_new _ _ _, h1.ans.below hb, ⟨rfl, .inl rfl⟩, .inl rfl, fun k hk => absurd rfl hk.1, Nat.le_refl _⟩, h2⟩
theorem recSt_fit {l : List Q} (hf : FitQ l) (rs : List Rc) : FitSt (recSt l rs) := by
  unfold recSt
  split
  · exact rinv_fit (rinv_rec hf rs) hf
  · exact ⟨⟨by simp, by simp⟩, ⟨by simp, by simp⟩, ⟨by simp, by simp⟩, ⟨by simp, by simp⟩⟩
set_option maxRecDepth 100000 in
set_option maxHeartbeats 8000000 in
theorem walk (a0 : Option Addr) (len0 cap0 : Nat) (l0 : List Q) (a1 : ByteArray) (w : World) (w0 : QRow w a0 len0 l0) (x0 : len0 ≤ 9223372036854775807) (y0 : ∀ q ∈ l0, QFit q ∧ (Lit.int .i64 q.due).wf = true ∧ (Lit.int .i64 q.most).wf = true) (w1 : a1.size ≤ maxLen) :
    Calls Tryz.prog 3 #[.slice a0 len0 cap0, .string a1] w fun e w' => e = .returned (.bool true) ∧ Below w.heap.size w w' := by
  have hsz : a1.size ≤ 9223372036854775807 := w1
  clear w1
  by_cases hs : a1.size ≤ 1048576
  case neg =>
    clear w0 x0 y0
    go_enter Tryz.func3, Tryz.ntmps3
    go_wp2
    go_ret
    exact ⟨rfl, Below.refl _ _⟩
  have HR := hide w0
  have C0 := hide (szQueueS_any a0 len0 cap0 l0 w w0 x0 (fun q hq => (y0 q hq).1))
  have HLL := hide w0.1
  have hrl := readV_len a1
  clear w0 y0 x0
  go_enter Tryz.func3, Tryz.ntmps3
  go_wp2_with fail
  refine (unhide C0).mono ?_
  rintro e w1 ⟨r, rfl, hr, hb⟩
  have HB1 := hide hb
  clear hb C0
  rcases hr with rfl | ⟨hr, hr2, hfit⟩
  · go_wp2
    go_ret
    exact ⟨rfl, unhide HB1⟩
  have hlen : len0 ≤ 1048576 := by have := hfit.1; have := unhide HLL; omega
  have HFS := hide (recSt_fit hfit (readV a1).1)
  have CS := hide (fun (wx : World) (g : Nat) (h : QBlk wx 48 g len0 len0 l0) => (specRecover_any (some ⟨g, 0, none⟩) len0 len0 l0 a1 wx (h.row (unhide HLL)) hlen hfit ⟨_, rfl⟩ hs hrl).mono (fun e w' h => RecAns.lay (l := l0) (rs := (readV a1).1) h))
  have CI := hide (fun (wx : World) (g : Nat) (h : QBlk wx 48 g len0 len0 l0) => (implRecover_any (some ⟨g, 0, none⟩) len0 len0 l0 a1 wx (h.row (unhide HLL)) hlen hfit (Nat.le_refl _) hs hrl).mono (fun e w' h => RecAns.lay (l := l0) (rs := (readV a1).1) h))
  have CT := hide (fun (wx : World) (hb : Below w.heap.size w wx) => toQueueS_any a0 len0 cap0 l0 wx ((unhide HR).below hb) hlen)
  have CQ := hide (fun (wx : World) (g k : Nat) (h : QBlk wx 48 g len0 len0 l0) (h' : QBlk wx 48 k len0 len0 l0) => eqQueueS_same (some ⟨g, 0, none⟩) (some ⟨k, 0, none⟩) len0 len0 len0 l0 wx (h.row (unhide HLL)) (h'.row (unhide HLL)) hlen)
  obtain ⟨S1, hS1⟩ : ∃ s, recSt l0 (readV a1).1 = s := ⟨_, rfl⟩
  obtain ⟨b, hbo⟩ : ∃ q, queuesOk l0 = q := ⟨_, rfl⟩
  rw [hS1, hbo] at CS CI
  rw [hS1] at HFS
  clear hfit hS1 hbo hrl
  go_wp2_with fail
  refine (unhide CT _ (unhide HB1)).mono ?_
  rintro e w2 ⟨rfl, hq, hb⟩
  have HQ := hide hq
  have HB2 := hide (below_on (unhide HB1) hb)
  clear hq hb HB1
  go_wp2_with fail
  refine (unhide CS _ _ (unhide HQ)).mono ?_
  rintro e w3 ⟨yw, hw, rfl, haw, hb⟩
  have HB3 := hide (below_al (below_on (unhide HB2) hb) (.cells (svc yw S1) 29))
  have A3 := hide haw
  have z3 : w.heap.size ≤ w3.heap.size := Nat.le_trans (unhide HB2).size hb.size
  obtain ⟨gw, hgw⟩ : ∃ g, w3.heap.size = g := ⟨_, rfl⟩
  have SW := al_size w3 (.cells (svc yw S1) 29)
  rw [hgw] at A3 SW z3
  clear haw hb HB2 HQ CS
  go_wp2_with fail
  refine (unhide CT _ (unhide HB3)).mono ?_
  rintro e w5 ⟨rfl, hq, hb⟩
  have XQ := hide hq
  have HB5 := hide (below_on (unhide HB3) hb)
  have A5 := hide ((unhide A3).below hb)
  obtain ⟨gx, hgx⟩ : ∃ g, (w3.alloc (.cells (svc yw S1) 29)).heap.size = g := ⟨_, rfl⟩
  rw [SW] at XQ ⊢
  obtain rfl : gx = gw + 1 := by omega
  have z5 : gw + 1 < w5.heap.size := (unhide XQ).lt
  clear hq hb HB3 A3 hgx hgw SW
  go_wp2_with fail
  refine (unhide CI _ _ (unhide XQ)).mono ?_
  rintro e w6 ⟨yg, hg, rfl, hag, hb⟩
  have HB6 := hide (below_al (below_on (unhide HB5) hb) (.cells (svc yg S1) 29))
  have G6 := hide hag
  have A6 := hide (((unhide A5).below hb).al (.cells (svc yg S1) 29))
  have XQ6 := hide (((unhide XQ).below hb).below (below_al (Below.refl _ w6) (.cells (svc yg S1) 29)))
  have z6 : w5.heap.size ≤ w6.heap.size := hb.size
  have HLIM := hide (hag.a.lim (unhide HFS))
  obtain ⟨gg, hgg⟩ : ∃ g, w6.heap.size = g := ⟨_, rfl⟩
  obtain ⟨g5, hg5⟩ : ∃ g, w5.heap.size = g := ⟨_, rfl⟩
  rw [hgg, hg5] at G6
  rw [hgg] at z6
  rw [hg5] at z5 z6
  clear hb hag HB5 A5 XQ hg5
  obtain ⟨u0, u1, u2, u3, u4, u5, u6, u7⟩ := (unhide G6).read
  obtain ⟨v0, v1, v2, v3, v4, v5, v6, v7⟩ := (unhide A6).read
  go_wp2_with fail
  refine (eqState_same yg yw S1 _ (unhide G6).a.row (unhide A6).a.row (unhide HFS)).mono ?_
  rintro e w7 ⟨rfl, hb⟩
  have G7 := hide ((unhide G6).below hb)
  have A7 := hide ((unhide A6).below hb)
  have XQ7 := hide ((unhide XQ6).below hb)
  have HB7 := hide (below_on (unhide HB6) hb)
  clear hb G6 A6 XQ6 HB6 u0 u1 u2 u3 u4 u5 u6 u7 v0 v1 v2 v3 v4 v5 v6 v7
  go_wp2_with fail
  refine (unhide CT _ (unhide HB7)).mono ?_
  rintro e w8 ⟨rfl, hq, hb⟩
  have G8 := hide ((unhide G7).below hb)
  have A8 := hide ((unhide A7).below hb)
  have XQ8 := hide ((unhide XQ7).below hb)
  have YQ8 := hide hq
  have HB8 := hide (below_on (unhide HB7) hb)
  clear hb hq G7 A7 XQ7 HB7
  go_wp2_with fail
  refine (unhide CQ _ _ _ (unhide XQ8) (unhide YQ8)).mono ?_
  rintro e w9 ⟨rfl, hb⟩
  have G9 := hide ((unhide G8).below hb)
  have A9 := hide ((unhide A8).below hb)
  have XQ9 := hide ((unhide XQ8).below hb)
  have HB9 := hide (below_on (unhide HB8) hb)
  clear hb G8 A8 XQ8 YQ8 HB8 CQ
  go_wp2_with fail
  refine (markQueueS_any (gw + 1) len0 _ (unhide XQ9).any hlen).mono ?_
  rintro e w10 ⟨rfl, hg'⟩
  have G10 := hide (show AnsL _ _ w10 gg yg S1 hg none 0 [] from (unhide G9).keep (fun k h1 h2 => hg'.block k (by have := (unhide G9).box.lt; have := (unhide G9).ge; omega) (by simp; omega)) (hg'.block gg (unhide G9).box.lt (by simp; omega)))
  have A10 := hide (show AnsL _ _ w10 gw yw S1 hw none 0 [] from (unhide A9).keep (fun k h1 h2 => hg'.block k (by have := (unhide A9).box.lt; have := (unhide A9).ge; omega) (by simp; have := (unhide A9).ge; omega)) (hg'.block gw (unhide A9).box.lt (by simp)))
  have HB10 := hide ((unhide HB9).grown hg' (unhide HB9).size (fun k e => by cases e; omega))
  clear hg' G9 A9 XQ9 HB9
  have hk1 : ¬ (1 + 4 * (len0 : Int)) < 0 := by omega
  obtain ⟨u0, u1, u2, u3, u4, u5, u6, u7⟩ := (unhide G10).read
  obtain ⟨v0, v1, v2, v3, v4, v5, v6, v7⟩ := (unhide A10).read
  go_wp2_with fail
  refine (eqState_same yg yw S1 _ (unhide G10).a.row (unhide A10).a.row (unhide HFS)).mono ?_
  rintro e w11 ⟨rfl, hb⟩
  have G11 := hide ((unhide G10).below hb)
  have A11 := hide ((unhide A10).below hb)
  have HB11 := hide (below_on (unhide HB10) hb)
  clear hb G10 A10 HB10 u0 u1 u2 u3 u4 u5 u6 u7 v0 v1 v2 v3 v4 v5 v6 v7
  obtain ⟨u0, u1, u2, u3, u4, u5, u6, u7⟩ := (unhide G11).read
  go_wp2_with fail
  refine (mark_st (unhide G11) (unhide HLIM)).mono ?_
  rintro e w12 ⟨rfl, hH, hm⟩
  have hin := (unhide G11).a.ins
  have zg := (unhide G11).box.lt
  have zge := (unhide G11).ge
  have A12 := hide ((unhide A11).off hm hin (.inl (by omega)) (.inl (by omega)))
  have HB12 := hide ((unhide HB11).trans (hm.below (fun k hk => by have := (hin k hk).1; omega) (unhide HB11).size))
  have M12 := hide (show AnsM w12 gg yg S1 hg none 0 from ⟨hH.box, hH.m, ⟨rfl, .inl rfl⟩⟩)
  clear hm hH hin zg zge G11 A11 HB11 u0 u1 u2 u3 u4 u5 u6 u7
  obtain ⟨u0, u1, u2, u3, u4, u5, u6, u7⟩ := (unhide M12).read
  go_wp2_with fail
  refine (heldState_ans S1 (unhide M12).m (unhide HLIM)).mono ?_
  rintro e w13 ⟨rfl, hb⟩
  have M13 := hide ((unhide M12).below hb)
  have A13 := hide ((unhide A12).below hb)
  have HB13 := hide (below_on (unhide HB12) hb)
  clear hb M12 A12 HB12 u0 u1 u2 u3 u4 u5 u6 u7
  have he1 : ¬ ((endS yg hg : Nat) : Int) < 0 := by omega
  go_wp2_with fail
  refine (unhide CT _ (unhide HB13)).mono ?_
  rintro e w14 ⟨rfl, hq, hb⟩
  have M14 := hide ((unhide M13).below hb)
  have A14 := hide ((unhide A13).below hb)
  have YQ14 := hide hq
  have HB14 := hide (below_on (unhide HB13) hb)
  clear hb hq M13 A13 HB13
  go_wp2_with fail
  refine (unhide CI _ _ (unhide YQ14)).mono ?_
  rintro e w15 ⟨yh, hh, rfl, hah, hb⟩
  have M15 := hide (((unhide M14).below hb).al (.cells (svc yh S1) 29))
  have A15 := hide (((unhide A14).below hb).al (.cells (svc yh S1) 29))
  have H15 := hide hah
  have HB15 := hide (below_al (below_on (unhide HB14) hb) (.cells (svc yh S1) 29))
  clear hb hah M14 A14 YQ14 HB14 CI CT
  obtain ⟨u0, u1, u2, u3, u4, u5, u6, u7⟩ := (unhide H15).read
  obtain ⟨v0, v1, v2, v3, v4, v5, v6, v7⟩ := (unhide A15).read
  go_wp2_with fail
  refine (eqState_same yh yw S1 _ (unhide H15).a.row (unhide A15).a.row (unhide HFS)).mono ?_
  rintro e w16 ⟨rfl, hb⟩
  have M16 := hide ((unhide M15).below hb)
  have HB16 := hide (below_on (unhide HB15) hb)
  clear hb M15 A15 H15 HB15 u0 u1 u2 u3 u4 u5 u6 u7 v0 v1 v2 v3 v4 v5 v6 v7
  obtain ⟨u0, u1, u2, u3, u4, u5, u6, u7⟩ := (unhide M16).read
  go_wp2_with fail
  refine (heldState_ans S1 (unhide M16).m (unhide HLIM)).mono ?_
  rintro e w17 ⟨rfl, hb⟩
  have HB17 := hide (below_on (unhide HB16) hb)
  clear hb M16 HB16 u0 u1 u2 u3 u4 u5 u6 u7
  go_wp2
  go_ret
  exact ⟨rfl, unhide HB17⟩

set_option maxRecDepth 100000 in
theorem lifted (os : Os) (started : os.Started) (H : Type) (enc : TypeId × Value → H) :
    ReturnsInHanded {} Tryz.checked os 3 .any (Rows.fnExactRecoverSpec.pre6 enc Tryz.prog Tryz.f3 Rows.fnExactRecoverRow.domain false) (Rows.fnExactRecoverSpec.post enc Tryz.prog Tryz.f3 false true false false) := by
  refine returnsInHanded_of_change (C := Tryz.checked) own started (by kernel_rfl) Tryz.func3
    (ChangeSpec.witness6 (enc := enc) (C := Tryz.checked) false ⟨#[], #[.slice none 0 0, .string ByteArray.empty], []⟩ 8 (by kernel_rfl) (by kernel_rfl) (by kernel_rfl) (by kernel_rfl)) ?_
  intro W base args ds gs before hval0 hW hcnd _
  have hval : ∀ (j : Nat) t v, Tryz.f3.params[j]? = some t → args[j]? = some v → Value.okWide Tryz.prog W .any base t v := hval0
  have hW' := hW
  obtain ⟨p, q, hA0, hV, rfl, hfz, hnd⟩ := hW
  have hA : DataW.TrodAll enc Tryz.prog W 0 (fun _ => true) true Tryz.f3.params.toList args.toList ds p := hA0
  rw [Tryz.params3] at hA hval
  obtain ⟨v0, vs0, d0, ds0, p0, q0, hargs, rfl, rfl, h0, r0⟩ := trodAll_cons hA
  obtain ⟨v1, vs1, d1, ds1, p1, q1, rfl, rfl, rfl, h1, r1⟩ := trodAll_cons r0
  obtain ⟨rfl, rfl, rfl⟩ := trodAll_nil r1
  obtain rfl : args = #[v0, v1] := by cases args; simp_all
  obtain ⟨rfl, rfl⟩ := trodVars_none hV
  obtain ⟨a0, len0, cap0, rfl⟩ := okWide_slice Tryz.underlying22 (hval 0 22 v0 rfl rfl)
  have k0 := h0
  have lt0 : ∀ x ∈ p0, x.block < W.heap.size := by obtain ⟨m, hm⟩ := k0; exact DataW.trod_lt m _ _ _ hm
  obtain ⟨l0, w0, x0, y0⟩ := open_queues h0
  obtain ⟨a1, rfl, rfl, rfl, w1⟩ := open_string Tryz.underlying9 (hval 1 9 v1 rfl rfl) h1
  clear hA0 hval0
  refine (walk a0 len0 cap0 l0 a1 W w0 x0 y0 w1).mono fun e W' ⟨he, bel⟩ => ?_
  subst he
  exact ⟨_, rfl, _, _, _, [], _, [], hW', trodAll_mk1 (shut_bool Tryz.underlying4 _), (trodAll_cons_mk (Below.trod laidOut (by kernel_rfl) (of_decide_eq_true (by kernel_rfl)) k0 bel lt0) (trodAll_cons_mk (shut_string Tryz.underlying9 w1) trodAll_mk0)), rfl, bel.frame _, fun h => by cases h⟩

set_option maxRecDepth 100000 in
set_option maxHeartbeats 16000000 in
theorem closed : joinedFacts Tryz.prog 3 Tryz.f3 Rows.fnExactRecoverSpec Rows.fnExactRecoverRow = true := by
  unfold joinedFacts
  repeat rw [Bool.and_eq_true]
  repeat' apply And.intro
  all_goals (as_aux_lemma => kernel_rfl)
theorem over : Rows.fnExactRecoverRow.holds Tryz.pinned (OpenSpec.ofChange Rows.fnExactRecoverSpec) :=
  OpenClaim.holds_of_wide 3 Tryz.f3 rfl rfl rfl rfl rfl rfl rfl ⟨rfl, rfl, rfl, rfl, rfl⟩ rfl rfl rfl rfl rfl (by kernel_rfl) Tryz.func3 closed
    (of_decide_eq_true (by kernel_rfl)) (by unfold Func.isWrapper; first | (rw [if_pos (by decide +kernel)]; kernel_rfl) | (rw [if_neg (by decide +kernel)]; exact ⟨rfl, rfl⟩))
    (fun os started H enc _ => lifted os started H enc)
end Go.Proofs.YtgdndekmkaknlaaGreat.fnExactRecover

namespace Go.Proofs.YtgdndekmkaknlaaGreat
theorem fnExactRecover_holds : Rows.FnExactRecoverSaid := fnExactRecover.over
#print axioms fnExactRecover_holds
end Go.Proofs.YtgdndekmkaknlaaGreat
