/-
  The law FnExactOpText answers true at every event: the program's OpText answers as the model's, and writes into nothing that it was handed; the library's tables stand as its text lays them (the card ties that); no other condition.
-/
import Derived.Test.YthnkbdjombiodaaDoorCards
import Derived.Test.YthnkbdjombiodaaDoorTie
import Derived.Test.YthnkbdjombiodaaDoorOpFin
import Derived.WalkKit
import Derived.Deep.CutRange
import Derived.Deep.RegionHeld3
import Derived.Deep.RegionWith
import Derived.Deep.QuietTactic
import Derived.ProofKit
import Derived.OpenShut
import Derived.ShutString
import Derived.ChangeOld
import Derived.Below
import Derived.Deep.DeepHandedRow
import Derived.Lib.LaidTab
import Derived.Lay
import Derived.LaidSub
import Derived.MakeChecks
namespace Go.Proofs.YthnkbdjombiodaaDoor.fnExactOpText
open Go.ChangeShapes Go.WideShapes Go.ChangeAt Go.RowKit
open Go.ChangeMaps (open_string shut_string)
set_option linter.unusedVariables false

theorem own : ownKnob Tryd.prog.godebug = none := by kernel_rfl
theorem laidOut : laidOutB Tryd.prog = true := by kernel_rfl

theorem gTabType : (Tryd.prog.globals[1]?).map (·.type) = some 158 := by kernel_rfl
theorem cellsT : Tryd.prog.cellsOf 158 = 20 := by kernel_rfl
theorem cellsE : Tryd.prog.cellsOf 144 = 1 := by kernel_rfl
theorem table {W : World} (h : laidMetH Tryd.prog Rows.fnExactOpTextRow.laid W) : Lib.TabIs Tryd.prog W "internal/strconv.uint64pow10" .u64 Lib.pow10Tab := by
  have h1 : laidMet Tryd.prog Rows.fnExactOpTextRow.laid W := by rw [MakeChecks.laidMetH_plain _ _ _ (by kernel_rfl)] at h; exact h
  have h2 := h1.filter (fun x => x.1 == "internal/strconv.uint64pow10")
  have e : (Rows.fnExactOpTextRow.laid.filter fun x => x.1 == "internal/strconv.uint64pow10") = [("internal/strconv.uint64pow10", Lib.tabData .u64 Lib.pow10Tab)] := by kernel_rfl
  rw [e] at h2
  exact Lib.tabIs_of_head (rest := []) gTab gTabType Tryd.underlying158 Tryd.underlying144 cellsE cellsT h2
/-- the two events' variables and the containers of the second stand; nothing of w has turned -/
def LBx (w : World) (o : Opv) (ao : Option Addr) (n c k g : Nat) (wx : World) : Prop := Blk wx w.heap.size (opc o ao n c) 28 ∧ Blk wx k (opc o (some ⟨g, 0, none⟩) n n) 36 ∧ ConBlk wx 57 g n n o.conts ∧ Below w.heap.size w wx
theorem LBx.call {w w1 w2 : World} {o : Opv} {ao : Option Addr} {n c k g : Nat} (h : LBx w o ao n c k g w1) (hb : Below w1.heap.size w1 w2) : LBx w o ao n c k g w2 := ⟨h.1.below hb, h.2.1.below hb, h.2.2.1.below hb, below_on h.2.2.2 hb⟩
theorem LBx.drew {w w1 : World} {o : Opv} {ao : Option Addr} {n c k g : Nat} (h : LBx w o ao n c k g w1) : LBx w o ao n c k g w1.drew := h.call (Below.refl _ _).drew
set_option maxRecDepth 100000 in
set_option maxHeartbeats 4000000 in
theorem walk (a0 : Opv) (b0 : Option Addr) (n0 c0 : Nat) (w : World) (w0 : ConRow w b0 n0 a0.conts) (x0 : OpFit a0 n0) (hL : laidMetH Tryd.prog Rows.fnExactOpTextRow.laid w) (hsh : w.ShapedOpen Tryd.prog) :
    Calls Tryd.prog 3 #[opv a0 b0 n0 c0] w fun e w' => e = .returned (.bool true) ∧ Below w.heap.size w w' := by
  have HT : Hid (Lib.TabIs Tryd.prog w "internal/strconv.uint64pow10" .u64 Lib.pow10Tab) := table hL
  clear hL hsh
  have HR := hide w0
  have HL := hide w0.1
  have hB := x0.b
  have CZ := hide (fun wx (hb : Below w.heap.size w wx) => szOp_any a0 b0 n0 c0 wx (w0.below hb) x0)
  have CT := hide (fun wx (hb : Below w.heap.size w wx) (hn : n0 ≤ 1048576) => toOp_any a0 b0 n0 c0 wx (w0.below hb) hn)
  obtain ⟨o, ho⟩ : ∃ o, bs (opL a0) = o := ⟨_, rfl⟩
  have CS := hide (fun wx (g : Nat) (hf : FitOp a0) (h : ConBlk wx 57 g n0 n0 a0.conts) => by have := specOpText_any a0 (some ⟨g, 0, none⟩) n0 n0 wx (h.row w0.1) hf hB; rw [ho] at this; exact this)
  have CI := hide (fun wx (g : Nat) (hf : FitOp a0) (h : ConBlk wx 57 g n0 n0 a0.conts) (hb : Below w.heap.size w wx) => by have := implOpText_any a0 (some ⟨g, 0, none⟩) n0 n0 wx (h.row w0.1) hf hB (tab_on (unhide HT) hb); rw [ho] at this; exact this)
  have CE := hide (fun wx (g k : Nat) (hn : n0 ≤ 1048576) (h : ConBlk wx 57 g n0 n0 a0.conts) (h' : ConBlk wx 57 k n0 n0 a0.conts) => eqOp_same a0 (some ⟨g, 0, none⟩) (some ⟨k, 0, none⟩) n0 n0 n0 wx (h.row w0.1) (h'.row w0.1) hn)
  have HFN := hide (fun (hf : FitOp a0) => show n0 ≤ 1048576 by have := hf.2.2.2.1; have := w0.1; omega)
  have K0 := hide (blk_new w (opc a0 b0 n0 c0) 28)
  have HB0 := hide (below_al (Below.refl _ w) (.cells (opc a0 b0 n0 c0) 28))
  clear ho x0 w0 hB
  obtain ⟨kind, queue, app, ⟨am, ac, an, ad, ai⟩, cont, node, mem, cpu, conts⟩ := a0
  go_enter Tryd.func3, Tryd.ntmps3
  go_wp2_with fail
  refine (unhide CZ _ (unhide HB0)).mono ?_
  rintro e w1 ⟨r, rfl, hr, hb⟩
  have HB1 := hide (below_on (unhide HB0) hb)
  have K1 := hide ((unhide K0).below hb)
  clear hb CZ HB0 K0
  rcases hr with rfl | ⟨r0, hf⟩
  · go_wp2
    go_ret
    exact ⟨rfl, unhide HB1⟩
  have HF := hide hf
  have HN := hide (unhide HFN hf)
  clear hf HFN
  have p0 := (unhide K1).at 0; have p1 := (unhide K1).at 1; have p2 := (unhide K1).at 2; have p3 := (unhide K1).at 3; have p4 := (unhide K1).at 4; have p5 := (unhide K1).at 5; have p6 := (unhide K1).at 6; have p7 := (unhide K1).at 7; have p8 := (unhide K1).at 8; have p9 := (unhide K1).at 9; have p10 := (unhide K1).at 10; have p11 := (unhide K1).at 11; have p12 := (unhide K1).at 12
  simp at p0 p1 p2 p3 p4 p5 p6 p7 p8 p9 p10 p11 p12
  go_wp2_with fail
  refine (unhide CT _ (unhide HB1) (unhide HN)).mono ?_
  rintro e w2 ⟨g1, rfl, hc, hg, hb⟩
  have HB2 := hide (below_on (unhide HB1) hb)
  have K2 := hide ((unhide K1).below hb)
  have C2 := hide hc
  clear hb hc hg HB1 K1 p0 p1 p2 p3 p4 p5 p6 p7 p8 p9 p10 p11 p12
  go_wp2_with fail
  refine (unhide CS _ _ (unhide HF) (unhide C2)).mono ?_
  rintro e w3 ⟨rfl, hb⟩
  have HB3 := hide (below_on (unhide HB2) hb)
  have K3 := hide ((unhide K2).below hb)
  clear hb HB2 K2 C2 CS
  have p0 := (unhide K3).at 0; have p1 := (unhide K3).at 1; have p2 := (unhide K3).at 2; have p3 := (unhide K3).at 3; have p4 := (unhide K3).at 4; have p5 := (unhide K3).at 5; have p6 := (unhide K3).at 6; have p7 := (unhide K3).at 7; have p8 := (unhide K3).at 8; have p9 := (unhide K3).at 9; have p10 := (unhide K3).at 10; have p11 := (unhide K3).at 11; have p12 := (unhide K3).at 12
  simp at p0 p1 p2 p3 p4 p5 p6 p7 p8 p9 p10 p11 p12
  go_wp2_with fail
  refine (unhide CT _ (unhide HB3) (unhide HN)).mono ?_
  rintro e w4 ⟨g, rfl, hc, hg, hb⟩
  have L4 := hide (show LBx w ⟨kind, queue, app, ⟨am, ac, an, ad, ai⟩, cont, node, mem, cpu, conts⟩ b0 n0 c0 w4.heap.size g (w4.alloc (.cells (opc ⟨kind, queue, app, ⟨am, ac, an, ad, ai⟩, cont, node, mem, cpu, conts⟩ (some ⟨g, 0, none⟩) n0 n0) 36)) from ⟨((unhide K3).below hb).al _, blk_new w4 _ _, hc.below (below_al (Below.refl _ w4) _), below_al (below_on (unhide HB3) hb) _⟩)
  clear hb hc hg HB3 K3 p0 p1 p2 p3 p4 p5 p6 p7 p8 p9 p10 p11 p12
  obtain ⟨gx, hgx⟩ : ∃ k, w4.heap.size = k := ⟨_, rfl⟩
  rw [hgx] at L4
  have q0 := (unhide L4).2.1.at 0; have q1 := (unhide L4).2.1.at 1; have q2 := (unhide L4).2.1.at 2; have q3 := (unhide L4).2.1.at 3; have q4 := (unhide L4).2.1.at 4; have q5 := (unhide L4).2.1.at 5; have q6 := (unhide L4).2.1.at 6; have q7 := (unhide L4).2.1.at 7; have q8 := (unhide L4).2.1.at 8; have q9 := (unhide L4).2.1.at 9; have q10 := (unhide L4).2.1.at 10; have q11 := (unhide L4).2.1.at 11; have q12 := (unhide L4).2.1.at 12
  simp at q0 q1 q2 q3 q4 q5 q6 q7 q8 q9 q10 q11 q12
  go_wp2_with fail
  refine (unhide CI _ _ (unhide HF) (unhide L4).2.2.1 (unhide L4).2.2.2).mono ?_
  rintro e w5 ⟨rfl, hb⟩
  have L5 := hide ((unhide L4).call hb)
  clear hb L4 q0 q1 q2 q3 q4 q5 q6 q7 q8 q9 q10 q11 q12 CI HT
  try rw [hgx]
  clear hgx
  have R : ∀ wx, LBx w ⟨kind, queue, app, ⟨am, ac, an, ad, ai⟩, cont, node, mem, cpu, conts⟩ b0 n0 c0 gx g wx → wx.cell? ⟨w.heap.size, 0, none⟩ = some (.int .i64 kind) ∧ wx.cell? ⟨w.heap.size, 1, none⟩ = some (.string (bs queue)) ∧ wx.cell? ⟨w.heap.size, 2, none⟩ = some (.int .i64 app) ∧ wx.cell? ⟨w.heap.size, 3, none⟩ = some (.int .i64 am) ∧ wx.cell? ⟨w.heap.size, 4, none⟩ = some (.int .i64 ac) ∧ wx.cell? ⟨w.heap.size, 5, none⟩ = some (.int .i64 an) ∧ wx.cell? ⟨w.heap.size, 6, none⟩ = some (.string (bs ad)) ∧ wx.cell? ⟨w.heap.size, 7, none⟩ = some (.int .i64 ai) ∧ wx.cell? ⟨w.heap.size, 8, none⟩ = some (.int .i64 cont) ∧ wx.cell? ⟨w.heap.size, 9, none⟩ = some (.string (bs node)) ∧ wx.cell? ⟨w.heap.size, 10, none⟩ = some (.int .i64 mem) ∧ wx.cell? ⟨w.heap.size, 11, none⟩ = some (.int .i64 cpu) ∧ wx.cell? ⟨w.heap.size, 12, none⟩ = some (.slice b0 n0 c0) ∧ wx.cell? ⟨gx, 0, none⟩ = some (.int .i64 kind) ∧ wx.cell? ⟨gx, 1, none⟩ = some (.string (bs queue)) ∧ wx.cell? ⟨gx, 2, none⟩ = some (.int .i64 app) ∧ wx.cell? ⟨gx, 3, none⟩ = some (.int .i64 am) ∧ wx.cell? ⟨gx, 4, none⟩ = some (.int .i64 ac) ∧ wx.cell? ⟨gx, 5, none⟩ = some (.int .i64 an) ∧ wx.cell? ⟨gx, 6, none⟩ = some (.string (bs ad)) ∧ wx.cell? ⟨gx, 7, none⟩ = some (.int .i64 ai) ∧ wx.cell? ⟨gx, 8, none⟩ = some (.int .i64 cont) ∧ wx.cell? ⟨gx, 9, none⟩ = some (.string (bs node)) ∧ wx.cell? ⟨gx, 10, none⟩ = some (.int .i64 mem) ∧ wx.cell? ⟨gx, 11, none⟩ = some (.int .i64 cpu) ∧ wx.cell? ⟨gx, 12, none⟩ = some (.slice (some ⟨g, 0, none⟩) n0 n0) := fun wx h => ⟨by simpa using h.1.at 0, by simpa using h.1.at 1, by simpa using h.1.at 2, by simpa using h.1.at 3, by simpa using h.1.at 4, by simpa using h.1.at 5, by simpa using h.1.at 6, by simpa using h.1.at 7, by simpa using h.1.at 8, by simpa using h.1.at 9, by simpa using h.1.at 10, by simpa using h.1.at 11, by simpa using h.1.at 12, by simpa using h.2.1.at 0, by simpa using h.2.1.at 1, by simpa using h.2.1.at 2, by simpa using h.2.1.at 3, by simpa using h.2.1.at 4, by simpa using h.2.1.at 5, by simpa using h.2.1.at 6, by simpa using h.2.1.at 7, by simpa using h.2.1.at 8, by simpa using h.2.1.at 9, by simpa using h.2.1.at 10, by simpa using h.2.1.at 11, by simpa using h.2.1.at 12⟩
  go_wp2_with fail
  go_region_held3 (fun wx => LBx w ⟨kind, queue, app, ⟨am, ac, an, ad, ai⟩, cont, node, mem, cpu, conts⟩ b0 n0 c0 gx g wx)
    (first | (with_reducible assumption) | exact (unhide L5).drew | exact LBx.call (by assumption) (by assumption))
    (first
    | (go_at_call 7; refine (unhide CT _ (LBx.call (w := w) (o := ⟨kind, queue, app, ⟨am, ac, an, ad, ai⟩, cont, node, mem, cpu, conts⟩) (ao := b0) (n := n0) (c := c0) (k := gx) (g := g) (by assumption) (Below.refl _ _)).2.2.2 (unhide HN)).mono ?_; rintro e wt ⟨g2, rfl, hc, hg, hb⟩; have SA := LBx.call (w := w) (o := ⟨kind, queue, app, ⟨am, ac, an, ad, ai⟩, cont, node, mem, cpu, conts⟩) (ao := b0) (n := n0) (c := c0) (k := gx) (g := g) (by assumption) hb)
    | (go_at_call 9; refine (unhide CE _ _ _ (unhide HN) SA.2.2.1 hc).mono ?_; rintro e wt ⟨rfl, hb⟩; have SB := LBx.call (w := w) (o := ⟨kind, queue, app, ⟨am, ac, an, ad, ai⟩, cont, node, mem, cpu, conts⟩) (ao := b0) (n := n0) (c := c0) (k := gx) (g := g) (by assumption) hb))
  have HB9 := hide SB.2.2.2
  clear SB R
  go_wp2
  go_ret
  exact ⟨rfl, unhide HB9⟩

set_option maxRecDepth 100000 in
theorem contract (H : Type) (enc : TypeId × Value → H) (W : World) (base : Nat) (args : Array Value) (ds gs : List (DataW H)) (before : List MemPlace)
    (hval : ∀ (j : Nat) t v, Tryd.f3.params[j]? = some t → args[j]? = some v → Value.okWide Tryd.prog W .any base t v)
    (hW : DataW.Whole enc Tryd.prog Tryd.f3.params.toList Rows.fnExactOpTextSpec.vars false W args.toList ds gs before) (hL : laidMetH Tryd.prog Rows.fnExactOpTextRow.laid W) (hsh : W.ShapedOpen Tryd.prog) :
    Calls Tryd.prog 3 args W fun e W' => ∃ v, e = .returned v ∧ Rows.fnExactOpTextSpec.post enc Tryd.prog Tryd.f3 false true false false W args v W' := by
  have hW' := hW
  obtain ⟨p, q, hA0, hV, rfl, hfz, hnd⟩ := hW
  have hA : DataW.TrodAll enc Tryd.prog W 0 (fun _ => true) true Tryd.f3.params.toList args.toList ds p := hA0
  rw [Tryd.params3] at hA hval
  obtain ⟨v0, vs0, d0, ds0, p0, q0, hargs, rfl, rfl, h0, r0⟩ := trodAll_cons hA
  obtain ⟨rfl, rfl, rfl⟩ := trodAll_nil r0
  obtain rfl : args = #[v0] := by cases args; simp_all
  obtain ⟨rfl, rfl⟩ := trodVars_none hV
  have k0 := h0
  have lt0 : ∀ x ∈ p0, x.block < W.heap.size := by obtain ⟨m, hm⟩ := k0; exact DataW.trod_lt m _ _ _ hm
  obtain ⟨a0, b0, n0, c0, rfl, w0, x0⟩ := open_opv (hval 0 28 v0 rfl rfl) h0
  clear hA0
  refine (walk a0 b0 n0 c0 W w0 x0 hL hsh).mono fun e W' ⟨he, bel⟩ => ?_
  subst he
  exact ⟨_, rfl, _, _, _, [], _, [], hW', trodAll_mk1 (shut_bool Tryd.underlying4 _), (trodAll_cons_mk (Below.trod laidOut (by kernel_rfl) (of_decide_eq_true (by kernel_rfl)) k0 bel lt0) trodAll_mk0), rfl, bel.frame _, fun h => by cases h⟩

theorem reads (os : Os) {H : Type} (enc : TypeId × Value → H) : ∃ places, DataW.whole enc Tryd.prog ((World.laidAll Tryd.prog os Rows.fnExactOpTextRow.laid).forCall (fun _ _ => 0) ⟨#[], #[.agg #[.int .i64 0, .string ByteArray.empty, .int .i64 0, .int .i64 0, .int .i64 0, .int .i64 0, .string ByteArray.empty, .int .i64 0, .int .i64 0, .string ByteArray.empty, .int .i64 0, .int .i64 0, .slice none 0 0]], []⟩).memory Tryd.f3.params.toList Rows.fnExactOpTextSpec.vars false #[Value.agg #[.int .i64 0, .string ByteArray.empty, .int .i64 0, .int .i64 0, .int .i64 0, .int .i64 0, .string ByteArray.empty, .int .i64 0, .int .i64 0, .string ByteArray.empty, .int .i64 0, .int .i64 0, .slice none 0 0]].toList 8 = some ([.agg [.lit (.int .i64 0), .lit (.string []), .lit (.int .i64 0), .agg [.agg [.lit (.int .i64 0), .lit (.int .i64 0)], .lit (.int .i64 0), .lit (.string []), .lit (.int .i64 0)], .lit (.int .i64 0), .lit (.string []), .agg [.lit (.int .i64 0), .lit (.int .i64 0)], .nil]], [], places) :=
  ⟨[], by kernel_rfl⟩

set_option maxRecDepth 100000 in
theorem lifted (os : Os) (started : os.Started) (H : Type) (enc : TypeId × Value → H) (F : Stop.Interp) :
    ReturnsInHanded {} Tryd.checked os 3 .any ((OpenSpec.ofChange Rows.fnExactOpTextSpec).preRow enc Tryd.prog Tryd.f3 Rows.fnExactOpTextRow.domain false Rows.fnExactOpTextRow.laid) (((OpenSpec.ofChange Rows.fnExactOpTextSpec).at F).post enc Tryd.prog Tryd.f3 false true false false) := by
  obtain ⟨places, hx⟩ := reads os enc
  refine returnsInHanded_of_row (C := Tryd.checked) (s := OpenSpec.ofChange Rows.fnExactOpTextSpec) own started (by kernel_rfl) Tryd.func3
    (witness_row_at (enc := enc) (C := Tryd.checked) false (World.laidAll Tryd.prog os Rows.fnExactOpTextRow.laid) #[.agg #[.int .i64 0, .string ByteArray.empty, .int .i64 0, .int .i64 0, .int .i64 0, .int .i64 0, .string ByteArray.empty, .int .i64 0, .int .i64 0, .string ByteArray.empty, .int .i64 0, .int .i64 0, .slice none 0 0]] (World.laidAll_os _ _ _) (by kernel_rfl) (by kernel_rfl) (by kernel_rfl)
      (OpenSpec.preRow_of_cond 8 hx (by kernel_rfl) (fun k hk => by cases hk) (by kernel_rfl) (laidMet_laidAll _ (by kernel_rfl) (by kernel_rfl)))) ?_
  intro W base args ds gs before hval hW _ _ _ hL hsh _
  exact contract H enc W base args ds gs before hval hW hL hsh

theorem said : Rows.FnExactOpTextSaid :=
  OpenClaim.holds_of_cond 3 Tryd.f3 rfl rfl rfl rfl rfl rfl rfl ⟨rfl, rfl, rfl, rfl, rfl⟩ rfl rfl rfl rfl rfl (by kernel_rfl) Tryd.func3 (by kernel_rfl)
    (of_decide_eq_true (by kernel_rfl)) (by unfold Func.isWrapper; first | (rw [if_pos (by decide +kernel)]; kernel_rfl) | (rw [if_neg (by decide +kernel)]; exact ⟨rfl, rfl⟩))
    (fun os started H enc _ F => by rw [OpenClaim.pre_eq_preRow]; exact lifted os started H enc F)

theorem plain (f : FuncId) (fn : Func) (hf : Tryd.pinned.checked.prog.funcNamed Rows.fnExactOpTextRow.func = some f) (hfn : Tryd.pinned.checked.prog.funcs[f]? = some fn) :
    true = Tryd.pinned.checked.prog.looks [] ∧ ∀ (j : Nat) t, fn.params[j]? = some t → Tryd.pinned.checked.prog.wantsStandIn t = false := by
  obtain rfl : f = 3 := Option.some.inj ((show Tryd.prog.funcNamed Rows.fnExactOpTextRow.func = some 3 by kernel_rfl).symm.trans hf) |>.symm
  obtain rfl : fn = Tryd.f3 := (Option.some.inj (Tryd.func3.symm.trans hfn)).symm
  refine ⟨by kernel_rfl, fun j t ht => ?_⟩
  rw [Tryd.params3] at ht
  obtain rfl : t = 28 := by simpa using Array.mem_of_getElem? ht
  exact (show Tryd.prog.wantsStandIn 28 = false by kernel_rfl)
end Go.Proofs.YthnkbdjombiodaaDoor.fnExactOpText

namespace Go.Proofs.YthnkbdjombiodaaDoor
theorem fnExactOpText_card : Rows.FnExactOpTextCardSaid :=
  Claim7.holds_tied_plain_at .later [] _ _ _ _ fnExactOpText.said (fun _ h => by cases h) (by kernel_rfl) (fun _ h => by cases h) fnExactOpText_row_tie rfl ⟨rfl, rfl⟩ (by kernel_rfl) rfl fnExactOpText.plain (by kernel_rfl)
#print axioms fnExactOpText_card
end Go.Proofs.YthnkbdjombiodaaDoor
