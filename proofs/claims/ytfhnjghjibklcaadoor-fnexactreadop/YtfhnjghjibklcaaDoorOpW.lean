/-
  Events: the laws' own helpers (eqOp); walks over the dump.
-/
import Derived.Test.YtfhnjghjibklcaaDoorOpAll
import Derived.Test.YtfhnjghjibklcaaDoorSets
import Derived.Deep.CutBlock
import Derived.Deep.CutRange
namespace Go.Proofs.YtfhnjghjibklcaaDoor
open Go.RowKit
set_option linter.unusedVariables false
set_option linter.unusedSimpArgs false

theorem ConBlk.other {w : World} {t : TypeId} {g n k : Nat} {l : List Con} (h : ConBlk w t g n k l) (b j : Nat) (v : Value) (hn : g ≠ b) : ConBlk (w.setCell ⟨b, j, none⟩ v) t g n k l := by
  obtain ⟨arr, h1, h2⟩ := h
  exact ⟨arr, (heap_setCell_other w ⟨b, j, none⟩ g v hn).trans h1, h2⟩
structure Opv where
  kind : Int
  queue : List UInt8
  app : Int
  ask : Ask
  cont : Int
  node : List UInt8
  mem : Int
  cpu : Int
  conts : List Con
/-- the cells of an event whose containers stand as a slice -/
abbrev opc (o : Opv) (ao : Option Addr) (n c : Nat) : Array Value := #[.int .i64 o.kind, .string (bs o.queue), .int .i64 o.app, .int .i64 o.ask.mem, .int .i64 o.ask.cpu, .int .i64 o.ask.count, .string (bs o.ask.node), .int .i64 o.ask.missed, .int .i64 o.cont, .string (bs o.node), .int .i64 o.mem, .int .i64 o.cpu, .slice ao n c]
abbrev opv (o : Opv) (ao : Option Addr) (n c : Nat) : Value := .agg (opc o ao n c)
/-- what a reading allows -/
def AskFit (q : Ask) : Prop := q.node.length ≤ 9223372036854775807 ∧ (Lit.int .i64 q.mem).wf = true ∧ (Lit.int .i64 q.cpu).wf = true ∧ (Lit.int .i64 q.count).wf = true ∧ (Lit.int .i64 q.missed).wf = true
def ConFit (q : Con) : Prop := q.node.length ≤ 9223372036854775807 ∧ (Lit.int .i64 q.id).wf = true ∧ (Lit.int .i64 q.app).wf = true ∧ (Lit.int .i64 q.mem).wf = true ∧ (Lit.int .i64 q.cpu).wf = true
def OpFit (o : Opv) (n : Nat) : Prop := (o.queue.length ≤ 9223372036854775807 ∧ o.node.length ≤ 9223372036854775807 ∧ AskFit o.ask ∧ n ≤ 9223372036854775807 ∧ ∀ q ∈ o.conts, ConFit q) ∧ (Lit.int .i64 o.kind).wf = true ∧ (Lit.int .i64 o.app).wf = true ∧ (Lit.int .i64 o.cont).wf = true ∧ (Lit.int .i64 o.mem).wf = true ∧ (Lit.int .i64 o.cpu).wf = true
/-- not too much -/
def FitCon (l : List Con) : Prop := l.length ≤ 1048576 ∧ ∀ q ∈ l, q.node.length ≤ 1048576
def FitOp (o : Opv) : Prop := o.queue.length ≤ 1048576 ∧ o.ask.node.length ≤ 1048576 ∧ o.node.length ≤ 1048576 ∧ FitCon o.conts

/-- the two events that are compared stand in two variables; nothing of w has turned -/
def EqOp (w : World) (o : Opv) (ao bo : Option Addr) (n c d : Nat) (wx : World) : Prop := Blk wx w.heap.size (opc o ao n c) 28 ∧ Blk wx (w.heap.size + 1) (opc o bo n d) 28 ∧ Below w.heap.size w wx
theorem EqOp.call {w wx wy : World} {o : Opv} {ao bo : Option Addr} {n c d : Nat} (h : EqOp w o ao bo n c d wx) (hb : Below wx.heap.size wx wy) : EqOp w o ao bo n c d wy := ⟨h.1.below hb, h.2.1.below hb, below_on h.2.2 hb⟩
theorem EqOp.new (w : World) (o : Opv) (ao bo : Option Addr) (n c d : Nat) : EqOp w o ao bo n c d ((w.alloc (.cells (opc o ao n c) 28)).alloc (.cells (opc o bo n d) 28)) :=
  ⟨(blk_new _ _ _).al _, by have := blk_new (w.alloc (.cells (opc o ao n c) 28)) (opc o bo n d) 28; rwa [al_size] at this, below_al (below_al (Below.refl _ _) _) _⟩
set_option maxRecDepth 100000 in
set_option maxHeartbeats 4000000 in
theorem eqOp_same (o : Opv) (ao bo : Option Addr) (n c d : Nat) (w : World) (h : ConRow w ao n o.conts) (h' : ConRow w bo n o.conts) (hl : n ≤ 1048576) :
    Calls Tryd.prog 6 #[opv o ao n c, opv o bo n d] w fun e w' => e = .returned (.bool true) ∧ Below w.heap.size w w' := by
  have E0 := hide (EqOp.new w o ao bo n c d)
  have CC := hide (fun wx (hb : Below w.heap.size w wx) => eqContS_same ao bo n c d o.conts wx (h.below hb) (h'.below hb) hl)
  obtain ⟨kind, queue, app, ⟨am, ac, an, ad, ai⟩, cont, node, mem, cpu, conts⟩ := o
  clear h h'
  try simp only at CC
  go_enter Tryd.func6, Tryd.ntmps6
  go_wp2_with fail
  refine (eqAsk_same ⟨am, ac, an, ad, ai⟩ _).mono ?_
  rintro e w1 ⟨rfl, hb⟩
  have E1 := hide ((unhide E0).call hb)
  clear hb E0
  have a8 := (unhide E1).1.at 8; have a9 := (unhide E1).1.at 9; have a10 := (unhide E1).1.at 10; have a11 := (unhide E1).1.at 11; have a12 := (unhide E1).1.at 12
  have b8 := (unhide E1).2.1.at 8; have b9 := (unhide E1).2.1.at 9; have b10 := (unhide E1).2.1.at 10; have b11 := (unhide E1).2.1.at 11; have b12 := (unhide E1).2.1.at 12
  simp at a8 b8 a9 b9 a10 b10 a11 b11 a12 b12
  go_wp2_with fail
  refine (eqRes_ex _ _ _).mono ?_
  rintro e w2 ⟨rfl, o1, o2, nn, rfl⟩
  have E2 := hide ((unhide E1).call (below_dn (below_al (below_al (Below.refl _ _) o1) o2) nn))
  generalize ((w1.alloc o1).alloc o2).drewN nn = w2 at E2 ⊢
  clear E1 a8 b8 a9 b9 a10 b10 a11 b11 a12 b12
  have a12 := (unhide E2).1.at 12
  have b12 := (unhide E2).2.1.at 12
  simp at a12 b12
  go_wp2_with fail
  refine (unhide CC _ (unhide E2).2.2).mono ?_
  rintro e w3 ⟨rfl, hb⟩
  have E3 := hide ((unhide E2).call hb)
  clear hb E2 a12 b12
  go_wp2
  go_ret
  exact ⟨rfl, (unhide E3).2.2⟩

end Go.Proofs.YtfhnjghjibklcaaDoor
