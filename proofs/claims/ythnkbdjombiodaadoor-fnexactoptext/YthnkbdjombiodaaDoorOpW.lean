/-
  Events: the laws' own helpers (szOp, toOp, eqOp), an event that came in; walks over the dump.
-/
import Derived.Test.YthnkbdjombiodaaDoorOpAll
import Derived.Test.YthnkbdjombiodaaDoorSets
import Derived.Deep.CutBlock
import Derived.Deep.CutRange
namespace Go.Proofs.YthnkbdjombiodaaDoor
open Go.ChangeShapes Go.WideShapes Go.ChangeAt Go.RowKit Go.Deep
set_option linter.unusedVariables false
set_option linter.unusedSimpArgs false

theorem ConBlk.other {w : World} {t : TypeId} {g n k : Nat} {l : List Con} (h : ConBlk w t g n k l) (b j : Nat) (v : Value) (hn : g ≠ b) : ConBlk (w.setCell ⟨b, j, none⟩ v) t g n k l := by
  obtain ⟨arr, h1, h2⟩ := h
  exact ⟨arr, (heap_setCell_other w ⟨b, j, none⟩ g v hn).trans h1, h2⟩
structure Opv where
  kind : Int
  queue : List UInt8
  app : Int
  ask : Ask
  cont : Int
  node : List UInt8
  mem : Int
  cpu : Int
  conts : List Con
/-- the cells of an event whose containers stand as a slice -/
abbrev opc (o : Opv) (ao : Option Addr) (n c : Nat) : Array Value := #[.int .i64 o.kind, .string (bs o.queue), .int .i64 o.app, .int .i64 o.ask.mem, .int .i64 o.ask.cpu, .int .i64 o.ask.count, .string (bs o.ask.node), .int .i64 o.ask.missed, .int .i64 o.cont, .string (bs o.node), .int .i64 o.mem, .int .i64 o.cpu, .slice ao n c]
abbrev opv (o : Opv) (ao : Option Addr) (n c : Nat) : Value := .agg (opc o ao n c)
/-- what a reading allows -/
def OpFit (o : Opv) (n : Nat) : Prop := (o.queue.length ≤ 9223372036854775807 ∧ o.node.length ≤ 9223372036854775807 ∧ AskFit o.ask ∧ n ≤ 9223372036854775807 ∧ ∀ q ∈ o.conts, ConFit q) ∧ (Lit.int .i64 o.kind).wf = true ∧ (Lit.int .i64 o.app).wf = true ∧ (Lit.int .i64 o.cont).wf = true ∧ (Lit.int .i64 o.mem).wf = true ∧ (Lit.int .i64 o.cpu).wf = true
/-- not too much -/
def FitOp (o : Opv) : Prop := o.queue.length ≤ 1048576 ∧ o.ask.node.length ≤ 1048576 ∧ o.node.length ≤ 1048576 ∧ FitCon o.conts

set_option maxRecDepth 100000 in
set_option maxHeartbeats 2000000 in
theorem szOp_any (o : Opv) (ao : Option Addr) (n c : Nat) (w : World) (h : ConRow w ao n o.conts) (hn : OpFit o n) :
    Calls Tryd.prog 5 #[opv o ao n c, .int .i64 1048576] w fun e w' => ∃ r : Int, e = .returned (.int .i64 r) ∧ (r = -1 ∨ (0 ≤ r ∧ FitOp o)) ∧ Below w.heap.size w w' := by
  obtain ⟨kind, queue, app, ⟨am, ac, an, ad, ai⟩, cont, node, mem, cpu, conts⟩ := o
  obtain ⟨⟨hq, hnd, hak, hnn, hcs⟩, _⟩ := hn
  have hak := hak.1
  simp only at h hq hnd hak hcs
  have zq := bs_size queue
  have zn := bs_size node
  have HB0 := hide (below_al (Below.refl _ w) (.cells (opc ⟨kind, queue, app, ⟨am, ac, an, ad, ai⟩, cont, node, mem, cpu, conts⟩ ao n c) 28))
  have P0 := hide (blk_new w (opc ⟨kind, queue, app, ⟨am, ac, an, ad, ai⟩, cont, node, mem, cpu, conts⟩ ao n c) 28)
  have CA := hide (fun a0 wx h0 h1 => szAsk_any ⟨am, ac, an, ad, ai⟩ a0 wx h0 h1 hak)
  have CC := hide (fun a0 wx (hb : Below w.heap.size w wx) h0 h1 => szContS_any ao n c conts a0 wx (h.below hb) hnn (fun q hq => (hcs q hq).1) h0 h1)
  clear h hcs hak
  by_cases h1 : (1048576 : Int) - queue.length < 0
  · go_enter Tryd.func5, Tryd.ntmps5
    go_wp2
    go_ret
    exact ⟨-1, rfl, .inl rfl, unhide HB0⟩
  go_enter Tryd.func5, Tryd.ntmps5
  go_wp2_with fail
  refine (unhide CA _ _ (by omega) (by omega)).mono ?_
  rintro e w1 ⟨rfl, hb⟩
  have HB1 := hide (below_on (unhide HB0) hb)
  have P1 := hide ((unhide P0).below hb)
  have hr := szAsk_cases ⟨am, ac, an, ad, ai⟩ (1048576 - (queue.length : Int)) (by omega) (by omega)
  obtain ⟨r, hrr⟩ : ∃ r, szAsk ⟨am, ac, an, ad, ai⟩ (1048576 - (queue.length : Int)) = r := ⟨_, rfl⟩
  rw [hrr] at hr ⊢
  clear hb P0 HB0 hrr CA
  rcases hr with rfl | ⟨r0, r1, hf⟩
  · go_wp2
    go_ret
    exact ⟨-1, rfl, .inl rfl, unhide HB1⟩
  simp only at hf
  have p9 := (unhide P1).at 9
  have p12 := (unhide P1).at 12
  simp at p9 p12
  by_cases h2 : r - node.length < 0
  · go_wp2
    go_ret
    exact ⟨-1, rfl, .inl rfl, unhide HB1⟩
  go_wp2_with fail
  refine (unhide CC _ _ (unhide HB1) (by omega) (by omega)).mono ?_
  rintro e w2 ⟨u, rfl, hr, hb⟩
  have HB2 := hide (below_on (unhide HB1) hb)
  clear hb CC P1 HB1 p9 p12
  rcases hr with rfl | ⟨u0, u1, hf2⟩
  · go_wp2
    go_ret
    exact ⟨-1, rfl, .inl rfl, unhide HB2⟩
  have F2 := hide hf2
  clear hf2
  go_wp2
  go_ret
  refine ⟨_, rfl, .inr ⟨u0, ?_, ?_, ?_, unhide F2⟩, unhide HB2⟩
  · simp only; omega
  · exact hf
  · simp only; omega

set_option maxRecDepth 100000 in
set_option maxHeartbeats 8000000 in
theorem toOp_any (o : Opv) (ao : Option Addr) (n c : Nat) (w : World) (h : ConRow w ao n o.conts) (hl : n ≤ 1048576) :
    Calls Tryd.prog 7 #[opv o ao n c] w fun e w' => ∃ g, e = .returned (opv o (some ⟨g, 0, none⟩) n n) ∧ ConBlk w' 57 g n n o.conts ∧ w.heap.size < g ∧ Below w.heap.size w w' := by
  obtain ⟨kind, queue, app, ⟨am, ac, an, ad, ai⟩, cont, node, mem, cpu, conts⟩ := o
  simp only at h
  have HR := hide h
  clear h
  have HB1 := hide (below_al (below_al (below_al (Below.refl _ w) (.cells (opc ⟨kind, queue, app, ⟨am, ac, an, ad, ai⟩, cont, node, mem, cpu, conts⟩ ao n c) 28)) (.cells #[.int .i64 0, .string ByteArray.empty, .int .i64 0, .int .i64 0, .int .i64 0, .int .i64 0, .string ByteArray.empty, .int .i64 0, .int .i64 0, .string ByteArray.empty, .int .i64 0, .int .i64 0, .slice none 0 0] 36)) (.cells #[.int .i64 kind, .string (bs queue), .int .i64 app, .int .i64 0, .int .i64 0, .int .i64 0, .string ByteArray.empty, .int .i64 0, .int .i64 0, .string ByteArray.empty, .int .i64 0, .int .i64 0, .slice none 0 0] 36))
  have P1 := hide (((blk_new w (opc ⟨kind, queue, app, ⟨am, ac, an, ad, ai⟩, cont, node, mem, cpu, conts⟩ ao n c) 28).al (.cells #[.int .i64 0, .string ByteArray.empty, .int .i64 0, .int .i64 0, .int .i64 0, .int .i64 0, .string ByteArray.empty, .int .i64 0, .int .i64 0, .string ByteArray.empty, .int .i64 0, .int .i64 0, .slice none 0 0] 36)).al (.cells #[.int .i64 kind, .string (bs queue), .int .i64 app, .int .i64 0, .int .i64 0, .int .i64 0, .string ByteArray.empty, .int .i64 0, .int .i64 0, .string ByteArray.empty, .int .i64 0, .int .i64 0, .slice none 0 0] 36))
  have R1 := hide (show Blk _ (w.heap.size + 1) #[.int .i64 0, .string ByteArray.empty, .int .i64 0, .int .i64 0, .int .i64 0, .int .i64 0, .string ByteArray.empty, .int .i64 0, .int .i64 0, .string ByteArray.empty, .int .i64 0, .int .i64 0, .slice none 0 0] 36 by have := (blk_new (w.alloc (.cells (opc ⟨kind, queue, app, ⟨am, ac, an, ad, ai⟩, cont, node, mem, cpu, conts⟩ ao n c) 28)) #[.int .i64 0, .string ByteArray.empty, .int .i64 0, .int .i64 0, .int .i64 0, .int .i64 0, .string ByteArray.empty, .int .i64 0, .int .i64 0, .string ByteArray.empty, .int .i64 0, .int .i64 0, .slice none 0 0] 36).al (.cells #[.int .i64 kind, .string (bs queue), .int .i64 app, .int .i64 0, .int .i64 0, .int .i64 0, .string ByteArray.empty, .int .i64 0, .int .i64 0, .string ByteArray.empty, .int .i64 0, .int .i64 0, .slice none 0 0] 36); rwa [al_size] at this)
  have O1 := hide (show Blk _ (w.heap.size + 1 + 1) #[.int .i64 kind, .string (bs queue), .int .i64 app, .int .i64 0, .int .i64 0, .int .i64 0, .string ByteArray.empty, .int .i64 0, .int .i64 0, .string ByteArray.empty, .int .i64 0, .int .i64 0, .slice none 0 0] 36 by have := blk_new ((w.alloc (.cells (opc ⟨kind, queue, app, ⟨am, ac, an, ad, ai⟩, cont, node, mem, cpu, conts⟩ ao n c) 28)).alloc (.cells #[.int .i64 0, .string ByteArray.empty, .int .i64 0, .int .i64 0, .int .i64 0, .int .i64 0, .string ByteArray.empty, .int .i64 0, .int .i64 0, .string ByteArray.empty, .int .i64 0, .int .i64 0, .slice none 0 0] 36)) #[.int .i64 kind, .string (bs queue), .int .i64 app, .int .i64 0, .int .i64 0, .int .i64 0, .string ByteArray.empty, .int .i64 0, .int .i64 0, .string ByteArray.empty, .int .i64 0, .int .i64 0, .slice none 0 0] 36; rwa [al_size, al_size] at this)
  go_enter Tryd.func7, Tryd.ntmps7
  have p3 := (unhide P1).at 3; have p4 := (unhide P1).at 4; have p5 := (unhide P1).at 5; have p6 := (unhide P1).at 6; have p7 := (unhide P1).at 7
  simp at p3 p4 p5 p6 p7
  go_wp2_with fail
  refine (toAsk_any ⟨am, ac, an, ad, ai⟩ _).mono ?_
  rintro e w2 ⟨rfl, hb⟩
  have HB2 := hide (below_on (unhide HB1) hb)
  have P2 := hide ((unhide P1).below hb)
  have R2 := hide ((unhide R1).below hb)
  have O2 := hide ((unhide O1).below hb)
  clear hb HB1 P1 R1 O1 p3 p4 p5 p6 p7
  have p8 := (unhide P2).at 8; have p9 := (unhide P2).at 9; have p10 := (unhide P2).at 10; have p11 := (unhide P2).at 11
  simp at p8 p9 p10 p11
  have o3 := (unhide O2).at 3; have o4 := (unhide O2).at 4; have o5 := (unhide O2).at 5; have o6 := (unhide O2).at 6; have o7 := (unhide O2).at 7; have o8 := (unhide O2).at 8; have o9 := (unhide O2).at 9
  have of3 := (unhide O2).f 3; have of4 := (unhide O2).f 4; have of5 := (unhide O2).f 5; have of6 := (unhide O2).f 6; have of7 := (unhide O2).f 7; have of8 := (unhide O2).f 8; have of9 := (unhide O2).f 9
  simp at o3 o4 o5 o6 o7 o8 o9
  go_upto_region 8 with fail
  have HB3 := hide (below_sc (below_sc (below_sc (below_sc (below_sc (below_sc (below_sc (unhide HB2) (w.heap.size + 1 + 1) 3 (.int .i64 am) (by omega)) (w.heap.size + 1 + 1) 4 (.int .i64 ac) (by omega)) (w.heap.size + 1 + 1) 5 (.int .i64 an) (by omega)) (w.heap.size + 1 + 1) 6 (.string (bs ad)) (by omega)) (w.heap.size + 1 + 1) 7 (.int .i64 ai) (by omega)) (w.heap.size + 1 + 1) 8 (.int .i64 cont) (by omega)) (w.heap.size + 1 + 1) 9 (.string (bs node)) (by omega))
  have P3 := hide ((((((((unhide P2).other (w.heap.size + 1 + 1) 3 (.int .i64 am) (by omega)).other (w.heap.size + 1 + 1) 4 (.int .i64 ac) (by omega)).other (w.heap.size + 1 + 1) 5 (.int .i64 an) (by omega)).other (w.heap.size + 1 + 1) 6 (.string (bs ad)) (by omega)).other (w.heap.size + 1 + 1) 7 (.int .i64 ai) (by omega)).other (w.heap.size + 1 + 1) 8 (.int .i64 cont) (by omega)).other (w.heap.size + 1 + 1) 9 (.string (bs node)) (by omega))
  have R3 := hide ((((((((unhide R2).other (w.heap.size + 1 + 1) 3 (.int .i64 am) (by omega)).other (w.heap.size + 1 + 1) 4 (.int .i64 ac) (by omega)).other (w.heap.size + 1 + 1) 5 (.int .i64 an) (by omega)).other (w.heap.size + 1 + 1) 6 (.string (bs ad)) (by omega)).other (w.heap.size + 1 + 1) 7 (.int .i64 ai) (by omega)).other (w.heap.size + 1 + 1) 8 (.int .i64 cont) (by omega)).other (w.heap.size + 1 + 1) 9 (.string (bs node)) (by omega))
  have O3 := hide (show Blk (((((((w2.setCell ⟨w.heap.size + 1 + 1, 3, none⟩ (.int .i64 am)).setCell ⟨w.heap.size + 1 + 1, 4, none⟩ (.int .i64 ac)).setCell ⟨w.heap.size + 1 + 1, 5, none⟩ (.int .i64 an)).setCell ⟨w.heap.size + 1 + 1, 6, none⟩ (.string (bs ad))).setCell ⟨w.heap.size + 1 + 1, 7, none⟩ (.int .i64 ai)).setCell ⟨w.heap.size + 1 + 1, 8, none⟩ (.int .i64 cont)).setCell ⟨w.heap.size + 1 + 1, 9, none⟩ (.string (bs node))) (w.heap.size + 1 + 1) #[.int .i64 kind, .string (bs queue), .int .i64 app, .int .i64 am, .int .i64 ac, .int .i64 an, .string (bs ad), .int .i64 ai, .int .i64 cont, .string (bs node), .int .i64 0, .int .i64 0, .slice none 0 0] 36 from ((((((((unhide O2).set 3 (.int .i64 am)).set 4 (.int .i64 ac)).set 5 (.int .i64 an)).set 6 (.string (bs ad))).set 7 (.int .i64 ai)).set 8 (.int .i64 cont)).set 9 (.string (bs node))))
  generalize (((((((w2.setCell ⟨w.heap.size + 1 + 1, 3, none⟩ (.int .i64 am)).setCell ⟨w.heap.size + 1 + 1, 4, none⟩ (.int .i64 ac)).setCell ⟨w.heap.size + 1 + 1, 5, none⟩ (.int .i64 an)).setCell ⟨w.heap.size + 1 + 1, 6, none⟩ (.string (bs ad))).setCell ⟨w.heap.size + 1 + 1, 7, none⟩ (.int .i64 ai)).setCell ⟨w.heap.size + 1 + 1, 8, none⟩ (.int .i64 cont)).setCell ⟨w.heap.size + 1 + 1, 9, none⟩ (.string (bs node))) = v3 at HB3 P3 R3 O3 ⊢
  clear HB2 P2 R2 O2
  clear p8 p9 p10 p11 o3 o4 o5 o6 o7 o8 o9 of3 of4 of5 of6 of7 of8 of9
  have p10 := (unhide P3).at 10; have p11 := (unhide P3).at 11; have p12 := (unhide P3).at 12
  simp at p10 p11 p12
  go_wp2_with fail
  refine (toRes_ex _ _ _).mono ?_
  rintro e w4 ⟨rfl, o1, o2, o3, rfl⟩
  have HB4 := hide (below_al (below_al (below_al (unhide HB3) o1) o2) o3)
  have P4 := hide ((((unhide P3).al o1).al o2).al o3)
  have R4 := hide ((((unhide R3).al o1).al o2).al o3)
  have O4 := hide ((((unhide O3).al o1).al o2).al o3)
  generalize (((v3.alloc o1).alloc o2).alloc o3) = w4 at HB4 P4 R4 O4 ⊢
  clear HB3 P3 R3 O3 p10 p11 p12 o1 o2 o3
  have p12 := (unhide P4).at 12
  simp at p12
  have o10 := (unhide O4).at 10; have o11 := (unhide O4).at 11
  have of10 := (unhide O4).f 10; have of11 := (unhide O4).f 11
  simp at o10 o11
  go_upto_region 9 with fail
  have HB5 := hide (below_sc (below_sc (unhide HB4) (w.heap.size + 1 + 1) 10 (.int .i64 mem) (by omega)) (w.heap.size + 1 + 1) 11 (.int .i64 cpu) (by omega))
  have P5 := hide (((unhide P4).other (w.heap.size + 1 + 1) 10 (.int .i64 mem) (by omega)).other (w.heap.size + 1 + 1) 11 (.int .i64 cpu) (by omega))
  have R5 := hide (((unhide R4).other (w.heap.size + 1 + 1) 10 (.int .i64 mem) (by omega)).other (w.heap.size + 1 + 1) 11 (.int .i64 cpu) (by omega))
  have O5 := hide (show Blk ((w4.setCell ⟨w.heap.size + 1 + 1, 10, none⟩ (.int .i64 mem)).setCell ⟨w.heap.size + 1 + 1, 11, none⟩ (.int .i64 cpu)) (w.heap.size + 1 + 1) #[.int .i64 kind, .string (bs queue), .int .i64 app, .int .i64 am, .int .i64 ac, .int .i64 an, .string (bs ad), .int .i64 ai, .int .i64 cont, .string (bs node), .int .i64 mem, .int .i64 cpu, .slice none 0 0] 36 from (((unhide O4).set 10 (.int .i64 mem)).set 11 (.int .i64 cpu)))
  generalize ((w4.setCell ⟨w.heap.size + 1 + 1, 10, none⟩ (.int .i64 mem)).setCell ⟨w.heap.size + 1 + 1, 11, none⟩ (.int .i64 cpu)) = v5 at HB5 P5 R5 O5 ⊢
  clear HB4 P4 R4 O4
  clear p12 o10 o11 of10 of11
  have p12 := (unhide P5).at 12
  simp at p12
  go_wp2_with fail
  refine (toContS_any ao n c conts _ ((unhide HR).below (unhide HB5)) hl).mono ?_
  rintro e w6 ⟨rfl, hq, hb⟩
  have HB6 := hide (below_on (unhide HB5) hb)
  have R6 := hide ((unhide R5).below hb)
  have O6 := hide ((unhide O5).below hb)
  have hg := (unhide O5).lt
  obtain ⟨g, hgg⟩ : ∃ g, v5.heap.size = g := ⟨_, rfl⟩
  rw [hgg] at hq hg ⊢
  have C6 := hide hq
  clear hb HB5 P5 R5 O5 hq hgg p12
  have o12 := (unhide O6).at 12
  have of12 := (unhide O6).f 12
  simp at o12
  go_upto_region 10 with fail
  have HB7 := hide (below_sc (unhide HB6) (w.heap.size + 1 + 1) 12 (.slice (some ⟨g, 0, none⟩) n n) (by omega))
  have R7 := hide ((unhide R6).other (w.heap.size + 1 + 1) 12 (.slice (some ⟨g, 0, none⟩) n n) (by omega))
  have C7 := hide ((unhide C6).other (w.heap.size + 1 + 1) 12 (.slice (some ⟨g, 0, none⟩) n n) (by omega))
  have O7 := hide (show Blk (w6.setCell ⟨w.heap.size + 1 + 1, 12, none⟩ (.slice (some ⟨g, 0, none⟩) n n)) (w.heap.size + 1 + 1) #[.int .i64 kind, .string (bs queue), .int .i64 app, .int .i64 am, .int .i64 ac, .int .i64 an, .string (bs ad), .int .i64 ai, .int .i64 cont, .string (bs node), .int .i64 mem, .int .i64 cpu, .slice (some ⟨g, 0, none⟩) n n] 36 from (unhide O6).set 12 (.slice (some ⟨g, 0, none⟩) n n))
  generalize (w6.setCell ⟨w.heap.size + 1 + 1, 12, none⟩ (.slice (some ⟨g, 0, none⟩) n n)) = w7 at HB7 R7 C7 O7 ⊢
  clear HB6 R6 C6 O6 o12 of12 HR
  have o0 := (unhide O7).at 0; have o1 := (unhide O7).at 1; have o2 := (unhide O7).at 2; have o3 := (unhide O7).at 3; have o4 := (unhide O7).at 4; have o5 := (unhide O7).at 5; have o6 := (unhide O7).at 6; have o7 := (unhide O7).at 7; have o8 := (unhide O7).at 8; have o9 := (unhide O7).at 9; have o10 := (unhide O7).at 10; have o11 := (unhide O7).at 11; have o12 := (unhide O7).at 12
  have r0 := (unhide R7).at 0; have r1 := (unhide R7).at 1; have r2 := (unhide R7).at 2; have r3 := (unhide R7).at 3; have r4 := (unhide R7).at 4; have r5 := (unhide R7).at 5; have r6 := (unhide R7).at 6; have r7 := (unhide R7).at 7; have r8 := (unhide R7).at 8; have r9 := (unhide R7).at 9; have r10 := (unhide R7).at 10; have r11 := (unhide R7).at 11; have r12 := (unhide R7).at 12
  have rf0 := (unhide R7).f 0; have rf1 := (unhide R7).f 1; have rf2 := (unhide R7).f 2; have rf3 := (unhide R7).f 3; have rf4 := (unhide R7).f 4; have rf5 := (unhide R7).f 5; have rf6 := (unhide R7).f 6; have rf7 := (unhide R7).f 7; have rf8 := (unhide R7).f 8; have rf9 := (unhide R7).f 9; have rf10 := (unhide R7).f 10; have rf11 := (unhide R7).f 11; have rf12 := (unhide R7).f 12
  simp at o0 r0 o1 r1 o2 r2 o3 r3 o4 r4 o5 r5 o6 r6 o7 r7 o8 r8 o9 r9 o10 r10 o11 r11 o12 r12
  clear O7
  go_wp2
  have HB8 := hide (show Below w.heap.size w (((((((((((((w7.setCell ⟨w.heap.size + 1, 0, none⟩ (.int .i64 kind)).setCell ⟨w.heap.size + 1, 1, none⟩ (.string (bs queue))).setCell ⟨w.heap.size + 1, 2, none⟩ (.int .i64 app)).setCell ⟨w.heap.size + 1, 3, none⟩ (.int .i64 am)).setCell ⟨w.heap.size + 1, 4, none⟩ (.int .i64 ac)).setCell ⟨w.heap.size + 1, 5, none⟩ (.int .i64 an)).setCell ⟨w.heap.size + 1, 6, none⟩ (.string (bs ad))).setCell ⟨w.heap.size + 1, 7, none⟩ (.int .i64 ai)).setCell ⟨w.heap.size + 1, 8, none⟩ (.int .i64 cont)).setCell ⟨w.heap.size + 1, 9, none⟩ (.string (bs node))).setCell ⟨w.heap.size + 1, 10, none⟩ (.int .i64 mem)).setCell ⟨w.heap.size + 1, 11, none⟩ (.int .i64 cpu)).setCell ⟨w.heap.size + 1, 12, none⟩ (.slice (some ⟨g, 0, none⟩) n n)) from below_sets (unhide HB7) (by omega) 0 [.int .i64 kind, .string (bs queue), .int .i64 app, .int .i64 am, .int .i64 ac, .int .i64 an, .string (bs ad), .int .i64 ai, .int .i64 cont, .string (bs node), .int .i64 mem, .int .i64 cpu, .slice (some ⟨g, 0, none⟩) n n])
  have C8 := hide (show ConBlk (((((((((((((w7.setCell ⟨w.heap.size + 1, 0, none⟩ (.int .i64 kind)).setCell ⟨w.heap.size + 1, 1, none⟩ (.string (bs queue))).setCell ⟨w.heap.size + 1, 2, none⟩ (.int .i64 app)).setCell ⟨w.heap.size + 1, 3, none⟩ (.int .i64 am)).setCell ⟨w.heap.size + 1, 4, none⟩ (.int .i64 ac)).setCell ⟨w.heap.size + 1, 5, none⟩ (.int .i64 an)).setCell ⟨w.heap.size + 1, 6, none⟩ (.string (bs ad))).setCell ⟨w.heap.size + 1, 7, none⟩ (.int .i64 ai)).setCell ⟨w.heap.size + 1, 8, none⟩ (.int .i64 cont)).setCell ⟨w.heap.size + 1, 9, none⟩ (.string (bs node))).setCell ⟨w.heap.size + 1, 10, none⟩ (.int .i64 mem)).setCell ⟨w.heap.size + 1, 11, none⟩ (.int .i64 cpu)).setCell ⟨w.heap.size + 1, 12, none⟩ (.slice (some ⟨g, 0, none⟩) n n)) 57 g n n conts from sets_keep (P := fun wx => ConBlk wx 57 g n n conts) (fun wx j v hx => hx.other (w.heap.size + 1) j v (by omega)) [.int .i64 kind, .string (bs queue), .int .i64 app, .int .i64 am, .int .i64 ac, .int .i64 an, .string (bs ad), .int .i64 ai, .int .i64 cont, .string (bs node), .int .i64 mem, .int .i64 cpu, .slice (some ⟨g, 0, none⟩) n n] 0 _ (unhide C7))
  have R8 := hide (show Blk (((((((((((((w7.setCell ⟨w.heap.size + 1, 0, none⟩ (.int .i64 kind)).setCell ⟨w.heap.size + 1, 1, none⟩ (.string (bs queue))).setCell ⟨w.heap.size + 1, 2, none⟩ (.int .i64 app)).setCell ⟨w.heap.size + 1, 3, none⟩ (.int .i64 am)).setCell ⟨w.heap.size + 1, 4, none⟩ (.int .i64 ac)).setCell ⟨w.heap.size + 1, 5, none⟩ (.int .i64 an)).setCell ⟨w.heap.size + 1, 6, none⟩ (.string (bs ad))).setCell ⟨w.heap.size + 1, 7, none⟩ (.int .i64 ai)).setCell ⟨w.heap.size + 1, 8, none⟩ (.int .i64 cont)).setCell ⟨w.heap.size + 1, 9, none⟩ (.string (bs node))).setCell ⟨w.heap.size + 1, 10, none⟩ (.int .i64 mem)).setCell ⟨w.heap.size + 1, 11, none⟩ (.int .i64 cpu)).setCell ⟨w.heap.size + 1, 12, none⟩ (.slice (some ⟨g, 0, none⟩) n n)) (w.heap.size + 1) #[.int .i64 kind, .string (bs queue), .int .i64 app, .int .i64 am, .int .i64 ac, .int .i64 an, .string (bs ad), .int .i64 ai, .int .i64 cont, .string (bs node), .int .i64 mem, .int .i64 cpu, .slice (some ⟨g, 0, none⟩) n n] 36 from (unhide R7).sets [.int .i64 kind, .string (bs queue), .int .i64 app, .int .i64 am, .int .i64 ac, .int .i64 an, .string (bs ad), .int .i64 ai, .int .i64 cont, .string (bs node), .int .i64 mem, .int .i64 cpu, .slice (some ⟨g, 0, none⟩) n n] rfl)
  generalize (((((((((((((w7.setCell ⟨w.heap.size + 1, 0, none⟩ (.int .i64 kind)).setCell ⟨w.heap.size + 1, 1, none⟩ (.string (bs queue))).setCell ⟨w.heap.size + 1, 2, none⟩ (.int .i64 app)).setCell ⟨w.heap.size + 1, 3, none⟩ (.int .i64 am)).setCell ⟨w.heap.size + 1, 4, none⟩ (.int .i64 ac)).setCell ⟨w.heap.size + 1, 5, none⟩ (.int .i64 an)).setCell ⟨w.heap.size + 1, 6, none⟩ (.string (bs ad))).setCell ⟨w.heap.size + 1, 7, none⟩ (.int .i64 ai)).setCell ⟨w.heap.size + 1, 8, none⟩ (.int .i64 cont)).setCell ⟨w.heap.size + 1, 9, none⟩ (.string (bs node))).setCell ⟨w.heap.size + 1, 10, none⟩ (.int .i64 mem)).setCell ⟨w.heap.size + 1, 11, none⟩ (.int .i64 cpu)).setCell ⟨w.heap.size + 1, 12, none⟩ (.slice (some ⟨g, 0, none⟩) n n)) = w8 at HB8 C8 R8 ⊢
  clear o0 r0 rf0 o1 r1 rf1 o2 r2 rf2 o3 r3 rf3 o4 r4 rf4 o5 r5 rf5 o6 r6 rf6 o7 r7 rf7 o8 r8 rf8 o9 r9 rf9 o10 r10 rf10 o11 r11 rf11 o12 r12 rf12 HB7 C7 R7
  have r0 := (unhide R8).at 0; have r1 := (unhide R8).at 1; have r2 := (unhide R8).at 2; have r3 := (unhide R8).at 3; have r4 := (unhide R8).at 4; have r5 := (unhide R8).at 5; have r6 := (unhide R8).at 6; have r7 := (unhide R8).at 7; have r8 := (unhide R8).at 8; have r9 := (unhide R8).at 9; have r10 := (unhide R8).at 10; have r11 := (unhide R8).at 11; have r12 := (unhide R8).at 12
  simp at r0 r1 r2 r3 r4 r5 r6 r7 r8 r9 r10 r11 r12
  refine bodyPost_ret (v := opv ⟨kind, queue, app, ⟨am, ac, an, ad, ai⟩, cont, node, mem, cpu, conts⟩ (some ⟨g, 0, none⟩) n n) (by simp [results, Tryd.results7, go_sem, r0, r1, r2, r3, r4, r5, r6, r7, r8, r9, r10, r11, r12]) rfl ⟨g, rfl, unhide C8, ?_, unhide HB8⟩
  omega

/-- the two events that are compared stand in two variables; nothing of w has turned -/
def EqOp (w : World) (o : Opv) (ao bo : Option Addr) (n c d : Nat) (wx : World) : Prop := Blk wx w.heap.size (opc o ao n c) 36 ∧ Blk wx (w.heap.size + 1) (opc o bo n d) 36 ∧ Below w.heap.size w wx
theorem EqOp.call {w wx wy : World} {o : Opv} {ao bo : Option Addr} {n c d : Nat} (h : EqOp w o ao bo n c d wx) (hb : Below wx.heap.size wx wy) : EqOp w o ao bo n c d wy := ⟨h.1.below hb, h.2.1.below hb, below_on h.2.2 hb⟩
theorem EqOp.new (w : World) (o : Opv) (ao bo : Option Addr) (n c d : Nat) : EqOp w o ao bo n c d ((w.alloc (.cells (opc o ao n c) 36)).alloc (.cells (opc o bo n d) 36)) :=
  ⟨(blk_new _ _ _).al _, by have := blk_new (w.alloc (.cells (opc o ao n c) 36)) (opc o bo n d) 36; rwa [al_size] at this, below_al (below_al (Below.refl _ _) _) _⟩
set_option maxRecDepth 100000 in
set_option maxHeartbeats 4000000 in
theorem eqOp_same (o : Opv) (ao bo : Option Addr) (n c d : Nat) (w : World) (h : ConRow w ao n o.conts) (h' : ConRow w bo n o.conts) (hl : n ≤ 1048576) :
    Calls Tryd.prog 9 #[opv o ao n c, opv o bo n d] w fun e w' => e = .returned (.bool true) ∧ Below w.heap.size w w' := by
  have E0 := hide (EqOp.new w o ao bo n c d)
  have CC := hide (fun wx (hb : Below w.heap.size w wx) => eqContS_same ao bo n c d o.conts wx (h.below hb) (h'.below hb) hl)
  obtain ⟨kind, queue, app, ⟨am, ac, an, ad, ai⟩, cont, node, mem, cpu, conts⟩ := o
  clear h h'
  try simp only at CC
  go_enter Tryd.func9, Tryd.ntmps9
  go_wp2_with fail
  refine (eqAsk_same ⟨am, ac, an, ad, ai⟩ _).mono ?_
  rintro e w1 ⟨rfl, hb⟩
  have E1 := hide ((unhide E0).call hb)
  clear hb E0
  have a8 := (unhide E1).1.at 8; have a9 := (unhide E1).1.at 9; have a10 := (unhide E1).1.at 10; have a11 := (unhide E1).1.at 11; have a12 := (unhide E1).1.at 12
  have b8 := (unhide E1).2.1.at 8; have b9 := (unhide E1).2.1.at 9; have b10 := (unhide E1).2.1.at 10; have b11 := (unhide E1).2.1.at 11; have b12 := (unhide E1).2.1.at 12
  simp at a8 b8 a9 b9 a10 b10 a11 b11 a12 b12
  go_wp2_with fail
  refine (eqRes_ex _ _ _).mono ?_
  rintro e w2 ⟨rfl, o1, o2, nn, rfl⟩
  have E2 := hide ((unhide E1).call (below_dn (below_al (below_al (Below.refl _ _) o1) o2) nn))
  generalize ((w1.alloc o1).alloc o2).drewN nn = w2 at E2 ⊢
  clear E1 a8 b8 a9 b9 a10 b10 a11 b11 a12 b12
  have a12 := (unhide E2).1.at 12
  have b12 := (unhide E2).2.1.at 12
  simp at a12 b12
  go_wp2_with fail
  refine (unhide CC _ (unhide E2).2.2).mono ?_
  rintro e w3 ⟨rfl, hb⟩
  have E3 := hide ((unhide E2).call hb)
  clear hb E2 a12 b12
  go_wp2
  go_ret
  exact ⟨rfl, (unhide E3).2.2⟩

theorem cells_lop : Tryd.prog.cellsOf 28 = 13 := by kernel_rfl
theorem cells_lcs : Tryd.prog.cellsOf 26 = 1 := by kernel_rfl
theorem slice_cells {H : Type} {enc : TypeId × Value → H} {W : World} {base : Nat} {held : Bool} {t e : TypeId} {fuel : Nat} {c : Value} {x : DataW H × List MemPlace} (hu : Tryd.prog.underlying t = some (.slice e))
    (h : DataW.trod enc Tryd.prog W base (fun _ => true) held fuel t [c] = some x) : ∃ ao len cap, c = .slice ao len cap := by
  rcases open_slice hu h with ⟨hcs, _⟩ | ⟨a, len', cap', m, n, D, Pl, hcs, _⟩
  · simp at hcs; exact ⟨_, _, _, hcs⟩
  · simp at hcs; exact ⟨_, _, _, hcs⟩
set_option maxRecDepth 100000 in
theorem open_opv {H : Type} {enc : TypeId × Value → H} {W : World} {base b0 : Nat} {r : Reach} {held : Bool} {v : Value} {d : DataW H} {p : List MemPlace}
    (hv : Value.okWide Tryd.prog W r b0 28 v) (h : DataW.Trod enc Tryd.prog W base (fun _ => true) held 28 v d p) :
    ∃ (o : Opv) (ao : Option Addr) (n c : Nat), v = opv o ao n c ∧ ConRow W ao n o.conts ∧ OpFit o n := by
  obtain ⟨cs, rfl, hsz⟩ := okWide_struct Tryd.underlying28 hv
  obtain ⟨fuel, hf0⟩ := h
  obtain ⟨cs⟩ := cs
  have hcells : (Value.agg ⟨cs⟩).cells.toList = cs := by simp [Value.cells]
  rw [hcells] at hf0
  obtain ⟨xs, n, rfl, _, hlen, hxs, hf⟩ := DataW.trod_struct Tryd.underlying28 hf0
  rw [cells_lop] at hlen
  have hxs : xs.length = 8 := hxs
  match cs, hlen, xs, hxs with
  | [c0, c1, c2, c3, c4, c5, c6, c7, c8, c9, c10, c11, c12], _, [x0, x1, x2, x3, x4, x5, x6, x7], _ =>
    have h0 := hf 0 _ rfl
    have h1 := hf 1 _ rfl
    have h2 := hf 2 _ rfl
    have h3 := hf 3 _ rfl
    have h4 := hf 4 _ rfl
    have h5 := hf 5 _ rfl
    have h6 := hf 6 _ rfl
    have h7 := hf 7 _ rfl
    obtain ⟨s0, e0, _, b0⟩ := DataW.trod_int Tryd.underlying3 h0
    obtain ⟨s1, e1, _, b1⟩ := DataW.trod_string Tryd.underlying9 h1
    obtain ⟨s2, e2, _, b2⟩ := DataW.trod_int Tryd.underlying3 h2
    obtain ⟨ak, e3, b3⟩ := open_ask1 h3
    obtain ⟨s4, e4, _, b4⟩ := DataW.trod_int Tryd.underlying3 h4
    obtain ⟨s5, e5, _, b5⟩ := DataW.trod_string Tryd.underlying9 h5
    obtain ⟨m, k, e6, b6, b7⟩ := open_rescells h6
    simp [cells_qi, cells_qs, cells_lAsk, cells_lr1, cells_lcs] at e0 e1 e2 e3 e4 e5 e6 h7
    obtain ⟨ca, cl, cc, rfl⟩ := slice_cells Tryd.underlying26 h7
    obtain ⟨lc, hc, k1, k2⟩ := open_cons h7
    obtain ⟨y3, y4, y5, y6, y7⟩ := e3
    obtain ⟨y10, y11⟩ := e6
    subst e0 e1 e2 e4 e5 y3 y4 y5 y6 y7 y10 y11
    refine ⟨⟨s0, s1.data.toList, s2, ak, s4, s5.data.toList, m, k, lc⟩, ca, cl, cc, by simp only [opv, opc, bs_back], hc, ⟨?_, ?_, b3, k1, k2⟩, b0, b2, b4, b6, b7⟩
    · simpa [maxLen] using b1
    · simpa [maxLen] using b5
end Go.Proofs.YthnkbdjombiodaaDoor
