/-
  A new manager, by the program and by the model: ManagerNew; the laws' own comparison and marks of a manager that has nothing but queues; walks over the dump.
-/
import Derived.Test.YthnkbdjombiodaaGreatNewLaw
import Derived.Test.YthnkbdjombiodaaGreatSets
namespace Go.Proofs.YthnkbdjombiodaaGreat
open Go.RowKit
set_option linter.unusedVariables false
set_option linter.unusedSimpArgs false

/-- the cells of a manager of queues alone -/
abbrev mgc (qo : Option Addr) (n c : Nat) (ep nx : Int) : Array Value := #[.slice qo n c, .int .i64 0, .int .i64 ep, .int .i64 nx, .int .i64 ep, .slice none 0 0, .slice none 0 0, .slice none 0 0, .string ⟨#[]⟩, .int .i64 0, .slice none 0 0]
/-- what a call of ManagerNew ends with -/
def MgAns (w : World) (l : List Q) (e : Ending) (w' : World) : Prop := ∃ qo n c, e = .returned (.tuple #[.agg (mgc qo n c (epN l) (nxN l)), .bool (queuesOk l)]) ∧ n = (qlN l).length ∧ QOwn (w.heap.size + 1) w' (.slice qo n c) (qlN l) ∧ Below w.heap.size w w'

set_option maxRecDepth 100000 in
set_option maxHeartbeats 1000000 in
theorem eqReplyS_nil (w : World) :
    Calls Tryz.prog 18 #[.slice none 0 0, .slice none 0 0] w fun e w' => e = .returned (.bool true) ∧ w = w' := by
  go_enter Tryz.func18, Tryz.ntmps18
  go_wp2
  go_loopw [5] (fun i wr => i = .int .i64 0 ∧ wr = w) (fun _ _ => 0)
  case atStart => exact ⟨rfl, rfl⟩
  case round =>
    obtain ⟨rfl, rfl⟩ := hrel
    go_wp2
    go_ret
    exact ⟨rfl, rfl⟩

set_option maxRecDepth 100000 in
set_option maxHeartbeats 1000000 in
theorem markReplyS_nil (K : Int) (w : World) :
    Calls Tryz.prog 22 #[.slice none 0 0, .int .i64 K] w fun e w' => e = .returned (.int .i64 K) ∧ w = w' := by
  go_enter Tryz.func22, Tryz.ntmps22
  go_wp2
  go_loopw [1, 5] (fun s i wr => i = .int .i64 0 ∧ s = .int .i64 K ∧ wr = w) (fun _ _ _ => 0)
  case atStart => exact ⟨rfl, rfl, rfl⟩
  case round =>
    obtain ⟨rfl, rfl, rfl⟩ := hrel
    go_wp2
    go_ret
    exact ⟨rfl, rfl⟩

set_option maxRecDepth 100000 in
set_option maxHeartbeats 1000000 in
theorem heldReplyS_nil (K : Int) (w : World) :
    Calls Tryz.prog 24 #[.slice none 0 0, .int .i64 K] w fun e w' => e = .returned (.int .i64 K) ∧ w = w' := by
  go_enter Tryz.func24, Tryz.ntmps24
  go_wp2
  go_loopw [1, 5] (fun s i wr => i = .int .i64 0 ∧ s = .int .i64 K ∧ wr = w) (fun _ _ _ => 0)
  case atStart => exact ⟨rfl, rfl, rfl⟩
  case round =>
    obtain ⟨rfl, rfl, rfl⟩ := hrel
    go_wp2
    go_ret
    exact ⟨rfl, rfl⟩

set_option maxRecDepth 100000 in
set_option maxHeartbeats 2000000 in
theorem eqManager_same (qo po : Option Addr) (n c d : Nat) (l : List Q) (ep nx : Int) (w : World)
    (h : ∀ wx, Below w.heap.size w wx → Calls Tryz.prog 17 #[.agg (svc (newX qo n c) (newSt l ep nx ep)), .agg (svc (newX po n d) (newSt l ep nx ep))] wx fun e w' => e = .returned (.bool true) ∧ Below wx.heap.size wx w') :
    Calls Tryz.prog 8 #[.agg (mgc qo n c ep nx), .agg (mgc po n d ep nx)] w fun e w' => e = .returned (.bool true) ∧ Below w.heap.size w w' := by
  have HB0 := hide (below_al (below_al (Below.refl _ w) (.cells (mgc qo n c ep nx) 32)) (.cells (mgc po n d ep nx) 32))
  have P0 := hide ((blk_new w (mgc qo n c ep nx) 32).al (.cells (mgc po n d ep nx) 32))
  have P1 := hide (show Blk _ (w.heap.size + 1) (mgc po n d ep nx) 32 by have := blk_new (w.alloc (.cells (mgc qo n c ep nx) 32)) (mgc po n d ep nx) 32; rwa [al_size] at this)
  have C0 := hide (h _ (unhide HB0))
  clear h
  go_enter Tryz.func8, Tryz.ntmps8
  go_wp2_with fail
  refine (unhide C0).mono ?_
  rintro e w1 ⟨rfl, hb⟩
  have HB1 := hide (below_on (unhide HB0) hb)
  have Q0 := hide ((unhide P0).below hb)
  have Q1 := hide ((unhide P1).below hb)
  clear hb HB0 P0 P1 C0
  obtain ⟨a8, a9, a10⟩ : _ ∧ _ ∧ _ := ⟨(unhide Q0).at 8, (unhide Q0).at 9, (unhide Q0).at 10⟩
  obtain ⟨b8, b9, b10⟩ : _ ∧ _ ∧ _ := ⟨(unhide Q1).at 8, (unhide Q1).at 9, (unhide Q1).at 10⟩
  simp at a8 a9 a10 b8 b9 b10
  go_wp2_with fail
  refine (eqReplyS_nil _).mono ?_
  rintro e w2 ⟨rfl, rfl⟩
  go_wp2
  go_ret
  exact ⟨rfl, unhide HB1⟩

set_option maxRecDepth 100000 in
set_option maxHeartbeats 2000000 in
theorem markMg_own {B n c : Nat} {qo : Option Addr} {l : List Q} {w : World} (ep nx : Int) (h : QOwn B w (.slice qo n c) l) (hn : n = l.length) (hl : n ≤ 1048576) :
    Calls Tryz.prog 11 #[.agg (mgc qo n c ep nx), .int .i64 1] w fun e w' => e = .returned (.int .i64 (1 + 4 * (n : Int))) ∧ Marked w' qo n ∧ w.grownBy w' (Value.slice qo n c).ownBlock := by
  have LK := hide (fun k hk => (own_lt h k hk).2)
  have P0 := hide (blk_new w (mgc qo n c ep nx) 32)
  have C0 := hide (markSt_own ep nx ep (h.below (below_al (Below.refl _ w) (.cells (mgc qo n c ep nx) 32))) hn hl)
  have HG0 := hide (World.grownBy_alloc w (.cells (mgc qo n c ep nx) 32) (Value.slice qo n c).ownBlock)
  clear h hn
  go_enter Tryz.func11, Tryz.ntmps11
  go_wp2_with fail
  refine (unhide C0).mono ?_
  rintro e w1 ⟨rfl, hm, hg⟩
  have Q0 := hide (show Blk w1 w.heap.size _ 32 from (hg.block _ (unhide P0).lt (fun e => by have := unhide LK _ e.symm; omega)).trans (unhide P0))
  have HM := hide hm
  have HG := hide (grownBy_trans (unhide HG0) hg)
  clear hm hg HG0 P0 C0
  have a10 := (unhide Q0).at 10
  simp at a10
  go_wp2_with fail
  refine (markReplyS_nil _ _).mono ?_
  rintro e w2 ⟨rfl, rfl⟩
  go_wp2
  go_ret
  exact ⟨rfl, unhide HM, unhide HG⟩

set_option maxRecDepth 100000 in
set_option maxHeartbeats 2000000 in
theorem heldMg_own {n c : Nat} {qo : Option Addr} {w : World} (l : List Q) (ep nx : Int) (h : Marked w qo n) (hl : n ≤ 1048576) :
    Calls Tryz.prog 12 #[.agg (mgc qo n c ep nx), .int .i64 1] w fun e w' => e = .returned (.int .i64 (1 + 4 * (n : Int))) ∧ Below w.heap.size w w' := by
  have P0 := hide (blk_new w (mgc qo n c ep nx) 32)
  have HB0 := hide (below_al (Below.refl _ w) (.cells (mgc qo n c ep nx) 32))
  have C0 := hide (heldSt_own (c := c) l ep nx ep (h.below (unhide HB0)) hl)
  have hk : ¬ (1 + 4 * (n : Int)) < 0 := by omega
  clear h
  go_enter Tryz.func12, Tryz.ntmps12
  go_wp2_with fail
  refine (unhide C0).mono ?_
  rintro e w1 ⟨rfl, hb⟩
  have Q0 := hide ((unhide P0).below hb)
  have HB1 := hide (below_on (unhide HB0) hb)
  clear hb HB0 P0 C0
  have a10 := (unhide Q0).at 10
  simp at a10
  go_wp2_with fail
  refine (heldReplyS_nil _ _).mono ?_
  rintro e w2 ⟨rfl, rfl⟩
  go_wp2
  go_ret
  exact ⟨rfl, unhide HB1⟩

set_option maxRecDepth 100000 in
set_option maxHeartbeats 4000000 in
theorem implManagerNew_any (v : Value) (l : List Q) (w : World)
    (CO : ∀ wx, Below w.heap.size w wx → w.heap.size < wx.heap.size → Calls Tryz.prog 16 #[v] wx fun e w' => ∃ qo n c, e = .returned (.tuple #[.agg (svc (newX qo n c) (newSt (qlN l) (epN l) (nxN l) (epN l))), .bool (queuesOk l)]) ∧ n = (qlN l).length ∧ QOwn (wx.heap.size + 1) w' (.slice qo n c) (qlN l) ∧ Below wx.heap.size wx w') :
    Calls Tryz.prog 7 #[v] w (MgAns w l) := by
  obtain ⟨o, ho⟩ : ∃ o, queuesOk l = o := ⟨_, rfl⟩
  obtain ⟨ep, hep⟩ : ∃ o, epN l = o := ⟨_, rfl⟩
  obtain ⟨nx, hnx⟩ : ∃ o, nxN l = o := ⟨_, rfl⟩
  have HZ := hide (fun (h : queuesOk l = false) => show qlN l = [] ∧ epN l = 0 ∧ nxN l = 0 by simp [qlN, epN, nxN, h])
  obtain ⟨ql, hql⟩ : ∃ o, qlN l = o := ⟨_, rfl⟩
  have HF := hide (fun (e : Ending) (w' : World) => (show MgAns w l e w' ↔ ∃ qo n c, e = .returned (.tuple #[.agg (mgc qo n c ep nx), .bool o]) ∧ n = ql.length ∧ QOwn (w.heap.size + 1) w' (.slice qo n c) ql ∧ Below w.heap.size w w' by unfold MgAns; rw [ho, hep, hnx, hql]))
  rw [ho, hep, hnx, hql] at CO
  rw [ho, hep, hnx, hql] at HZ
  have HB0 := hide (below_al (Below.refl _ w) (.cells #[.slice none 0 0, .int .i64 0, .int .i64 0, .int .i64 0, .int .i64 0, .slice none 0 0, .slice none 0 0, .slice none 0 0, .string ⟨#[]⟩, .int .i64 0, .slice none 0 0] 32))
  have P0 := hide (blk_new w #[.slice none 0 0, .int .i64 0, .int .i64 0, .int .i64 0, .int .i64 0, .slice none 0 0, .slice none 0 0, .slice none 0 0, .string ⟨#[]⟩, .int .i64 0, .slice none 0 0] 32)
  have C0 := hide (CO _ (unhide HB0) (by rw [al_size]; omega))
  have hsz := al_size w (.cells #[.slice none 0 0, .int .i64 0, .int .i64 0, .int .i64 0, .int .i64 0, .slice none 0 0, .slice none 0 0, .slice none 0 0, .string ⟨#[]⟩, .int .i64 0, .slice none 0 0] 32)
  clear CO ho hep hnx hql
  go_enter Tryz.func7, Tryz.ntmps7
  go_wp2_with fail
  refine (unhide C0).mono ?_
  rintro e w1 ⟨qo, n, c, rfl, hn, hown, hb⟩
  have HN := hide hn
  have HB1 := hide (below_al (below_on (unhide HB0) hb) (.cells (svc (newX qo n c) (newSt ql ep nx ep)) 29))
  have Q0 := hide (((unhide P0).below hb).al (.cells (svc (newX qo n c) (newSt ql ep nx ep)) 29))
  have S1 := hide (blk_new w1 (svc (newX qo n c) (newSt ql ep nx ep)) 29)
  have HO := hide (qown_base (hown.below (below_al (Below.refl _ w1) (.cells (svc (newX qo n c) (newSt ql ep nx ep)) 29))) (show w.heap.size + 1 ≤ _ by omega))
  clear hn hown hb HB0 P0 C0 hsz
  have a0 := (unhide S1).at 0; have a1 := (unhide S1).at 1; have a2 := (unhide S1).at 2; have a3 := (unhide S1).at 3; have a4 := (unhide S1).at 4; have a5 := (unhide S1).at 5; have a6 := (unhide S1).at 6; have a7 := (unhide S1).at 7
  have af0 := (unhide S1).f 0; have af1 := (unhide S1).f 1; have af2 := (unhide S1).f 2; have af3 := (unhide S1).f 3; have af4 := (unhide S1).f 4; have af5 := (unhide S1).f 5; have af6 := (unhide S1).f 6; have af7 := (unhide S1).f 7
  simp at a0 a1 a2 a3 a4 a5 a6 a7
  have c0 := (unhide Q0).at 0; have c1 := (unhide Q0).at 1; have c2 := (unhide Q0).at 2; have c3 := (unhide Q0).at 3; have c4 := (unhide Q0).at 4; have c5 := (unhide Q0).at 5; have c6 := (unhide Q0).at 6; have c7 := (unhide Q0).at 7; have c8 := (unhide Q0).at 8; have c9 := (unhide Q0).at 9; have c10 := (unhide Q0).at 10
  have rf0 := (unhide Q0).f 0; have rf1 := (unhide Q0).f 1; have rf2 := (unhide Q0).f 2; have rf3 := (unhide Q0).f 3; have rf4 := (unhide Q0).f 4; have rf5 := (unhide Q0).f 5; have rf6 := (unhide Q0).f 6; have rf7 := (unhide Q0).f 7; have rf8 := (unhide Q0).f 8; have rf9 := (unhide Q0).f 9; have rf10 := (unhide Q0).f 10
  simp at c0 c1 c2 c3 c4 c5 c6 c7 c8 c9 c10
  go_wp2
  have HB9 := hide (show Below w.heap.size w ((((((((((((w1.alloc (.cells (svc (newX qo n c) (newSt ql ep nx ep)) 29)).setCell ⟨w.heap.size, 0, none⟩ (.slice qo n c)).setCell ⟨w.heap.size, 1, none⟩ (.int .i64 0)).setCell ⟨w.heap.size, 2, none⟩ (.int .i64 ep)).setCell ⟨w.heap.size, 3, none⟩ (.int .i64 nx)).setCell ⟨w.heap.size, 4, none⟩ (.int .i64 ep)).setCell ⟨w.heap.size, 5, none⟩ (.slice none 0 0)).setCell ⟨w.heap.size, 6, none⟩ (.slice none 0 0)).setCell ⟨w.heap.size, 7, none⟩ (.slice none 0 0)).setCell ⟨w.heap.size, 8, none⟩ (.string ⟨#[]⟩)).setCell ⟨w.heap.size, 9, none⟩ (.int .i64 0)).setCell ⟨w.heap.size, 10, none⟩ (.slice none 0 0)) from below_sets (unhide HB1) (Nat.le_refl _) 0 [.slice qo n c, .int .i64 0, .int .i64 ep, .int .i64 nx, .int .i64 ep, .slice none 0 0, .slice none 0 0, .slice none 0 0, .string ⟨#[]⟩, .int .i64 0, .slice none 0 0])
  have R9 := hide (show Blk ((((((((((((w1.alloc (.cells (svc (newX qo n c) (newSt ql ep nx ep)) 29)).setCell ⟨w.heap.size, 0, none⟩ (.slice qo n c)).setCell ⟨w.heap.size, 1, none⟩ (.int .i64 0)).setCell ⟨w.heap.size, 2, none⟩ (.int .i64 ep)).setCell ⟨w.heap.size, 3, none⟩ (.int .i64 nx)).setCell ⟨w.heap.size, 4, none⟩ (.int .i64 ep)).setCell ⟨w.heap.size, 5, none⟩ (.slice none 0 0)).setCell ⟨w.heap.size, 6, none⟩ (.slice none 0 0)).setCell ⟨w.heap.size, 7, none⟩ (.slice none 0 0)).setCell ⟨w.heap.size, 8, none⟩ (.string ⟨#[]⟩)).setCell ⟨w.heap.size, 9, none⟩ (.int .i64 0)).setCell ⟨w.heap.size, 10, none⟩ (.slice none 0 0)) w.heap.size #[.slice qo n c, .int .i64 0, .int .i64 ep, .int .i64 nx, .int .i64 ep, .slice none 0 0, .slice none 0 0, .slice none 0 0, .string ⟨#[]⟩, .int .i64 0, .slice none 0 0] 32 from (unhide Q0).sets [.slice qo n c, .int .i64 0, .int .i64 ep, .int .i64 nx, .int .i64 ep, .slice none 0 0, .slice none 0 0, .slice none 0 0, .string ⟨#[]⟩, .int .i64 0, .slice none 0 0] rfl)
  have O9 := hide (show QOwn (w.heap.size + 1) ((((((((((((w1.alloc (.cells (svc (newX qo n c) (newSt ql ep nx ep)) 29)).setCell ⟨w.heap.size, 0, none⟩ (.slice qo n c)).setCell ⟨w.heap.size, 1, none⟩ (.int .i64 0)).setCell ⟨w.heap.size, 2, none⟩ (.int .i64 ep)).setCell ⟨w.heap.size, 3, none⟩ (.int .i64 nx)).setCell ⟨w.heap.size, 4, none⟩ (.int .i64 ep)).setCell ⟨w.heap.size, 5, none⟩ (.slice none 0 0)).setCell ⟨w.heap.size, 6, none⟩ (.slice none 0 0)).setCell ⟨w.heap.size, 7, none⟩ (.slice none 0 0)).setCell ⟨w.heap.size, 8, none⟩ (.string ⟨#[]⟩)).setCell ⟨w.heap.size, 9, none⟩ (.int .i64 0)).setCell ⟨w.heap.size, 10, none⟩ (.slice none 0 0)) (.slice qo n c) ql from sets_keep (P := fun wx => QOwn (w.heap.size + 1) wx (.slice qo n c) ql) (fun wx j v hx => qown_other hx w.heap.size j v (Nat.lt_succ_self _)) [.slice qo n c, .int .i64 0, .int .i64 ep, .int .i64 nx, .int .i64 ep, .slice none 0 0, .slice none 0 0, .slice none 0 0, .string ⟨#[]⟩, .int .i64 0, .slice none 0 0] 0 _ (unhide HO))
  generalize ((((((((((((w1.alloc (.cells (svc (newX qo n c) (newSt ql ep nx ep)) 29)).setCell ⟨w.heap.size, 0, none⟩ (.slice qo n c)).setCell ⟨w.heap.size, 1, none⟩ (.int .i64 0)).setCell ⟨w.heap.size, 2, none⟩ (.int .i64 ep)).setCell ⟨w.heap.size, 3, none⟩ (.int .i64 nx)).setCell ⟨w.heap.size, 4, none⟩ (.int .i64 ep)).setCell ⟨w.heap.size, 5, none⟩ (.slice none 0 0)).setCell ⟨w.heap.size, 6, none⟩ (.slice none 0 0)).setCell ⟨w.heap.size, 7, none⟩ (.slice none 0 0)).setCell ⟨w.heap.size, 8, none⟩ (.string ⟨#[]⟩)).setCell ⟨w.heap.size, 9, none⟩ (.int .i64 0)).setCell ⟨w.heap.size, 10, none⟩ (.slice none 0 0)) = W9 at HB9 R9 O9 ⊢
  clear c0 c1 c2 c3 c4 c5 c6 c7 c8 c9 c10 rf0 rf1 rf2 rf3 rf4 rf5 rf6 rf7 rf8 rf9 rf10
  have z0 := (unhide R9).at 0; have z1 := (unhide R9).at 1; have z2 := (unhide R9).at 2; have z3 := (unhide R9).at 3; have z4 := (unhide R9).at 4; have z5 := (unhide R9).at 5; have z6 := (unhide R9).at 6; have z7 := (unhide R9).at 7; have z8 := (unhide R9).at 8; have z9 := (unhide R9).at 9; have z10 := (unhide R9).at 10
  simp at z0 z1 z2 z3 z4 z5 z6 z7 z8 z9 z10
  have HM := hide ((unhide HF (.returned (.tuple #[.agg #[.slice qo n c, .int .i64 0, .int .i64 ep, .int .i64 nx, .int .i64 ep, .slice none 0 0, .slice none 0 0, .slice none 0 0, .string ⟨#[]⟩, .int .i64 0, .slice none 0 0], .bool o])) W9).2 ⟨qo, n, c, rfl, unhide HN, unhide O9, unhide HB9⟩)
  refine bodyPost_ret (v := .tuple #[.agg #[.slice qo n c, .int .i64 0, .int .i64 ep, .int .i64 nx, .int .i64 ep, .slice none 0 0, .slice none 0 0, .slice none 0 0, .string ⟨#[]⟩, .int .i64 0, .slice none 0 0], .bool o]) (by simp [results, Tryz.results7, go_sem, z0, z1, z2, z3, z4, z5, z6, z7, z8, z9, z10]) rfl (unhide HM)

set_option maxRecDepth 100000 in
set_option maxHeartbeats 4000000 in
theorem specManagerNew_any (v : Value) (l : List Q) (w : World)
    (CO : ∀ wx, Below w.heap.size w wx → w.heap.size < wx.heap.size → Calls Tryz.prog 14 #[v] wx fun e w' => ∃ qo n c, e = .returned (.tuple #[.agg (svc (newX qo n c) (newSt (qlN l) (epN l) (nxN l) (epN l))), .bool (queuesOk l)]) ∧ n = (qlN l).length ∧ QOwn (wx.heap.size + 1) w' (.slice qo n c) (qlN l) ∧ Below wx.heap.size wx w') :
    Calls Tryz.prog 5 #[v] w (MgAns w l) := by
  obtain ⟨o, ho⟩ : ∃ o, queuesOk l = o := ⟨_, rfl⟩
  obtain ⟨ep, hep⟩ : ∃ o, epN l = o := ⟨_, rfl⟩
  obtain ⟨nx, hnx⟩ : ∃ o, nxN l = o := ⟨_, rfl⟩
  have HZ := hide (fun (h : queuesOk l = false) => show qlN l = [] ∧ epN l = 0 ∧ nxN l = 0 by simp [qlN, epN, nxN, h])
  obtain ⟨ql, hql⟩ : ∃ o, qlN l = o := ⟨_, rfl⟩
  have HF := hide (fun (e : Ending) (w' : World) => (show MgAns w l e w' ↔ ∃ qo n c, e = .returned (.tuple #[.agg (mgc qo n c ep nx), .bool o]) ∧ n = ql.length ∧ QOwn (w.heap.size + 1) w' (.slice qo n c) ql ∧ Below w.heap.size w w' by unfold MgAns; rw [ho, hep, hnx, hql]))
  rw [ho, hep, hnx, hql] at CO
  rw [ho, hep, hnx, hql] at HZ
  have HB0 := hide (below_al (Below.refl _ w) (.cells #[.slice none 0 0, .int .i64 0, .int .i64 0, .int .i64 0, .int .i64 0, .slice none 0 0, .slice none 0 0, .slice none 0 0, .string ⟨#[]⟩, .int .i64 0, .slice none 0 0] 32))
  have P0 := hide (blk_new w #[.slice none 0 0, .int .i64 0, .int .i64 0, .int .i64 0, .int .i64 0, .slice none 0 0, .slice none 0 0, .slice none 0 0, .string ⟨#[]⟩, .int .i64 0, .slice none 0 0] 32)
  have C0 := hide (CO _ (unhide HB0) (by rw [al_size]; omega))
  have hsz := al_size w (.cells #[.slice none 0 0, .int .i64 0, .int .i64 0, .int .i64 0, .int .i64 0, .slice none 0 0, .slice none 0 0, .slice none 0 0, .string ⟨#[]⟩, .int .i64 0, .slice none 0 0] 32)
  clear CO ho hep hnx hql
  go_enter Tryz.func5, Tryz.ntmps5
  go_wp2_with fail
  refine (unhide C0).mono ?_
  rintro e w1 ⟨qo, n, c, rfl, hn, hown, hb⟩
  have HN := hide hn
  have HB1 := hide (below_al (below_on (unhide HB0) hb) (.cells (svc (newX qo n c) (newSt ql ep nx ep)) 29))
  have Q0 := hide (((unhide P0).below hb).al (.cells (svc (newX qo n c) (newSt ql ep nx ep)) 29))
  have S1 := hide (blk_new w1 (svc (newX qo n c) (newSt ql ep nx ep)) 29)
  have HO := hide (qown_base (hown.below (below_al (Below.refl _ w1) (.cells (svc (newX qo n c) (newSt ql ep nx ep)) 29))) (show w.heap.size + 1 ≤ _ by omega))
  clear hn hown hb HB0 P0 C0 hsz
  cases o
  case false =>
    obtain ⟨rfl, rfl, rfl⟩ := unhide HZ rfl
    have c0 := (unhide Q0).at 0; have c1 := (unhide Q0).at 1; have c2 := (unhide Q0).at 2; have c3 := (unhide Q0).at 3; have c4 := (unhide Q0).at 4; have c5 := (unhide Q0).at 5; have c6 := (unhide Q0).at 6; have c7 := (unhide Q0).at 7; have c8 := (unhide Q0).at 8; have c9 := (unhide Q0).at 9; have c10 := (unhide Q0).at 10
    have rf0 := (unhide Q0).f 0; have rf1 := (unhide Q0).f 1; have rf2 := (unhide Q0).f 2; have rf3 := (unhide Q0).f 3; have rf4 := (unhide Q0).f 4; have rf5 := (unhide Q0).f 5; have rf6 := (unhide Q0).f 6; have rf7 := (unhide Q0).f 7; have rf8 := (unhide Q0).f 8; have rf9 := (unhide Q0).f 9; have rf10 := (unhide Q0).f 10
    simp at c0 c1 c2 c3 c4 c5 c6 c7 c8 c9 c10
    go_wp2
    have HB9 := hide (show Below w.heap.size w ((((((((((((w1.alloc (.cells (svc (newX qo n c) (newSt [] 0 0 0)) 29)).setCell ⟨w.heap.size, 0, none⟩ (.slice none 0 0)).setCell ⟨w.heap.size, 1, none⟩ (.int .i64 0)).setCell ⟨w.heap.size, 2, none⟩ (.int .i64 0)).setCell ⟨w.heap.size, 3, none⟩ (.int .i64 0)).setCell ⟨w.heap.size, 4, none⟩ (.int .i64 0)).setCell ⟨w.heap.size, 5, none⟩ (.slice none 0 0)).setCell ⟨w.heap.size, 6, none⟩ (.slice none 0 0)).setCell ⟨w.heap.size, 7, none⟩ (.slice none 0 0)).setCell ⟨w.heap.size, 8, none⟩ (.string ⟨#[]⟩)).setCell ⟨w.heap.size, 9, none⟩ (.int .i64 0)).setCell ⟨w.heap.size, 10, none⟩ (.slice none 0 0)) from below_sets (unhide HB1) (Nat.le_refl _) 0 [.slice none 0 0, .int .i64 0, .int .i64 0, .int .i64 0, .int .i64 0, .slice none 0 0, .slice none 0 0, .slice none 0 0, .string ⟨#[]⟩, .int .i64 0, .slice none 0 0])
    have R9 := hide (show Blk ((((((((((((w1.alloc (.cells (svc (newX qo n c) (newSt [] 0 0 0)) 29)).setCell ⟨w.heap.size, 0, none⟩ (.slice none 0 0)).setCell ⟨w.heap.size, 1, none⟩ (.int .i64 0)).setCell ⟨w.heap.size, 2, none⟩ (.int .i64 0)).setCell ⟨w.heap.size, 3, none⟩ (.int .i64 0)).setCell ⟨w.heap.size, 4, none⟩ (.int .i64 0)).setCell ⟨w.heap.size, 5, none⟩ (.slice none 0 0)).setCell ⟨w.heap.size, 6, none⟩ (.slice none 0 0)).setCell ⟨w.heap.size, 7, none⟩ (.slice none 0 0)).setCell ⟨w.heap.size, 8, none⟩ (.string ⟨#[]⟩)).setCell ⟨w.heap.size, 9, none⟩ (.int .i64 0)).setCell ⟨w.heap.size, 10, none⟩ (.slice none 0 0)) w.heap.size #[.slice none 0 0, .int .i64 0, .int .i64 0, .int .i64 0, .int .i64 0, .slice none 0 0, .slice none 0 0, .slice none 0 0, .string ⟨#[]⟩, .int .i64 0, .slice none 0 0] 32 from (unhide Q0).sets [.slice none 0 0, .int .i64 0, .int .i64 0, .int .i64 0, .int .i64 0, .slice none 0 0, .slice none 0 0, .slice none 0 0, .string ⟨#[]⟩, .int .i64 0, .slice none 0 0] rfl)
    generalize ((((((((((((w1.alloc (.cells (svc (newX qo n c) (newSt [] 0 0 0)) 29)).setCell ⟨w.heap.size, 0, none⟩ (.slice none 0 0)).setCell ⟨w.heap.size, 1, none⟩ (.int .i64 0)).setCell ⟨w.heap.size, 2, none⟩ (.int .i64 0)).setCell ⟨w.heap.size, 3, none⟩ (.int .i64 0)).setCell ⟨w.heap.size, 4, none⟩ (.int .i64 0)).setCell ⟨w.heap.size, 5, none⟩ (.slice none 0 0)).setCell ⟨w.heap.size, 6, none⟩ (.slice none 0 0)).setCell ⟨w.heap.size, 7, none⟩ (.slice none 0 0)).setCell ⟨w.heap.size, 8, none⟩ (.string ⟨#[]⟩)).setCell ⟨w.heap.size, 9, none⟩ (.int .i64 0)).setCell ⟨w.heap.size, 10, none⟩ (.slice none 0 0)) = W9 at HB9 R9 ⊢
    clear c0 c1 c2 c3 c4 c5 c6 c7 c8 c9 c10 rf0 rf1 rf2 rf3 rf4 rf5 rf6 rf7 rf8 rf9 rf10
    have z0 := (unhide R9).at 0; have z1 := (unhide R9).at 1; have z2 := (unhide R9).at 2; have z3 := (unhide R9).at 3; have z4 := (unhide R9).at 4; have z5 := (unhide R9).at 5; have z6 := (unhide R9).at 6; have z7 := (unhide R9).at 7; have z8 := (unhide R9).at 8; have z9 := (unhide R9).at 9; have z10 := (unhide R9).at 10
    simp at z0 z1 z2 z3 z4 z5 z6 z7 z8 z9 z10
    have HM := hide ((unhide HF (.returned (.tuple #[.agg #[.slice none 0 0, .int .i64 0, .int .i64 0, .int .i64 0, .int .i64 0, .slice none 0 0, .slice none 0 0, .slice none 0 0, .string ⟨#[]⟩, .int .i64 0, .slice none 0 0], .bool false])) W9).2 ⟨none, 0, 0, rfl, rfl, qown_nil _ _, unhide HB9⟩)
    refine bodyPost_ret (v := .tuple #[.agg #[.slice none 0 0, .int .i64 0, .int .i64 0, .int .i64 0, .int .i64 0, .slice none 0 0, .slice none 0 0, .slice none 0 0, .string ⟨#[]⟩, .int .i64 0, .slice none 0 0], .bool false]) (by simp [results, Tryz.results5, go_sem, z0, z1, z2, z3, z4, z5, z6, z7, z8, z9, z10]) rfl (unhide HM)
  have a0 := (unhide S1).at 0; have a1 := (unhide S1).at 1; have a2 := (unhide S1).at 2; have a3 := (unhide S1).at 3; have a4 := (unhide S1).at 4; have a5 := (unhide S1).at 5; have a6 := (unhide S1).at 6; have a7 := (unhide S1).at 7
  have af0 := (unhide S1).f 0; have af1 := (unhide S1).f 1; have af2 := (unhide S1).f 2; have af3 := (unhide S1).f 3; have af4 := (unhide S1).f 4; have af5 := (unhide S1).f 5; have af6 := (unhide S1).f 6; have af7 := (unhide S1).f 7
  simp at a0 a1 a2 a3 a4 a5 a6 a7
  have c0 := (unhide Q0).at 0; have c1 := (unhide Q0).at 1; have c2 := (unhide Q0).at 2; have c3 := (unhide Q0).at 3; have c4 := (unhide Q0).at 4; have c5 := (unhide Q0).at 5; have c6 := (unhide Q0).at 6; have c7 := (unhide Q0).at 7; have c8 := (unhide Q0).at 8; have c9 := (unhide Q0).at 9; have c10 := (unhide Q0).at 10
  have rf0 := (unhide Q0).f 0; have rf1 := (unhide Q0).f 1; have rf2 := (unhide Q0).f 2; have rf3 := (unhide Q0).f 3; have rf4 := (unhide Q0).f 4; have rf5 := (unhide Q0).f 5; have rf6 := (unhide Q0).f 6; have rf7 := (unhide Q0).f 7; have rf8 := (unhide Q0).f 8; have rf9 := (unhide Q0).f 9; have rf10 := (unhide Q0).f 10
  simp at c0 c1 c2 c3 c4 c5 c6 c7 c8 c9 c10
  go_wp2
  have HB9 := hide (show Below w.heap.size w ((((((((((((w1.alloc (.cells (svc (newX qo n c) (newSt ql ep nx ep)) 29)).setCell ⟨w.heap.size, 0, none⟩ (.slice qo n c)).setCell ⟨w.heap.size, 1, none⟩ (.int .i64 0)).setCell ⟨w.heap.size, 2, none⟩ (.int .i64 ep)).setCell ⟨w.heap.size, 3, none⟩ (.int .i64 nx)).setCell ⟨w.heap.size, 4, none⟩ (.int .i64 ep)).setCell ⟨w.heap.size, 5, none⟩ (.slice none 0 0)).setCell ⟨w.heap.size, 6, none⟩ (.slice none 0 0)).setCell ⟨w.heap.size, 7, none⟩ (.slice none 0 0)).setCell ⟨w.heap.size, 8, none⟩ (.string ⟨#[]⟩)).setCell ⟨w.heap.size, 9, none⟩ (.int .i64 0)).setCell ⟨w.heap.size, 10, none⟩ (.slice none 0 0)) from below_sets (unhide HB1) (Nat.le_refl _) 0 [.slice qo n c, .int .i64 0, .int .i64 ep, .int .i64 nx, .int .i64 ep, .slice none 0 0, .slice none 0 0, .slice none 0 0, .string ⟨#[]⟩, .int .i64 0, .slice none 0 0])
  have R9 := hide (show Blk ((((((((((((w1.alloc (.cells (svc (newX qo n c) (newSt ql ep nx ep)) 29)).setCell ⟨w.heap.size, 0, none⟩ (.slice qo n c)).setCell ⟨w.heap.size, 1, none⟩ (.int .i64 0)).setCell ⟨w.heap.size, 2, none⟩ (.int .i64 ep)).setCell ⟨w.heap.size, 3, none⟩ (.int .i64 nx)).setCell ⟨w.heap.size, 4, none⟩ (.int .i64 ep)).setCell ⟨w.heap.size, 5, none⟩ (.slice none 0 0)).setCell ⟨w.heap.size, 6, none⟩ (.slice none 0 0)).setCell ⟨w.heap.size, 7, none⟩ (.slice none 0 0)).setCell ⟨w.heap.size, 8, none⟩ (.string ⟨#[]⟩)).setCell ⟨w.heap.size, 9, none⟩ (.int .i64 0)).setCell ⟨w.heap.size, 10, none⟩ (.slice none 0 0)) w.heap.size #[.slice qo n c, .int .i64 0, .int .i64 ep, .int .i64 nx, .int .i64 ep, .slice none 0 0, .slice none 0 0, .slice none 0 0, .string ⟨#[]⟩, .int .i64 0, .slice none 0 0] 32 from (unhide Q0).sets [.slice qo n c, .int .i64 0, .int .i64 ep, .int .i64 nx, .int .i64 ep, .slice none 0 0, .slice none 0 0, .slice none 0 0, .string ⟨#[]⟩, .int .i64 0, .slice none 0 0] rfl)
  have O9 := hide (show QOwn (w.heap.size + 1) ((((((((((((w1.alloc (.cells (svc (newX qo n c) (newSt ql ep nx ep)) 29)).setCell ⟨w.heap.size, 0, none⟩ (.slice qo n c)).setCell ⟨w.heap.size, 1, none⟩ (.int .i64 0)).setCell ⟨w.heap.size, 2, none⟩ (.int .i64 ep)).setCell ⟨w.heap.size, 3, none⟩ (.int .i64 nx)).setCell ⟨w.heap.size, 4, none⟩ (.int .i64 ep)).setCell ⟨w.heap.size, 5, none⟩ (.slice none 0 0)).setCell ⟨w.heap.size, 6, none⟩ (.slice none 0 0)).setCell ⟨w.heap.size, 7, none⟩ (.slice none 0 0)).setCell ⟨w.heap.size, 8, none⟩ (.string ⟨#[]⟩)).setCell ⟨w.heap.size, 9, none⟩ (.int .i64 0)).setCell ⟨w.heap.size, 10, none⟩ (.slice none 0 0)) (.slice qo n c) ql from sets_keep (P := fun wx => QOwn (w.heap.size + 1) wx (.slice qo n c) ql) (fun wx j v hx => qown_other hx w.heap.size j v (Nat.lt_succ_self _)) [.slice qo n c, .int .i64 0, .int .i64 ep, .int .i64 nx, .int .i64 ep, .slice none 0 0, .slice none 0 0, .slice none 0 0, .string ⟨#[]⟩, .int .i64 0, .slice none 0 0] 0 _ (unhide HO))
  generalize ((((((((((((w1.alloc (.cells (svc (newX qo n c) (newSt ql ep nx ep)) 29)).setCell ⟨w.heap.size, 0, none⟩ (.slice qo n c)).setCell ⟨w.heap.size, 1, none⟩ (.int .i64 0)).setCell ⟨w.heap.size, 2, none⟩ (.int .i64 ep)).setCell ⟨w.heap.size, 3, none⟩ (.int .i64 nx)).setCell ⟨w.heap.size, 4, none⟩ (.int .i64 ep)).setCell ⟨w.heap.size, 5, none⟩ (.slice none 0 0)).setCell ⟨w.heap.size, 6, none⟩ (.slice none 0 0)).setCell ⟨w.heap.size, 7, none⟩ (.slice none 0 0)).setCell ⟨w.heap.size, 8, none⟩ (.string ⟨#[]⟩)).setCell ⟨w.heap.size, 9, none⟩ (.int .i64 0)).setCell ⟨w.heap.size, 10, none⟩ (.slice none 0 0)) = W9 at HB9 R9 O9 ⊢
  clear c0 c1 c2 c3 c4 c5 c6 c7 c8 c9 c10 rf0 rf1 rf2 rf3 rf4 rf5 rf6 rf7 rf8 rf9 rf10
  have z0 := (unhide R9).at 0; have z1 := (unhide R9).at 1; have z2 := (unhide R9).at 2; have z3 := (unhide R9).at 3; have z4 := (unhide R9).at 4; have z5 := (unhide R9).at 5; have z6 := (unhide R9).at 6; have z7 := (unhide R9).at 7; have z8 := (unhide R9).at 8; have z9 := (unhide R9).at 9; have z10 := (unhide R9).at 10
  simp at z0 z1 z2 z3 z4 z5 z6 z7 z8 z9 z10
  have HM := hide ((unhide HF (.returned (.tuple #[.agg #[.slice qo n c, .int .i64 0, .int .i64 ep, .int .i64 nx, .int .i64 ep, .slice none 0 0, .slice none 0 0, .slice none 0 0, .string ⟨#[]⟩, .int .i64 0, .slice none 0 0], .bool true])) W9).2 ⟨qo, n, c, rfl, unhide HN, unhide O9, unhide HB9⟩)
  refine bodyPost_ret (v := .tuple #[.agg #[.slice qo n c, .int .i64 0, .int .i64 ep, .int .i64 nx, .int .i64 ep, .slice none 0 0, .slice none 0 0, .slice none 0 0, .string ⟨#[]⟩, .int .i64 0, .slice none 0 0], .bool true]) (by simp [results, Tryz.results5, go_sem, z0, z1, z2, z3, z4, z5, z6, z7, z8, z9, z10]) rfl (unhide HM)
end Go.Proofs.YthnkbdjombiodaaGreat
