/-
  Several texts of this claim in one: NewSt, NewLaw, RcvC, RcvD (pack.py put them together); each says in its own remark what is proved.
-/
import Derived.Test.YtkpmocbfedgfhaaGreatPackJ
import Derived.Test.YtkpmocbfedgfhaaGreatPackL
import Derived.Test.YtkpmocbfedgfhaaGreatPackB
import Derived.Deep.CutBlock
import Derived.Deep.CutRange
import Derived.Test.YtkpmocbfedgfhaaGreatPackH
import Derived.Test.YtkpmocbfedgfhaaGreatPackS
import Derived.Test.YtkpmocbfedgfhaaGreatPackP
import Derived.Deep.RegionWith
import Derived.Deep.QuietTactic
/-
  A new state, by the program and by the model: StateNew; walks over the dump. Of StateOk is asked what it answers of a state of queues alone.
-/
namespace Go.Proofs.YtkpmocbfedgfhaaGreat
open Go.RowKit
set_option linter.unusedVariables false
set_option linter.unusedSimpArgs false
/-- what a call of StateNew ends with -/
def NewAns (w : World) (l : List Q) (e : Ending) (w' : World) : Prop := Below w.heap.size w w' ∧ (queuesOk l = false ∧ e = .returned (.tuple #[.agg #[.slice none 0 0, .int .i64 0, .int .i64 0, .int .i64 0, .int .i64 0, .slice none 0 0, .slice none 0 0, .slice none 0 0], .bool false]) ∨ queuesOk l = true ∧ ∃ v, e = .returned (.tuple #[.agg #[v, .int .i64 0, .int .i64 1, .int .i64 1001, .int .i64 1, .slice none 0 0, .slice none 0 0, .slice none 0 0], .bool true]) ∧ QOwn (w.heap.size + 1) w' v l)

set_option maxRecDepth 100000 in
set_option maxHeartbeats 4000000 in
theorem implStateNew_any (ao : Option Addr) (len cap : Nat) (l : List Q) (w : World) (h : QRow w ao len l) (hl : len ≤ 1048576) (hf : FitQ l)
    (CO : ∀ (qo : Option Addr) (n c : Nat) (wx : World), QRow wx qo n l → n ≤ c → Calls Tryz.prog 11 #[.agg #[.slice qo n c, .int .i64 0, .int .i64 1, .int .i64 1001, .int .i64 1, .slice none 0 0, .slice none 0 0, .slice none 0 0]] wx fun e w' => e = .returned (.bool (queuesOk l)) ∧ Below wx.heap.size wx w') (hc : len ≤ cap) :
    Calls Tryz.prog 48 #[.slice ao len cap] w (NewAns w l) := by
  obtain ⟨o, ho⟩ : ∃ o, queuesOk l = o := ⟨_, rfl⟩
  have HB0 := hide (below_al (below_al (Below.refl _ w) (.cells #[.slice none 0 0, .int .i64 0, .int .i64 0, .int .i64 0, .int .i64 0, .slice none 0 0, .slice none 0 0, .slice none 0 0] 31)) (.cells #[.slice ao len cap, .int .i64 0, .int .i64 1, .int .i64 1001, .int .i64 1, .slice none 0 0, .slice none 0 0, .slice none 0 0] 31))
  have P0 := hide ((blk_new w #[.slice none 0 0, .int .i64 0, .int .i64 0, .int .i64 0, .int .i64 0, .slice none 0 0, .slice none 0 0, .slice none 0 0] 31).al (.cells #[.slice ao len cap, .int .i64 0, .int .i64 1, .int .i64 1001, .int .i64 1, .slice none 0 0, .slice none 0 0, .slice none 0 0] 31))
  have P1 := hide (show Blk _ (w.heap.size + 1) #[.slice ao len cap, .int .i64 0, .int .i64 1, .int .i64 1001, .int .i64 1, .slice none 0 0, .slice none 0 0, .slice none 0 0] 31 by have := blk_new (w.alloc (.cells #[.slice none 0 0, .int .i64 0, .int .i64 0, .int .i64 0, .int .i64 0, .slice none 0 0, .slice none 0 0, .slice none 0 0] 31)) #[.slice ao len cap, .int .i64 0, .int .i64 1, .int .i64 1001, .int .i64 1, .slice none 0 0, .slice none 0 0, .slice none 0 0] 31; rwa [al_size] at this)
  have CS := hide (fun wx (hb : Below w.heap.size w wx) => by have := CO ao len cap wx (h.below hb) hc; rw [ho] at this; exact this)
  have CC := hide (fun wx (hb : Below w.heap.size w wx) => copyOfQueues_any ao len cap l wx (h.below hb) hl hf.2)
  have HOO := hide ho
  clear h hf CO ho
  go_enter Tryz.func48, Tryz.ntmps48
  go_wp2_with fail
  refine (unhide CS _ (unhide HB0)).mono ?_
  rintro e w1 ⟨rfl, hb⟩
  have HB1 := hide (below_on (unhide HB0) hb)
  have Q0 := hide ((unhide P0).below hb)
  have Q1 := hide ((unhide P1).below hb)
  clear hb HB0 P0 P1 CS
  cases o
  case false =>
    have c0 := (unhide Q0).at 0; have c1 := (unhide Q0).at 1; have c2 := (unhide Q0).at 2; have c3 := (unhide Q0).at 3; have c4 := (unhide Q0).at 4; have c5 := (unhide Q0).at 5; have c6 := (unhide Q0).at 6; have c7 := (unhide Q0).at 7
    have rf0 := (unhide Q0).f 0; have rf1 := (unhide Q0).f 1; have rf2 := (unhide Q0).f 2; have rf3 := (unhide Q0).f 3; have rf4 := (unhide Q0).f 4; have rf5 := (unhide Q0).f 5; have rf6 := (unhide Q0).f 6; have rf7 := (unhide Q0).f 7
    simp at c0 c1 c2 c3 c4 c5 c6 c7
    go_wp2
    have HB9 := hide (below_sc (below_sc (below_sc (below_sc (below_sc (below_sc (below_sc (below_sc (unhide HB1) w.heap.size 0 (.slice none 0 0) (Nat.le_refl _)) w.heap.size 1 (.int .i64 0) (Nat.le_refl _)) w.heap.size 2 (.int .i64 0) (Nat.le_refl _)) w.heap.size 3 (.int .i64 0) (Nat.le_refl _)) w.heap.size 4 (.int .i64 0) (Nat.le_refl _)) w.heap.size 5 (.slice none 0 0) (Nat.le_refl _)) w.heap.size 6 (.slice none 0 0) (Nat.le_refl _)) w.heap.size 7 (.slice none 0 0) (Nat.le_refl _))
    have R9 := hide (show Blk ((((((((w1.setCell ⟨w.heap.size, 0, none⟩ (.slice none 0 0)).setCell ⟨w.heap.size, 1, none⟩ (.int .i64 0)).setCell ⟨w.heap.size, 2, none⟩ (.int .i64 0)).setCell ⟨w.heap.size, 3, none⟩ (.int .i64 0)).setCell ⟨w.heap.size, 4, none⟩ (.int .i64 0)).setCell ⟨w.heap.size, 5, none⟩ (.slice none 0 0)).setCell ⟨w.heap.size, 6, none⟩ (.slice none 0 0)).setCell ⟨w.heap.size, 7, none⟩ (.slice none 0 0)) w.heap.size #[.slice none 0 0, .int .i64 0, .int .i64 0, .int .i64 0, .int .i64 0, .slice none 0 0, .slice none 0 0, .slice none 0 0] 31 from (((((((((unhide Q0).set 0 (.slice none 0 0)).set 1 (.int .i64 0)).set 2 (.int .i64 0)).set 3 (.int .i64 0)).set 4 (.int .i64 0)).set 5 (.slice none 0 0)).set 6 (.slice none 0 0)).set 7 (.slice none 0 0)))
    generalize ((((((((w1.setCell ⟨w.heap.size, 0, none⟩ (.slice none 0 0)).setCell ⟨w.heap.size, 1, none⟩ (.int .i64 0)).setCell ⟨w.heap.size, 2, none⟩ (.int .i64 0)).setCell ⟨w.heap.size, 3, none⟩ (.int .i64 0)).setCell ⟨w.heap.size, 4, none⟩ (.int .i64 0)).setCell ⟨w.heap.size, 5, none⟩ (.slice none 0 0)).setCell ⟨w.heap.size, 6, none⟩ (.slice none 0 0)).setCell ⟨w.heap.size, 7, none⟩ (.slice none 0 0)) = W9 at HB9 R9 ⊢
    have z0 := (unhide R9).at 0; have z1 := (unhide R9).at 1; have z2 := (unhide R9).at 2; have z3 := (unhide R9).at 3; have z4 := (unhide R9).at 4; have z5 := (unhide R9).at 5; have z6 := (unhide R9).at 6; have z7 := (unhide R9).at 7
    simp at z0 z1 z2 z3 z4 z5 z6 z7
    refine bodyPost_ret (v := .tuple #[.agg #[.slice none 0 0, .int .i64 0, .int .i64 0, .int .i64 0, .int .i64 0, .slice none 0 0, .slice none 0 0, .slice none 0 0], .bool false]) (by simp [results, Tryz.results48, go_sem, z0, z1, z2, z3, z4, z5, z6, z7]) rfl (show NewAns w l _ _ from ⟨unhide HB9, .inl ⟨unhide HOO, rfl⟩⟩)
  go_wp2_with fail
  refine (unhide CC _ (unhide HB1)).mono ?_
  rintro e w2 ⟨v, rfl, hown, hb⟩
  have hl1 := (unhide Q1).lt
  obtain ⟨qo, qc, rfl, _⟩ := qown_rowx hown
  have HO := hide (qown_base hown (show w.heap.size + 2 ≤ w1.heap.size by omega))
  have HB2 := hide (below_on (unhide HB1) hb)
  have R1 := hide ((unhide Q1).below hb)
  have R0 := hide ((unhide Q0).below hb)
  clear hb hown HB1 Q0 Q1 CC
  have d0 := (unhide R1).at 0
  have d1 := (unhide R1).f 0
  simp at d0
  go_upto_region 5 with fail
  have HB3 := hide (below_sc (unhide HB2) (w.heap.size + 1) 0 (.slice qo l.length qc) (by omega))
  have S1 := hide (show Blk (w2.setCell ⟨w.heap.size + 1, 0, none⟩ (.slice qo l.length qc)) (w.heap.size + 1) #[.slice qo l.length qc, .int .i64 0, .int .i64 1, .int .i64 1001, .int .i64 1, .slice none 0 0, .slice none 0 0, .slice none 0 0] 31 from (unhide R1).set 0 (.slice qo l.length qc))
  have S0 := hide ((unhide R0).other (w.heap.size + 1) 0 (.slice qo l.length qc) (by omega))
  have HO2 := hide (qown_base (qown_other (unhide HO) (w.heap.size + 1) 0 (.slice qo l.length qc) (by omega)) (show w.heap.size + 1 ≤ w.heap.size + 2 by omega))
  generalize w2.setCell ⟨w.heap.size + 1, 0, none⟩ (.slice qo l.length qc) = w3 at HB3 S1 S0 HO2 ⊢
  clear d0 d1 HB2 R1 R0 HO
  have a0 := (unhide S1).at 0; have a1 := (unhide S1).at 1; have a2 := (unhide S1).at 2; have a3 := (unhide S1).at 3; have a4 := (unhide S1).at 4; have a5 := (unhide S1).at 5; have a6 := (unhide S1).at 6; have a7 := (unhide S1).at 7
  have af0 := (unhide S1).f 0; have af1 := (unhide S1).f 1; have af2 := (unhide S1).f 2; have af3 := (unhide S1).f 3; have af4 := (unhide S1).f 4; have af5 := (unhide S1).f 5; have af6 := (unhide S1).f 6; have af7 := (unhide S1).f 7
  simp at a0 a1 a2 a3 a4 a5 a6 a7
  have c0 := (unhide S0).at 0; have c1 := (unhide S0).at 1; have c2 := (unhide S0).at 2; have c3 := (unhide S0).at 3; have c4 := (unhide S0).at 4; have c5 := (unhide S0).at 5; have c6 := (unhide S0).at 6; have c7 := (unhide S0).at 7
  have rf0 := (unhide S0).f 0; have rf1 := (unhide S0).f 1; have rf2 := (unhide S0).f 2; have rf3 := (unhide S0).f 3; have rf4 := (unhide S0).f 4; have rf5 := (unhide S0).f 5; have rf6 := (unhide S0).f 6; have rf7 := (unhide S0).f 7
  simp at c0 c1 c2 c3 c4 c5 c6 c7
  go_wp2
  have HB9 := hide (below_sc (below_sc (below_sc (below_sc (below_sc (below_sc (below_sc (below_sc (unhide HB3) w.heap.size 0 (.slice qo l.length qc) (Nat.le_refl _)) w.heap.size 1 (.int .i64 0) (Nat.le_refl _)) w.heap.size 2 (.int .i64 1) (Nat.le_refl _)) w.heap.size 3 (.int .i64 1001) (Nat.le_refl _)) w.heap.size 4 (.int .i64 1) (Nat.le_refl _)) w.heap.size 5 (.slice none 0 0) (Nat.le_refl _)) w.heap.size 6 (.slice none 0 0) (Nat.le_refl _)) w.heap.size 7 (.slice none 0 0) (Nat.le_refl _))
  have R9 := hide (show Blk ((((((((w3.setCell ⟨w.heap.size, 0, none⟩ (.slice qo l.length qc)).setCell ⟨w.heap.size, 1, none⟩ (.int .i64 0)).setCell ⟨w.heap.size, 2, none⟩ (.int .i64 1)).setCell ⟨w.heap.size, 3, none⟩ (.int .i64 1001)).setCell ⟨w.heap.size, 4, none⟩ (.int .i64 1)).setCell ⟨w.heap.size, 5, none⟩ (.slice none 0 0)).setCell ⟨w.heap.size, 6, none⟩ (.slice none 0 0)).setCell ⟨w.heap.size, 7, none⟩ (.slice none 0 0)) w.heap.size #[.slice qo l.length qc, .int .i64 0, .int .i64 1, .int .i64 1001, .int .i64 1, .slice none 0 0, .slice none 0 0, .slice none 0 0] 31 from (((((((((unhide S0).set 0 (.slice qo l.length qc)).set 1 (.int .i64 0)).set 2 (.int .i64 1)).set 3 (.int .i64 1001)).set 4 (.int .i64 1)).set 5 (.slice none 0 0)).set 6 (.slice none 0 0)).set 7 (.slice none 0 0)))
  have O9 := hide (qown_other (qown_other (qown_other (qown_other (qown_other (qown_other (qown_other (qown_other (unhide HO2) w.heap.size 0 (.slice qo l.length qc) (Nat.lt_succ_self _)) w.heap.size 1 (.int .i64 0) (Nat.lt_succ_self _)) w.heap.size 2 (.int .i64 1) (Nat.lt_succ_self _)) w.heap.size 3 (.int .i64 1001) (Nat.lt_succ_self _)) w.heap.size 4 (.int .i64 1) (Nat.lt_succ_self _)) w.heap.size 5 (.slice none 0 0) (Nat.lt_succ_self _)) w.heap.size 6 (.slice none 0 0) (Nat.lt_succ_self _)) w.heap.size 7 (.slice none 0 0) (Nat.lt_succ_self _))
  generalize ((((((((w3.setCell ⟨w.heap.size, 0, none⟩ (.slice qo l.length qc)).setCell ⟨w.heap.size, 1, none⟩ (.int .i64 0)).setCell ⟨w.heap.size, 2, none⟩ (.int .i64 1)).setCell ⟨w.heap.size, 3, none⟩ (.int .i64 1001)).setCell ⟨w.heap.size, 4, none⟩ (.int .i64 1)).setCell ⟨w.heap.size, 5, none⟩ (.slice none 0 0)).setCell ⟨w.heap.size, 6, none⟩ (.slice none 0 0)).setCell ⟨w.heap.size, 7, none⟩ (.slice none 0 0)) = W9 at HB9 R9 O9 ⊢
  have z0 := (unhide R9).at 0; have z1 := (unhide R9).at 1; have z2 := (unhide R9).at 2; have z3 := (unhide R9).at 3; have z4 := (unhide R9).at 4; have z5 := (unhide R9).at 5; have z6 := (unhide R9).at 6; have z7 := (unhide R9).at 7
  simp at z0 z1 z2 z3 z4 z5 z6 z7
  refine bodyPost_ret (v := .tuple #[.agg #[.slice qo l.length qc, .int .i64 0, .int .i64 1, .int .i64 1001, .int .i64 1, .slice none 0 0, .slice none 0 0, .slice none 0 0], .bool true]) (by simp [results, Tryz.results48, go_sem, z0, z1, z2, z3, z4, z5, z6, z7]) rfl (show NewAns w l _ _ from ⟨unhide HB9, .inr ⟨unhide HOO, _, rfl, unhide O9⟩⟩)

set_option maxRecDepth 100000 in
set_option maxHeartbeats 4000000 in
theorem specStateNew_any (ao : Option Addr) (len cap : Nat) (l : List Q) (w : World) (h : QRow w ao len l) (hl : len ≤ 1048576) (hf : FitQ l) (ha : ∃ ad, ao = some ad)
    (CO : ∀ (qo : Option Addr) (n c : Nat) (wx : World), QRow wx qo n l → n ≤ c → Calls Tryz.prog 50 #[.agg #[.slice qo n c, .int .i64 0, .int .i64 1, .int .i64 1001, .int .i64 1, .slice none 0 0, .slice none 0 0, .slice none 0 0]] wx fun e w' => e = .returned (.bool (queuesOk l)) ∧ Below wx.heap.size wx w') :
    Calls Tryz.prog 18 #[.slice ao len cap] w (NewAns w l) := by
  obtain ⟨i0, hi, hz0, hz1, hz2⟩ := info_parts Tryz.infoQ
  obtain ⟨o, ho⟩ : ∃ o, queuesOk l = o := ⟨_, rfl⟩
  obtain ⟨ad, rfl⟩ := ha
  have hb1 := below_al (below_al (Below.refl _ w) (.cells #[.slice none 0 0, .int .i64 0, .int .i64 0, .int .i64 0, .int .i64 0, .slice none 0 0, .slice none 0 0, .slice none 0 0] 31)) (.cells #[] 63)
  have P0 := hide ((blk_new w #[.slice none 0 0, .int .i64 0, .int .i64 0, .int .i64 0, .int .i64 0, .slice none 0 0, .slice none 0 0, .slice none 0 0] 31).al (.cells #[] 63))
  have hnew : ∀ j u, (qcells l)[j]? = some u → ((w.alloc (.cells #[.slice none 0 0, .int .i64 0, .int .i64 0, .int .i64 0, .int .i64 0, .slice none 0 0, .slice none 0 0, .slice none 0 0] 31)).alloc (.cells #[] 63)).cell? (ad.add j) = some u := fun j u hj => by
    have hjl : j < l.length * 4 := by rw [← qcells_len]; exact (List.getElem?_eq_some_iff.1 hj).1
    rcases h.2 with h0 | ⟨b, off, e, _⟩
    · have := h.1; omega
    · cases e
      have := qcells_row (h.below hb1) j u hj
      rw [Lib.add_plain]
      exact this
  have HNW := hide hnew
  have HLN := hide h.1
  have HB1 := hide hb1
  have hown : ((w.alloc (.cells #[.slice none 0 0, .int .i64 0, .int .i64 0, .int .i64 0, .int .i64 0, .slice none 0 0, .slice none 0 0, .slice none 0 0] 31)).alloc (.cells #[] 63)).ownsRow (w.heap.size + 1) 63 4 (.slice (some ⟨w.heap.size + 1, 0, none⟩) 0 0) 0 [] := by
    have := qown_empty (w.alloc (.cells #[.slice none 0 0, .int .i64 0, .int .i64 0, .int .i64 0, .int .i64 0, .slice none 0 0, .slice none 0 0, .slice none 0 0] 31))
    rw [al_size] at this
    exact this
  have hll : (qcells l).length = len * 4 := by rw [qcells_len, h.1]
  have hone := qcells_one l
  have CS := hide (fun (qo : Option Addr) (n c : Nat) (wx : World) (hr : QRow wx qo n l) (hc : n ≤ c) => by have := CO qo n c wx hr hc; rw [ho] at this; exact this)
  have HOO := hide ho
  clear CO ho hf h hnew hb1
  go_enter Tryz.func18, Tryz.ntmps18
  go_wp2_with (at_builtin; refine wpList_append_own _ rfl _ _ 24 rfl (w.heap.size + 1) 63 i0 (.agg #[.string ByteArray.empty, .string ByteArray.empty, .int .i64 0, .int .i64 0]) 4 48 Tryz.underlying24 hi hz0 hz1 hz2 rfl (by decide) _ _ _ rfl hown ad len cap (qcells l) rfl hll (unhide HNW) hone ?c3 ?c4 ?c5 ?_)
  case c3 => unfold maxLen; omega
  case c4 => omega
  case c5 => simp
  intro v w2 hown' hgrow _
  have HO := hide (show QOwn (w.heap.size + 1) w2 v l by
    unfold QOwn
    rw [← unhide HLN]
    simpa using hown')
  have HB2 := hide (show Below w.heap.size w w2 from (unhide HB1).grown hgrow (by simp; omega) (fun k e => by simp [Value.ownBlock] at e; omega))
  have R0 := hide (show Blk w2 w.heap.size #[.slice none 0 0, .int .i64 0, .int .i64 0, .int .i64 0, .int .i64 0, .slice none 0 0, .slice none 0 0, .slice none 0 0] 31 from (hgrow.block _ (unhide P0).lt (by simp [Value.ownBlock])).trans (unhide P0))
  obtain ⟨qo, qc, rfl, hrow, hqc, _⟩ := qown_rowx (unhide HO)
  have HRW := hide (hrow.below (below_al (Below.refl _ w2) (.cells #[.slice qo l.length qc, .int .i64 0, .int .i64 1, .int .i64 1001, .int .i64 1, .slice none 0 0, .slice none 0 0, .slice none 0 0] 31)))
  have HB3 := hide (below_al (unhide HB2) (.cells #[.slice qo l.length qc, .int .i64 0, .int .i64 1, .int .i64 1001, .int .i64 1, .slice none 0 0, .slice none 0 0, .slice none 0 0] 31))
  have S1 := hide (blk_new w2 #[.slice qo l.length qc, .int .i64 0, .int .i64 1, .int .i64 1001, .int .i64 1, .slice none 0 0, .slice none 0 0, .slice none 0 0] 31)
  have S0 := hide ((unhide R0).al (.cells #[.slice qo l.length qc, .int .i64 0, .int .i64 1, .int .i64 1001, .int .i64 1, .slice none 0 0, .slice none 0 0, .slice none 0 0] 31))
  have HO3 := hide ((unhide HO).below (below_al (Below.refl _ w2) (.cells #[.slice qo l.length qc, .int .i64 0, .int .i64 1, .int .i64 1001, .int .i64 1, .slice none 0 0, .slice none 0 0, .slice none 0 0] 31)))
  clear hown' hgrow hown hone hll HB1 HB2 R0 P0 HO hrow HNW
  go_wp2_with fail
  refine (unhide CS qo l.length qc _ (unhide HRW) hqc).mono ?_
  rintro e w4 ⟨rfl, hb⟩
  have HB4 := hide (below_on (unhide HB3) hb)
  have T0 := hide ((unhide S0).below hb)
  have T1 := hide ((unhide S1).below hb)
  have HO4 := hide ((unhide HO3).below hb)
  clear hb HB3 S0 S1 HO3 HRW CS
  cases o
  case false =>
    have c0 := (unhide T0).at 0; have c1 := (unhide T0).at 1; have c2 := (unhide T0).at 2; have c3 := (unhide T0).at 3; have c4 := (unhide T0).at 4; have c5 := (unhide T0).at 5; have c6 := (unhide T0).at 6; have c7 := (unhide T0).at 7
    have rf0 := (unhide T0).f 0; have rf1 := (unhide T0).f 1; have rf2 := (unhide T0).f 2; have rf3 := (unhide T0).f 3; have rf4 := (unhide T0).f 4; have rf5 := (unhide T0).f 5; have rf6 := (unhide T0).f 6; have rf7 := (unhide T0).f 7
    simp at c0 c1 c2 c3 c4 c5 c6 c7
    go_wp2
    have HB9 := hide (below_sc (below_sc (below_sc (below_sc (below_sc (below_sc (below_sc (below_sc (unhide HB4) w.heap.size 0 (.slice none 0 0) (Nat.le_refl _)) w.heap.size 1 (.int .i64 0) (Nat.le_refl _)) w.heap.size 2 (.int .i64 0) (Nat.le_refl _)) w.heap.size 3 (.int .i64 0) (Nat.le_refl _)) w.heap.size 4 (.int .i64 0) (Nat.le_refl _)) w.heap.size 5 (.slice none 0 0) (Nat.le_refl _)) w.heap.size 6 (.slice none 0 0) (Nat.le_refl _)) w.heap.size 7 (.slice none 0 0) (Nat.le_refl _))
    have R9 := hide (show Blk ((((((((w4.setCell ⟨w.heap.size, 0, none⟩ (.slice none 0 0)).setCell ⟨w.heap.size, 1, none⟩ (.int .i64 0)).setCell ⟨w.heap.size, 2, none⟩ (.int .i64 0)).setCell ⟨w.heap.size, 3, none⟩ (.int .i64 0)).setCell ⟨w.heap.size, 4, none⟩ (.int .i64 0)).setCell ⟨w.heap.size, 5, none⟩ (.slice none 0 0)).setCell ⟨w.heap.size, 6, none⟩ (.slice none 0 0)).setCell ⟨w.heap.size, 7, none⟩ (.slice none 0 0)) w.heap.size #[.slice none 0 0, .int .i64 0, .int .i64 0, .int .i64 0, .int .i64 0, .slice none 0 0, .slice none 0 0, .slice none 0 0] 31 from (((((((((unhide T0).set 0 (.slice none 0 0)).set 1 (.int .i64 0)).set 2 (.int .i64 0)).set 3 (.int .i64 0)).set 4 (.int .i64 0)).set 5 (.slice none 0 0)).set 6 (.slice none 0 0)).set 7 (.slice none 0 0)))
    generalize ((((((((w4.setCell ⟨w.heap.size, 0, none⟩ (.slice none 0 0)).setCell ⟨w.heap.size, 1, none⟩ (.int .i64 0)).setCell ⟨w.heap.size, 2, none⟩ (.int .i64 0)).setCell ⟨w.heap.size, 3, none⟩ (.int .i64 0)).setCell ⟨w.heap.size, 4, none⟩ (.int .i64 0)).setCell ⟨w.heap.size, 5, none⟩ (.slice none 0 0)).setCell ⟨w.heap.size, 6, none⟩ (.slice none 0 0)).setCell ⟨w.heap.size, 7, none⟩ (.slice none 0 0)) = W9 at HB9 R9 ⊢
    have z0 := (unhide R9).at 0; have z1 := (unhide R9).at 1; have z2 := (unhide R9).at 2; have z3 := (unhide R9).at 3; have z4 := (unhide R9).at 4; have z5 := (unhide R9).at 5; have z6 := (unhide R9).at 6; have z7 := (unhide R9).at 7
    simp at z0 z1 z2 z3 z4 z5 z6 z7
    refine bodyPost_ret (v := .tuple #[.agg #[.slice none 0 0, .int .i64 0, .int .i64 0, .int .i64 0, .int .i64 0, .slice none 0 0, .slice none 0 0, .slice none 0 0], .bool false]) (by simp [results, Tryz.results18, go_sem, z0, z1, z2, z3, z4, z5, z6, z7]) rfl (show NewAns w l _ _ from ⟨unhide HB9, .inl ⟨unhide HOO, rfl⟩⟩)
  have a0 := (unhide T1).at 0; have a1 := (unhide T1).at 1; have a2 := (unhide T1).at 2; have a3 := (unhide T1).at 3; have a4 := (unhide T1).at 4; have a5 := (unhide T1).at 5; have a6 := (unhide T1).at 6; have a7 := (unhide T1).at 7
  have af0 := (unhide T1).f 0; have af1 := (unhide T1).f 1; have af2 := (unhide T1).f 2; have af3 := (unhide T1).f 3; have af4 := (unhide T1).f 4; have af5 := (unhide T1).f 5; have af6 := (unhide T1).f 6; have af7 := (unhide T1).f 7
  simp at a0 a1 a2 a3 a4 a5 a6 a7
  have c0 := (unhide T0).at 0; have c1 := (unhide T0).at 1; have c2 := (unhide T0).at 2; have c3 := (unhide T0).at 3; have c4 := (unhide T0).at 4; have c5 := (unhide T0).at 5; have c6 := (unhide T0).at 6; have c7 := (unhide T0).at 7
  have rf0 := (unhide T0).f 0; have rf1 := (unhide T0).f 1; have rf2 := (unhide T0).f 2; have rf3 := (unhide T0).f 3; have rf4 := (unhide T0).f 4; have rf5 := (unhide T0).f 5; have rf6 := (unhide T0).f 6; have rf7 := (unhide T0).f 7
  simp at c0 c1 c2 c3 c4 c5 c6 c7
  go_wp2
  have HB9 := hide (below_sc (below_sc (below_sc (below_sc (below_sc (below_sc (below_sc (below_sc (unhide HB4) w.heap.size 0 (.slice qo l.length qc) (Nat.le_refl _)) w.heap.size 1 (.int .i64 0) (Nat.le_refl _)) w.heap.size 2 (.int .i64 1) (Nat.le_refl _)) w.heap.size 3 (.int .i64 1001) (Nat.le_refl _)) w.heap.size 4 (.int .i64 1) (Nat.le_refl _)) w.heap.size 5 (.slice none 0 0) (Nat.le_refl _)) w.heap.size 6 (.slice none 0 0) (Nat.le_refl _)) w.heap.size 7 (.slice none 0 0) (Nat.le_refl _))
  have R9 := hide (show Blk ((((((((w4.setCell ⟨w.heap.size, 0, none⟩ (.slice qo l.length qc)).setCell ⟨w.heap.size, 1, none⟩ (.int .i64 0)).setCell ⟨w.heap.size, 2, none⟩ (.int .i64 1)).setCell ⟨w.heap.size, 3, none⟩ (.int .i64 1001)).setCell ⟨w.heap.size, 4, none⟩ (.int .i64 1)).setCell ⟨w.heap.size, 5, none⟩ (.slice none 0 0)).setCell ⟨w.heap.size, 6, none⟩ (.slice none 0 0)).setCell ⟨w.heap.size, 7, none⟩ (.slice none 0 0)) w.heap.size #[.slice qo l.length qc, .int .i64 0, .int .i64 1, .int .i64 1001, .int .i64 1, .slice none 0 0, .slice none 0 0, .slice none 0 0] 31 from (((((((((unhide T0).set 0 (.slice qo l.length qc)).set 1 (.int .i64 0)).set 2 (.int .i64 1)).set 3 (.int .i64 1001)).set 4 (.int .i64 1)).set 5 (.slice none 0 0)).set 6 (.slice none 0 0)).set 7 (.slice none 0 0)))
  have O9 := hide (qown_other (qown_other (qown_other (qown_other (qown_other (qown_other (qown_other (qown_other (unhide HO4) w.heap.size 0 (.slice qo l.length qc) (Nat.lt_succ_self _)) w.heap.size 1 (.int .i64 0) (Nat.lt_succ_self _)) w.heap.size 2 (.int .i64 1) (Nat.lt_succ_self _)) w.heap.size 3 (.int .i64 1001) (Nat.lt_succ_self _)) w.heap.size 4 (.int .i64 1) (Nat.lt_succ_self _)) w.heap.size 5 (.slice none 0 0) (Nat.lt_succ_self _)) w.heap.size 6 (.slice none 0 0) (Nat.lt_succ_self _)) w.heap.size 7 (.slice none 0 0) (Nat.lt_succ_self _))
  generalize ((((((((w4.setCell ⟨w.heap.size, 0, none⟩ (.slice qo l.length qc)).setCell ⟨w.heap.size, 1, none⟩ (.int .i64 0)).setCell ⟨w.heap.size, 2, none⟩ (.int .i64 1)).setCell ⟨w.heap.size, 3, none⟩ (.int .i64 1001)).setCell ⟨w.heap.size, 4, none⟩ (.int .i64 1)).setCell ⟨w.heap.size, 5, none⟩ (.slice none 0 0)).setCell ⟨w.heap.size, 6, none⟩ (.slice none 0 0)).setCell ⟨w.heap.size, 7, none⟩ (.slice none 0 0)) = W9 at HB9 R9 O9 ⊢
  have z0 := (unhide R9).at 0; have z1 := (unhide R9).at 1; have z2 := (unhide R9).at 2; have z3 := (unhide R9).at 3; have z4 := (unhide R9).at 4; have z5 := (unhide R9).at 5; have z6 := (unhide R9).at 6; have z7 := (unhide R9).at 7
  simp at z0 z1 z2 z3 z4 z5 z6 z7
  refine bodyPost_ret (v := .tuple #[.agg #[.slice qo l.length qc, .int .i64 0, .int .i64 1, .int .i64 1001, .int .i64 1, .slice none 0 0, .slice none 0 0, .slice none 0 0], .bool true]) (by simp [results, Tryz.results18, go_sem, z0, z1, z2, z3, z4, z5, z6, z7]) rfl (show NewAns w l _ _ from ⟨unhide HB9, .inr ⟨unhide HOO, _, rfl, unhide O9⟩⟩)
end Go.Proofs.YtkpmocbfedgfhaaGreat

/-
  What StateNew answers, in one form for both answers; the laws' own marks on it.
-/
namespace Go.Proofs.YtkpmocbfedgfhaaGreat
open Go.RowKit
set_option linter.unusedVariables false
def qlN (l : List Q) : List Q := if queuesOk l = true then l else []
def epN (l : List Q) : Int := if queuesOk l = true then 1 else 0
def nxN (l : List Q) : Int := if queuesOk l = true then 1001 else 0
theorem new_ok (l : List Q) : stateOkV (newSt l 1 1001 1) = queuesOk l := by
  have h1 : appsOkV (newSt l 1 1001 1) = true := rfl
  have h2 : machsOkS (newSt l 1 1001 1) = true := rfl
  simp only [stateOkV, stateOkS, h1, h2]
  rw [show (inB 0 0 1000000000 && (inB 1 1 1000000000 && (inB 1001 1 1000000000 && (inB 1 1 1000000000 && (true && (true && (decide (([] : List Con).length ≤ 150) && contsS [] [] 0 []))))))) = true from rfl, Bool.and_true]
/-- the answer, a state in a box to come, whose queues own their memory -/
theorem NewAns.one {w w' : World} {l : List Q} {e : Ending} (h : NewAns w l e w') : ∃ qo n c, e = .returned (.tuple #[.agg (svc (newX qo n c) (newSt (qlN l) (epN l) (nxN l) (epN l))), .bool (queuesOk l)]) ∧ n = (qlN l).length ∧ QOwn (w.heap.size + 1) w' (.slice qo n c) (qlN l) ∧ Below w.heap.size w w' := by
  obtain ⟨hb, ⟨ho, rfl⟩ | ⟨ho, v, rfl, hown⟩⟩ := h
  · refine ⟨none, 0, 0, ?_, ?_, ?_, hb⟩
    · simp [qlN, epN, nxN, ho]
    · simp [qlN, ho]
    · simp only [qlN, ho]; exact qown_nil _ _
  · obtain ⟨qo, qc, rfl, _⟩ := qown_rowx hown
    refine ⟨qo, l.length, qc, ?_, ?_, ?_, hb⟩
    · simp [qlN, epN, nxN, ho]
    · simp [qlN, ho]
    · simp only [qlN, ho]; exact hown
/-- a list of queues that bears its marks -/
def Marked (w : World) (qo : Option Addr) (n : Nat) : Prop := (n = 0 ∨ ∃ g, qo = some ⟨g, 0, none⟩) ∧ QRow w qo n (marksQ n)
theorem Marked.below {w w' : World} {qo : Option Addr} {n : Nat} (h : Marked w qo n) (hb : Below w.heap.size w w') : Marked w' qo n := ⟨h.1, h.2.below hb⟩
end Go.Proofs.YtkpmocbfedgfhaaGreat

/-
  What a log's records tell: stateBy and Recover of the program, Recover of the model; walks over the dump.
-/
namespace Go.Proofs.YtkpmocbfedgfhaaGreat
open Go.RowKit
set_option linter.unusedVariables false
set_option linter.unusedSimpArgs false
/-- what is answered: what the log tells, or nothing where the queues are not right -/
def recSt (l : List Q) (rs : List Rc) : St := if queuesOk l = true then recV l rs else ⟨[], 0, 0, 0, 0, [], [], []⟩
def RecAns (w : World) (l : List Q) (rs : List Rc) (e : Ending) (w' : World) : Prop := ∃ y hs, e = .returned (.tuple #[sv y (recSt l rs), .bool (queuesOk l)]) ∧ SHas w.heap.size w' y (recSt l rs) hs ∧ Below w.heap.size w w'
theorem new_has {B n c : Nat} {w : World} {qo : Option Addr} {l : List Q} (ep nx se : Int) (h : QOwn B w (.slice qo n c) l) (hn : n = l.length) : SHas B w (newX qo n c) (newSt l ep nx se) [] := by
  obtain ⟨ao, cap, e, hc, hh⟩ := QOwn.has h
  cases e
  exact ⟨hh, ⟨⟨rfl, .inl rfl⟩, .inl rfl⟩, KHas.nil _ _, ⟨⟨rfl, .inl rfl⟩, .inl rfl⟩, ⟨⟨rfl, .inl rfl⟩, .inl rfl⟩, ⟨hc, Nat.le_refl _, Nat.le_refl _, Nat.le_refl _⟩, own1_of h, .inl rfl, .inl rfl, .inl rfl, fun v hv => absurd hv (by simp)⟩
theorem zero_has (B : Nat) (w : World) : SHas B w ⟨none, 0, 0, none, 0, 0, none, 0, 0, none, 0, 0⟩ ⟨[], 0, 0, 0, 0, [], [], []⟩ [] :=
  ⟨⟨⟨rfl, .inl rfl⟩, .inl rfl⟩, ⟨⟨rfl, .inl rfl⟩, .inl rfl⟩, KHas.nil _ _, ⟨⟨rfl, .inl rfl⟩, .inl rfl⟩, ⟨⟨rfl, .inl rfl⟩, .inl rfl⟩, ⟨Nat.le_refl _, Nat.le_refl _, Nat.le_refl _, Nat.le_refl _⟩, .inl rfl, .inl rfl, .inl rfl, .inl rfl, fun v hv => absurd hv (by simp)⟩
theorem StIn.below {B b : Nat} {w w1 w2 : World} {s : St} (h : StIn B b w s w1) (hb : Below w1.heap.size w1 w2) (hB : B ≤ w1.heap.size) : StIn B b w s w2 := let ⟨y, hs, h1, h2, h3⟩ := h; ⟨y, hs, h1.below hb, h2.below hb, h3.trans (hb.mono hB)⟩

set_option maxRecDepth 100000 in
set_option maxHeartbeats 4000000 in
theorem implStateBy_any (ao : Option Addr) (len cap : Nat) (l : List Q) (jo : Option Addr) (jl jc : Nat) (rs : List Rc) (w : World) (h : QRow w ao len l) (hl : len ≤ 1048576) (hf : FitQ l) (hc : len ≤ cap) (hj : RcRow w jo jl rs) (hjl : jl ≤ 1048576) :
    Calls Tryz.prog 17 #[.slice ao len cap, .slice jo jl jc] w (RecAns w l rs) := by
  have CN := hide (fun wx (hb : Below w.heap.size w wx) => implStateNew_any ao len cap l wx (h.below hb) hl hf (fun qo n c wy hr hc => by have := implStateOk_any (newX qo n c) (newSt l 1 1001 1) wy (new_row 1 1001 1 hr) (new_fit 1 1001 1 hf) hc ⟨by simp, by simp⟩; rw [new_ok] at this; exact this) hc)
  have HB0 := hide (below_al (Below.refl _ w) (.cells #[.slice none 0 0, .int .i64 0, .int .i64 0, .int .i64 0, .int .i64 0, .slice none 0 0, .slice none 0 0, .slice none 0 0] 31))
  have P0 := hide (blk_new w #[.slice none 0 0, .int .i64 0, .int .i64 0, .int .i64 0, .int .i64 0, .slice none 0 0, .slice none 0 0, .slice none 0 0] 31)
  have RJ := hide hj
  have HJL := hide hj.1
  have CR := hide (fun (b : Nat) (k : Nat) (w0 wx : World) (hs : StIn (w.heap.size + 1) b w0 (recV l (rs.take k)) wx) (hb : w.heap.size + 1 ≤ b) (hk : k < rs.length) => by
    have := recall_st l b (recV l (rs.take k)) rs[k] w0 wx hs hb (rinv_rec hf _) hf
    rw [← recV_take hk] at this
    exact this)
  clear h hj
  go_enter Tryz.func17, Tryz.ntmps17
  go_wp2_with fail
  refine (unhide CN _ (unhide HB0)).mono ?_
  rintro e w1 ⟨hb, hcase⟩
  have HB1 := hide (below_on (unhide HB0) hb)
  have P1 := hide ((unhide P0).below hb)
  have hz1 : w.heap.size + 1 ≤ w1.heap.size := (unhide P1).lt
  clear hb P0 HB0 CN
  rcases hcase with ⟨hq, rfl⟩ | ⟨hq, v, rfl, hown⟩
  · have hS : recSt l rs = ⟨[], 0, 0, 0, 0, [], [], []⟩ := by rw [recSt, if_neg (by simp [hq])]
    have HS := hide hS
    have HQ := hide hq
    have b2 := below_al (Below.refl _ w1) (.cells #[.slice none 0 0, .int .i64 0, .int .i64 0, .int .i64 0, .int .i64 0, .slice none 0 0, .slice none 0 0, .slice none 0 0] 31)
    have P2 := hide ((unhide P1).below b2)
    have HB2 := hide (below_on (unhide HB1) b2)
    have hz2 := b2.size
    clear hS hq b2 P1
    go_upto_region 3 with fail
    generalize w1.alloc (.cells #[.slice none 0 0, .int .i64 0, .int .i64 0, .int .i64 0, .int .i64 0, .slice none 0 0, .slice none 0 0, .slice none 0 0] 31) = w2 at P2 HB2 hz2 ⊢
    refine wp_region_lit ?_
    refine wpList_same (v := .agg #[.slice none 0 0, .int .i64 0, .int .i64 0, .int .i64 0, .int .i64 0, .slice none 0 0, .slice none 0 0, .slice none 0 0]) (d := some 17) rfl rfl (by refine run_v ?_; simp only [List.map_toArray, List.map_nil]; kernel_rfl) ?_
    simp only [Act.put, List.setIfInBounds_toArray, List.set_cons_zero, List.set_cons_succ]
    refine wpList_none (d := none) rfl rfl (run_u (st_store (unhide P2) rfl rfl (by kernel_rfl))) ?_
    simp only [Act.put]
    have RR := hide (blk_row (unhide P2) #[.slice none 0 0, .int .i64 0, .int .i64 0, .int .i64 0, .int .i64 0, .slice none 0 0, .slice none 0 0, .slice none 0 0])
    have MM := hide (mks_row (unhide P2) #[.slice none 0 0, .int .i64 0, .int .i64 0, .int .i64 0, .int .i64 0, .slice none 0 0, .slice none 0 0, .slice none 0 0] rfl)
    generalize World.setRow w2 w.heap.size #[.slice none 0 0, .int .i64 0, .int .i64 0, .int .i64 0, .int .i64 0, .slice none 0 0, .slice none 0 0, .slice none 0 0] = W9 at RR MM ⊢
    have B9 := hide ((unhide HB2).trans ((unhide MM).below (fun k e => by rw [e]; exact Nat.le_refl _) (by omega)))
    have z0 := (unhide RR).at 0; have z1 := (unhide RR).at 1; have z2 := (unhide RR).at 2; have z3 := (unhide RR).at 3; have z4 := (unhide RR).at 4; have z5 := (unhide RR).at 5; have z6 := (unhide RR).at 6; have z7 := (unhide RR).at 7
    simp at z0 z1 z2 z3 z4 z5 z6 z7
    go_wp2
    refine bodyPost_ret (v := .tuple #[.agg #[.slice none 0 0, .int .i64 0, .int .i64 0, .int .i64 0, .int .i64 0, .slice none 0 0, .slice none 0 0, .slice none 0 0], .bool false]) (by simp [results, Tryz.results17, go_sem, z0, z1, z2, z3, z4, z5, z6, z7]) rfl ?_
    unfold RecAns
    rw [unhide HS, unhide HQ]
    exact ⟨⟨none, 0, 0, none, 0, 0, none, 0, 0, none, 0, 0⟩, [], rfl, zero_has _ _, unhide B9⟩
  have hS : recSt l rs = recV l rs := by rw [recSt, if_pos hq]
  have HS := hide hS
  have HQ := hide hq
  obtain ⟨qo, qd, rfl, _, hqd, _⟩ := qown_rowx hown
  have b2 := below_al (Below.refl _ w1) (.cells (svc (newX qo l.length qd) (newSt l 1 1001 1)) 31)
  rw [al_size] at hown
  have ST2 := hide (show StIn (w.heap.size + 1) w1.heap.size w1 (recV l (rs.take 0)) (w1.alloc (.cells (svc (newX qo l.length qd) (newSt l 1 1001 1)) 31)) from ⟨newX qo l.length qd, [], blk_new w1 _ _, ((new_has 1 1001 1 hown rfl).base (by omega)).below b2, b2.mono hz1⟩)
  obtain ⟨b6, hb6⟩ : ∃ b, w1.heap.size = b := ⟨_, rfl⟩
  rw [hb6] at ST2 hz1
  clear hS hq b2 hown hqd
  go_upto_region 4 with fail
  generalize w1.alloc (.cells (svc (newX qo l.length qd) (newSt l 1 1001 1)) 31) = w2 at ST2 ⊢
  have HB6 := hide hb6
  clear hb6
  go_wp2
  go_loopw [20] (fun i wr => ∃ k : Nat, k ≤ jl ∧ i = .int .i64 k ∧ Hid (StIn (w.heap.size + 1) b6 w1 (recV l (rs.take k)) wr)) (fun i _ => jl - (intOf i).toNat)
  case atStart => exact ⟨0, Nat.zero_le _, rfl, ST2⟩
  case round =>
    clear ST2
    obtain ⟨k, hk, rfl, HST⟩ := hrel
    have hst := unhide HST
    obtain ⟨y, hs, hk6, hh6, hb6⟩ := hst
    have hzr : b6 < wr.heap.size := hk6.lt
    have HB := hide (show Below w.heap.size w wr from (unhide HB1).trans (hb6.mono (by omega)))
    by_cases hlt : k < jl
    · have hkl : k < rs.length := by have := unhide HJL; omega
      obtain ⟨b', off, rfl, hat⟩ := ((unhide RJ).below (unhide HB)).at hlt
      obtain ⟨c0, c1, c2⟩ := hat hkl
      have CR' := hide (unhide CR b6 k)
      obtain ⟨⟨rk, ra, rq⟩, hr⟩ : ∃ r, rs[k] = r := ⟨_, rfl⟩
      have CK := hide (fun w0 wx hs => by have := unhide CR' w0 wx hs hz1 hkl; rw [hr] at this; exact this)
      rw [hr] at c0 c1 c2
      simp only at c0 c1 c2
      have k0 : (0 : Int) ≤ k := by omega
      have k1 : (k : Int) < jl := by omega
      have b3 := below_al (Below.refl _ wr) (.cells #[.int .i64 rk, .int .i64 ra, .string (bs rq)] 41)
      have ST3 := hide ((unhide HST).below b3 (by omega))
      clear hat hr CR' b3 HST HB hk6 hh6 hb6
      go_wp2_with fail
      refine (unhide CK _ _ (unhide ST3)).mono ?_
      rintro e w4 ⟨rfl, h4, hz4⟩
      have ST4 := hide h4
      clear h4 ST3
      go_wp2
      go_roundw
      case rel => exact ⟨k + 1, by omega, by go_num, ST4⟩
      case measure => simp [intOf]; omega
    · obtain rfl : k = jl := by omega
      have hall : rs.take k = rs := List.take_of_length_le (by have := unhide HJL; omega)
      have P9 := hide (show Blk wr w.heap.size #[.slice none 0 0, .int .i64 0, .int .i64 0, .int .i64 0, .int .i64 0, .slice none 0 0, .slice none 0 0, .slice none 0 0] 31 from (hb6.block _ (by omega)).trans (unhide P1))
      have hST : recV l (rs.take k) = recSt l rs := by rw [hall, unhide HS]
      rw [hST] at hk6 hh6
      obtain ⟨S1, hS1⟩ : ∃ s, recSt l rs = s := ⟨_, rfl⟩
      rw [hS1] at hk6 hh6
      have HS1 := hide hS1
      obtain ⟨yqa, yql, yqc, yaa, yal, yac, yma, yml, ymc, yca, ycl, ycc⟩ := y
      obtain ⟨sqs, sck, sep, snx, sse, sap, sms, scs⟩ := S1
      have K6 := hide hk6
      have H6 := hide (hh6.base (B' := w.heap.size) (by omega))
      clear hb6 HST hST hall hS1 hk6 hh6 CR
      go_upto_region 9 with fail
      refine wp_region_lit ?_
      refine wpList_same (v := .agg #[.slice yqa yql yqc, .int .i64 sck, .int .i64 sep, .int .i64 snx, .int .i64 sse, .slice yaa yal yac, .slice yma yml ymc, .slice yca ycl ycc]) (d := some 27) rfl rfl (run_v (st_load (unhide K6) rfl)) ?_
      simp only [Act.put, List.setIfInBounds_toArray, List.set_cons_zero, List.set_cons_succ]
      refine wpList_none (d := none) rfl rfl (run_u (st_store (unhide P9) rfl rfl (by kernel_rfl))) ?_
      simp only [Act.put]
      have RR := hide (blk_row (unhide P9) #[.slice yqa yql yqc, .int .i64 sck, .int .i64 sep, .int .i64 snx, .int .i64 sse, .slice yaa yal yac, .slice yma yml ymc, .slice yca ycl ycc])
      have MM := hide (mks_row (unhide P9) #[.slice yqa yql yqc, .int .i64 sck, .int .i64 sep, .int .i64 snx, .int .i64 sse, .slice yaa yal yac, .slice yma yml ymc, .slice yca ycl ycc] rfl)
      generalize World.setRow wr (w.heap.size) #[.slice yqa yql yqc, .int .i64 sck, .int .i64 sep, .int .i64 snx, .int .i64 sse, .slice yaa yal yac, .slice yma yml ymc, .slice yca ycl ycc] = W9 at RR MM ⊢
      have H9 := hide ((unhide H6).mkt (unhide MM) (unhide P9))
      have B9 := hide ((unhide HB).trans ((unhide MM).below (fun k e => by rw [e]; omega) (by omega)))

      have z0 := (unhide RR).at 0; have z1 := (unhide RR).at 1; have z2 := (unhide RR).at 2; have z3 := (unhide RR).at 3; have z4 := (unhide RR).at 4; have z5 := (unhide RR).at 5; have z6 := (unhide RR).at 6; have z7 := (unhide RR).at 7
      simp at z0 z1 z2 z3 z4 z5 z6 z7
      go_wp2
      refine bodyPost_ret (v := .tuple #[.agg #[.slice yqa yql yqc, .int .i64 sck, .int .i64 sep, .int .i64 snx, .int .i64 sse, .slice yaa yal yac, .slice yma yml ymc, .slice yca ycl ycc], .bool true]) (by simp [results, Tryz.results17, go_sem, z0, z1, z2, z3, z4, z5, z6, z7]) rfl ?_
      exact (show RecAns w l rs _ _ from by unfold RecAns; rw [unhide HS1, unhide HQ]; exact ⟨⟨yqa, yql, yqc, yaa, yal, yac, yma, yml, ymc, yca, ycl, ycc⟩, hs, rfl, unhide H9, unhide B9⟩)

set_option maxRecDepth 100000 in
set_option maxHeartbeats 4000000 in
theorem implRecover_any (ao : Option Addr) (len cap : Nat) (l : List Q) (log : ByteArray) (w : World) (h : QRow w ao len l) (hl : len ≤ 1048576) (hf : FitQ l) (hc : len ≤ cap) (hs : log.size ≤ 1048576) (hrl : (readV log).1.length ≤ 60000) :
    Calls Tryz.prog 6 #[.slice ao len cap, .string log] w (RecAns w l (readV log).1) := by
  have CR := hide (fun wx => implRead_any log wx hs)
  have CB := hide (fun wx (jo : Option Addr) (jl jc : Nat) (hb : Below w.heap.size w wx) (hj : RcRow wx jo jl (readV log).1) (hjl : jl ≤ 1048576) => implStateBy_any ao len cap l jo jl jc (readV log).1 wx (h.below hb) hl hf hc hj hjl)
  obtain ⟨⟨rs, rn⟩, hr⟩ : ∃ p, readV log = p := ⟨_, rfl⟩
  rw [hr] at CR CB hrl ⊢
  simp only at CR CB hrl ⊢
  have HB0 := hide (below_al (Below.refl _ w) (.cells #[.slice none 0 0, .int .i64 0, .int .i64 0, .int .i64 0, .int .i64 0, .slice none 0 0, .slice none 0 0, .slice none 0 0] 31))
  have P0 := hide (blk_new w #[.slice none 0 0, .int .i64 0, .int .i64 0, .int .i64 0, .int .i64 0, .slice none 0 0, .slice none 0 0, .slice none 0 0] 31)
  clear h hr hs
  go_enter Tryz.func6, Tryz.ntmps6
  go_wp2_with fail
  refine (unhide CR _).mono ?_
  rintro e w1 ⟨v, rfl, hown, hb⟩
  obtain ⟨jo, jc, rfl, hrow, _, _⟩ := jown_row hown
  have RW := hide hrow
  have HB1 := hide (below_on (unhide HB0) hb)
  have P1 := hide ((unhide P0).below hb)
  obtain ⟨jl, hjl⟩ : ∃ n, rs.length = n := ⟨_, rfl⟩
  rw [hjl] at RW hrl ⊢
  clear hb hown hrow P0 HB0 CR hjl
  go_wp2_with fail
  refine (unhide CB _ _ _ _ (unhide HB1) (unhide RW) (by omega)).mono ?_
  rintro e w2 ⟨y, hs, rfl, hh, hb⟩
  obtain ⟨S1, hS1⟩ : ∃ s, recSt l rs = s := ⟨_, rfl⟩
  obtain ⟨q0, hq0⟩ : ∃ s, queuesOk l = s := ⟨_, rfl⟩
  rw [hS1] at hh
  have HS1 := hide hS1
  have HQ0 := hide hq0
  rw [hS1, hq0]
  obtain ⟨yqa, yql, yqc, yaa, yal, yac, yma, yml, ymc, yca, ycl, ycc⟩ := y
  obtain ⟨sqs, sck, sep, snx, sse, sap, sms, scs⟩ := S1
  have HB2 := hide (below_on (unhide HB1) hb)
  have P2 := hide ((unhide P1).below hb)
  have H2 := hide (hh.base (B' := w.heap.size) (unhide HB1).size)
  have hz2 : w.heap.size < w2.heap.size := (unhide P2).lt
  clear hb hh hS1 hq0 P1 HB1 RW CB
  have c0 := (unhide P2).at 0; have c1 := (unhide P2).at 1; have c2 := (unhide P2).at 2; have c3 := (unhide P2).at 3; have c4 := (unhide P2).at 4; have c5 := (unhide P2).at 5; have c6 := (unhide P2).at 6; have c7 := (unhide P2).at 7
  have f0 := (unhide P2).f 0; have f1 := (unhide P2).f 1; have f2 := (unhide P2).f 2; have f3 := (unhide P2).f 3; have f4 := (unhide P2).f 4; have f5 := (unhide P2).f 5; have f6 := (unhide P2).f 6; have f7 := (unhide P2).f 7
  simp at c0 c1 c2 c3 c4 c5 c6 c7
  go_wp2
  have RR := hide (show Blk ((((((((w2.setCell ⟨w.heap.size, 0, none⟩ (.slice yqa yql yqc)).setCell ⟨w.heap.size, 1, none⟩ (.int .i64 sck)).setCell ⟨w.heap.size, 2, none⟩ (.int .i64 sep)).setCell ⟨w.heap.size, 3, none⟩ (.int .i64 snx)).setCell ⟨w.heap.size, 4, none⟩ (.int .i64 sse)).setCell ⟨w.heap.size, 5, none⟩ (.slice yaa yal yac)).setCell ⟨w.heap.size, 6, none⟩ (.slice yma yml ymc)).setCell ⟨w.heap.size, 7, none⟩ (.slice yca ycl ycc)) (w.heap.size) #[.slice yqa yql yqc, .int .i64 sck, .int .i64 sep, .int .i64 snx, .int .i64 sse, .slice yaa yal yac, .slice yma yml ymc, .slice yca ycl ycc] 31 from (((((((((unhide P2).set 0 (.slice yqa yql yqc)).set 1 (.int .i64 sck)).set 2 (.int .i64 sep)).set 3 (.int .i64 snx)).set 4 (.int .i64 sse)).set 5 (.slice yaa yal yac)).set 6 (.slice yma yml ymc)).set 7 (.slice yca ycl ycc)))
  have MM := hide (show Mks (fun k => k = w.heap.size) w2 ((((((((w2.setCell ⟨w.heap.size, 0, none⟩ (.slice yqa yql yqc)).setCell ⟨w.heap.size, 1, none⟩ (.int .i64 sck)).setCell ⟨w.heap.size, 2, none⟩ (.int .i64 sep)).setCell ⟨w.heap.size, 3, none⟩ (.int .i64 snx)).setCell ⟨w.heap.size, 4, none⟩ (.int .i64 sse)).setCell ⟨w.heap.size, 5, none⟩ (.slice yaa yal yac)).setCell ⟨w.heap.size, 6, none⟩ (.slice yma yml ymc)).setCell ⟨w.heap.size, 7, none⟩ (.slice yca ycl ycc)) from ((((((((Mks.refl (fun k => k = w.heap.size) _).sc (w.heap.size) 0 (.slice yqa yql yqc) rfl).sc (w.heap.size) 1 (.int .i64 sck) rfl).sc (w.heap.size) 2 (.int .i64 sep) rfl).sc (w.heap.size) 3 (.int .i64 snx) rfl).sc (w.heap.size) 4 (.int .i64 sse) rfl).sc (w.heap.size) 5 (.slice yaa yal yac) rfl).sc (w.heap.size) 6 (.slice yma yml ymc) rfl).sc (w.heap.size) 7 (.slice yca ycl ycc) rfl)
  generalize ((((((((w2.setCell ⟨w.heap.size, 0, none⟩ (.slice yqa yql yqc)).setCell ⟨w.heap.size, 1, none⟩ (.int .i64 sck)).setCell ⟨w.heap.size, 2, none⟩ (.int .i64 sep)).setCell ⟨w.heap.size, 3, none⟩ (.int .i64 snx)).setCell ⟨w.heap.size, 4, none⟩ (.int .i64 sse)).setCell ⟨w.heap.size, 5, none⟩ (.slice yaa yal yac)).setCell ⟨w.heap.size, 6, none⟩ (.slice yma yml ymc)).setCell ⟨w.heap.size, 7, none⟩ (.slice yca ycl ycc)) = W9 at RR MM ⊢
  have H9 := hide ((unhide H2).mkt (unhide MM) (unhide P2))
  have B9 := hide ((unhide HB2).trans ((unhide MM).below (fun k e => by rw [e]; exact Nat.le_refl _) (by omega)))
  have z0 := (unhide RR).at 0; have z1 := (unhide RR).at 1; have z2 := (unhide RR).at 2; have z3 := (unhide RR).at 3; have z4 := (unhide RR).at 4; have z5 := (unhide RR).at 5; have z6 := (unhide RR).at 6; have z7 := (unhide RR).at 7
  simp at z0 z1 z2 z3 z4 z5 z6 z7
  refine bodyPost_ret (v := .tuple #[.agg #[.slice yqa yql yqc, .int .i64 sck, .int .i64 sep, .int .i64 snx, .int .i64 sse, .slice yaa yal yac, .slice yma yml ymc, .slice yca ycl ycc], .bool q0]) (by simp [results, Tryz.results6, go_sem, z0, z1, z2, z3, z4, z5, z6, z7]) rfl ?_
  exact (show RecAns w l rs _ _ from by unfold RecAns; rw [unhide HS1, unhide HQ0]; exact ⟨⟨yqa, yql, yqc, yaa, yal, yac, yma, yml, ymc, yca, ycl, ycc⟩, hs, rfl, unhide H9, unhide B9⟩)

end Go.Proofs.YtkpmocbfedgfhaaGreat

/-
  What a log's records tell, by the model: Recover; a walk over the dump.
-/
namespace Go.Proofs.YtkpmocbfedgfhaaGreat
open Go.RowKit
set_option linter.unusedVariables false
set_option linter.unusedSimpArgs false
theorem jown_mks {B : Nat} {S : Nat → Prop} {w w' : World} {v : Value} {l : List Rc} {t' : TypeId} (h : JOwn B w v l) (hm : Mks S w w') (hS : ∀ k, S k → ∃ N, Cel w t' k N) (ht : t' ≠ 41) : JOwn B w' v l := by
  obtain ⟨h1, h2⟩ := h
  refine ⟨h1, ?_⟩
  rcases h2 with h2 | ⟨g, cap, cur, e, k1, k2, k3⟩
  · exact .inl h2
  · refine .inr ⟨g, cap, cur, e, k1, ?_, k3⟩
    rw [hm.block g (lt_of_block k2) (fun hs => by obtain ⟨N, hc⟩ := hS g hs; exact ht (hc.type ⟨_, k2, rfl⟩))]
    exact k2

set_option maxRecDepth 100000 in
set_option maxHeartbeats 8000000 in
theorem specRecover_any (ao : Option Addr) (len cap : Nat) (l : List Q) (log : ByteArray) (w : World) (h : QRow w ao len l) (hl : len ≤ 1048576) (hf : FitQ l) (ha : ∃ ad, ao = some ad) (hs : log.size ≤ 1048576) (hrl : (readV log).1.length ≤ 60000) :
    Calls Tryz.prog 7 #[.slice ao len cap, .string log] w (RecAns w l (readV log).1) := by
  have CN := hide (fun wx (hb : Below w.heap.size w wx) => specStateNew_any ao len cap l wx (h.below hb) hl hf ha (fun qo n c wy hr _ => by have := specStateOk_any (newX qo n c) (newSt l 1 1001 1) wy (new_row 1 1001 1 hr) (new_fit 1 1001 1 hf); rw [new_ok] at this; exact this))
  have CRD := hide (fun wx => specRead_any log wx hs)
  obtain ⟨⟨rs, rn⟩, hr⟩ : ∃ p, readV log = p := ⟨_, rfl⟩
  rw [hr] at CRD hrl ⊢
  simp only at CRD hrl ⊢
  have HB0 := hide (below_al (Below.refl _ w) (.cells #[.slice none 0 0, .int .i64 0, .int .i64 0, .int .i64 0, .int .i64 0, .slice none 0 0, .slice none 0 0, .slice none 0 0] 31))
  have P0 := hide (blk_new w #[.slice none 0 0, .int .i64 0, .int .i64 0, .int .i64 0, .int .i64 0, .slice none 0 0, .slice none 0 0, .slice none 0 0] 31)
  have CA := hide (fun (hq : queuesOk l = true) (x : Sls) (hs : List AV) (k : Nat) (wx : World) (hx : SHas (w.heap.size + 1) wx x (recV l (rs.take k)) hs) (hB : w.heap.size + 1 ≤ wx.heap.size) (hk : k < rs.length) => by
    have := l08Apply_any l x (recV l (rs.take k)) hs rs[k] wx hx hB (rinv_rec hf _) hf hq
    rw [← recV_take hk] at this
    exact this)
  clear h hr hs
  go_enter Tryz.func7, Tryz.ntmps7
  go_wp2_with fail
  refine (unhide CN _ (unhide HB0)).mono ?_
  rintro e w1 ⟨hb, hcase⟩
  have HB1 := hide (below_on (unhide HB0) hb)
  have P1 := hide ((unhide P0).below hb)
  have hz1 : w.heap.size + 1 ≤ w1.heap.size := (unhide P1).lt
  clear hb P0 HB0 CN
  rcases hcase with ⟨hq, rfl⟩ | ⟨hq, v, rfl, hown⟩
  · have hS : recSt l rs = ⟨[], 0, 0, 0, 0, [], [], []⟩ := by rw [recSt, if_neg (by simp [hq])]
    have HS := hide hS
    have HQ := hide hq
    have b2 := below_al (Below.refl _ w1) (.cells #[.slice none 0 0, .int .i64 0, .int .i64 0, .int .i64 0, .int .i64 0, .slice none 0 0, .slice none 0 0, .slice none 0 0] 31)
    have P2 := hide ((unhide P1).below b2)
    have HB2 := hide (below_on (unhide HB1) b2)
    have hz2 := b2.size
    clear hS hq b2 P1
    go_upto_region 3 with fail
    generalize w1.alloc (.cells #[.slice none 0 0, .int .i64 0, .int .i64 0, .int .i64 0, .int .i64 0, .slice none 0 0, .slice none 0 0, .slice none 0 0] 31) = w2 at P2 HB2 hz2 ⊢
    refine wp_region_lit ?_
    refine wpList_same (v := .agg #[.slice none 0 0, .int .i64 0, .int .i64 0, .int .i64 0, .int .i64 0, .slice none 0 0, .slice none 0 0, .slice none 0 0]) (d := some 18) rfl rfl (by refine run_v ?_; simp only [List.map_toArray, List.map_nil]; kernel_rfl) ?_
    simp only [Act.put, List.setIfInBounds_toArray, List.set_cons_zero, List.set_cons_succ]
    refine wpList_none (d := none) rfl rfl (run_u (st_store (unhide P2) rfl rfl (by kernel_rfl))) ?_
    simp only [Act.put]
    have RR := hide (blk_row (unhide P2) #[.slice none 0 0, .int .i64 0, .int .i64 0, .int .i64 0, .int .i64 0, .slice none 0 0, .slice none 0 0, .slice none 0 0])
    have MM := hide (mks_row (unhide P2) #[.slice none 0 0, .int .i64 0, .int .i64 0, .int .i64 0, .int .i64 0, .slice none 0 0, .slice none 0 0, .slice none 0 0] rfl)
    generalize World.setRow w2 w.heap.size #[.slice none 0 0, .int .i64 0, .int .i64 0, .int .i64 0, .int .i64 0, .slice none 0 0, .slice none 0 0, .slice none 0 0] = W9 at RR MM ⊢
    have B9 := hide ((unhide HB2).trans ((unhide MM).below (fun k e => by rw [e]; exact Nat.le_refl _) (by omega)))
    have z0 := (unhide RR).at 0; have z1 := (unhide RR).at 1; have z2 := (unhide RR).at 2; have z3 := (unhide RR).at 3; have z4 := (unhide RR).at 4; have z5 := (unhide RR).at 5; have z6 := (unhide RR).at 6; have z7 := (unhide RR).at 7
    simp at z0 z1 z2 z3 z4 z5 z6 z7
    go_wp2
    refine bodyPost_ret (v := .tuple #[.agg #[.slice none 0 0, .int .i64 0, .int .i64 0, .int .i64 0, .int .i64 0, .slice none 0 0, .slice none 0 0, .slice none 0 0], .bool false]) (by simp [results, Tryz.results7, go_sem, z0, z1, z2, z3, z4, z5, z6, z7]) rfl ?_
    unfold RecAns
    rw [unhide HS, unhide HQ]
    exact ⟨⟨none, 0, 0, none, 0, 0, none, 0, 0, none, 0, 0⟩, [], rfl, zero_has _ _, unhide B9⟩
  have hS : recSt l rs = recV l rs := by rw [recSt, if_pos hq]
  have HS := hide hS
  have HQ := hide hq
  obtain ⟨qo, qd, rfl, _, hqd, _⟩ := qown_rowx hown
  have b2 := below_al (Below.refl _ w1) (.cells (svc (newX qo l.length qd) (newSt l 1 1001 1)) 31)
  rw [al_size] at hown
  have K2 := hide (blk_new w1 (svc (newX qo l.length qd) (newSt l 1 1001 1)) 31)
  have H2 := hide (show SHas (w.heap.size + 1) _ (newX qo l.length qd) (recV l (rs.take 0)) [] from ((new_has 1 1001 1 hown rfl).base (B' := w.heap.size + 1) (by omega)).below b2)
  have P2 := hide ((unhide P1).below b2)
  have HB2 := hide (below_on (unhide HB1) b2)
  obtain ⟨b6, hb6⟩ : ∃ b, w1.heap.size = b := ⟨_, rfl⟩
  rw [hb6] at K2 hz1
  clear hS hq b2 hown hqd P1 HB1
  go_upto_region 4 with fail
  generalize w1.alloc (.cells (svc (newX qo l.length qd) (newSt l 1 1001 1)) 31) = w2 at K2 H2 P2 HB2 ⊢
  have HB6 := hide hb6
  clear hb6
  go_wp2_with fail
  refine (unhide CRD _).mono ?_
  rintro e w3 ⟨v, rfl, hj, hb⟩
  have J3 := hide (jown_base hj (B' := w.heap.size + 1) (by have := (unhide K2).lt; omega))
  have K3 := hide ((unhide K2).below hb)
  have H3 := hide ((unhide H2).below hb)
  have P3 := hide ((unhide P2).below hb)
  have HB3 := hide (below_on (unhide HB2) hb)
  clear hj hb K2 H2 P2 HB2 CRD
  obtain ⟨jo, jc, rfl, _, _, _⟩ := jown_row (unhide J3)
  obtain ⟨jl, hjl⟩ : ∃ n, rs.length = n := ⟨_, rfl⟩
  have HJL := hide hjl
  rw [hjl] at J3 hrl ⊢
  clear hjl
  go_wp2
  go_loopw [10] (fun i wr => ∃ k : Nat, k ≤ jl ∧ i = .int .i64 k ∧ Hid (∃ y hs, Blk wr b6 (svc y (recV l (rs.take k))) 31 ∧ SHas (w.heap.size + 1) wr y (recV l (rs.take k)) hs) ∧ Hid (JOwn (w.heap.size + 1) wr (.slice jo jl jc) rs) ∧ Hid (Blk wr w.heap.size #[.slice none 0 0, .int .i64 0, .int .i64 0, .int .i64 0, .int .i64 0, .slice none 0 0, .slice none 0 0, .slice none 0 0] 31) ∧ Hid (Below w.heap.size w wr)) (fun i _ => jl - (intOf i).toNat)
  case atStart => exact ⟨0, Nat.zero_le _, rfl, hide ⟨_, _, unhide K3, unhide H3⟩, J3, P3, HB3⟩
  case round =>
    clear J3 K3 H3 P3 HB3
    obtain ⟨k, hk, rfl, HST, HJ, HP, HB⟩ := hrel
    obtain ⟨y, hs, hk6, hh6⟩ := unhide HST
    have hzr : b6 < wr.heap.size := hk6.lt
    by_cases hlt : k < jl
    · have hkl : k < rs.length := by have := unhide HJL; omega
      obtain ⟨jo2, jc2, ej, hrow, _, _⟩ := jown_row (unhide HJ)
      simp only [Value.slice.injEq] at ej
      obtain ⟨ej1, ej2, ej3⟩ := ej
      subst ej1 ej3
      clear ej2
      obtain ⟨b', off, rfl, hat⟩ := hrow.at (by rw [unhide HJL]; exact hlt)
      obtain ⟨c0, c1, c2⟩ := hat hkl
      have CX := hide (fun wx (hb : Below wr.heap.size wr wx) => (unhide CA (unhide HQ) y hs k wx (hh6.below hb) (by have := hb.size; omega) hkl).mono (R' := fun e w' => ∃ n hs4, e = .returned (sv n (recV l (rs.take (k + 1)))) ∧ SHas (w.heap.size + 1) w' n (recV l (rs.take (k + 1))) hs4 ∧ Blk w' b6 (svc y (recV l (rs.take k))) 31 ∧ JOwn (w.heap.size + 1) w' (.slice (some ⟨b', off, none⟩) jl jc) rs ∧ Blk w' w.heap.size #[.slice none 0 0, .int .i64 0, .int .i64 0, .int .i64 0, .int .i64 0, .slice none 0 0, .slice none 0 0, .slice none 0 0] 31 ∧ Below w.heap.size w w') (fun e w' ⟨n, hs4, he, hh, hm⟩ => ⟨n, hs4, he, hh, hm.blk (hk6.below hb) (fun ⟨N, hc, _⟩ => absurd (hc.type ⟨_, hk6.below hb, rfl⟩) (by decide)), jown_mks (jown_below (unhide HJ) hb) hm (fun k ⟨N, hc, _⟩ => ⟨N, hc⟩) (by decide), hm.blk ((unhide HP).below hb) (fun ⟨N, _, h⟩ => by omega), (below_on (unhide HB) hb).trans (hm.below (fun k ⟨N, _, h⟩ => by omega) (by have := hb.size; omega))⟩))
      obtain ⟨⟨rk, ra, rq⟩, hr⟩ : ∃ r, rs[k] = r := ⟨_, rfl⟩
      rw [hr] at CX c0 c1 c2
      simp only at c0 c1 c2
      obtain ⟨S2, hS2⟩ : ∃ s, recV l (rs.take (k + 1)) = s := ⟨_, rfl⟩
      have HS2 := hide hS2
      rw [hS2] at CX
      obtain ⟨S1, hS1⟩ : ∃ s, recV l (rs.take k) = s := ⟨_, rfl⟩
      rw [hS1] at hk6 CX
      have k0 : (0 : Int) ≤ k := by omega
      have k1 : (k : Int) < jl := by omega
      have k2 : k < jl := hlt
      have hwk : IntKind.i64.wrap ((k : Int) + 1) = (k : Int) + 1 := by rw [IntKind.wrap_i64]; omega
      obtain ⟨yqa, yql, yqc, yaa, yal, yac, yma, yml, ymc, yca, ycl, ycc⟩ := y
      obtain ⟨sqs, sck, sep, snx, sse, sap, sms, scs⟩ := S1
      have K6 := hide hk6
      have a0 := (unhide K6).at 0; have a1 := (unhide K6).at 1; have a2 := (unhide K6).at 2; have a3 := (unhide K6).at 3; have a4 := (unhide K6).at 4; have a5 := (unhide K6).at 5; have a6 := (unhide K6).at 6; have a7 := (unhide K6).at 7
      simp at a0 a1 a2 a3 a4 a5 a6 a7
      clear hat hr hS1 hS2 hh6 hk6 HST hrow hk
      go_wp2_with fail
      go_region_with (go_at_call 20; refine (unhide CX _ ?_).mono ?_; (first | exact (Below.refl _ _).drew | exact Below.refl _ _); rintro e w4 ⟨n, hs4, rfl, hh4, hk4, hj4, hp4, hb4⟩; obtain ⟨nqa, nql, nqc, naa, nal, nac, nma, nml, nmc, nca, ncl, ncc⟩ := n; obtain ⟨tqs, tck, tep, tnx, tse, tap, tms, tcs⟩ := S2; have K4 := hide hk4; have X4 := hide (And.intro hh4 (And.intro hj4 (And.intro hp4 hb4))); clear hk4 hh4 hj4 hp4 hb4; have d0 := (unhide K4).at 0; have d1 := (unhide K4).at 1; have d2 := (unhide K4).at 2; have d3 := (unhide K4).at 3; have d4 := (unhide K4).at 4; have d5 := (unhide K4).at 5; have d6 := (unhide K4).at 6; have d7 := (unhide K4).at 7; have g0 := (unhide K4).f 0; have g1 := (unhide K4).f 1; have g2 := (unhide K4).f 2; have g3 := (unhide K4).f 3; have g4 := (unhide K4).f 4; have g5 := (unhide K4).f 5; have g6 := (unhide K4).f 6; have g7 := (unhide K4).f 7; simp at d0 d1 d2 d3 d4 d5 d6 d7)
      all_goals
        have K5 := hide (show Blk ((((((((w4.setCell ⟨b6, 0, none⟩ (.slice nqa nql nqc)).setCell ⟨b6, 1, none⟩ (.int .i64 tck)).setCell ⟨b6, 2, none⟩ (.int .i64 tep)).setCell ⟨b6, 3, none⟩ (.int .i64 tnx)).setCell ⟨b6, 4, none⟩ (.int .i64 tse)).setCell ⟨b6, 5, none⟩ (.slice naa nal nac)).setCell ⟨b6, 6, none⟩ (.slice nma nml nmc)).setCell ⟨b6, 7, none⟩ (.slice nca ncl ncc)) b6 #[.slice nqa nql nqc, .int .i64 tck, .int .i64 tep, .int .i64 tnx, .int .i64 tse, .slice naa nal nac, .slice nma nml nmc, .slice nca ncl ncc] 31 from (((((((((unhide K4).set 0 (.slice nqa nql nqc)).set 1 (.int .i64 tck)).set 2 (.int .i64 tep)).set 3 (.int .i64 tnx)).set 4 (.int .i64 tse)).set 5 (.slice naa nal nac)).set 6 (.slice nma nml nmc)).set 7 (.slice nca ncl ncc)))
        have M5 := hide (show Mks (fun k => k = b6) w4 ((((((((w4.setCell ⟨b6, 0, none⟩ (.slice nqa nql nqc)).setCell ⟨b6, 1, none⟩ (.int .i64 tck)).setCell ⟨b6, 2, none⟩ (.int .i64 tep)).setCell ⟨b6, 3, none⟩ (.int .i64 tnx)).setCell ⟨b6, 4, none⟩ (.int .i64 tse)).setCell ⟨b6, 5, none⟩ (.slice naa nal nac)).setCell ⟨b6, 6, none⟩ (.slice nma nml nmc)).setCell ⟨b6, 7, none⟩ (.slice nca ncl ncc)) from ((((((((Mks.refl (fun k => k = b6) _).sc (b6) 0 (.slice nqa nql nqc) rfl).sc (b6) 1 (.int .i64 tck) rfl).sc (b6) 2 (.int .i64 tep) rfl).sc (b6) 3 (.int .i64 tnx) rfl).sc (b6) 4 (.int .i64 tse) rfl).sc (b6) 5 (.slice naa nal nac) rfl).sc (b6) 6 (.slice nma nml nmc) rfl).sc (b6) 7 (.slice nca ncl ncc) rfl)
        generalize ((((((((w4.setCell ⟨b6, 0, none⟩ (.slice nqa nql nqc)).setCell ⟨b6, 1, none⟩ (.int .i64 tck)).setCell ⟨b6, 2, none⟩ (.int .i64 tep)).setCell ⟨b6, 3, none⟩ (.int .i64 tnx)).setCell ⟨b6, 4, none⟩ (.int .i64 tse)).setCell ⟨b6, 5, none⟩ (.slice naa nal nac)).setCell ⟨b6, 6, none⟩ (.slice nma nml nmc)).setCell ⟨b6, 7, none⟩ (.slice nca ncl ncc)) = w5 at K5 M5 ⊢
        obtain ⟨hh4, hj4, hp4, hb4⟩ := unhide X4
        have H5 := hide (hh4.mkt (unhide M5) (unhide K4))
        have J5 := hide (jown_mks hj4 (unhide M5) (fun k e => by rw [e]; exact ⟨_, _, unhide K4, rfl⟩) (by decide))
        have P5 := hide ((unhide M5).blk hp4 (fun e => by omega))
        have B5 := hide (hb4.trans ((unhide M5).below (fun k e => by rw [e]; omega) hb4.size))
        clear hh4 hj4 hp4 hb4 X4 K4 M5 d0 d1 d2 d3 d4 d5 d6 d7
        go_wp2
        go_roundw
        case rel => exact ⟨k + 1, by omega, by go_num, hide ⟨⟨nqa, nql, nqc, naa, nal, nac, nma, nml, nmc, nca, ncl, ncc⟩, hs4, by rw [unhide HS2]; exact unhide K5, by rw [unhide HS2]; exact unhide H5⟩, J5, P5, B5⟩
        case measure => simp [intOf]; omega
    · obtain rfl : k = jl := by omega
      have hall : rs.take k = rs := List.take_of_length_le (by have := unhide HJL; omega)
      have hST : recV l (rs.take k) = recSt l rs := by rw [hall, unhide HS]
      rw [hST] at hk6 hh6
      obtain ⟨S1, hS1⟩ : ∃ s, recSt l rs = s := ⟨_, rfl⟩
      rw [hS1] at hk6 hh6
      have HS1 := hide hS1
      obtain ⟨yqa, yql, yqc, yaa, yal, yac, yma, yml, ymc, yca, ycl, ycc⟩ := y
      obtain ⟨sqs, sck, sep, snx, sse, sap, sms, scs⟩ := S1
      have K6 := hide hk6
      have H6 := hide (hh6.base (B' := w.heap.size) (by omega))
      clear HST hST hall hS1 hk6 hh6 CA
      go_upto_region 9 with fail
      refine wp_region_lit ?_
      refine wpList_same (v := .agg #[.slice yqa yql yqc, .int .i64 sck, .int .i64 sep, .int .i64 snx, .int .i64 sse, .slice yaa yal yac, .slice yma yml ymc, .slice yca ycl ycc]) (d := some 36) rfl rfl (run_v (st_load (unhide K6) rfl)) ?_
      simp only [Act.put, List.setIfInBounds_toArray, List.set_cons_zero, List.set_cons_succ]
      refine wpList_none (d := none) rfl rfl (run_u (st_store (unhide HP) rfl rfl (by kernel_rfl))) ?_
      simp only [Act.put]
      have RR := hide (blk_row (unhide HP) #[.slice yqa yql yqc, .int .i64 sck, .int .i64 sep, .int .i64 snx, .int .i64 sse, .slice yaa yal yac, .slice yma yml ymc, .slice yca ycl ycc])
      have MM := hide (mks_row (unhide HP) #[.slice yqa yql yqc, .int .i64 sck, .int .i64 sep, .int .i64 snx, .int .i64 sse, .slice yaa yal yac, .slice yma yml ymc, .slice yca ycl ycc] rfl)
      generalize World.setRow wr (w.heap.size) #[.slice yqa yql yqc, .int .i64 sck, .int .i64 sep, .int .i64 snx, .int .i64 sse, .slice yaa yal yac, .slice yma yml ymc, .slice yca ycl ycc] = W9 at RR MM ⊢
      have H9 := hide ((unhide H6).mkt (unhide MM) (unhide HP))
      have B9 := hide ((unhide HB).trans ((unhide MM).below (fun k e => by rw [e]; omega) (by omega)))

      have z0 := (unhide RR).at 0; have z1 := (unhide RR).at 1; have z2 := (unhide RR).at 2; have z3 := (unhide RR).at 3; have z4 := (unhide RR).at 4; have z5 := (unhide RR).at 5; have z6 := (unhide RR).at 6; have z7 := (unhide RR).at 7
      simp at z0 z1 z2 z3 z4 z5 z6 z7
      go_wp2
      refine bodyPost_ret (v := .tuple #[.agg #[.slice yqa yql yqc, .int .i64 sck, .int .i64 sep, .int .i64 snx, .int .i64 sse, .slice yaa yal yac, .slice yma yml ymc, .slice yca ycl ycc], .bool true]) (by simp [results, Tryz.results7, go_sem, z0, z1, z2, z3, z4, z5, z6, z7]) rfl ?_
      exact (show RecAns w l rs _ _ from by unfold RecAns; rw [unhide HS1, unhide HQ]; exact ⟨⟨yqa, yql, yqc, yaa, yal, yac, yma, yml, ymc, yca, ycl, ycc⟩, hs, rfl, unhide H9, unhide B9⟩)
end Go.Proofs.YtkpmocbfedgfhaaGreat
