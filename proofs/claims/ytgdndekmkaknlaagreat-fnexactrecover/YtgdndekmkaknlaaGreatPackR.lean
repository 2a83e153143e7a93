/-
  Several texts of this claim in one: NewSt, NewLaw, Bytes, PutS, Get (pack.py put them together); each says in its own remark what is proved.
-/
import Derived.Test.YtgdndekmkaknlaaGreatPackF
import Derived.Test.YtgdndekmkaknlaaGreatPackO
import Derived.Test.YtgdndekmkaknlaaGreatPackH
import Derived.Deep.CutBlock
import Derived.Deep.CutRange
import Derived.Test.YtgdndekmkaknlaaGreatPackA
import Derived.Laws.IdiomStrings
import Derived.Lib.ItoaMem
import Derived.Lib.Strings
import Derived.LoopN
import Derived.Deep.RegionWith
import Derived.WideShapes
/-
  A new state, by the program and by the model: StateNew; walks over the dump. Of StateOk is asked what it answers of a state of queues alone.
-/
namespace Go.Proofs.YtgdndekmkaknlaaGreat
open Go.RowKit
set_option linter.unusedVariables false
set_option linter.unusedSimpArgs false
/-- what a call of StateNew ends with -/
def NewAns (w : World) (l : List Q) (e : Ending) (w' : World) : Prop := Below w.heap.size w w' ∧ (queuesOk l = false ∧ e = .returned (.tuple #[.agg #[.slice none 0 0, .int .i64 0, .int .i64 0, .int .i64 0, .int .i64 0, .slice none 0 0, .slice none 0 0, .slice none 0 0], .bool false]) ∨ queuesOk l = true ∧ ∃ v, e = .returned (.tuple #[.agg #[v, .int .i64 0, .int .i64 1, .int .i64 1001, .int .i64 1, .slice none 0 0, .slice none 0 0, .slice none 0 0], .bool true]) ∧ QOwn (w.heap.size + 1) w' v l)

set_option maxRecDepth 100000 in
set_option maxHeartbeats 4000000 in
theorem implStateNew_any (ao : Option Addr) (len cap : Nat) (l : List Q) (w : World) (h : QRow w ao len l) (hl : len ≤ 1048576) (hf : FitQ l)
    (CO : ∀ (qo : Option Addr) (n c : Nat) (wx : World), QRow wx qo n l → n ≤ c → Calls Tryz.prog 67 #[.agg #[.slice qo n c, .int .i64 0, .int .i64 1, .int .i64 1001, .int .i64 1, .slice none 0 0, .slice none 0 0, .slice none 0 0]] wx fun e w' => e = .returned (.bool (queuesOk l)) ∧ Below wx.heap.size wx w') (hc : len ≤ cap) :
    Calls Tryz.prog 44 #[.slice ao len cap] w (NewAns w l) := by
  obtain ⟨o, ho⟩ : ∃ o, queuesOk l = o := ⟨_, rfl⟩
  have HB0 := hide (below_al (below_al (Below.refl _ w) (.cells #[.slice none 0 0, .int .i64 0, .int .i64 0, .int .i64 0, .int .i64 0, .slice none 0 0, .slice none 0 0, .slice none 0 0] 29)) (.cells #[.slice ao len cap, .int .i64 0, .int .i64 1, .int .i64 1001, .int .i64 1, .slice none 0 0, .slice none 0 0, .slice none 0 0] 29))
  have P0 := hide ((blk_new w #[.slice none 0 0, .int .i64 0, .int .i64 0, .int .i64 0, .int .i64 0, .slice none 0 0, .slice none 0 0, .slice none 0 0] 29).al (.cells #[.slice ao len cap, .int .i64 0, .int .i64 1, .int .i64 1001, .int .i64 1, .slice none 0 0, .slice none 0 0, .slice none 0 0] 29))
  have P1 := hide (show Blk _ (w.heap.size + 1) #[.slice ao len cap, .int .i64 0, .int .i64 1, .int .i64 1001, .int .i64 1, .slice none 0 0, .slice none 0 0, .slice none 0 0] 29 by have := blk_new (w.alloc (.cells #[.slice none 0 0, .int .i64 0, .int .i64 0, .int .i64 0, .int .i64 0, .slice none 0 0, .slice none 0 0, .slice none 0 0] 29)) #[.slice ao len cap, .int .i64 0, .int .i64 1, .int .i64 1001, .int .i64 1, .slice none 0 0, .slice none 0 0, .slice none 0 0] 29; rwa [al_size] at this)
  have CS := hide (fun wx (hb : Below w.heap.size w wx) => by have := CO ao len cap wx (h.below hb) hc; rw [ho] at this; exact this)
  have CC := hide (fun wx (hb : Below w.heap.size w wx) => copyOfQueues_any ao len cap l wx (h.below hb) hl hf.2)
  have HOO := hide ho
  clear h hf CO ho
  go_enter Tryz.func44, Tryz.ntmps44
  go_wp2_with fail
  refine (unhide CS _ (unhide HB0)).mono ?_
  rintro e w1 ⟨rfl, hb⟩
  have HB1 := hide (below_on (unhide HB0) hb)
  have Q0 := hide ((unhide P0).below hb)
  have Q1 := hide ((unhide P1).below hb)
  clear hb HB0 P0 P1 CS
  cases o
  case false =>
    have c0 := (unhide Q0).at 0; have c1 := (unhide Q0).at 1; have c2 := (unhide Q0).at 2; have c3 := (unhide Q0).at 3; have c4 := (unhide Q0).at 4; have c5 := (unhide Q0).at 5; have c6 := (unhide Q0).at 6; have c7 := (unhide Q0).at 7
    have rf0 := (unhide Q0).f 0; have rf1 := (unhide Q0).f 1; have rf2 := (unhide Q0).f 2; have rf3 := (unhide Q0).f 3; have rf4 := (unhide Q0).f 4; have rf5 := (unhide Q0).f 5; have rf6 := (unhide Q0).f 6; have rf7 := (unhide Q0).f 7
    simp at c0 c1 c2 c3 c4 c5 c6 c7
    go_wp2
    have HB9 := hide (below_sc (below_sc (below_sc (below_sc (below_sc (below_sc (below_sc (below_sc (unhide HB1) w.heap.size 0 (.slice none 0 0) (Nat.le_refl _)) w.heap.size 1 (.int .i64 0) (Nat.le_refl _)) w.heap.size 2 (.int .i64 0) (Nat.le_refl _)) w.heap.size 3 (.int .i64 0) (Nat.le_refl _)) w.heap.size 4 (.int .i64 0) (Nat.le_refl _)) w.heap.size 5 (.slice none 0 0) (Nat.le_refl _)) w.heap.size 6 (.slice none 0 0) (Nat.le_refl _)) w.heap.size 7 (.slice none 0 0) (Nat.le_refl _))
    have R9 := hide (show Blk ((((((((w1.setCell ⟨w.heap.size, 0, none⟩ (.slice none 0 0)).setCell ⟨w.heap.size, 1, none⟩ (.int .i64 0)).setCell ⟨w.heap.size, 2, none⟩ (.int .i64 0)).setCell ⟨w.heap.size, 3, none⟩ (.int .i64 0)).setCell ⟨w.heap.size, 4, none⟩ (.int .i64 0)).setCell ⟨w.heap.size, 5, none⟩ (.slice none 0 0)).setCell ⟨w.heap.size, 6, none⟩ (.slice none 0 0)).setCell ⟨w.heap.size, 7, none⟩ (.slice none 0 0)) w.heap.size #[.slice none 0 0, .int .i64 0, .int .i64 0, .int .i64 0, .int .i64 0, .slice none 0 0, .slice none 0 0, .slice none 0 0] 29 from (((((((((unhide Q0).set 0 (.slice none 0 0)).set 1 (.int .i64 0)).set 2 (.int .i64 0)).set 3 (.int .i64 0)).set 4 (.int .i64 0)).set 5 (.slice none 0 0)).set 6 (.slice none 0 0)).set 7 (.slice none 0 0)))
    generalize ((((((((w1.setCell ⟨w.heap.size, 0, none⟩ (.slice none 0 0)).setCell ⟨w.heap.size, 1, none⟩ (.int .i64 0)).setCell ⟨w.heap.size, 2, none⟩ (.int .i64 0)).setCell ⟨w.heap.size, 3, none⟩ (.int .i64 0)).setCell ⟨w.heap.size, 4, none⟩ (.int .i64 0)).setCell ⟨w.heap.size, 5, none⟩ (.slice none 0 0)).setCell ⟨w.heap.size, 6, none⟩ (.slice none 0 0)).setCell ⟨w.heap.size, 7, none⟩ (.slice none 0 0)) = W9 at HB9 R9 ⊢
    have z0 := (unhide R9).at 0; have z1 := (unhide R9).at 1; have z2 := (unhide R9).at 2; have z3 := (unhide R9).at 3; have z4 := (unhide R9).at 4; have z5 := (unhide R9).at 5; have z6 := (unhide R9).at 6; have z7 := (unhide R9).at 7
    simp at z0 z1 z2 z3 z4 z5 z6 z7
    refine bodyPost_ret (v := .tuple #[.agg #[.slice none 0 0, .int .i64 0, .int .i64 0, .int .i64 0, .int .i64 0, .slice none 0 0, .slice none 0 0, .slice none 0 0], .bool false]) (by simp [results, Tryz.results44, go_sem, z0, z1, z2, z3, z4, z5, z6, z7]) rfl (show NewAns w l _ _ from ⟨unhide HB9, .inl ⟨unhide HOO, rfl⟩⟩)
  go_wp2_with fail
  refine (unhide CC _ (unhide HB1)).mono ?_
  rintro e w2 ⟨v, rfl, hown, hb⟩
  have hl1 := (unhide Q1).lt
  obtain ⟨qo, qc, rfl, _⟩ := qown_rowx hown
  have HO := hide (qown_base hown (show w.heap.size + 2 ≤ w1.heap.size by omega))
  have HB2 := hide (below_on (unhide HB1) hb)
  have R1 := hide ((unhide Q1).below hb)
  have R0 := hide ((unhide Q0).below hb)
  clear hb hown HB1 Q0 Q1 CC
  have d0 := (unhide R1).at 0
  have d1 := (unhide R1).f 0
  simp at d0
  go_upto_region 5 with fail
  have HB3 := hide (below_sc (unhide HB2) (w.heap.size + 1) 0 (.slice qo l.length qc) (by omega))
  have S1 := hide (show Blk (w2.setCell ⟨w.heap.size + 1, 0, none⟩ (.slice qo l.length qc)) (w.heap.size + 1) #[.slice qo l.length qc, .int .i64 0, .int .i64 1, .int .i64 1001, .int .i64 1, .slice none 0 0, .slice none 0 0, .slice none 0 0] 29 from (unhide R1).set 0 (.slice qo l.length qc))
  have S0 := hide ((unhide R0).other (w.heap.size + 1) 0 (.slice qo l.length qc) (by omega))
  have HO2 := hide (qown_base (qown_other (unhide HO) (w.heap.size + 1) 0 (.slice qo l.length qc) (by omega)) (show w.heap.size + 1 ≤ w.heap.size + 2 by omega))
  generalize w2.setCell ⟨w.heap.size + 1, 0, none⟩ (.slice qo l.length qc) = w3 at HB3 S1 S0 HO2 ⊢
  clear d0 d1 HB2 R1 R0 HO
  have a0 := (unhide S1).at 0; have a1 := (unhide S1).at 1; have a2 := (unhide S1).at 2; have a3 := (unhide S1).at 3; have a4 := (unhide S1).at 4; have a5 := (unhide S1).at 5; have a6 := (unhide S1).at 6; have a7 := (unhide S1).at 7
  have af0 := (unhide S1).f 0; have af1 := (unhide S1).f 1; have af2 := (unhide S1).f 2; have af3 := (unhide S1).f 3; have af4 := (unhide S1).f 4; have af5 := (unhide S1).f 5; have af6 := (unhide S1).f 6; have af7 := (unhide S1).f 7
  simp at a0 a1 a2 a3 a4 a5 a6 a7
  have c0 := (unhide S0).at 0; have c1 := (unhide S0).at 1; have c2 := (unhide S0).at 2; have c3 := (unhide S0).at 3; have c4 := (unhide S0).at 4; have c5 := (unhide S0).at 5; have c6 := (unhide S0).at 6; have c7 := (unhide S0).at 7
  have rf0 := (unhide S0).f 0; have rf1 := (unhide S0).f 1; have rf2 := (unhide S0).f 2; have rf3 := (unhide S0).f 3; have rf4 := (unhide S0).f 4; have rf5 := (unhide S0).f 5; have rf6 := (unhide S0).f 6; have rf7 := (unhide S0).f 7
  simp at c0 c1 c2 c3 c4 c5 c6 c7
  go_wp2
  have HB9 := hide (below_sc (below_sc (below_sc (below_sc (below_sc (below_sc (below_sc (below_sc (unhide HB3) w.heap.size 0 (.slice qo l.length qc) (Nat.le_refl _)) w.heap.size 1 (.int .i64 0) (Nat.le_refl _)) w.heap.size 2 (.int .i64 1) (Nat.le_refl _)) w.heap.size 3 (.int .i64 1001) (Nat.le_refl _)) w.heap.size 4 (.int .i64 1) (Nat.le_refl _)) w.heap.size 5 (.slice none 0 0) (Nat.le_refl _)) w.heap.size 6 (.slice none 0 0) (Nat.le_refl _)) w.heap.size 7 (.slice none 0 0) (Nat.le_refl _))
  have R9 := hide (show Blk ((((((((w3.setCell ⟨w.heap.size, 0, none⟩ (.slice qo l.length qc)).setCell ⟨w.heap.size, 1, none⟩ (.int .i64 0)).setCell ⟨w.heap.size, 2, none⟩ (.int .i64 1)).setCell ⟨w.heap.size, 3, none⟩ (.int .i64 1001)).setCell ⟨w.heap.size, 4, none⟩ (.int .i64 1)).setCell ⟨w.heap.size, 5, none⟩ (.slice none 0 0)).setCell ⟨w.heap.size, 6, none⟩ (.slice none 0 0)).setCell ⟨w.heap.size, 7, none⟩ (.slice none 0 0)) w.heap.size #[.slice qo l.length qc, .int .i64 0, .int .i64 1, .int .i64 1001, .int .i64 1, .slice none 0 0, .slice none 0 0, .slice none 0 0] 29 from (((((((((unhide S0).set 0 (.slice qo l.length qc)).set 1 (.int .i64 0)).set 2 (.int .i64 1)).set 3 (.int .i64 1001)).set 4 (.int .i64 1)).set 5 (.slice none 0 0)).set 6 (.slice none 0 0)).set 7 (.slice none 0 0)))
  have O9 := hide (qown_other (qown_other (qown_other (qown_other (qown_other (qown_other (qown_other (qown_other (unhide HO2) w.heap.size 0 (.slice qo l.length qc) (Nat.lt_succ_self _)) w.heap.size 1 (.int .i64 0) (Nat.lt_succ_self _)) w.heap.size 2 (.int .i64 1) (Nat.lt_succ_self _)) w.heap.size 3 (.int .i64 1001) (Nat.lt_succ_self _)) w.heap.size 4 (.int .i64 1) (Nat.lt_succ_self _)) w.heap.size 5 (.slice none 0 0) (Nat.lt_succ_self _)) w.heap.size 6 (.slice none 0 0) (Nat.lt_succ_self _)) w.heap.size 7 (.slice none 0 0) (Nat.lt_succ_self _))
  generalize ((((((((w3.setCell ⟨w.heap.size, 0, none⟩ (.slice qo l.length qc)).setCell ⟨w.heap.size, 1, none⟩ (.int .i64 0)).setCell ⟨w.heap.size, 2, none⟩ (.int .i64 1)).setCell ⟨w.heap.size, 3, none⟩ (.int .i64 1001)).setCell ⟨w.heap.size, 4, none⟩ (.int .i64 1)).setCell ⟨w.heap.size, 5, none⟩ (.slice none 0 0)).setCell ⟨w.heap.size, 6, none⟩ (.slice none 0 0)).setCell ⟨w.heap.size, 7, none⟩ (.slice none 0 0)) = W9 at HB9 R9 O9 ⊢
  have z0 := (unhide R9).at 0; have z1 := (unhide R9).at 1; have z2 := (unhide R9).at 2; have z3 := (unhide R9).at 3; have z4 := (unhide R9).at 4; have z5 := (unhide R9).at 5; have z6 := (unhide R9).at 6; have z7 := (unhide R9).at 7
  simp at z0 z1 z2 z3 z4 z5 z6 z7
  refine bodyPost_ret (v := .tuple #[.agg #[.slice qo l.length qc, .int .i64 0, .int .i64 1, .int .i64 1001, .int .i64 1, .slice none 0 0, .slice none 0 0, .slice none 0 0], .bool true]) (by simp [results, Tryz.results44, go_sem, z0, z1, z2, z3, z4, z5, z6, z7]) rfl (show NewAns w l _ _ from ⟨unhide HB9, .inr ⟨unhide HOO, _, rfl, unhide O9⟩⟩)

set_option maxRecDepth 100000 in
set_option maxHeartbeats 4000000 in
theorem specStateNew_any (ao : Option Addr) (len cap : Nat) (l : List Q) (w : World) (h : QRow w ao len l) (hl : len ≤ 1048576) (hf : FitQ l) (ha : ∃ ad, ao = some ad)
    (CO : ∀ (qo : Option Addr) (n c : Nat) (wx : World), QRow wx qo n l → n ≤ c → Calls Tryz.prog 32 #[.agg #[.slice qo n c, .int .i64 0, .int .i64 1, .int .i64 1001, .int .i64 1, .slice none 0 0, .slice none 0 0, .slice none 0 0]] wx fun e w' => e = .returned (.bool (queuesOk l)) ∧ Below wx.heap.size wx w') :
    Calls Tryz.prog 14 #[.slice ao len cap] w (NewAns w l) := by
  obtain ⟨i0, hi, hz0, hz1, hz2⟩ := info_parts Tryz.infoQ
  obtain ⟨o, ho⟩ : ∃ o, queuesOk l = o := ⟨_, rfl⟩
  obtain ⟨ad, rfl⟩ := ha
  have hb1 := below_al (below_al (Below.refl _ w) (.cells #[.slice none 0 0, .int .i64 0, .int .i64 0, .int .i64 0, .int .i64 0, .slice none 0 0, .slice none 0 0, .slice none 0 0] 29)) (.cells #[] 48)
  have P0 := hide ((blk_new w #[.slice none 0 0, .int .i64 0, .int .i64 0, .int .i64 0, .int .i64 0, .slice none 0 0, .slice none 0 0, .slice none 0 0] 29).al (.cells #[] 48))
  have hnew : ∀ j u, (qcells l)[j]? = some u → ((w.alloc (.cells #[.slice none 0 0, .int .i64 0, .int .i64 0, .int .i64 0, .int .i64 0, .slice none 0 0, .slice none 0 0, .slice none 0 0] 29)).alloc (.cells #[] 48)).cell? (ad.add j) = some u := fun j u hj => by
    have hjl : j < l.length * 4 := by rw [← qcells_len]; exact (List.getElem?_eq_some_iff.1 hj).1
    rcases h.2 with h0 | ⟨b, off, e, _⟩
    · have := h.1; omega
    · cases e
      have := qcells_row (h.below hb1) j u hj
      rw [Lib.add_plain]
      exact this
  have HNW := hide hnew
  have HLN := hide h.1
  have HB1 := hide hb1
  have hown : ((w.alloc (.cells #[.slice none 0 0, .int .i64 0, .int .i64 0, .int .i64 0, .int .i64 0, .slice none 0 0, .slice none 0 0, .slice none 0 0] 29)).alloc (.cells #[] 48)).ownsRow (w.heap.size + 1) 48 4 (.slice (some ⟨w.heap.size + 1, 0, none⟩) 0 0) 0 [] := by
    have := qown_empty (w.alloc (.cells #[.slice none 0 0, .int .i64 0, .int .i64 0, .int .i64 0, .int .i64 0, .slice none 0 0, .slice none 0 0, .slice none 0 0] 29))
    rw [al_size] at this
    exact this
  have hll : (qcells l).length = len * 4 := by rw [qcells_len, h.1]
  have hone := qcells_one l
  have CS := hide (fun (qo : Option Addr) (n c : Nat) (wx : World) (hr : QRow wx qo n l) (hc : n ≤ c) => by have := CO qo n c wx hr hc; rw [ho] at this; exact this)
  have HOO := hide ho
  clear CO ho hf h hnew hb1
  go_enter Tryz.func14, Tryz.ntmps14
  go_wp2_with (at_builtin; refine wpList_append_own _ rfl _ _ 24 rfl (w.heap.size + 1) 48 i0 (.agg #[.string ByteArray.empty, .string ByteArray.empty, .int .i64 0, .int .i64 0]) 4 48 Tryz.underlying24 hi hz0 hz1 hz2 rfl (by decide) _ _ _ rfl hown ad len cap (qcells l) rfl hll (unhide HNW) hone ?c3 ?c4 ?c5 ?_)
  case c3 => unfold maxLen; omega
  case c4 => omega
  case c5 => simp
  intro v w2 hown' hgrow _
  have HO := hide (show QOwn (w.heap.size + 1) w2 v l by
    unfold QOwn
    rw [← unhide HLN]
    simpa using hown')
  have HB2 := hide (show Below w.heap.size w w2 from (unhide HB1).grown hgrow (by simp; omega) (fun k e => by simp [Value.ownBlock] at e; omega))
  have R0 := hide (show Blk w2 w.heap.size #[.slice none 0 0, .int .i64 0, .int .i64 0, .int .i64 0, .int .i64 0, .slice none 0 0, .slice none 0 0, .slice none 0 0] 29 from (hgrow.block _ (unhide P0).lt (by simp [Value.ownBlock])).trans (unhide P0))
  obtain ⟨qo, qc, rfl, hrow, hqc, _⟩ := qown_rowx (unhide HO)
  have HRW := hide (hrow.below (below_al (Below.refl _ w2) (.cells #[.slice qo l.length qc, .int .i64 0, .int .i64 1, .int .i64 1001, .int .i64 1, .slice none 0 0, .slice none 0 0, .slice none 0 0] 29)))
  have HB3 := hide (below_al (unhide HB2) (.cells #[.slice qo l.length qc, .int .i64 0, .int .i64 1, .int .i64 1001, .int .i64 1, .slice none 0 0, .slice none 0 0, .slice none 0 0] 29))
  have S1 := hide (blk_new w2 #[.slice qo l.length qc, .int .i64 0, .int .i64 1, .int .i64 1001, .int .i64 1, .slice none 0 0, .slice none 0 0, .slice none 0 0] 29)
  have S0 := hide ((unhide R0).al (.cells #[.slice qo l.length qc, .int .i64 0, .int .i64 1, .int .i64 1001, .int .i64 1, .slice none 0 0, .slice none 0 0, .slice none 0 0] 29))
  have HO3 := hide ((unhide HO).below (below_al (Below.refl _ w2) (.cells #[.slice qo l.length qc, .int .i64 0, .int .i64 1, .int .i64 1001, .int .i64 1, .slice none 0 0, .slice none 0 0, .slice none 0 0] 29)))
  clear hown' hgrow hown hone hll HB1 HB2 R0 P0 HO hrow HNW
  go_wp2_with fail
  refine (unhide CS qo l.length qc _ (unhide HRW) hqc).mono ?_
  rintro e w4 ⟨rfl, hb⟩
  have HB4 := hide (below_on (unhide HB3) hb)
  have T0 := hide ((unhide S0).below hb)
  have T1 := hide ((unhide S1).below hb)
  have HO4 := hide ((unhide HO3).below hb)
  clear hb HB3 S0 S1 HO3 HRW CS
  cases o
  case false =>
    have c0 := (unhide T0).at 0; have c1 := (unhide T0).at 1; have c2 := (unhide T0).at 2; have c3 := (unhide T0).at 3; have c4 := (unhide T0).at 4; have c5 := (unhide T0).at 5; have c6 := (unhide T0).at 6; have c7 := (unhide T0).at 7
    have rf0 := (unhide T0).f 0; have rf1 := (unhide T0).f 1; have rf2 := (unhide T0).f 2; have rf3 := (unhide T0).f 3; have rf4 := (unhide T0).f 4; have rf5 := (unhide T0).f 5; have rf6 := (unhide T0).f 6; have rf7 := (unhide T0).f 7
    simp at c0 c1 c2 c3 c4 c5 c6 c7
    go_wp2
    have HB9 := hide (below_sc (below_sc (below_sc (below_sc (below_sc (below_sc (below_sc (below_sc (unhide HB4) w.heap.size 0 (.slice none 0 0) (Nat.le_refl _)) w.heap.size 1 (.int .i64 0) (Nat.le_refl _)) w.heap.size 2 (.int .i64 0) (Nat.le_refl _)) w.heap.size 3 (.int .i64 0) (Nat.le_refl _)) w.heap.size 4 (.int .i64 0) (Nat.le_refl _)) w.heap.size 5 (.slice none 0 0) (Nat.le_refl _)) w.heap.size 6 (.slice none 0 0) (Nat.le_refl _)) w.heap.size 7 (.slice none 0 0) (Nat.le_refl _))
    have R9 := hide (show Blk ((((((((w4.setCell ⟨w.heap.size, 0, none⟩ (.slice none 0 0)).setCell ⟨w.heap.size, 1, none⟩ (.int .i64 0)).setCell ⟨w.heap.size, 2, none⟩ (.int .i64 0)).setCell ⟨w.heap.size, 3, none⟩ (.int .i64 0)).setCell ⟨w.heap.size, 4, none⟩ (.int .i64 0)).setCell ⟨w.heap.size, 5, none⟩ (.slice none 0 0)).setCell ⟨w.heap.size, 6, none⟩ (.slice none 0 0)).setCell ⟨w.heap.size, 7, none⟩ (.slice none 0 0)) w.heap.size #[.slice none 0 0, .int .i64 0, .int .i64 0, .int .i64 0, .int .i64 0, .slice none 0 0, .slice none 0 0, .slice none 0 0] 29 from (((((((((unhide T0).set 0 (.slice none 0 0)).set 1 (.int .i64 0)).set 2 (.int .i64 0)).set 3 (.int .i64 0)).set 4 (.int .i64 0)).set 5 (.slice none 0 0)).set 6 (.slice none 0 0)).set 7 (.slice none 0 0)))
    generalize ((((((((w4.setCell ⟨w.heap.size, 0, none⟩ (.slice none 0 0)).setCell ⟨w.heap.size, 1, none⟩ (.int .i64 0)).setCell ⟨w.heap.size, 2, none⟩ (.int .i64 0)).setCell ⟨w.heap.size, 3, none⟩ (.int .i64 0)).setCell ⟨w.heap.size, 4, none⟩ (.int .i64 0)).setCell ⟨w.heap.size, 5, none⟩ (.slice none 0 0)).setCell ⟨w.heap.size, 6, none⟩ (.slice none 0 0)).setCell ⟨w.heap.size, 7, none⟩ (.slice none 0 0)) = W9 at HB9 R9 ⊢
    have z0 := (unhide R9).at 0; have z1 := (unhide R9).at 1; have z2 := (unhide R9).at 2; have z3 := (unhide R9).at 3; have z4 := (unhide R9).at 4; have z5 := (unhide R9).at 5; have z6 := (unhide R9).at 6; have z7 := (unhide R9).at 7
    simp at z0 z1 z2 z3 z4 z5 z6 z7
    refine bodyPost_ret (v := .tuple #[.agg #[.slice none 0 0, .int .i64 0, .int .i64 0, .int .i64 0, .int .i64 0, .slice none 0 0, .slice none 0 0, .slice none 0 0], .bool false]) (by simp [results, Tryz.results14, go_sem, z0, z1, z2, z3, z4, z5, z6, z7]) rfl (show NewAns w l _ _ from ⟨unhide HB9, .inl ⟨unhide HOO, rfl⟩⟩)
  have a0 := (unhide T1).at 0; have a1 := (unhide T1).at 1; have a2 := (unhide T1).at 2; have a3 := (unhide T1).at 3; have a4 := (unhide T1).at 4; have a5 := (unhide T1).at 5; have a6 := (unhide T1).at 6; have a7 := (unhide T1).at 7
  have af0 := (unhide T1).f 0; have af1 := (unhide T1).f 1; have af2 := (unhide T1).f 2; have af3 := (unhide T1).f 3; have af4 := (unhide T1).f 4; have af5 := (unhide T1).f 5; have af6 := (unhide T1).f 6; have af7 := (unhide T1).f 7
  simp at a0 a1 a2 a3 a4 a5 a6 a7
  have c0 := (unhide T0).at 0; have c1 := (unhide T0).at 1; have c2 := (unhide T0).at 2; have c3 := (unhide T0).at 3; have c4 := (unhide T0).at 4; have c5 := (unhide T0).at 5; have c6 := (unhide T0).at 6; have c7 := (unhide T0).at 7
  have rf0 := (unhide T0).f 0; have rf1 := (unhide T0).f 1; have rf2 := (unhide T0).f 2; have rf3 := (unhide T0).f 3; have rf4 := (unhide T0).f 4; have rf5 := (unhide T0).f 5; have rf6 := (unhide T0).f 6; have rf7 := (unhide T0).f 7
  simp at c0 c1 c2 c3 c4 c5 c6 c7
  go_wp2
  have HB9 := hide (below_sc (below_sc (below_sc (below_sc (below_sc (below_sc (below_sc (below_sc (unhide HB4) w.heap.size 0 (.slice qo l.length qc) (Nat.le_refl _)) w.heap.size 1 (.int .i64 0) (Nat.le_refl _)) w.heap.size 2 (.int .i64 1) (Nat.le_refl _)) w.heap.size 3 (.int .i64 1001) (Nat.le_refl _)) w.heap.size 4 (.int .i64 1) (Nat.le_refl _)) w.heap.size 5 (.slice none 0 0) (Nat.le_refl _)) w.heap.size 6 (.slice none 0 0) (Nat.le_refl _)) w.heap.size 7 (.slice none 0 0) (Nat.le_refl _))
  have R9 := hide (show Blk ((((((((w4.setCell ⟨w.heap.size, 0, none⟩ (.slice qo l.length qc)).setCell ⟨w.heap.size, 1, none⟩ (.int .i64 0)).setCell ⟨w.heap.size, 2, none⟩ (.int .i64 1)).setCell ⟨w.heap.size, 3, none⟩ (.int .i64 1001)).setCell ⟨w.heap.size, 4, none⟩ (.int .i64 1)).setCell ⟨w.heap.size, 5, none⟩ (.slice none 0 0)).setCell ⟨w.heap.size, 6, none⟩ (.slice none 0 0)).setCell ⟨w.heap.size, 7, none⟩ (.slice none 0 0)) w.heap.size #[.slice qo l.length qc, .int .i64 0, .int .i64 1, .int .i64 1001, .int .i64 1, .slice none 0 0, .slice none 0 0, .slice none 0 0] 29 from (((((((((unhide T0).set 0 (.slice qo l.length qc)).set 1 (.int .i64 0)).set 2 (.int .i64 1)).set 3 (.int .i64 1001)).set 4 (.int .i64 1)).set 5 (.slice none 0 0)).set 6 (.slice none 0 0)).set 7 (.slice none 0 0)))
  have O9 := hide (qown_other (qown_other (qown_other (qown_other (qown_other (qown_other (qown_other (qown_other (unhide HO4) w.heap.size 0 (.slice qo l.length qc) (Nat.lt_succ_self _)) w.heap.size 1 (.int .i64 0) (Nat.lt_succ_self _)) w.heap.size 2 (.int .i64 1) (Nat.lt_succ_self _)) w.heap.size 3 (.int .i64 1001) (Nat.lt_succ_self _)) w.heap.size 4 (.int .i64 1) (Nat.lt_succ_self _)) w.heap.size 5 (.slice none 0 0) (Nat.lt_succ_self _)) w.heap.size 6 (.slice none 0 0) (Nat.lt_succ_self _)) w.heap.size 7 (.slice none 0 0) (Nat.lt_succ_self _))
  generalize ((((((((w4.setCell ⟨w.heap.size, 0, none⟩ (.slice qo l.length qc)).setCell ⟨w.heap.size, 1, none⟩ (.int .i64 0)).setCell ⟨w.heap.size, 2, none⟩ (.int .i64 1)).setCell ⟨w.heap.size, 3, none⟩ (.int .i64 1001)).setCell ⟨w.heap.size, 4, none⟩ (.int .i64 1)).setCell ⟨w.heap.size, 5, none⟩ (.slice none 0 0)).setCell ⟨w.heap.size, 6, none⟩ (.slice none 0 0)).setCell ⟨w.heap.size, 7, none⟩ (.slice none 0 0)) = W9 at HB9 R9 O9 ⊢
  have z0 := (unhide R9).at 0; have z1 := (unhide R9).at 1; have z2 := (unhide R9).at 2; have z3 := (unhide R9).at 3; have z4 := (unhide R9).at 4; have z5 := (unhide R9).at 5; have z6 := (unhide R9).at 6; have z7 := (unhide R9).at 7
  simp at z0 z1 z2 z3 z4 z5 z6 z7
  refine bodyPost_ret (v := .tuple #[.agg #[.slice qo l.length qc, .int .i64 0, .int .i64 1, .int .i64 1001, .int .i64 1, .slice none 0 0, .slice none 0 0, .slice none 0 0], .bool true]) (by simp [results, Tryz.results14, go_sem, z0, z1, z2, z3, z4, z5, z6, z7]) rfl (show NewAns w l _ _ from ⟨unhide HB9, .inr ⟨unhide HOO, _, rfl, unhide O9⟩⟩)
end Go.Proofs.YtgdndekmkaknlaaGreat

/-
  What StateNew answers, in one form for both answers; the laws' own marks on it.
-/
namespace Go.Proofs.YtgdndekmkaknlaaGreat
open Go.RowKit
set_option linter.unusedVariables false
def qlN (l : List Q) : List Q := if queuesOk l = true then l else []
def epN (l : List Q) : Int := if queuesOk l = true then 1 else 0
def nxN (l : List Q) : Int := if queuesOk l = true then 1001 else 0
theorem new_ok (l : List Q) : stateOkV (newSt l 1 1001 1) = queuesOk l := by
  have h1 : appsOkV (newSt l 1 1001 1) = true := rfl
  have h2 : machsOkS (newSt l 1 1001 1) = true := rfl
  simp only [stateOkV, stateOkS, h1, h2]
  rw [show (inB 0 0 1000000000 && (inB 1 1 1000000000 && (inB 1001 1 1000000000 && (inB 1 1 1000000000 && (true && (true && (decide (([] : List Con).length ≤ 150) && contsS [] [] 0 []))))))) = true from rfl, Bool.and_true]
/-- the answer, a state in a box to come, whose queues own their memory -/
theorem NewAns.one {w w' : World} {l : List Q} {e : Ending} (h : NewAns w l e w') : ∃ qo n c, e = .returned (.tuple #[.agg (svc (newX qo n c) (newSt (qlN l) (epN l) (nxN l) (epN l))), .bool (queuesOk l)]) ∧ n = (qlN l).length ∧ QOwn (w.heap.size + 1) w' (.slice qo n c) (qlN l) ∧ Below w.heap.size w w' := by
  obtain ⟨hb, ⟨ho, rfl⟩ | ⟨ho, v, rfl, hown⟩⟩ := h
  · refine ⟨none, 0, 0, ?_, ?_, ?_, hb⟩
    · simp [qlN, epN, nxN, ho]
    · simp [qlN, ho]
    · simp only [qlN, ho]; exact qown_nil _ _
  · obtain ⟨qo, qc, rfl, _⟩ := qown_rowx hown
    refine ⟨qo, l.length, qc, ?_, ?_, ?_, hb⟩
    · simp [qlN, epN, nxN, ho]
    · simp [qlN, ho]
    · simp only [qlN, ho]; exact hown
/-- a list of queues that bears its marks -/
def Marked (w : World) (qo : Option Addr) (n : Nat) : Prop := (n = 0 ∨ ∃ g, qo = some ⟨g, 0, none⟩) ∧ QRow w qo n (marksQ n)
theorem Marked.below {w w' : World} {qo : Option Addr} {n : Nat} (h : Marked w qo n) (hb : Below w.heap.size w w') : Marked w' qo n := ⟨h.1, h.2.below hb⟩
end Go.Proofs.YtgdndekmkaknlaaGreat

/-
  Rows of bytes that a call has made, and their text.
-/
namespace Go.Proofs.YtgdndekmkaknlaaGreat
open Go.RowKit
set_option linter.unusedVariables false
theorem byteOf (x : Nat) (h : x < 256) : ((UInt8.ofNat x).toNat : Int) = (x : Int) := by rw [UInt8.toNat_ofNat']; omega
abbrev cells (l : List UInt8) : List Value := l.map (fun b => Value.int .u8 (b.toNat : Int))
theorem cells_snoc (l : List UInt8) (c : UInt8) (x : Int) (h : (c.toNat : Int) = x) : cells l ++ [.int .u8 x] = cells (l ++ [c]) := by simp [cells, h]

theorem Tryz.info5 : (Tryz.prog.info? 5).map (fun i => (i.zero, i.size, i.bytes)) = some (some (.int .u8 0), 1, 1) := by kernel_rfl

theorem own_empty (w : World) (t : TypeId) : (w.alloc (.cells #[] t)).ownsRow w.heap.size t 1 (.slice (some ⟨w.heap.size, 0, none⟩) 0 0) ([] : List UInt8).length (cells []) :=
  ⟨rfl, .inr ⟨w.heap.size, 0, #[], rfl, Nat.le_refl _, by show (w.heap.push _)[w.heap.size]? = _; simp, Nat.le_refl _, by unfold maxLen; omega, rfl, rfl⟩⟩
/-- one byte more: what is owned, and what lies below, behind the append -/
theorem row_step {w wr w1 : World} {B : Nat} {t : TypeId} {v v' : Value} {l : List UInt8} {c : UInt8} {x : Int} {o : Obj} (hb : Below B w wr) (hown : wr.ownsRow B t 1 v l.length (cells l))
    (h1 : w1.ownsRow B t 1 v' (l.length + 1) (cells l ++ [.int .u8 x])) (hg : (wr.alloc o).grownBy w1 v.ownBlock) (hc : (c.toNat : Int) = x) (hB : B ≤ wr.heap.size) :
    w1.ownsRow B t 1 v' (l ++ [c]).length (cells (l ++ [c])) ∧ Below B w w1 := by
  refine ⟨by rw [cells_snoc l c x hc] at h1; simpa using h1, (hb.alloc hB o).grown hg (by simp; omega) ?_⟩
  intro k hk
  rcases hown.2 with ⟨rfl, _⟩ | ⟨g, cap, cur, rfl, hg', _⟩
  · simp [Value.ownBlock] at hk
  · simp [Value.ownBlock] at hk; omega
/-- the text of the bytes that are owned -/
theorem own_str {w1 : World} {B : Nat} {v : Value} {l : List UInt8} (h : w1.ownsRow B 5 1 v l.length (cells l)) (hl : 1 ≤ l.length) :
    (convert 106 9 v).run Tryz.prog w1 = .ok (.string (bs l)) w1 := by
  rcases h.2 with ⟨_, h0⟩ | ⟨g, cap, cur, rfl, _⟩
  · omega
  · exact run_convert_bytes_back w1 106 9 5 ⟨g, 0, none⟩ cap l Tryz.underlying106 Tryz.underlying5 Tryz.underlying9 (fun j hj => by
      have := h.cellAt j (by omega)
      rw [Lib.add_plain, Nat.zero_add, this]
      simp [cells, hj])

end Go.Proofs.YtgdndekmkaknlaaGreat

/-
  What the model's PutNum answers: seven bits a byte, the lowest first; a walk over the dump.
-/
namespace Go.Proofs.YtgdndekmkaknlaaGreat
open Go.RowKit
def pn : Nat → Nat → List UInt8
  | 0, u => [UInt8.ofNat u]
  | f + 1, u => if u < 128 then [UInt8.ofNat u] else UInt8.ofNat (128 + u % 128) :: pn f (u / 128)
/-- the bytes of u: seven bits each, the lowest first, each but the last with 128 more -/
def put (u : Nat) : List UInt8 := pn u u
theorem pn_eq : ∀ (f g u : Nat), u ≤ f → u ≤ g → pn f u = pn g u := by
  intro f
  induction f with
  | zero =>
    intro g u h _
    have : u = 0 := by omega
    subst this
    cases g <;> simp [pn]
  | succ f ih =>
    intro g u h1 h2
    cases g with
    | zero =>
      have : u = 0 := by omega
      subst this
      simp [pn]
    | succ g =>
      by_cases hu : u < 128
      · simp [pn, hu]
      · simp only [pn, hu, if_false]
        rw [ih g (u / 128) (by omega) (by omega)]
theorem put_small {u : Nat} (h : u < 128) : put u = [UInt8.ofNat u] := by
  unfold put
  cases u <;> simp [pn]
  omega
theorem put_step {u : Nat} (h : ¬ u < 128) : put u = UInt8.ofNat (128 + u % 128) :: put (u / 128) := by
  unfold put
  cases u with
  | zero => omega
  | succ u =>
    rw [pn, if_neg h, pn_eq u ((u + 1) / 128) ((u + 1) / 128) (by omega) (by omega)]
theorem put_len : ∀ (k u : Nat), u < 128 ^ (k + 1) → (put u).length ≤ k + 1 := by
  intro k
  induction k with
  | zero => intro u h; rw [put_small (by simpa using h)]; simp
  | succ k ih =>
    intro u h
    by_cases hu : u < 128
    · rw [put_small hu]; simp
    · rw [put_step hu]
      have := ih (u / 128) (by rw [Nat.pow_succ] at h; omega)
      simp only [List.length_cons]; omega
theorem put_pos (u : Nat) : 1 ≤ (put u).length := by
  by_cases hu : u < 128
  · rw [put_small hu]; simp
  · rw [put_step hu]; simp
theorem put_le5 {u : Nat} (h : u ≤ 4000000000) : (put u).length ≤ 5 := put_len 4 u (by omega)
def putNum (n : Int) : List UInt8 := if 0 ≤ n ∧ n ≤ 4000000000 then put n.toNat else []

set_option maxRecDepth 100000 in
set_option maxHeartbeats 1000000 in
theorem specPutNum_yes (N : Nat) (w : World) (hN : N ≤ 4000000000) :
    Calls Tryz.prog 82 #[.int .i64 (N : Int)] w fun e w' => e = .returned (.string (bs (put N))) ∧ Below w.heap.size w w' := by
  obtain ⟨i0, hi, hz0, hz1, hz2⟩ := info_parts Tryz.info5
  have e0 : inB (N : Int) 0 4000000000 = true := inB_true (by omega) (by omega)
  have hl5 := put_le5 hN
  go_enter Tryz.func82, Tryz.ntmps82
  go_wp2_with (go_at_call 38; refine (l01In_any _ _ _ _).mono ?_; rintro e w' ⟨rfl, rfl⟩)
  go_loopw [0, 3] (fun n o wr => ∃ (u : Nat) (l : List UInt8), u ≤ N ∧ n = .int .i64 (u : Int) ∧ l ++ put u = put N ∧ wr.ownsRow w.heap.size 5 1 o l.length (cells l) ∧ Below w.heap.size w wr) (fun n _ _ => (intOf n).toNat)
  case atStart => exact ⟨N, [], Nat.le_refl _, rfl, rfl, own_empty w 5, (Below.refl _ _).alloc (Nat.le_refl _) _⟩
  case round =>
    obtain ⟨u, l, hu, rfl, hcat, hown, hbel⟩ := hrel
    have hl : l.length ≤ 4 := by have := congrArg List.length hcat; have := put_pos u; simp only [List.length_append] at *; omega
    have hsz := hbel.size
    have HC := hide hcat
    clear hcat
    by_cases hu0 : u < 128
    · have hx : Hid (((UInt8.ofNat u).toNat : Int) = (u : Int)) := hide (byteOf u (by omega))
      go_wp2_with (at_builtin; refine wpList_append_own _ rfl _ _ 106 rfl w.heap.size 5 i0 (.int .u8 0) 1 1 Tryz.underlying106 hi hz0 hz1 hz2 rfl (by decide) _ _ _ rfl (hown.alloc _) ⟨wr.heap.size, 0, none⟩ 1 1 [.int .u8 (u : Int)] rfl rfl ?c1 ?c2 ?c3 ?c4 ?c5 ?_)
      case c1 => intro j v hj; match j, hj with | 0, hj => simp at hj; subst hj; simp [Addr.add]
      case c2 => intro v hv; simp at hv; subst hv; rfl
      case c3 => unfold maxLen; omega
      case c4 => omega
      case c5 => simp; omega
      intro v' w1 hown' hgrow _
      have R := row_step (B := w.heap.size) hbel hown hown' hgrow (unhide hx) (by omega)
      have hc := own_str R.1 (by simp)
      have HB := hide R.2
      have HP : Hid (l ++ [UInt8.ofNat u] = put N) := hide (by rw [← unhide HC, put_small hu0])
      clear hown' hgrow hown hbel R
      go_wp2
      go_ret
      exact ⟨ret_str (congrArg bs (unhide HP)), unhide HB⟩
    · have hx : Hid (((UInt8.ofNat (128 + u % 128)).toNat : Int) = 128 + (u : Int) % 128) := hide (byteOf (128 + u % 128) (by omega))
      go_wp2_with (at_builtin; refine wpList_append_own _ rfl _ _ 106 rfl w.heap.size 5 i0 (.int .u8 0) 1 1 Tryz.underlying106 hi hz0 hz1 hz2 rfl (by decide) _ _ _ rfl (hown.alloc _) ⟨wr.heap.size, 0, none⟩ 1 1 [.int .u8 (128 + (u : Int) % 128)] rfl rfl ?d1 ?d2 ?d3 ?d4 ?d5 ?_)
      case d1 => intro j v hj; match j, hj with | 0, hj => simp at hj; subst hj; simp [Addr.add]
      case d2 => intro v hv; simp at hv; subst hv; rfl
      case d3 => unfold maxLen; omega
      case d4 => omega
      case d5 => simp; omega
      intro v' w1 hown' hgrow _
      have R := row_step (B := w.heap.size) hbel hown hown' hgrow (unhide hx) (by omega)
      clear hown' hgrow hown hbel
      go_wp2
      go_roundw
      case rel => exact ⟨u / 128, l ++ [UInt8.ofNat (128 + u % 128)], by omega, by go_num, by rw [← unhide HC, put_step hu0]; simp, R.1, R.2⟩
      case measure => simp [intOf]; omega

set_option maxHeartbeats 400000 in
theorem specPutNum_no (n : Int) (w : World) (h : ¬ (0 ≤ n ∧ n ≤ 4000000000)) :
    Calls Tryz.prog 82 #[.int .i64 n] w fun e w' => e = .returned (.string (bs [])) ∧ Below w.heap.size w w' := by
  have e0 : inB n 0 4000000000 = false := inB_false h
  clear h
  go_enter Tryz.func82, Tryz.ntmps82
  go_wp2_with (go_at_call 38; refine (l01In_any _ _ _ _).mono ?_; rintro e w' ⟨rfl, rfl⟩)
  go_ret
  exact ⟨rfl, Below.refl _ _⟩

theorem specPutNum_any (n : Int) (w : World) :
    Calls Tryz.prog 82 #[.int .i64 n] w fun e w' => e = .returned (.string (bs (putNum n))) ∧ Below w.heap.size w w' := by
  by_cases h : 0 ≤ n ∧ n ≤ 4000000000
  · rw [putNum, if_pos h]
    obtain ⟨N, rfl⟩ := Int.eq_ofNat_of_zero_le h.1
    exact specPutNum_yes N w (by omega)
  · rw [putNum, if_neg h]
    exact specPutNum_no n w h
end Go.Proofs.YtgdndekmkaknlaaGreat

/-
  What GetNum answers, the program's and the model's, each by its own text: the number whose bytes stand at a place, and the place behind them; walks over the dump.
-/
namespace Go.Proofs.YtgdndekmkaknlaaGreat
open Go.RowKit
set_option linter.unusedVariables false
/-- the number of bytes of seven bits, the lowest first -/
def dv : List UInt8 → Nat
  | [] => 0
  | b :: t => b.toNat % 128 + 128 * dv t
theorem dv_snoc : ∀ (p : List UInt8) (b : UInt8), dv (p ++ [b]) = dv p + 128 ^ p.length * (b.toNat % 128)
  | [], b => by simp [dv]
  | c :: p, b => by
    simp only [List.cons_append, dv, dv_snoc p b, List.length_cons, Nat.pow_succ]
    rw [Nat.mul_add, ← Nat.mul_assoc, Nat.mul_comm (128 ^ p.length) 128]
    omega
theorem dv_lt : ∀ (p : List UInt8), dv p < 128 ^ p.length
  | [] => by simp [dv]
  | c :: p => by
    have := dv_lt p
    simp only [dv, List.length_cons, Nat.pow_succ]
    omega
def hi (b : UInt8) : Bool := decide (128 ≤ b.toNat)
theorem put_dv : ∀ (q : List UInt8) (b : UInt8), q.all hi = true → b.toNat < 128 → (put (dv (q ++ [b])) = q ++ [b] ↔ ¬ (b.toNat = 0 ∧ q ≠ []))
  | [], b, _, hb => by
    have e : dv ([] ++ [b]) = b.toNat := by simp [dv]; omega
    rw [e, put_small hb]
    simp
  | c :: q, b, hq, hb => by
    simp only [List.all_cons, Bool.and_eq_true] at hq
    have hc : 128 ≤ c.toNat := by have := hq.1; simpa [hi] using this
    have ih := put_dv q b hq.2 hb
    have hlt := c.toNat_lt
    simp only [List.cons_append, dv]
    by_cases h0 : dv (q ++ [b]) = 0
    · have hb0 : b.toNat = 0 := by
        rw [dv_snoc] at h0
        have h1 : 128 ^ q.length * (b.toNat % 128) = 0 := by omega
        have h2 : 0 < 128 ^ q.length := Nat.pow_pos (by decide)
        rcases Nat.mul_eq_zero.1 h1 with h | h <;> omega
      rw [h0, put_small (by omega)]
      simp [hb0]
    · rw [put_step (by omega)]
      rw [show (c.toNat % 128 + 128 * dv (q ++ [b])) / 128 = dv (q ++ [b]) from by omega, show 128 + (c.toNat % 128 + 128 * dv (q ++ [b])) % 128 = c.toNat from by omega]
      simp only [UInt8.ofNat_toNat, List.cons.injEq, true_and, ih]
      constructor
      · intro h; rintro ⟨hb0, _⟩
        refine h ⟨hb0, ?_⟩
        rintro rfl
        apply h0
        simp [dv, hb0]
      · intro h; rintro ⟨hb0, _⟩
        exact h ⟨hb0, by simp⟩
theorem putNum_dv {q : List UInt8} {b : UInt8} (hq : q.all hi = true) (hb : b.toNat < 128) : putNum (dv (q ++ [b]) : Int) = q ++ [b] ↔ dv (q ++ [b]) ≤ 4000000000 ∧ ¬ (b.toNat = 0 ∧ q ≠ []) := by
  rw [putNum]
  by_cases h : dv (q ++ [b]) ≤ 4000000000
  · rw [if_pos (by omega), Int.toNat_natCast, put_dv q b hq hb]
    exact ⟨fun x => ⟨h, x⟩, fun x => x.2⟩
  · rw [if_neg (by omega)]
    simp [h]

/-- how far the bytes go on -/
def stop : Nat → List UInt8 → Option Nat
  | 0, _ => none
  | _ + 1, [] => none
  | f + 1, b :: t => if b.toNat < 128 then some 0 else (stop f t).map (· + 1)
theorem stop_past : ∀ (q : List UInt8) (f : Nat) (t : List UInt8), q.all hi = true → q.length ≤ f → stop f (q ++ t) = (stop (f - q.length) t).map (· + q.length)
  | [], f, t, _, _ => by simp
  | c :: q, 0, t, _, h => by simp at h
  | c :: q, f + 1, t, hq, h => by
    simp only [List.all_cons, Bool.and_eq_true] at hq
    have hc : ¬ c.toNat < 128 := by have := hq.1; simp [hi] at this; omega
    simp only [List.cons_append, stop, if_neg hc, List.length_cons]
    rw [stop_past q f t hq.2 (by simp at h; omega), show f + 1 - (q.length + 1) = f - q.length from by omega, Option.map_map]
    congr 1
theorem stop_lt : ∀ (f : Nat) (t : List UInt8) (j : Nat), stop f t = some j → j < t.length
  | 0, t, j, h => by simp [stop] at h
  | f + 1, [], j, h => by simp [stop] at h
  | f + 1, b :: t, j, h => by
    rw [stop] at h
    by_cases hb : b.toNat < 128
    · rw [if_pos hb] at h
      simp at h
      simp; omega
    · rw [if_neg hb] at h
      obtain ⟨k, hk, rfl⟩ := Option.map_eq_some_iff.1 h
      have := stop_lt f t k hk
      simp; omega
/-- what GetNum answers -/
def getNum (l : List UInt8) (i : Int) : Int × Int :=
  if i < 0 then (0, -1) else
  match stop 5 (l.drop i.toNat) with
  | none => (0, -1)
  | some j =>
    let p := (l.drop i.toNat).take (j + 1)
    if putNum (dv p) = p then (((dv p : Nat) : Int), i + j + 1) else (0, -1)
theorem getNum_neg {l : List UInt8} {i : Int} (h : i < 0) : getNum l i = (0, -1) := by rw [getNum, if_pos h]
/-- the bytes from I on, the first j of them -/
def pre (l : List UInt8) (I j : Nat) : List UInt8 := (l.drop I).take j
theorem pre_zero (l : List UInt8) (I : Nat) : pre l I 0 = [] := by simp [pre]
theorem pre_len {l : List UInt8} {I j : Nat} (h : I + j ≤ l.length) : (pre l I j).length = j := by simp [pre]; omega
theorem pre_snoc {l : List UInt8} {I j : Nat} (h : I + j < l.length) : pre l I (j + 1) = pre l I j ++ [l[I + j]] := by
  rw [pre, List.take_succ_eq_append_getElem (by simp; omega)]
  simp [pre]
theorem getNum_end {l : List UInt8} {I j : Nat} (hj : j ≤ 5) (hall : (pre l I j).all hi = true) (hlen : I + j ≤ l.length ∨ j = 0) (h : j = 5 ∨ l.length ≤ I + j) : getNum l I = (0, -1) := by
  rw [getNum, if_neg (by omega), Int.toNat_natCast]
  have hs : stop 5 (l.drop I) = none := by
    have e : l.drop I = pre l I j ++ (l.drop I).drop j := (List.take_append_drop j _).symm
    by_cases hl : I + j ≤ l.length
    · rw [e, stop_past _ _ _ hall (by rw [pre_len hl]; exact hj), pre_len hl]
      rcases h with rfl | h
      · simp [stop]
      · have : (l.drop I).drop j = [] := by simp; omega
        rw [this]
        cases 5 - j <;> simp [stop]
    · have : l.drop I = [] := by simp; omega
      rw [this]; rfl
  rw [hs]
theorem getNum_stop {l : List UInt8} {I j : Nat} (hj : j < 5) (hall : (pre l I j).all hi = true) (hlen : I + j < l.length) (hb : (l[I + j]).toNat < 128) :
    getNum l I = if putNum (dv (pre l I (j + 1))) = pre l I (j + 1) then (((dv (pre l I (j + 1)) : Nat) : Int), (I : Int) + j + 1) else (0, -1) := by
  rw [getNum, if_neg (by omega), Int.toNat_natCast]
  have hs : stop 5 (l.drop I) = some j := by
    have e : l.drop I = pre l I j ++ (l.drop I).drop j := (List.take_append_drop j _).symm
    have e2 : (l.drop I).drop j = l[I + j] :: l.drop (I + j + 1) := by rw [List.drop_drop, List.drop_eq_getElem_cons hlen]
    rw [e, stop_past _ _ _ hall (by rw [pre_len (by omega)]; omega), pre_len (by omega), e2]
    obtain ⟨f, hf⟩ : ∃ f, 5 - j = f + 1 := ⟨4 - j, by omega⟩
    rw [hf, stop, if_pos hb]; simp
  rw [hs]
  rfl

def pw (j : Nat) : Nat := 128 ^ j
theorem pw_succ (j : Nat) : pw (j + 1) = 128 * pw j := by rw [pw, Nat.pow_succ, Nat.mul_comm]; rfl
theorem pw_le {j : Nat} (h : j ≤ 5) : pw j ≤ 34359738368 := Nat.pow_le_pow_right (n := 128) (by decide) h
theorem pw_le4 {j : Nat} (h : j < 5) : pw j ≤ 268435456 := Nat.pow_le_pow_right (n := 128) (j := 4) (by decide) (by omega)
def dk (s : ByteArray) (I j : Nat) : Nat := dv (pre s.data.toList I j)
theorem dk_zero (s : ByteArray) (I : Nat) : dk s I 0 = 0 := by rw [dk, pre_zero]; rfl
theorem dk_succ {s : ByteArray} {I j : Nat} (h : I + j < s.size) : dk s I (j + 1) = dk s I j + s[I + j].toNat % 128 * pw j := by
  rw [dk, pre_snoc (by simpa using h), dv_snoc, pre_len (by have := len_eq s; omega), Nat.mul_comm]; rfl
theorem dk_le {s : ByteArray} {I j : Nat} (hj : j ≤ 5) (h : I + j ≤ s.size ∨ j = 0) : dk s I j ≤ 34359738368 := by
  have h1 := dv_lt (pre s.data.toList I j)
  have h2 : (pre s.data.toList I j).length ≤ 5 := by simp [pre]; omega
  have h3 : 128 ^ (pre s.data.toList I j).length ≤ 128 ^ 5 := Nat.pow_le_pow_right (by decide) h2
  unfold dk; omega
theorem pre_snoc' {s : ByteArray} {I j : Nat} (h : I + j < s.size) : pre s.data.toList I (j + 1) = pre s.data.toList I j ++ [s[I + j]] := pre_snoc (by simpa using h)
theorem hi_snoc {s : ByteArray} {I j : Nat} (h : I + j < s.size) (h1 : (pre s.data.toList I j).all hi = true) (h2 : 128 ≤ s[I + j].toNat) : (pre s.data.toList I (j + 1)).all hi = true := by
  rw [pre_snoc' h, List.all_append, h1]; simp [hi, h2]
theorem extract_pre (s : ByteArray) (I j : Nat) : s.extract I (I + j) = bs (pre s.data.toList I j) := by
  apply WideShapes.bytes_inj
  rw [Lib.extract_data]
  simp [bs, pre]
theorem bs_other {a b : List UInt8} (h : a ≠ b) : ((bs a).toList == (bs b).toList) = false := by
  rw [ByteArray.toList_eq, ByteArray.toList_eq]; simpa [bs] using h
theorem ret_two {k : IntKind} {a b c d : Int} (h1 : a = c) (h2 : b = d) : Ending.returned (.tuple #[.int k a, .int k b]) = .returned (.tuple #[.int k c, .int k d]) := by rw [h1, h2]

set_option maxHeartbeats 1000000 in
theorem specGetNum_neg (s : ByteArray) (i : Int) (w : World) (hs : s.size ≤ 1048576) (h : i < 0) (hl : -9223372036854775808 ≤ i) :
    Calls Tryz.prog 57 #[.string s, .int .i64 i] w fun e w' => e = .returned (.tuple #[.int .i64 (getNum s.data.toList i).1, .int .i64 (getNum s.data.toList i).2]) ∧ Below w.heap.size w w' := by
  rw [getNum_neg h]
  go_enter Tryz.func57, Tryz.ntmps57
  go_wp2
  refine wp_loop_rounds 1 ?_
  rw [rounds_succ]
  go_wp2
  go_ret2
  exact ⟨rfl, Below.refl _ _⟩

set_option maxRecDepth 100000 in
set_option maxHeartbeats 1000000 in
theorem specGetNum_pos (s : ByteArray) (I : Nat) (w : World) (hs : s.size ≤ 1048576) (hI : (I : Int) ≤ 9223372036854775807) :
    Calls Tryz.prog 57 #[.string s, .int .i64 (I : Int)] w fun e w' => e = .returned (.tuple #[.int .i64 (getNum s.data.toList (I : Int)).1, .int .i64 (getNum s.data.toList (I : Int)).2]) ∧ Below w.heap.size w w' := by
  go_enter Tryz.func57, Tryz.ntmps57
  go_wp2
  go_loop [6, 7, 8] (fun n v k => ∃ j : Nat, j ≤ 5 ∧ (I + j ≤ s.size ∨ j = 0) ∧ n = .int .i64 (dk s I j : Int) ∧ v = .int .i64 (pw j : Int) ∧ k = .int .i64 ((I : Int) + (j : Int)) ∧ (pre s.data.toList I j).all hi = true) (fun _ _ k => I + 5 - (intOf k).toNat)
  case atStart => exact ⟨0, by omega, .inr rfl, by rw [dk_zero]; rfl, rfl, by go_num, by rw [pre_zero]; rfl⟩
  case round =>
    obtain ⟨j, hj, hle, rfl, rfl, rfl, hall⟩ := hrel
    have hd := dk_le (s := s) hj hle
    have hp := pw_le hj
    have HA := hide hall
    have HL := hide hle
    clear hall hle
    by_cases hlt : I + j < s.size ∧ j < 5
    · obtain ⟨hlt, hj5⟩ := hlt
      have hb : (s[I + j].toNat : Int) ≤ 255 := byte_le _
      have hp4 := pw_le4 hj5
      have hm0 : 0 ≤ (s[I + j].toNat : Int) % 128 * (pw j : Int) := Int.mul_nonneg (by omega) (by omega)
      have hm1 : (s[I + j].toNat : Int) % 128 * (pw j : Int) ≤ 127 * 268435456 := Int.mul_le_mul (by omega) (by omega) (by omega) (by omega)
      have hX : Hid ((dk s I j : Int) + (s[I + j].toNat : Int) % 128 * (pw j : Int) = (dk s I (j + 1) : Int)) := hide (by rw [dk_succ hlt]; simp)
      by_cases h128 : 128 ≤ (s[I + j].toNat : Int)
      · go_wp2
        go_round
        case rel => exact ⟨j + 1, by omega, .inl (by omega), by rw [unhide hX], by rw [pw_succ]; go_num, by go_num, hi_snoc hlt (unhide HA) (by omega)⟩
        case measure => simp [intOf]; omega
      · have hlo : s[I + j].toNat < 128 := by omega
        have hst := getNum_stop (l := s.data.toList) (I := I) (j := j) hj5 (unhide HA) (by rw [len_eq]; exact hlt) hlo
        have HS := hide hst
        clear hst
        have hwr : IntKind.i64.wrap ((I : Int) + (j : Int) + 1) = (I : Int) + (j : Int) + 1 := by rw [IntKind.wrap_i64]; omega
        have hsl : ∀ wx : World, (Instr.slice 9 (.string s) (some (.int .i64 (I : Int))) (some (.int .i64 ((I : Int) + (j : Int) + 1))) none).run Tryz.prog wx = .ok (.string (s.extract I (I + j + 1))) wx := fun wx => by
          have := run_slice_string (P := Tryz.prog) wx 9 s .i64 .i64 (I : Int) ((I : Int) + (j : Int) + 1) Tryz.underlying9 (by omega) (by omega) (by omega)
          rw [this, show ((I : Int)).toNat = I from by omega, show ((I : Int) + (j : Int) + 1).toNat = I + j + 1 from by omega]
        by_cases hq0 : putNum ((dk s I (j + 1) : Nat) : Int) = pre s.data.toList I (j + 1)
        · have hq : ((bs (putNum ((dk s I j : Int) + (s[I + j].toNat : Int) % 128 * (pw j : Int)))).toList == (s.extract I (I + j + 1)).toList) = true := by
            rw [unhide hX, hq0, Nat.add_assoc, extract_pre]; simp
          have hf : Hid (getNum s.data.toList (I : Int) = ((dk s I (j + 1) : Int), (I : Int) + j + 1)) := hide (by rw [unhide HS]; exact if_pos hq0)
          clear hq0
          go_wp2_with fail
          go_region_with (go_at_call 82; refine (specPutNum_any _ _).mono ?_; rintro e w1 ⟨rfl, hb1⟩)
          all_goals
            go_wp2
            go_ret2
            exact ⟨ret_two (by rw [unhide hf]; exact unhide hX) (by rw [unhide hf]), Below.trans ((Below.refl _ _).drew) hb1⟩
        · have hq : ((bs (putNum ((dk s I j : Int) + (s[I + j].toNat : Int) % 128 * (pw j : Int)))).toList == (s.extract I (I + j + 1)).toList) = false := by
            rw [unhide hX, Nat.add_assoc, extract_pre]; exact bs_other hq0
          have hf : Hid (getNum s.data.toList (I : Int) = (0, -1)) := hide (by rw [unhide HS]; exact if_neg hq0)
          clear hq0
          go_wp2_with fail
          go_region_with (go_at_call 82; refine (specPutNum_any _ _).mono ?_; rintro e w1 ⟨rfl, hb1⟩)
          all_goals
            go_wp2
            go_ret2
            exact ⟨ret_two (by rw [unhide hf]) (by rw [unhide hf]), Below.trans ((Below.refl _ _).drew) hb1⟩
    · have hf : Hid (getNum s.data.toList (I : Int) = (0, -1)) := hide (getNum_end hj (unhide HA) (by rw [len_eq]; exact unhide HL) (by rw [len_eq]; omega))
      clear hp hd
      by_cases h1 : I + j < s.size
      · have h5 : j = 5 := by omega
        subst h5
        go_wp2
        go_ret2
        exact ⟨ret_two (by rw [unhide hf]) (by rw [unhide hf]), Below.refl _ _⟩
      · go_wp2
        go_ret2
        exact ⟨ret_two (by rw [unhide hf]) (by rw [unhide hf]), Below.refl _ _⟩
end Go.Proofs.YtgdndekmkaknlaaGreat
