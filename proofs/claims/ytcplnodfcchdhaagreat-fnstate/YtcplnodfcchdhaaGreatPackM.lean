/-
  Several texts of this claim in one: NewSt, BlM, ResI, Digit (pack.py put them together); each says in its own remark what is proved.
-/
import Derived.Test.YtcplnodfcchdhaaGreatPackF
import Derived.Test.YtcplnodfcchdhaaGreatPackL
import Derived.Deep.CutBlock
import Derived.Deep.CutRange
import Derived.Test.YtcplnodfcchdhaaGreatPackA
import Derived.Test.YtcplnodfcchdhaaGreatPackK
/-
  A new state, by the program and by the model: StateNew; walks over the dump. Of StateOk is asked what it answers of a state of queues alone.
-/
namespace Go.Proofs.YtcplnodfcchdhaaGreat
open Go.RowKit
set_option linter.unusedVariables false
set_option linter.unusedSimpArgs false
/-- what a call of StateNew ends with -/
def NewAns (w : World) (l : List Q) (e : Ending) (w' : World) : Prop := Below w.heap.size w w' ∧ (queuesOk l = false ∧ e = .returned (.tuple #[.agg #[.slice none 0 0, .int .i64 0, .int .i64 0, .int .i64 0, .int .i64 0, .slice none 0 0, .slice none 0 0, .slice none 0 0], .bool false]) ∨ queuesOk l = true ∧ ∃ v, e = .returned (.tuple #[.agg #[v, .int .i64 0, .int .i64 1, .int .i64 1001, .int .i64 1, .slice none 0 0, .slice none 0 0, .slice none 0 0], .bool true]) ∧ QOwn (w.heap.size + 1) w' v l)

set_option maxRecDepth 100000 in
set_option maxHeartbeats 4000000 in
theorem implStateNew_any (ao : Option Addr) (len cap : Nat) (l : List Q) (w : World) (h : QRow w ao len l) (hl : len ≤ 1048576) (hf : FitQ l)
    (CO : ∀ (qo : Option Addr) (n c : Nat) (wx : World), QRow wx qo n l → n ≤ c → Calls Tryz.prog 23 #[.agg #[.slice qo n c, .int .i64 0, .int .i64 1, .int .i64 1001, .int .i64 1, .slice none 0 0, .slice none 0 0, .slice none 0 0]] wx fun e w' => e = .returned (.bool (queuesOk l)) ∧ Below wx.heap.size wx w') (hc : len ≤ cap) :
    Calls Tryz.prog 14 #[.slice ao len cap] w (NewAns w l) := by
  obtain ⟨o, ho⟩ : ∃ o, queuesOk l = o := ⟨_, rfl⟩
  have HB0 := hide (below_al (below_al (Below.refl _ w) (.cells #[.slice none 0 0, .int .i64 0, .int .i64 0, .int .i64 0, .int .i64 0, .slice none 0 0, .slice none 0 0, .slice none 0 0] 29)) (.cells #[.slice ao len cap, .int .i64 0, .int .i64 1, .int .i64 1001, .int .i64 1, .slice none 0 0, .slice none 0 0, .slice none 0 0] 29))
  have P0 := hide ((blk_new w #[.slice none 0 0, .int .i64 0, .int .i64 0, .int .i64 0, .int .i64 0, .slice none 0 0, .slice none 0 0, .slice none 0 0] 29).al (.cells #[.slice ao len cap, .int .i64 0, .int .i64 1, .int .i64 1001, .int .i64 1, .slice none 0 0, .slice none 0 0, .slice none 0 0] 29))
  have P1 := hide (show Blk _ (w.heap.size + 1) #[.slice ao len cap, .int .i64 0, .int .i64 1, .int .i64 1001, .int .i64 1, .slice none 0 0, .slice none 0 0, .slice none 0 0] 29 by have := blk_new (w.alloc (.cells #[.slice none 0 0, .int .i64 0, .int .i64 0, .int .i64 0, .int .i64 0, .slice none 0 0, .slice none 0 0, .slice none 0 0] 29)) #[.slice ao len cap, .int .i64 0, .int .i64 1, .int .i64 1001, .int .i64 1, .slice none 0 0, .slice none 0 0, .slice none 0 0] 29; rwa [al_size] at this)
  have CS := hide (fun wx (hb : Below w.heap.size w wx) => by have := CO ao len cap wx (h.below hb) hc; rw [ho] at this; exact this)
  have CC := hide (fun wx (hb : Below w.heap.size w wx) => copyOfQueues_any ao len cap l wx (h.below hb) hl hf.2)
  have HOO := hide ho
  clear h hf CO ho
  go_enter Tryz.func14, Tryz.ntmps14
  go_wp2_with fail
  refine (unhide CS _ (unhide HB0)).mono ?_
  rintro e w1 ⟨rfl, hb⟩
  have HB1 := hide (below_on (unhide HB0) hb)
  have Q0 := hide ((unhide P0).below hb)
  have Q1 := hide ((unhide P1).below hb)
  clear hb HB0 P0 P1 CS
  cases o
  case false =>
    have c0 := (unhide Q0).at 0; have c1 := (unhide Q0).at 1; have c2 := (unhide Q0).at 2; have c3 := (unhide Q0).at 3; have c4 := (unhide Q0).at 4; have c5 := (unhide Q0).at 5; have c6 := (unhide Q0).at 6; have c7 := (unhide Q0).at 7
    have rf0 := (unhide Q0).f 0; have rf1 := (unhide Q0).f 1; have rf2 := (unhide Q0).f 2; have rf3 := (unhide Q0).f 3; have rf4 := (unhide Q0).f 4; have rf5 := (unhide Q0).f 5; have rf6 := (unhide Q0).f 6; have rf7 := (unhide Q0).f 7
    simp at c0 c1 c2 c3 c4 c5 c6 c7
    go_wp2
    have HB9 := hide (below_sc (below_sc (below_sc (below_sc (below_sc (below_sc (below_sc (below_sc (unhide HB1) w.heap.size 0 (.slice none 0 0) (Nat.le_refl _)) w.heap.size 1 (.int .i64 0) (Nat.le_refl _)) w.heap.size 2 (.int .i64 0) (Nat.le_refl _)) w.heap.size 3 (.int .i64 0) (Nat.le_refl _)) w.heap.size 4 (.int .i64 0) (Nat.le_refl _)) w.heap.size 5 (.slice none 0 0) (Nat.le_refl _)) w.heap.size 6 (.slice none 0 0) (Nat.le_refl _)) w.heap.size 7 (.slice none 0 0) (Nat.le_refl _))
    have R9 := hide (show Blk ((((((((w1.setCell ⟨w.heap.size, 0, none⟩ (.slice none 0 0)).setCell ⟨w.heap.size, 1, none⟩ (.int .i64 0)).setCell ⟨w.heap.size, 2, none⟩ (.int .i64 0)).setCell ⟨w.heap.size, 3, none⟩ (.int .i64 0)).setCell ⟨w.heap.size, 4, none⟩ (.int .i64 0)).setCell ⟨w.heap.size, 5, none⟩ (.slice none 0 0)).setCell ⟨w.heap.size, 6, none⟩ (.slice none 0 0)).setCell ⟨w.heap.size, 7, none⟩ (.slice none 0 0)) w.heap.size #[.slice none 0 0, .int .i64 0, .int .i64 0, .int .i64 0, .int .i64 0, .slice none 0 0, .slice none 0 0, .slice none 0 0] 29 from (((((((((unhide Q0).set 0 (.slice none 0 0)).set 1 (.int .i64 0)).set 2 (.int .i64 0)).set 3 (.int .i64 0)).set 4 (.int .i64 0)).set 5 (.slice none 0 0)).set 6 (.slice none 0 0)).set 7 (.slice none 0 0)))
    generalize ((((((((w1.setCell ⟨w.heap.size, 0, none⟩ (.slice none 0 0)).setCell ⟨w.heap.size, 1, none⟩ (.int .i64 0)).setCell ⟨w.heap.size, 2, none⟩ (.int .i64 0)).setCell ⟨w.heap.size, 3, none⟩ (.int .i64 0)).setCell ⟨w.heap.size, 4, none⟩ (.int .i64 0)).setCell ⟨w.heap.size, 5, none⟩ (.slice none 0 0)).setCell ⟨w.heap.size, 6, none⟩ (.slice none 0 0)).setCell ⟨w.heap.size, 7, none⟩ (.slice none 0 0)) = W9 at HB9 R9 ⊢
    have z0 := (unhide R9).at 0; have z1 := (unhide R9).at 1; have z2 := (unhide R9).at 2; have z3 := (unhide R9).at 3; have z4 := (unhide R9).at 4; have z5 := (unhide R9).at 5; have z6 := (unhide R9).at 6; have z7 := (unhide R9).at 7
    simp at z0 z1 z2 z3 z4 z5 z6 z7
    refine bodyPost_ret (v := .tuple #[.agg #[.slice none 0 0, .int .i64 0, .int .i64 0, .int .i64 0, .int .i64 0, .slice none 0 0, .slice none 0 0, .slice none 0 0], .bool false]) (by simp [results, Tryz.results14, go_sem, z0, z1, z2, z3, z4, z5, z6, z7]) rfl (show NewAns w l _ _ from ⟨unhide HB9, .inl ⟨unhide HOO, rfl⟩⟩)
  go_wp2_with fail
  refine (unhide CC _ (unhide HB1)).mono ?_
  rintro e w2 ⟨v, rfl, hown, hb⟩
  have hl1 := (unhide Q1).lt
  obtain ⟨qo, qc, rfl, _⟩ := qown_rowx hown
  have HO := hide (qown_base hown (show w.heap.size + 2 ≤ w1.heap.size by omega))
  have HB2 := hide (below_on (unhide HB1) hb)
  have R1 := hide ((unhide Q1).below hb)
  have R0 := hide ((unhide Q0).below hb)
  clear hb hown HB1 Q0 Q1 CC
  have d0 := (unhide R1).at 0
  have d1 := (unhide R1).f 0
  simp at d0
  go_upto_region 5 with fail
  have HB3 := hide (below_sc (unhide HB2) (w.heap.size + 1) 0 (.slice qo l.length qc) (by omega))
  have S1 := hide (show Blk (w2.setCell ⟨w.heap.size + 1, 0, none⟩ (.slice qo l.length qc)) (w.heap.size + 1) #[.slice qo l.length qc, .int .i64 0, .int .i64 1, .int .i64 1001, .int .i64 1, .slice none 0 0, .slice none 0 0, .slice none 0 0] 29 from (unhide R1).set 0 (.slice qo l.length qc))
  have S0 := hide ((unhide R0).other (w.heap.size + 1) 0 (.slice qo l.length qc) (by omega))
  have HO2 := hide (qown_base (qown_other (unhide HO) (w.heap.size + 1) 0 (.slice qo l.length qc) (by omega)) (show w.heap.size + 1 ≤ w.heap.size + 2 by omega))
  generalize w2.setCell ⟨w.heap.size + 1, 0, none⟩ (.slice qo l.length qc) = w3 at HB3 S1 S0 HO2 ⊢
  clear d0 d1 HB2 R1 R0 HO
  have a0 := (unhide S1).at 0; have a1 := (unhide S1).at 1; have a2 := (unhide S1).at 2; have a3 := (unhide S1).at 3; have a4 := (unhide S1).at 4; have a5 := (unhide S1).at 5; have a6 := (unhide S1).at 6; have a7 := (unhide S1).at 7
  have af0 := (unhide S1).f 0; have af1 := (unhide S1).f 1; have af2 := (unhide S1).f 2; have af3 := (unhide S1).f 3; have af4 := (unhide S1).f 4; have af5 := (unhide S1).f 5; have af6 := (unhide S1).f 6; have af7 := (unhide S1).f 7
  simp at a0 a1 a2 a3 a4 a5 a6 a7
  have c0 := (unhide S0).at 0; have c1 := (unhide S0).at 1; have c2 := (unhide S0).at 2; have c3 := (unhide S0).at 3; have c4 := (unhide S0).at 4; have c5 := (unhide S0).at 5; have c6 := (unhide S0).at 6; have c7 := (unhide S0).at 7
  have rf0 := (unhide S0).f 0; have rf1 := (unhide S0).f 1; have rf2 := (unhide S0).f 2; have rf3 := (unhide S0).f 3; have rf4 := (unhide S0).f 4; have rf5 := (unhide S0).f 5; have rf6 := (unhide S0).f 6; have rf7 := (unhide S0).f 7
  simp at c0 c1 c2 c3 c4 c5 c6 c7
  go_wp2
  have HB9 := hide (below_sc (below_sc (below_sc (below_sc (below_sc (below_sc (below_sc (below_sc (unhide HB3) w.heap.size 0 (.slice qo l.length qc) (Nat.le_refl _)) w.heap.size 1 (.int .i64 0) (Nat.le_refl _)) w.heap.size 2 (.int .i64 1) (Nat.le_refl _)) w.heap.size 3 (.int .i64 1001) (Nat.le_refl _)) w.heap.size 4 (.int .i64 1) (Nat.le_refl _)) w.heap.size 5 (.slice none 0 0) (Nat.le_refl _)) w.heap.size 6 (.slice none 0 0) (Nat.le_refl _)) w.heap.size 7 (.slice none 0 0) (Nat.le_refl _))
  have R9 := hide (show Blk ((((((((w3.setCell ⟨w.heap.size, 0, none⟩ (.slice qo l.length qc)).setCell ⟨w.heap.size, 1, none⟩ (.int .i64 0)).setCell ⟨w.heap.size, 2, none⟩ (.int .i64 1)).setCell ⟨w.heap.size, 3, none⟩ (.int .i64 1001)).setCell ⟨w.heap.size, 4, none⟩ (.int .i64 1)).setCell ⟨w.heap.size, 5, none⟩ (.slice none 0 0)).setCell ⟨w.heap.size, 6, none⟩ (.slice none 0 0)).setCell ⟨w.heap.size, 7, none⟩ (.slice none 0 0)) w.heap.size #[.slice qo l.length qc, .int .i64 0, .int .i64 1, .int .i64 1001, .int .i64 1, .slice none 0 0, .slice none 0 0, .slice none 0 0] 29 from (((((((((unhide S0).set 0 (.slice qo l.length qc)).set 1 (.int .i64 0)).set 2 (.int .i64 1)).set 3 (.int .i64 1001)).set 4 (.int .i64 1)).set 5 (.slice none 0 0)).set 6 (.slice none 0 0)).set 7 (.slice none 0 0)))
  have O9 := hide (qown_other (qown_other (qown_other (qown_other (qown_other (qown_other (qown_other (qown_other (unhide HO2) w.heap.size 0 (.slice qo l.length qc) (Nat.lt_succ_self _)) w.heap.size 1 (.int .i64 0) (Nat.lt_succ_self _)) w.heap.size 2 (.int .i64 1) (Nat.lt_succ_self _)) w.heap.size 3 (.int .i64 1001) (Nat.lt_succ_self _)) w.heap.size 4 (.int .i64 1) (Nat.lt_succ_self _)) w.heap.size 5 (.slice none 0 0) (Nat.lt_succ_self _)) w.heap.size 6 (.slice none 0 0) (Nat.lt_succ_self _)) w.heap.size 7 (.slice none 0 0) (Nat.lt_succ_self _))
  generalize ((((((((w3.setCell ⟨w.heap.size, 0, none⟩ (.slice qo l.length qc)).setCell ⟨w.heap.size, 1, none⟩ (.int .i64 0)).setCell ⟨w.heap.size, 2, none⟩ (.int .i64 1)).setCell ⟨w.heap.size, 3, none⟩ (.int .i64 1001)).setCell ⟨w.heap.size, 4, none⟩ (.int .i64 1)).setCell ⟨w.heap.size, 5, none⟩ (.slice none 0 0)).setCell ⟨w.heap.size, 6, none⟩ (.slice none 0 0)).setCell ⟨w.heap.size, 7, none⟩ (.slice none 0 0)) = W9 at HB9 R9 O9 ⊢
  have z0 := (unhide R9).at 0; have z1 := (unhide R9).at 1; have z2 := (unhide R9).at 2; have z3 := (unhide R9).at 3; have z4 := (unhide R9).at 4; have z5 := (unhide R9).at 5; have z6 := (unhide R9).at 6; have z7 := (unhide R9).at 7
  simp at z0 z1 z2 z3 z4 z5 z6 z7
  refine bodyPost_ret (v := .tuple #[.agg #[.slice qo l.length qc, .int .i64 0, .int .i64 1, .int .i64 1001, .int .i64 1, .slice none 0 0, .slice none 0 0, .slice none 0 0], .bool true]) (by simp [results, Tryz.results14, go_sem, z0, z1, z2, z3, z4, z5, z6, z7]) rfl (show NewAns w l _ _ from ⟨unhide HB9, .inr ⟨unhide HOO, _, rfl, unhide O9⟩⟩)

set_option maxRecDepth 100000 in
set_option maxHeartbeats 4000000 in
theorem specStateNew_any (ao : Option Addr) (len cap : Nat) (l : List Q) (w : World) (h : QRow w ao len l) (hl : len ≤ 1048576) (hf : FitQ l) (ha : ∃ ad, ao = some ad)
    (CO : ∀ (qo : Option Addr) (n c : Nat) (wx : World), QRow wx qo n l → n ≤ c → Calls Tryz.prog 24 #[.agg #[.slice qo n c, .int .i64 0, .int .i64 1, .int .i64 1001, .int .i64 1, .slice none 0 0, .slice none 0 0, .slice none 0 0]] wx fun e w' => e = .returned (.bool (queuesOk l)) ∧ Below wx.heap.size wx w') :
    Calls Tryz.prog 15 #[.slice ao len cap] w (NewAns w l) := by
  obtain ⟨i0, hi, hz0, hz1, hz2⟩ := info_parts Tryz.infoQ
  obtain ⟨o, ho⟩ : ∃ o, queuesOk l = o := ⟨_, rfl⟩
  obtain ⟨ad, rfl⟩ := ha
  have hb1 := below_al (below_al (Below.refl _ w) (.cells #[.slice none 0 0, .int .i64 0, .int .i64 0, .int .i64 0, .int .i64 0, .slice none 0 0, .slice none 0 0, .slice none 0 0] 29)) (.cells #[] 59)
  have P0 := hide ((blk_new w #[.slice none 0 0, .int .i64 0, .int .i64 0, .int .i64 0, .int .i64 0, .slice none 0 0, .slice none 0 0, .slice none 0 0] 29).al (.cells #[] 59))
  have hnew : ∀ j u, (qcells l)[j]? = some u → ((w.alloc (.cells #[.slice none 0 0, .int .i64 0, .int .i64 0, .int .i64 0, .int .i64 0, .slice none 0 0, .slice none 0 0, .slice none 0 0] 29)).alloc (.cells #[] 59)).cell? (ad.add j) = some u := fun j u hj => by
    have hjl : j < l.length * 4 := by rw [← qcells_len]; exact (List.getElem?_eq_some_iff.1 hj).1
    rcases h.2 with h0 | ⟨b, off, e, _⟩
    · have := h.1; omega
    · cases e
      have := qcells_row (h.below hb1) j u hj
      rw [Lib.add_plain]
      exact this
  have HNW := hide hnew
  have HLN := hide h.1
  have HB1 := hide hb1
  have hown : ((w.alloc (.cells #[.slice none 0 0, .int .i64 0, .int .i64 0, .int .i64 0, .int .i64 0, .slice none 0 0, .slice none 0 0, .slice none 0 0] 29)).alloc (.cells #[] 59)).ownsRow (w.heap.size + 1) 59 4 (.slice (some ⟨w.heap.size + 1, 0, none⟩) 0 0) 0 [] := by
    have := qown_empty (w.alloc (.cells #[.slice none 0 0, .int .i64 0, .int .i64 0, .int .i64 0, .int .i64 0, .slice none 0 0, .slice none 0 0, .slice none 0 0] 29))
    rw [al_size] at this
    exact this
  have hll : (qcells l).length = len * 4 := by rw [qcells_len, h.1]
  have hone := qcells_one l
  have CS := hide (fun (qo : Option Addr) (n c : Nat) (wx : World) (hr : QRow wx qo n l) (hc : n ≤ c) => by have := CO qo n c wx hr hc; rw [ho] at this; exact this)
  have HOO := hide ho
  clear CO ho hf h hnew hb1
  go_enter Tryz.func15, Tryz.ntmps15
  go_wp2_with (at_builtin; refine wpList_append_own _ rfl _ _ 24 rfl (w.heap.size + 1) 59 i0 (.agg #[.string ByteArray.empty, .string ByteArray.empty, .int .i64 0, .int .i64 0]) 4 48 Tryz.underlying24 hi hz0 hz1 hz2 rfl (by decide) _ _ _ rfl hown ad len cap (qcells l) rfl hll (unhide HNW) hone ?c3 ?c4 ?c5 ?_)
  case c3 => unfold maxLen; omega
  case c4 => omega
  case c5 => simp
  intro v w2 hown' hgrow _
  have HO := hide (show QOwn (w.heap.size + 1) w2 v l by
    unfold QOwn
    rw [← unhide HLN]
    simpa using hown')
  have HB2 := hide (show Below w.heap.size w w2 from (unhide HB1).grown hgrow (by simp; omega) (fun k e => by simp [Value.ownBlock] at e; omega))
  have R0 := hide (show Blk w2 w.heap.size #[.slice none 0 0, .int .i64 0, .int .i64 0, .int .i64 0, .int .i64 0, .slice none 0 0, .slice none 0 0, .slice none 0 0] 29 from (hgrow.block _ (unhide P0).lt (by simp [Value.ownBlock])).trans (unhide P0))
  obtain ⟨qo, qc, rfl, hrow, hqc, _⟩ := qown_rowx (unhide HO)
  have HRW := hide (hrow.below (below_al (Below.refl _ w2) (.cells #[.slice qo l.length qc, .int .i64 0, .int .i64 1, .int .i64 1001, .int .i64 1, .slice none 0 0, .slice none 0 0, .slice none 0 0] 29)))
  have HB3 := hide (below_al (unhide HB2) (.cells #[.slice qo l.length qc, .int .i64 0, .int .i64 1, .int .i64 1001, .int .i64 1, .slice none 0 0, .slice none 0 0, .slice none 0 0] 29))
  have S1 := hide (blk_new w2 #[.slice qo l.length qc, .int .i64 0, .int .i64 1, .int .i64 1001, .int .i64 1, .slice none 0 0, .slice none 0 0, .slice none 0 0] 29)
  have S0 := hide ((unhide R0).al (.cells #[.slice qo l.length qc, .int .i64 0, .int .i64 1, .int .i64 1001, .int .i64 1, .slice none 0 0, .slice none 0 0, .slice none 0 0] 29))
  have HO3 := hide ((unhide HO).below (below_al (Below.refl _ w2) (.cells #[.slice qo l.length qc, .int .i64 0, .int .i64 1, .int .i64 1001, .int .i64 1, .slice none 0 0, .slice none 0 0, .slice none 0 0] 29)))
  clear hown' hgrow hown hone hll HB1 HB2 R0 P0 HO hrow HNW
  go_wp2_with fail
  refine (unhide CS qo l.length qc _ (unhide HRW) hqc).mono ?_
  rintro e w4 ⟨rfl, hb⟩
  have HB4 := hide (below_on (unhide HB3) hb)
  have T0 := hide ((unhide S0).below hb)
  have T1 := hide ((unhide S1).below hb)
  have HO4 := hide ((unhide HO3).below hb)
  clear hb HB3 S0 S1 HO3 HRW CS
  cases o
  case false =>
    have c0 := (unhide T0).at 0; have c1 := (unhide T0).at 1; have c2 := (unhide T0).at 2; have c3 := (unhide T0).at 3; have c4 := (unhide T0).at 4; have c5 := (unhide T0).at 5; have c6 := (unhide T0).at 6; have c7 := (unhide T0).at 7
    have rf0 := (unhide T0).f 0; have rf1 := (unhide T0).f 1; have rf2 := (unhide T0).f 2; have rf3 := (unhide T0).f 3; have rf4 := (unhide T0).f 4; have rf5 := (unhide T0).f 5; have rf6 := (unhide T0).f 6; have rf7 := (unhide T0).f 7
    simp at c0 c1 c2 c3 c4 c5 c6 c7
    go_wp2
    have HB9 := hide (below_sc (below_sc (below_sc (below_sc (below_sc (below_sc (below_sc (below_sc (unhide HB4) w.heap.size 0 (.slice none 0 0) (Nat.le_refl _)) w.heap.size 1 (.int .i64 0) (Nat.le_refl _)) w.heap.size 2 (.int .i64 0) (Nat.le_refl _)) w.heap.size 3 (.int .i64 0) (Nat.le_refl _)) w.heap.size 4 (.int .i64 0) (Nat.le_refl _)) w.heap.size 5 (.slice none 0 0) (Nat.le_refl _)) w.heap.size 6 (.slice none 0 0) (Nat.le_refl _)) w.heap.size 7 (.slice none 0 0) (Nat.le_refl _))
    have R9 := hide (show Blk ((((((((w4.setCell ⟨w.heap.size, 0, none⟩ (.slice none 0 0)).setCell ⟨w.heap.size, 1, none⟩ (.int .i64 0)).setCell ⟨w.heap.size, 2, none⟩ (.int .i64 0)).setCell ⟨w.heap.size, 3, none⟩ (.int .i64 0)).setCell ⟨w.heap.size, 4, none⟩ (.int .i64 0)).setCell ⟨w.heap.size, 5, none⟩ (.slice none 0 0)).setCell ⟨w.heap.size, 6, none⟩ (.slice none 0 0)).setCell ⟨w.heap.size, 7, none⟩ (.slice none 0 0)) w.heap.size #[.slice none 0 0, .int .i64 0, .int .i64 0, .int .i64 0, .int .i64 0, .slice none 0 0, .slice none 0 0, .slice none 0 0] 29 from (((((((((unhide T0).set 0 (.slice none 0 0)).set 1 (.int .i64 0)).set 2 (.int .i64 0)).set 3 (.int .i64 0)).set 4 (.int .i64 0)).set 5 (.slice none 0 0)).set 6 (.slice none 0 0)).set 7 (.slice none 0 0)))
    generalize ((((((((w4.setCell ⟨w.heap.size, 0, none⟩ (.slice none 0 0)).setCell ⟨w.heap.size, 1, none⟩ (.int .i64 0)).setCell ⟨w.heap.size, 2, none⟩ (.int .i64 0)).setCell ⟨w.heap.size, 3, none⟩ (.int .i64 0)).setCell ⟨w.heap.size, 4, none⟩ (.int .i64 0)).setCell ⟨w.heap.size, 5, none⟩ (.slice none 0 0)).setCell ⟨w.heap.size, 6, none⟩ (.slice none 0 0)).setCell ⟨w.heap.size, 7, none⟩ (.slice none 0 0)) = W9 at HB9 R9 ⊢
    have z0 := (unhide R9).at 0; have z1 := (unhide R9).at 1; have z2 := (unhide R9).at 2; have z3 := (unhide R9).at 3; have z4 := (unhide R9).at 4; have z5 := (unhide R9).at 5; have z6 := (unhide R9).at 6; have z7 := (unhide R9).at 7
    simp at z0 z1 z2 z3 z4 z5 z6 z7
    refine bodyPost_ret (v := .tuple #[.agg #[.slice none 0 0, .int .i64 0, .int .i64 0, .int .i64 0, .int .i64 0, .slice none 0 0, .slice none 0 0, .slice none 0 0], .bool false]) (by simp [results, Tryz.results15, go_sem, z0, z1, z2, z3, z4, z5, z6, z7]) rfl (show NewAns w l _ _ from ⟨unhide HB9, .inl ⟨unhide HOO, rfl⟩⟩)
  have a0 := (unhide T1).at 0; have a1 := (unhide T1).at 1; have a2 := (unhide T1).at 2; have a3 := (unhide T1).at 3; have a4 := (unhide T1).at 4; have a5 := (unhide T1).at 5; have a6 := (unhide T1).at 6; have a7 := (unhide T1).at 7
  have af0 := (unhide T1).f 0; have af1 := (unhide T1).f 1; have af2 := (unhide T1).f 2; have af3 := (unhide T1).f 3; have af4 := (unhide T1).f 4; have af5 := (unhide T1).f 5; have af6 := (unhide T1).f 6; have af7 := (unhide T1).f 7
  simp at a0 a1 a2 a3 a4 a5 a6 a7
  have c0 := (unhide T0).at 0; have c1 := (unhide T0).at 1; have c2 := (unhide T0).at 2; have c3 := (unhide T0).at 3; have c4 := (unhide T0).at 4; have c5 := (unhide T0).at 5; have c6 := (unhide T0).at 6; have c7 := (unhide T0).at 7
  have rf0 := (unhide T0).f 0; have rf1 := (unhide T0).f 1; have rf2 := (unhide T0).f 2; have rf3 := (unhide T0).f 3; have rf4 := (unhide T0).f 4; have rf5 := (unhide T0).f 5; have rf6 := (unhide T0).f 6; have rf7 := (unhide T0).f 7
  simp at c0 c1 c2 c3 c4 c5 c6 c7
  go_wp2
  have HB9 := hide (below_sc (below_sc (below_sc (below_sc (below_sc (below_sc (below_sc (below_sc (unhide HB4) w.heap.size 0 (.slice qo l.length qc) (Nat.le_refl _)) w.heap.size 1 (.int .i64 0) (Nat.le_refl _)) w.heap.size 2 (.int .i64 1) (Nat.le_refl _)) w.heap.size 3 (.int .i64 1001) (Nat.le_refl _)) w.heap.size 4 (.int .i64 1) (Nat.le_refl _)) w.heap.size 5 (.slice none 0 0) (Nat.le_refl _)) w.heap.size 6 (.slice none 0 0) (Nat.le_refl _)) w.heap.size 7 (.slice none 0 0) (Nat.le_refl _))
  have R9 := hide (show Blk ((((((((w4.setCell ⟨w.heap.size, 0, none⟩ (.slice qo l.length qc)).setCell ⟨w.heap.size, 1, none⟩ (.int .i64 0)).setCell ⟨w.heap.size, 2, none⟩ (.int .i64 1)).setCell ⟨w.heap.size, 3, none⟩ (.int .i64 1001)).setCell ⟨w.heap.size, 4, none⟩ (.int .i64 1)).setCell ⟨w.heap.size, 5, none⟩ (.slice none 0 0)).setCell ⟨w.heap.size, 6, none⟩ (.slice none 0 0)).setCell ⟨w.heap.size, 7, none⟩ (.slice none 0 0)) w.heap.size #[.slice qo l.length qc, .int .i64 0, .int .i64 1, .int .i64 1001, .int .i64 1, .slice none 0 0, .slice none 0 0, .slice none 0 0] 29 from (((((((((unhide T0).set 0 (.slice qo l.length qc)).set 1 (.int .i64 0)).set 2 (.int .i64 1)).set 3 (.int .i64 1001)).set 4 (.int .i64 1)).set 5 (.slice none 0 0)).set 6 (.slice none 0 0)).set 7 (.slice none 0 0)))
  have O9 := hide (qown_other (qown_other (qown_other (qown_other (qown_other (qown_other (qown_other (qown_other (unhide HO4) w.heap.size 0 (.slice qo l.length qc) (Nat.lt_succ_self _)) w.heap.size 1 (.int .i64 0) (Nat.lt_succ_self _)) w.heap.size 2 (.int .i64 1) (Nat.lt_succ_self _)) w.heap.size 3 (.int .i64 1001) (Nat.lt_succ_self _)) w.heap.size 4 (.int .i64 1) (Nat.lt_succ_self _)) w.heap.size 5 (.slice none 0 0) (Nat.lt_succ_self _)) w.heap.size 6 (.slice none 0 0) (Nat.lt_succ_self _)) w.heap.size 7 (.slice none 0 0) (Nat.lt_succ_self _))
  generalize ((((((((w4.setCell ⟨w.heap.size, 0, none⟩ (.slice qo l.length qc)).setCell ⟨w.heap.size, 1, none⟩ (.int .i64 0)).setCell ⟨w.heap.size, 2, none⟩ (.int .i64 1)).setCell ⟨w.heap.size, 3, none⟩ (.int .i64 1001)).setCell ⟨w.heap.size, 4, none⟩ (.int .i64 1)).setCell ⟨w.heap.size, 5, none⟩ (.slice none 0 0)).setCell ⟨w.heap.size, 6, none⟩ (.slice none 0 0)).setCell ⟨w.heap.size, 7, none⟩ (.slice none 0 0)) = W9 at HB9 R9 O9 ⊢
  have z0 := (unhide R9).at 0; have z1 := (unhide R9).at 1; have z2 := (unhide R9).at 2; have z3 := (unhide R9).at 3; have z4 := (unhide R9).at 4; have z5 := (unhide R9).at 5; have z6 := (unhide R9).at 6; have z7 := (unhide R9).at 7
  simp at z0 z1 z2 z3 z4 z5 z6 z7
  refine bodyPost_ret (v := .tuple #[.agg #[.slice qo l.length qc, .int .i64 0, .int .i64 1, .int .i64 1001, .int .i64 1, .slice none 0 0, .slice none 0 0, .slice none 0 0], .bool true]) (by simp [results, Tryz.results15, go_sem, z0, z1, z2, z3, z4, z5, z6, z7]) rfl (show NewAns w l _ _ from ⟨unhide HB9, .inr ⟨unhide HOO, _, rfl, unhide O9⟩⟩)
end Go.Proofs.YtcplnodfcchdhaaGreat

/-
  Texts by their bytes are in one order.
-/
namespace Go.Proofs.YtcplnodfcchdhaaGreat
open Go.RowKit
set_option linter.unusedVariables false
theorem bl_irr : ∀ a : List UInt8, Op.bytesLess a a = false
  | [] => rfl
  | c :: t => by simp [Op.bytesLess, bl_irr t]
theorem bl_trans : ∀ a b c : List UInt8, Op.bytesLess a b = true → Op.bytesLess b c = true → Op.bytesLess a c = true
  | _, [], _, h, _ => by simp [Op.bytesLess] at h
  | _, _ :: _, [], _, h => by simp [Op.bytesLess] at h
  | [], _ :: _, _ :: _, _, _ => by simp [Op.bytesLess]
  | x :: a, y :: b, z :: c, h, k => by
    simp only [Op.bytesLess, Bool.or_eq_true, Bool.and_eq_true, decide_eq_true_eq, beq_iff_eq] at h k ⊢
    rcases h with h | ⟨rfl, h⟩
    · rcases k with k | ⟨rfl, k⟩
      · exact .inl (UInt8.lt_trans h k)
      · exact .inl h
    · rcases k with k | ⟨rfl, k⟩
      · exact .inl k
      · exact .inr ⟨rfl, bl_trans a b c h k⟩
theorem bl_tri : ∀ a b : List UInt8, Op.bytesLess a b = false → a ≠ b → Op.bytesLess b a = true
  | [], [], _, h => absurd rfl h
  | [], _ :: _, h, _ => by simp [Op.bytesLess] at h
  | _ :: _, [], _, _ => by simp [Op.bytesLess]
  | x :: a, y :: b, h, k => by
    simp only [Op.bytesLess, Bool.or_eq_false_iff, Bool.and_eq_false_iff, decide_eq_false_iff_not, beq_eq_false_iff_ne] at h
    simp only [Op.bytesLess, Bool.or_eq_true, Bool.and_eq_true, decide_eq_true_eq, beq_iff_eq]
    by_cases hxy : x = y
    · subst hxy
      right
      refine ⟨rfl, bl_tri a b ?_ (fun e => k (by rw [e]))⟩
      rcases h.2 with h2 | h2
      · exact absurd rfl h2
      · exact h2
    · left
      have h1 := h.1
      have : x.toNat ≠ y.toNat := fun e => hxy (UInt8.toNat_inj.1 e)
      rw [UInt8.lt_iff_toNat_lt] at h1 ⊢
      omega
end Go.Proofs.YtcplnodfcchdhaaGreat

/-
  Amounts in the program: numberOk, the methods ok and orNothing, two at once; walks over the dump.
-/
namespace Go.Proofs.YtcplnodfcchdhaaGreat
open Go.RowKit
set_option linter.unusedVariables false
/-- two amounts at once -/
abbrev pv (a b c d : Int) : Value := .agg #[.int .i64 a, .int .i64 b, .int .i64 c, .int .i64 d]

set_option maxHeartbeats 400000 in
theorem numberOk_any (n : Int) (w : World) :
    Calls Tryz.prog 102 #[.int .i64 n] w fun e w' => e = .returned (.bool (inB n 0 1000000000)) ∧ w = w' := by
  by_cases h1 : 0 ≤ n
  · by_cases h2 : n ≤ 1000000000
    · go_enter Tryz.func102, Tryz.ntmps102
      go_wp2
      go_ret
      exact ⟨ret_bool (inB_true h1 h2).symm, rfl⟩
    · go_enter Tryz.func102, Tryz.ntmps102
      go_wp2
      go_ret
      exact ⟨ret_bool (inB_false (by omega)).symm, rfl⟩
  · go_enter Tryz.func102, Tryz.ntmps102
    go_wp2
    go_ret
    exact ⟨ret_bool (inB_false (by omega)).symm, rfl⟩

set_option maxRecDepth 100000 in
set_option maxHeartbeats 400000 in
theorem ok_any (a b : Int) (w : World) :
    Calls Tryz.prog 113 #[rv a b] w fun e w' => e = .returned (.bool (resOk a b)) ∧ w' = w.alloc (.cells #[.int .i64 a, .int .i64 b] 33) := by
  cases h1 : inB a 0 1000000000
  · go_enter Tryz.func113, Tryz.ntmps113
    go_wp2_with (go_at_call 102; refine (numberOk_any _ _).mono ?_; rintro e w' ⟨rfl, rfl⟩)
    go_ret
    exact ⟨ret_bool (by simp [resOk, h1]), rfl⟩
  · go_enter Tryz.func113, Tryz.ntmps113
    go_wp2_with (go_at_call 102; refine (numberOk_any _ _).mono ?_; rintro e w' ⟨rfl, rfl⟩)
    go_ret
    exact ⟨ret_bool (by simp [resOk, h1]), rfl⟩
theorem ok_bel (a b : Int) (w : World) :
    Calls Tryz.prog 113 #[rv a b] w fun e w' => e = .returned (.bool (resOk a b)) ∧ Below w.heap.size w w' :=
  (ok_any a b w).mono fun e w' h => ⟨h.1, by rw [h.2]; exact below_al (Below.refl _ _) _⟩
end Go.Proofs.YtcplnodfcchdhaaGreat

/-
  What the program's isDigit answers; a walk over the dump.
-/
namespace Go.Proofs.YtcplnodfcchdhaaGreat
open Go.RowKit
set_option maxHeartbeats 400000 in
theorem isDigit_any (x : Int) (w : World) :
    Calls Tryz.prog 130 #[.int .u8 x] w fun e w' => e = .returned (.bool (inB x 48 57)) ∧ w' = w := by
  by_cases h1 : 48 ≤ x
  · by_cases h2 : x ≤ 57
    · go_enter Tryz.func130, Tryz.ntmps130
      go_wp2
      go_ret
      exact ⟨ret_bool (inB_true h1 h2).symm, rfl⟩
    · go_enter Tryz.func130, Tryz.ntmps130
      go_wp2
      go_ret
      exact ⟨ret_bool (inB_false (by omega)).symm, rfl⟩
  · go_enter Tryz.func130, Tryz.ntmps130
    go_wp2
    go_ret
    exact ⟨ret_bool (inB_false (by omega)).symm, rfl⟩
end Go.Proofs.YtcplnodfcchdhaaGreat
