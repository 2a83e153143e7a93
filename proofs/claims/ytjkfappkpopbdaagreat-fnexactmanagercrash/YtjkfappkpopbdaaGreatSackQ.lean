/-
  A new state, by the program and by the model: StateNew; walks over the dump. Of StateOk is asked what it answers of a state of queues alone.
-/
import Derived.Test.YtjkfappkpopbdaaGreatSackF
set_option maxRecDepth 100000
set_option maxHeartbeats 16000000
set_option linter.unusedVariables false
set_option linter.unusedSimpArgs false
namespace Go.Proofs.YtjkfappkpopbdaaGreat
section
open Go.RowKit
def NewAns (w:World) (l:List Q) (e:Ending) (w':World):Prop:=Below w.heap.size w w'∧(queuesOk l=false∧e=.returned (.tuple #[.agg #[.slice none 0 0,.int .i64 0,.int .i64 0,.int .i64 0,.int .i64 0,.slice none 0 0,.slice none 0 0,.slice none 0 0],.bool false])∨queuesOk l=true∧∃v,e=.returned (.tuple #[.agg #[v,.int .i64 0,.int .i64 1,.int .i64 1001,.int .i64 1,.slice none 0 0,.slice none 0 0,.slice none 0 0],.bool true])∧QOwn (w.heap.size+1) w' v l)
theorem implStateNew_any (ao:Option Addr) (len cap:Nat) (l:List Q) (w:World) (h:QRow w ao len l) (hl:len≤1048576) (hf:FitQ l)
  (CO:∀(qo:Option Addr) (n c:Nat) (wx:World),QRow wx qo n l→n≤c→Calls Tryz.prog 174 #[.agg #[.slice qo n c,.int .i64 0,.int .i64 1,.int .i64 1001,.int .i64 1,.slice none 0 0,.slice none 0 0,.slice none 0 0]] wx fun e w'=>e=.returned (.bool (queuesOk l))∧Below wx.heap.size wx w') (hc:len≤cap) :
  Calls Tryz.prog 145 #[.slice ao len cap] w (NewAns w l):=by
 obtain ⟨o,ho⟩:∃o,queuesOk l=o:=⟨_,rfl⟩
 have HB0:=hide (yA (yA (yH _ w) (.cells #[.slice none 0 0,.int .i64 0,.int .i64 0,.int .i64 0,.int .i64 0,.slice none 0 0,.slice none 0 0,.slice none 0 0] 37)) (.cells #[.slice ao len cap,.int .i64 0,.int .i64 1,.int .i64 1001,.int .i64 1,.slice none 0 0,.slice none 0 0,.slice none 0 0] 37))
 have P0:=hide ((yD w #[.slice none 0 0,.int .i64 0,.int .i64 0,.int .i64 0,.int .i64 0,.slice none 0 0,.slice none 0 0,.slice none 0 0] 37).al (.cells #[.slice ao len cap,.int .i64 0,.int .i64 1,.int .i64 1001,.int .i64 1,.slice none 0 0,.slice none 0 0,.slice none 0 0] 37))
 have P1:=hide (show Blk _ (w.heap.size+1) #[.slice ao len cap,.int .i64 0,.int .i64 1,.int .i64 1001,.int .i64 1,.slice none 0 0,.slice none 0 0,.slice none 0 0] 37 by have:=yD (w.alloc (.cells #[.slice none 0 0,.int .i64 0,.int .i64 0,.int .i64 0,.int .i64 0,.slice none 0 0,.slice none 0 0,.slice none 0 0] 37)) #[.slice ao len cap,.int .i64 0,.int .i64 1,.int .i64 1001,.int .i64 1,.slice none 0 0,.slice none 0 0,.slice none 0 0] 37;rwa [yE] at this)
 have CS:=hide (fun wx (hb:Below w.heap.size w wx)=>by have:=CO ao len cap wx (h.below hb) hc;rw [ho] at this;exact this)
 have CC:=hide (fun wx (hb:Below w.heap.size w wx)=>copyOfQueues_any ao len cap l wx (h.below hb) hl hf.2)
 have HOO:=hide ho
 clear h hf CO ho
 go_enter Tryz.func145,Tryz.ntmps145
 go_wp2_with fail
 refine (uH CS _ (uH HB0)).mono ?_
 rintro e w1 ⟨rfl,hb⟩
 have HB1:=hide (yB (uH HB0) hb)
 have Q0:=hide ((uH P0).below hb)
 have Q1:=hide ((uH P1).below hb)
 clear hb HB0 P0 P1 CS
 cases o
 case false=>
  obtain ⟨c0,c1,c2,c3,c4,c5,c6,c7⟩:=zq (uH Q0)
  have rf0:=(uH Q0).f 0;have rf1:=(uH Q0).f 1;have rf2:=(uH Q0).f 2;have rf3:=(uH Q0).f 3;have rf4:=(uH Q0).f 4;have rf5:=(uH Q0).f 5;have rf6:=(uH Q0).f 6;have rf7:=(uH Q0).f 7
  go_wp2
  have HB9:=hide (yC (yC (yC (yC (yC (yC (yC (yC (uH HB1) w.heap.size 0 (.slice none 0 0) (yJ _)) w.heap.size 1 (.int .i64 0) (yJ _)) w.heap.size 2 (.int .i64 0) (yJ _)) w.heap.size 3 (.int .i64 0) (yJ _)) w.heap.size 4 (.int .i64 0) (yJ _)) w.heap.size 5 (.slice none 0 0) (yJ _)) w.heap.size 6 (.slice none 0 0) (yJ _)) w.heap.size 7 (.slice none 0 0) (yJ _))
  have R9:=hide (show Blk ((((((((w1.setCell ⟨w.heap.size,0,none⟩ (.slice none 0 0)).setCell ⟨w.heap.size,1,none⟩ (.int .i64 0)).setCell ⟨w.heap.size,2,none⟩ (.int .i64 0)).setCell ⟨w.heap.size,3,none⟩ (.int .i64 0)).setCell ⟨w.heap.size,4,none⟩ (.int .i64 0)).setCell ⟨w.heap.size,5,none⟩ (.slice none 0 0)).setCell ⟨w.heap.size,6,none⟩ (.slice none 0 0)).setCell ⟨w.heap.size,7,none⟩ (.slice none 0 0)) w.heap.size #[.slice none 0 0,.int .i64 0,.int .i64 0,.int .i64 0,.int .i64 0,.slice none 0 0,.slice none 0 0,.slice none 0 0] 37 from (((((((((uH Q0).set 0 (.slice none 0 0)).set 1 (.int .i64 0)).set 2 (.int .i64 0)).set 3 (.int .i64 0)).set 4 (.int .i64 0)).set 5 (.slice none 0 0)).set 6 (.slice none 0 0)).set 7 (.slice none 0 0)))
  generalize ((((((((w1.setCell ⟨w.heap.size,0,none⟩ (.slice none 0 0)).setCell ⟨w.heap.size,1,none⟩ (.int .i64 0)).setCell ⟨w.heap.size,2,none⟩ (.int .i64 0)).setCell ⟨w.heap.size,3,none⟩ (.int .i64 0)).setCell ⟨w.heap.size,4,none⟩ (.int .i64 0)).setCell ⟨w.heap.size,5,none⟩ (.slice none 0 0)).setCell ⟨w.heap.size,6,none⟩ (.slice none 0 0)).setCell ⟨w.heap.size,7,none⟩ (.slice none 0 0))=W9 at HB9 R9 ⊢
  obtain ⟨z0,z1,z2,z3,z4,z5,z6,z7⟩:=zq (uH R9)
  refine bodyPost_ret (v:=.tuple #[.agg #[.slice none 0 0,.int .i64 0,.int .i64 0,.int .i64 0,.int .i64 0,.slice none 0 0,.slice none 0 0,.slice none 0 0],.bool false]) (by simp [results,Tryz.results145,go_sem,z0,z1,z2,z3,z4,z5,z6,z7]) rfl (show NewAns w l _ _ from ⟨uH HB9,.inl ⟨uH HOO,rfl⟩⟩)
 go_wp2_with fail
 refine (uH CC _ (uH HB1)).mono ?_
 rintro e w2 ⟨v,rfl,hown,hb⟩
 have hl1:=(uH Q1).lt
 obtain ⟨qo,qc,rfl,_⟩:=qown_rowx hown
 have HO:=hide (qown_base hown (show w.heap.size+2≤w1.heap.size by omega))
 have HB2:=hide (yB (uH HB1) hb)
 have R1:=hide ((uH Q1).below hb)
 have R0:=hide ((uH Q0).below hb)
 clear hb hown HB1 Q0 Q1 CC
 have d0:=(uH R1).at 0
 have d1:=(uH R1).f 0
 simp at d0
 go_upto_region 5 with fail
 have HB3:=hide (yC (uH HB2) (w.heap.size+1) 0 (.slice qo l.length qc) (by omega))
 have S1:=hide (show Blk (w2.setCell ⟨w.heap.size+1,0,none⟩ (.slice qo l.length qc)) (w.heap.size+1) #[.slice qo l.length qc,.int .i64 0,.int .i64 1,.int .i64 1001,.int .i64 1,.slice none 0 0,.slice none 0 0,.slice none 0 0] 37 from (uH R1).set 0 (.slice qo l.length qc))
 have S0:=hide ((uH R0).other (w.heap.size+1) 0 (.slice qo l.length qc) (by omega))
 have HO2:=hide (qown_base (qown_other (uH HO) (w.heap.size+1) 0 (.slice qo l.length qc) (by omega)) (show w.heap.size+1≤w.heap.size+2 by omega))
 generalize w2.setCell ⟨w.heap.size+1,0,none⟩ (.slice qo l.length qc)=w3 at HB3 S1 S0 HO2 ⊢
 clear d0 d1 HB2 R1 R0 HO
 obtain ⟨a0,a1,a2,a3,a4,a5,a6,a7⟩:=zq (uH S1)
 have af0:=(uH S1).f 0;have af1:=(uH S1).f 1;have af2:=(uH S1).f 2;have af3:=(uH S1).f 3;have af4:=(uH S1).f 4;have af5:=(uH S1).f 5;have af6:=(uH S1).f 6;have af7:=(uH S1).f 7
 obtain ⟨c0,c1,c2,c3,c4,c5,c6,c7⟩:=zq (uH S0)
 have rf0:=(uH S0).f 0;have rf1:=(uH S0).f 1;have rf2:=(uH S0).f 2;have rf3:=(uH S0).f 3;have rf4:=(uH S0).f 4;have rf5:=(uH S0).f 5;have rf6:=(uH S0).f 6;have rf7:=(uH S0).f 7
 go_wp2
 have HB9:=hide (yC (yC (yC (yC (yC (yC (yC (yC (uH HB3) w.heap.size 0 (.slice qo l.length qc) (yJ _)) w.heap.size 1 (.int .i64 0) (yJ _)) w.heap.size 2 (.int .i64 1) (yJ _)) w.heap.size 3 (.int .i64 1001) (yJ _)) w.heap.size 4 (.int .i64 1) (yJ _)) w.heap.size 5 (.slice none 0 0) (yJ _)) w.heap.size 6 (.slice none 0 0) (yJ _)) w.heap.size 7 (.slice none 0 0) (yJ _))
 have R9:=hide (show Blk ((((((((w3.setCell ⟨w.heap.size,0,none⟩ (.slice qo l.length qc)).setCell ⟨w.heap.size,1,none⟩ (.int .i64 0)).setCell ⟨w.heap.size,2,none⟩ (.int .i64 1)).setCell ⟨w.heap.size,3,none⟩ (.int .i64 1001)).setCell ⟨w.heap.size,4,none⟩ (.int .i64 1)).setCell ⟨w.heap.size,5,none⟩ (.slice none 0 0)).setCell ⟨w.heap.size,6,none⟩ (.slice none 0 0)).setCell ⟨w.heap.size,7,none⟩ (.slice none 0 0)) w.heap.size #[.slice qo l.length qc,.int .i64 0,.int .i64 1,.int .i64 1001,.int .i64 1,.slice none 0 0,.slice none 0 0,.slice none 0 0] 37 from (((((((((uH S0).set 0 (.slice qo l.length qc)).set 1 (.int .i64 0)).set 2 (.int .i64 1)).set 3 (.int .i64 1001)).set 4 (.int .i64 1)).set 5 (.slice none 0 0)).set 6 (.slice none 0 0)).set 7 (.slice none 0 0)))
 have O9:=hide (qown_other (qown_other (qown_other (qown_other (qown_other (qown_other (qown_other (qown_other (uH HO2) w.heap.size 0 (.slice qo l.length qc) (Nat.lt_succ_self _)) w.heap.size 1 (.int .i64 0) (Nat.lt_succ_self _)) w.heap.size 2 (.int .i64 1) (Nat.lt_succ_self _)) w.heap.size 3 (.int .i64 1001) (Nat.lt_succ_self _)) w.heap.size 4 (.int .i64 1) (Nat.lt_succ_self _)) w.heap.size 5 (.slice none 0 0) (Nat.lt_succ_self _)) w.heap.size 6 (.slice none 0 0) (Nat.lt_succ_self _)) w.heap.size 7 (.slice none 0 0) (Nat.lt_succ_self _))
 generalize ((((((((w3.setCell ⟨w.heap.size,0,none⟩ (.slice qo l.length qc)).setCell ⟨w.heap.size,1,none⟩ (.int .i64 0)).setCell ⟨w.heap.size,2,none⟩ (.int .i64 1)).setCell ⟨w.heap.size,3,none⟩ (.int .i64 1001)).setCell ⟨w.heap.size,4,none⟩ (.int .i64 1)).setCell ⟨w.heap.size,5,none⟩ (.slice none 0 0)).setCell ⟨w.heap.size,6,none⟩ (.slice none 0 0)).setCell ⟨w.heap.size,7,none⟩ (.slice none 0 0))=W9 at HB9 R9 O9 ⊢
 obtain ⟨z0,z1,z2,z3,z4,z5,z6,z7⟩:=zq (uH R9)
 refine bodyPost_ret (v:=.tuple #[.agg #[.slice qo l.length qc,.int .i64 0,.int .i64 1,.int .i64 1001,.int .i64 1,.slice none 0 0,.slice none 0 0,.slice none 0 0],.bool true]) (by simp [results,Tryz.results145,go_sem,z0,z1,z2,z3,z4,z5,z6,z7]) rfl (show NewAns w l _ _ from ⟨uH HB9,.inr ⟨uH HOO,_,rfl,uH O9⟩⟩)
theorem specStateNew_any (ao:Option Addr) (len cap:Nat) (l:List Q) (w:World) (h:QRow w ao len l) (hl:len≤1048576) (hf:FitQ l) (ha:∃ad,ao=some ad)
  (CO:∀(qo:Option Addr) (n c:Nat) (wx:World),QRow wx qo n l→n≤c→Calls Tryz.prog 77 #[.agg #[.slice qo n c,.int .i64 0,.int .i64 1,.int .i64 1001,.int .i64 1,.slice none 0 0,.slice none 0 0,.slice none 0 0]] wx fun e w'=>e=.returned (.bool (queuesOk l))∧Below wx.heap.size wx w') :
  Calls Tryz.prog 38 #[.slice ao len cap] w (NewAns w l):=by
 obtain ⟨i0,hi,hz0,hz1,hz2⟩:=info_parts Tryz.infoQ
 obtain ⟨o,ho⟩:∃o,queuesOk l=o:=⟨_,rfl⟩
 obtain ⟨ad,rfl⟩:=ha
 have hb1:=yA (yA (yH _ w) (.cells #[.slice none 0 0,.int .i64 0,.int .i64 0,.int .i64 0,.int .i64 0,.slice none 0 0,.slice none 0 0,.slice none 0 0] 37)) (.cells #[] 142)
 have P0:=hide ((yD w #[.slice none 0 0,.int .i64 0,.int .i64 0,.int .i64 0,.int .i64 0,.slice none 0 0,.slice none 0 0,.slice none 0 0] 37).al (.cells #[] 142))
 have hnew:∀j u,(qcells l)[j]? = some u→((w.alloc (.cells #[.slice none 0 0,.int .i64 0,.int .i64 0,.int .i64 0,.int .i64 0,.slice none 0 0,.slice none 0 0,.slice none 0 0] 37)).alloc (.cells #[] 142)).cell? (ad.add j)=some u:=fun j u hj=>by
  have hjl:j<l.length*4:=by rw [←qcells_len];exact (List.getElem?_eq_some_iff.1 hj).1
  rcases h.2 with h0 | ⟨b,off,e,_⟩
  ·have:=h.1;omega
  ·cases e
   have:=qcells_row (h.below hb1) j u hj
   rw [Lib.add_plain]
   exact this
 have HNW:=hide hnew
 have HLN:=hide h.1
 have HB1:=hide hb1
 have hown:((w.alloc (.cells #[.slice none 0 0,.int .i64 0,.int .i64 0,.int .i64 0,.int .i64 0,.slice none 0 0,.slice none 0 0,.slice none 0 0] 37)).alloc (.cells #[] 142)).ownsRow (w.heap.size+1) 142 4 (.slice (some ⟨w.heap.size+1,0,none⟩) 0 0) 0 []:=by
  have:=qown_empty (w.alloc (.cells #[.slice none 0 0,.int .i64 0,.int .i64 0,.int .i64 0,.int .i64 0,.slice none 0 0,.slice none 0 0,.slice none 0 0] 37))
  rw [yE] at this
  exact this
 have hll:(qcells l).length=len*4:=by rw [qcells_len,h.1]
 have hone:=qcells_one l
 have CS:=hide (fun (qo:Option Addr) (n c:Nat) (wx:World) (hr:QRow wx qo n l) (hc:n≤c)=>by have:=CO qo n c wx hr hc;rw [ho] at this;exact this)
 have HOO:=hide ho
 clear CO ho hf h hnew hb1
 go_enter Tryz.func38,Tryz.ntmps38
 go_wp2_with (at_builtin;refine wpList_append_own _ rfl _ _ 32 rfl (w.heap.size+1) 142 i0 (.agg #[.string ByteArray.empty,.string ByteArray.empty,.int .i64 0,.int .i64 0]) 4 48 Tryz.underlying32 hi hz0 hz1 hz2 rfl (by decide) _ _ _ rfl hown ad len cap (qcells l) rfl hll (uH HNW) hone ?c3 ?c4 ?c5 ?_)
 case c3=>unfold maxLen;omega
 case c4=>omega
 case c5=>simp
 intro v w2 hown' hgrow _
 have HO:=hide (show QOwn (w.heap.size+1) w2 v l by
  unfold QOwn
  rw [←uH HLN]
  simpa using hown')
 have HB2:=hide (show Below w.heap.size w w2 from (uH HB1).grown hgrow (by simp;omega) (fun k e=>by simp [Value.ownBlock] at e;omega))
 have R0:=hide (show Blk w2 w.heap.size #[.slice none 0 0,.int .i64 0,.int .i64 0,.int .i64 0,.int .i64 0,.slice none 0 0,.slice none 0 0,.slice none 0 0] 37 from (hgrow.block _ (uH P0).lt (by simp [Value.ownBlock])).trans (uH P0))
 obtain ⟨qo,qc,rfl,hrow,hqc,_⟩:=qown_rowx (uH HO)
 have HRW:=hide (hrow.below (yA (yH _ w2) (.cells #[.slice qo l.length qc,.int .i64 0,.int .i64 1,.int .i64 1001,.int .i64 1,.slice none 0 0,.slice none 0 0,.slice none 0 0] 37)))
 have HB3:=hide (yA (uH HB2) (.cells #[.slice qo l.length qc,.int .i64 0,.int .i64 1,.int .i64 1001,.int .i64 1,.slice none 0 0,.slice none 0 0,.slice none 0 0] 37))
 have S1:=hide (yD w2 #[.slice qo l.length qc,.int .i64 0,.int .i64 1,.int .i64 1001,.int .i64 1,.slice none 0 0,.slice none 0 0,.slice none 0 0] 37)
 have S0:=hide ((uH R0).al (.cells #[.slice qo l.length qc,.int .i64 0,.int .i64 1,.int .i64 1001,.int .i64 1,.slice none 0 0,.slice none 0 0,.slice none 0 0] 37))
 have HO3:=hide ((uH HO).below (yA (yH _ w2) (.cells #[.slice qo l.length qc,.int .i64 0,.int .i64 1,.int .i64 1001,.int .i64 1,.slice none 0 0,.slice none 0 0,.slice none 0 0] 37)))
 clear hown' hgrow hown hone hll HB1 HB2 R0 P0 HO hrow HNW
 go_wp2_with fail
 refine (uH CS qo l.length qc _ (uH HRW) hqc).mono ?_
 rintro e w4 ⟨rfl,hb⟩
 have HB4:=hide (yB (uH HB3) hb)
 have T0:=hide ((uH S0).below hb)
 have T1:=hide ((uH S1).below hb)
 have HO4:=hide ((uH HO3).below hb)
 clear hb HB3 S0 S1 HO3 HRW CS
 cases o
 case false=>
  obtain ⟨c0,c1,c2,c3,c4,c5,c6,c7⟩:=zq (uH T0)
  have rf0:=(uH T0).f 0;have rf1:=(uH T0).f 1;have rf2:=(uH T0).f 2;have rf3:=(uH T0).f 3;have rf4:=(uH T0).f 4;have rf5:=(uH T0).f 5;have rf6:=(uH T0).f 6;have rf7:=(uH T0).f 7
  go_wp2
  have HB9:=hide (yC (yC (yC (yC (yC (yC (yC (yC (uH HB4) w.heap.size 0 (.slice none 0 0) (yJ _)) w.heap.size 1 (.int .i64 0) (yJ _)) w.heap.size 2 (.int .i64 0) (yJ _)) w.heap.size 3 (.int .i64 0) (yJ _)) w.heap.size 4 (.int .i64 0) (yJ _)) w.heap.size 5 (.slice none 0 0) (yJ _)) w.heap.size 6 (.slice none 0 0) (yJ _)) w.heap.size 7 (.slice none 0 0) (yJ _))
  have R9:=hide (show Blk ((((((((w4.setCell ⟨w.heap.size,0,none⟩ (.slice none 0 0)).setCell ⟨w.heap.size,1,none⟩ (.int .i64 0)).setCell ⟨w.heap.size,2,none⟩ (.int .i64 0)).setCell ⟨w.heap.size,3,none⟩ (.int .i64 0)).setCell ⟨w.heap.size,4,none⟩ (.int .i64 0)).setCell ⟨w.heap.size,5,none⟩ (.slice none 0 0)).setCell ⟨w.heap.size,6,none⟩ (.slice none 0 0)).setCell ⟨w.heap.size,7,none⟩ (.slice none 0 0)) w.heap.size #[.slice none 0 0,.int .i64 0,.int .i64 0,.int .i64 0,.int .i64 0,.slice none 0 0,.slice none 0 0,.slice none 0 0] 37 from (((((((((uH T0).set 0 (.slice none 0 0)).set 1 (.int .i64 0)).set 2 (.int .i64 0)).set 3 (.int .i64 0)).set 4 (.int .i64 0)).set 5 (.slice none 0 0)).set 6 (.slice none 0 0)).set 7 (.slice none 0 0)))
  generalize ((((((((w4.setCell ⟨w.heap.size,0,none⟩ (.slice none 0 0)).setCell ⟨w.heap.size,1,none⟩ (.int .i64 0)).setCell ⟨w.heap.size,2,none⟩ (.int .i64 0)).setCell ⟨w.heap.size,3,none⟩ (.int .i64 0)).setCell ⟨w.heap.size,4,none⟩ (.int .i64 0)).setCell ⟨w.heap.size,5,none⟩ (.slice none 0 0)).setCell ⟨w.heap.size,6,none⟩ (.slice none 0 0)).setCell ⟨w.heap.size,7,none⟩ (.slice none 0 0))=W9 at HB9 R9 ⊢
  obtain ⟨z0,z1,z2,z3,z4,z5,z6,z7⟩:=zq (uH R9)
  refine bodyPost_ret (v:=.tuple #[.agg #[.slice none 0 0,.int .i64 0,.int .i64 0,.int .i64 0,.int .i64 0,.slice none 0 0,.slice none 0 0,.slice none 0 0],.bool false]) (by simp [results,Tryz.results38,go_sem,z0,z1,z2,z3,z4,z5,z6,z7]) rfl (show NewAns w l _ _ from ⟨uH HB9,.inl ⟨uH HOO,rfl⟩⟩)
 obtain ⟨a0,a1,a2,a3,a4,a5,a6,a7⟩:=zq (uH T1)
 have af0:=(uH T1).f 0;have af1:=(uH T1).f 1;have af2:=(uH T1).f 2;have af3:=(uH T1).f 3;have af4:=(uH T1).f 4;have af5:=(uH T1).f 5;have af6:=(uH T1).f 6;have af7:=(uH T1).f 7
 obtain ⟨c0,c1,c2,c3,c4,c5,c6,c7⟩:=zq (uH T0)
 have rf0:=(uH T0).f 0;have rf1:=(uH T0).f 1;have rf2:=(uH T0).f 2;have rf3:=(uH T0).f 3;have rf4:=(uH T0).f 4;have rf5:=(uH T0).f 5;have rf6:=(uH T0).f 6;have rf7:=(uH T0).f 7
 go_wp2
 have HB9:=hide (yC (yC (yC (yC (yC (yC (yC (yC (uH HB4) w.heap.size 0 (.slice qo l.length qc) (yJ _)) w.heap.size 1 (.int .i64 0) (yJ _)) w.heap.size 2 (.int .i64 1) (yJ _)) w.heap.size 3 (.int .i64 1001) (yJ _)) w.heap.size 4 (.int .i64 1) (yJ _)) w.heap.size 5 (.slice none 0 0) (yJ _)) w.heap.size 6 (.slice none 0 0) (yJ _)) w.heap.size 7 (.slice none 0 0) (yJ _))
 have R9:=hide (show Blk ((((((((w4.setCell ⟨w.heap.size,0,none⟩ (.slice qo l.length qc)).setCell ⟨w.heap.size,1,none⟩ (.int .i64 0)).setCell ⟨w.heap.size,2,none⟩ (.int .i64 1)).setCell ⟨w.heap.size,3,none⟩ (.int .i64 1001)).setCell ⟨w.heap.size,4,none⟩ (.int .i64 1)).setCell ⟨w.heap.size,5,none⟩ (.slice none 0 0)).setCell ⟨w.heap.size,6,none⟩ (.slice none 0 0)).setCell ⟨w.heap.size,7,none⟩ (.slice none 0 0)) w.heap.size #[.slice qo l.length qc,.int .i64 0,.int .i64 1,.int .i64 1001,.int .i64 1,.slice none 0 0,.slice none 0 0,.slice none 0 0] 37 from (((((((((uH T0).set 0 (.slice qo l.length qc)).set 1 (.int .i64 0)).set 2 (.int .i64 1)).set 3 (.int .i64 1001)).set 4 (.int .i64 1)).set 5 (.slice none 0 0)).set 6 (.slice none 0 0)).set 7 (.slice none 0 0)))
 have O9:=hide (qown_other (qown_other (qown_other (qown_other (qown_other (qown_other (qown_other (qown_other (uH HO4) w.heap.size 0 (.slice qo l.length qc) (Nat.lt_succ_self _)) w.heap.size 1 (.int .i64 0) (Nat.lt_succ_self _)) w.heap.size 2 (.int .i64 1) (Nat.lt_succ_self _)) w.heap.size 3 (.int .i64 1001) (Nat.lt_succ_self _)) w.heap.size 4 (.int .i64 1) (Nat.lt_succ_self _)) w.heap.size 5 (.slice none 0 0) (Nat.lt_succ_self _)) w.heap.size 6 (.slice none 0 0) (Nat.lt_succ_self _)) w.heap.size 7 (.slice none 0 0) (Nat.lt_succ_self _))
 generalize ((((((((w4.setCell ⟨w.heap.size,0,none⟩ (.slice qo l.length qc)).setCell ⟨w.heap.size,1,none⟩ (.int .i64 0)).setCell ⟨w.heap.size,2,none⟩ (.int .i64 1)).setCell ⟨w.heap.size,3,none⟩ (.int .i64 1001)).setCell ⟨w.heap.size,4,none⟩ (.int .i64 1)).setCell ⟨w.heap.size,5,none⟩ (.slice none 0 0)).setCell ⟨w.heap.size,6,none⟩ (.slice none 0 0)).setCell ⟨w.heap.size,7,none⟩ (.slice none 0 0))=W9 at HB9 R9 O9 ⊢
 obtain ⟨z0,z1,z2,z3,z4,z5,z6,z7⟩:=zq (uH R9)
 refine bodyPost_ret (v:=.tuple #[.agg #[.slice qo l.length qc,.int .i64 0,.int .i64 1,.int .i64 1001,.int .i64 1,.slice none 0 0,.slice none 0 0,.slice none 0 0],.bool true]) (by simp [results,Tryz.results38,go_sem,z0,z1,z2,z3,z4,z5,z6,z7]) rfl (show NewAns w l _ _ from ⟨uH HB9,.inr ⟨uH HOO,_,rfl,uH O9⟩⟩)
end
end Go.Proofs.YtjkfappkpopbdaaGreat
