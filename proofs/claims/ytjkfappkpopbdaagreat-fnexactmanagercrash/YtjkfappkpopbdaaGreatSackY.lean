/-
  Texts in one: OkF, CopyS.
-/
import Derived.Test.YtjkfappkpopbdaaGreatSackU
import Derived.Test.YtjkfappkpopbdaaGreatSackT
import Derived.OneCell
set_option maxRecDepth 100000
set_option maxHeartbeats 16000000
set_option linter.unusedVariables false
set_option linter.unusedSimpArgs false
namespace Go.Proofs.YtjkfappkpopbdaaGreat
section
open Go.RowKit
def stateOkI (s:St):Bool:=queuesOk s.qs&&(numsOk s&&(appsOkV s&&(machsOkV s&&contsOkV s)))
theorem stateOkI_any (x:Sls) (s:St) (w:World) (h:SRow w x s) (hf:FitSt s) (hc:x.ql≤x.qc) (hw:WfSt s) :
  Calls Tryz.prog 174 #[sv x s] w fun e w'=>e=.returned (.bool (stateOkI s))∧Below w.heap.size w w':=by
 have hql:x.ql≤1048576:=by have:=h.len.1;have:=hf.1.1;omega
 have C1:=hide (fun wx (hb:Below w.heap.size w wx)=>implQueuesOk_any x.qa x.ql x.qc s.qs wx (h.1.below hb) hql (fun q hq=>(hf.1.2 q hq).1) hc)
 have C2:=hide (fun wx=>numbersOk_any x s wx)
 have C3:=hide (fun wx (hb:Below w.heap.size w wx)=>appsOk_any x s wx (h.below hb) hf)
 have C4:=hide (fun wx (hb:Below w.heap.size w wx)=>machinesOk_any x s wx (h.below hb) hf)
 have C5:=hide (fun wx (hb:Below w.heap.size w wx)=>contsOk_any x s wx (h.below hb) hf hw)
 obtain ⟨b1,e1⟩:∃b,queuesOk s.qs=b:=⟨_,rfl⟩
 obtain ⟨b2,e2⟩:∃b,numsOk s=b:=⟨_,rfl⟩
 obtain ⟨b3,e3⟩:∃b,appsOkV s=b:=⟨_,rfl⟩
 obtain ⟨b4,e4⟩:∃b,machsOkV s=b:=⟨_,rfl⟩
 obtain ⟨b5,e5⟩:∃b,contsOkV s=b:=⟨_,rfl⟩
 rw [show stateOkI s=(b1&&(b2&&(b3&&(b4&&b5)))) by rw [stateOkI,e1,e2,e3,e4,e5]]
 rw [e1] at C1
 rw [e2] at C2
 rw [e3] at C3
 rw [e4] at C4
 rw [e5] at C5
 clear h hf hc hw e1 e2 e3 e4 e5
 obtain ⟨qa,ql,qc,aa,al,ac,ma,ml,mc,ca,cl,cc⟩:=x
 obtain ⟨qs,clock,epoch,next,serial,apps,ms,cs⟩:=s
 simp only at C1 C2 C3 C4 C5 hql
 have HB0:=hide (boxW_below w (svc ⟨qa,ql,qc,aa,al,ac,ma,ml,mc,ca,cl,cc⟩ ⟨qs,clock,epoch,next,serial,apps,ms,cs⟩))
 have P0:=hide (boxW_blk w (svc ⟨qa,ql,qc,aa,al,ac,ma,ml,mc,ca,cl,cc⟩ ⟨qs,clock,epoch,next,serial,apps,ms,cs⟩))
 go_enter Tryz.func174,Tryz.ntmps174
 go_wp2_with fail
 refine (uH C1 _ (uH HB0)).mono ?_
 rintro e w1 ⟨rfl,hb⟩
 have HB1:=hide (yB (uH HB0) hb)
 have P1:=hide ((uH P0).below hb)
 clear hb HB0 P0 C1
 cases b1 with
 | false=>
  go_wp2
  go_ret
  exact ⟨rfl,uH HB1⟩
 | true=>
 obtain ⟨q0,q1,q2,q3,q4,q5,q6,q7⟩:_∧_∧_∧_∧_∧_∧_∧_:=⟨(uH P1).at 0,(uH P1).at 1,(uH P1).at 2,(uH P1).at 3,(uH P1).at 4,(uH P1).at 5,(uH P1).at 6,(uH P1).at 7⟩
 simp at q0 q1 q2 q3 q4 q5 q6 q7
 go_wp2_with fail
 refine (uH C2 _).mono ?_
 rintro e w2 ⟨rfl,hb⟩
 have HB2:=hide (yB (uH HB1) hb)
 have P2:=hide ((uH P1).below hb)
 clear hb HB1 P1 C2 q0 q1 q2 q3 q4 q5 q6 q7
 cases b2 with
 | false=>
  go_wp2
  go_ret
  exact ⟨rfl,uH HB2⟩
 | true=>
 obtain ⟨q0,q1,q2,q3,q4,q5,q6,q7⟩:_∧_∧_∧_∧_∧_∧_∧_:=⟨(uH P2).at 0,(uH P2).at 1,(uH P2).at 2,(uH P2).at 3,(uH P2).at 4,(uH P2).at 5,(uH P2).at 6,(uH P2).at 7⟩
 simp at q0 q1 q2 q3 q4 q5 q6 q7
 go_wp2_with fail
 refine (uH C3 _ (uH HB2)).mono ?_
 rintro e w3 ⟨rfl,hb⟩
 have HB3:=hide (yB (uH HB2) hb)
 have P3:=hide ((uH P2).below hb)
 clear hb HB2 P2 C3 q0 q1 q2 q3 q4 q5 q6 q7
 cases b3 with
 | false=>
  go_wp2
  go_ret
  exact ⟨rfl,uH HB3⟩
 | true=>
 obtain ⟨q0,q1,q2,q3,q4,q5,q6,q7⟩:_∧_∧_∧_∧_∧_∧_∧_:=⟨(uH P3).at 0,(uH P3).at 1,(uH P3).at 2,(uH P3).at 3,(uH P3).at 4,(uH P3).at 5,(uH P3).at 6,(uH P3).at 7⟩
 simp at q0 q1 q2 q3 q4 q5 q6 q7
 go_wp2_with fail
 refine (uH C4 _ (uH HB3)).mono ?_
 rintro e w4 ⟨rfl,hb⟩
 have HB4:=hide (yB (uH HB3) hb)
 have P4:=hide ((uH P3).below hb)
 clear hb HB3 P3 C4 q0 q1 q2 q3 q4 q5 q6 q7
 cases b4 with
 | false=>
  go_wp2
  go_ret
  exact ⟨rfl,uH HB4⟩
 | true=>
 obtain ⟨q0,q1,q2,q3,q4,q5,q6,q7⟩:_∧_∧_∧_∧_∧_∧_∧_:=⟨(uH P4).at 0,(uH P4).at 1,(uH P4).at 2,(uH P4).at 3,(uH P4).at 4,(uH P4).at 5,(uH P4).at 6,(uH P4).at 7⟩
 simp at q0 q1 q2 q3 q4 q5 q6 q7
 go_wp2_with fail
 refine (uH C5 _ (uH HB4)).mono ?_
 rintro e w5 ⟨rfl,hb⟩
 have HB5:=hide (yB (uH HB4) hb)
 clear hb HB4 P4 C5 q0 q1 q2 q3 q4 q5 q6 q7
 cases b5
 all_goals
  go_wp2
  go_ret
  exact ⟨rfl,uH HB5⟩
structure CpS (w:World) (a0:Array Value) (arr:Array Value) (wr:World):Prop where
 r0:Blk wr w.heap.size a0 37
 r1:Blk wr (w.heap.size+1) #[.slice none 0 0,.int .i64 0,.int .i64 0,.int .i64 0,.int .i64 0,.slice none 0 0,.slice none 0 0,.slice none 0 0] 37
 r2:Blk wr (w.heap.size+2) arr 37
 b:Below w.heap.size w wr
 z:w.heap.size+3≤wr.heap.size
theorem CpS.below {w:World} {a0 arr:Array Value} {wr wy:World} (h:CpS w a0 arr wr) (hb:Below wr.heap.size wr wy):CpS w a0 arr wy:=⟨h.r0.below hb,h.r1.below hb,h.r2.below hb,yB h.b hb,Nat.le_trans h.z hb.size⟩
theorem CpS.sc {w:World} {a0 arr:Array Value} {wr:World} (h:CpS w a0 arr wr) (j:Nat) (v:Value):CpS w a0 (arr.setIfInBounds j v) (wr.setCell ⟨w.heap.size+2,j,none⟩ v):=
 ⟨h.r0.other _ _ _ (by omega),h.r1.other _ _ _ (by omega),h.r2.set j v,yC h.b _ _ _ (by omega),by rw [set_size];exact h.z⟩
theorem CpS.grown {w:World} {a0 arr:Array Value} {wr wy:World} {t':TypeId} {r:Option Nat} (h:CpS w a0 arr wr) (hg:wr.grownBy wy r) (hr:∀k,r=some k→w.heap.size≤k∧∃N,Cel wr t' k N) (ht:t'≠37):CpS w a0 arr wy:=
 ⟨h.r0.grown hg (fun k e=>(hr k e).2) ht,h.r1.grown hg (fun k e=>(hr k e).2) ht,h.r2.grown hg (fun k e=>(hr k e).2) ht,h.b.grown hg (by have:=h.z;omega) (fun k e=>(hr k e).1),Nat.le_trans h.z hg.size⟩
def CopyAnsS (w:World) (s:St) (e:Ending) (w':World):Prop:=∃y hs,e=.returned (sv y s)∧SAns w.heap.size w'.heap.size w' y s hs∧Below w.heap.size w w'∧∃g,y.ca=some ⟨g,0,none⟩
theorem l04Copy_some (x:Sls) (s:St) (hs0:List AV) (w:World) (h:SRow w x s) (hav:AVRow w x.aa x.al hs0) (hhd:Heads w hs0 s.apps) (hss:SSome x hs0) (hf:FitSt s) :
  Calls Tryz.prog 121 #[sv x s] w (CopyAnsS w s):=by
 have hcq:=h.1.1
 have hca:=h.2.1.1
 have hcm:=h.2.2.1.1
 have hcc:=h.2.2.2.1
 have hlq:x.ql≤1048576:=by have:=hf.1.1;omega
 have hla:x.al≤1048576:=by have:=hf.2.1.1;omega
 have hlm:x.ml≤1048576:=by have:=hf.2.2.1.1;omega
 have hlc:x.cl≤1048576:=by have:=hf.2.2.2.1;omega
 obtain ⟨qa,ql,qc,aa,al,ac,ma,ml,mc,ca,cl,cc⟩:=x
 obtain ⟨qs,clock,epoch,next,serial,apps,ms,cs⟩:=s
 simp only at *
 have RQ:=hide (show QRow w qa ql qs from h.1)
 have RM:=hide (show MacRow w ma ml ms from h.2.2.1)
 have RC:=hide (show ConRow w ca cl cs from h.2.2.2)
 have RQN:=hide (show qa=none→ql=0∧qc=0 from hss.q)
 have RMN:=hide (show ma=none→ml=0∧mc=0 from hss.m)
 have RCN:=hide (show ca=none→cl=0∧cc=0 from hss.c)
 have SV:=hide (show AVRow w aa al hs0 from hav)
 have SH:=hide (show Heads w hs0 apps from hhd)
 have HF:=hide hf
 have HSS:=hide hss.k
 have hal0:al=hs0.length:=hav.1
 have HAL:=hide hal0
 have hb0:=yA (yA (yA (yH _ w) (.cells #[.slice qa ql qc,.int .i64 clock,.int .i64 epoch,.int .i64 next,.int .i64 serial,.slice aa al ac,.slice ma ml mc,.slice ca cl cc] 37)) (.cells #[.slice none 0 0,.int .i64 0,.int .i64 0,.int .i64 0,.int .i64 0,.slice none 0 0,.slice none 0 0,.slice none 0 0] 37)) (.cells #[.slice qa ql qc,.int .i64 clock,.int .i64 epoch,.int .i64 next,.int .i64 serial,.slice aa al ac,.slice ma ml mc,.slice ca cl cc] 37)
 have CP:=hide (show CpS w #[.slice qa ql qc,.int .i64 clock,.int .i64 epoch,.int .i64 next,.int .i64 serial,.slice aa al ac,.slice ma ml mc,.slice ca cl cc] #[.slice qa ql qc,.int .i64 clock,.int .i64 epoch,.int .i64 next,.int .i64 serial,.slice aa al ac,.slice ma ml mc,.slice ca cl cc] (((w.alloc (.cells #[.slice qa ql qc,.int .i64 clock,.int .i64 epoch,.int .i64 next,.int .i64 serial,.slice aa al ac,.slice ma ml mc,.slice ca cl cc] 37)).alloc (.cells #[.slice none 0 0,.int .i64 0,.int .i64 0,.int .i64 0,.int .i64 0,.slice none 0 0,.slice none 0 0,.slice none 0 0] 37)).alloc (.cells #[.slice qa ql qc,.int .i64 clock,.int .i64 epoch,.int .i64 next,.int .i64 serial,.slice aa al ac,.slice ma ml mc,.slice ca cl cc] 37)) from
  ⟨((yD w _ _).al _).al _,by have:=(yD (w.alloc (.cells #[.slice qa ql qc,.int .i64 clock,.int .i64 epoch,.int .i64 next,.int .i64 serial,.slice aa al ac,.slice ma ml mc,.slice ca cl cc] 37)) #[.slice none 0 0,.int .i64 0,.int .i64 0,.int .i64 0,.int .i64 0,.slice none 0 0,.slice none 0 0,.slice none 0 0] 37).al (.cells #[.slice qa ql qc,.int .i64 clock,.int .i64 epoch,.int .i64 next,.int .i64 serial,.slice aa al ac,.slice ma ml mc,.slice ca cl cc] 37);rwa [yE] at this,by have:=yD ((w.alloc (.cells #[.slice qa ql qc,.int .i64 clock,.int .i64 epoch,.int .i64 next,.int .i64 serial,.slice aa al ac,.slice ma ml mc,.slice ca cl cc] 37)).alloc (.cells #[.slice none 0 0,.int .i64 0,.int .i64 0,.int .i64 0,.int .i64 0,.slice none 0 0,.slice none 0 0,.slice none 0 0] 37)) #[.slice qa ql qc,.int .i64 clock,.int .i64 epoch,.int .i64 next,.int .i64 serial,.slice aa al ac,.slice ma ml mc,.slice ca cl cc] 37;rwa [yE,yE] at this,hb0,by rw [yE,yE,yE];omega⟩)
 clear h hav hhd hb0 hf hss hcq hca hcm hcc hal0
 go_enter Tryz.func121,Tryz.ntmps121
 have HM:=hide (RmL.nil (w.heap.size+3) (((w.alloc (.cells #[.slice qa ql qc,.int .i64 clock,.int .i64 epoch,.int .i64 next,.int .i64 serial,.slice aa al ac,.slice ma ml mc,.slice ca cl cc] 37)).alloc (.cells #[.slice none 0 0,.int .i64 0,.int .i64 0,.int .i64 0,.int .i64 0,.slice none 0 0,.slice none 0 0,.slice none 0 0] 37)).alloc (.cells #[.slice qa ql qc,.int .i64 clock,.int .i64 epoch,.int .i64 next,.int .i64 serial,.slice aa al ac,.slice ma ml mc,.slice ca cl cc] 37)))
 go_upto_region 2 with fail
 generalize ((w.alloc (.cells #[.slice qa ql qc,.int .i64 clock,.int .i64 epoch,.int .i64 next,.int .i64 serial,.slice aa al ac,.slice ma ml mc,.slice ca cl cc] 37)).alloc (.cells #[.slice none 0 0,.int .i64 0,.int .i64 0,.int .i64 0,.int .i64 0,.slice none 0 0,.slice none 0 0,.slice none 0 0] 37)).alloc (.cells #[.slice qa ql qc,.int .i64 clock,.int .i64 epoch,.int .i64 next,.int .i64 serial,.slice aa al ac,.slice ma ml mc,.slice ca cl cc] 37)=w3 at CP HM ⊢
 have hb1:=yA (yH _ w3) (.cells #[] 142)
 have HNW:=hide (show ∀ad,qa=some ad→∀j u,(qcells qs)[j]? = some u→(w3.alloc (.cells #[] 142)).cell? (ad.add j)=some u from fun ad he j u hj=>by
  have hr:=(((uH RQ).below (uH CP).b).below hb1)
  rcases hr.2 with e | ⟨b,off,e,_⟩
  ·have hl:=qcells_len qs
   have h2:=(List.getElem?_eq_some_iff.1 hj).1
   have h3:=hr.1
   rw [hl] at h2
   omega
  ·obtain rfl:=Option.some.inj (he.symm.trans e)
   rw [e] at hr
   have:=qcells_row hr j u hj
   rw [Lib.add_plain]
   exact this)
 have hown:(w3.alloc (.cells #[] 142)).ownsRow w3.heap.size 142 4 (.slice (some ⟨w3.heap.size,0,none⟩) 0 0) 0 []:=qown_empty w3
 have hll:(qcells qs).length=ql*4:=by rw [qcells_len,(uH RQ).1]
 have hone:=qcells_one qs
 have cp1:=(uH CP).below hb1
 have a0:=cp1.r0.at 0
 simp at a0
 obtain ⟨i0,hi,hz0,hz1,hz2⟩:=info_parts Tryz.infoQ
 clear cp1
 go_wp2_with (at_builtin;refine wpList_append_opt _ rfl _ _ 32 rfl w3.heap.size 142 i0 (.agg #[.string ByteArray.empty,.string ByteArray.empty,.int .i64 0,.int .i64 0]) 4 48 Tryz.underlying32 hi hz0 hz1 hz2 rfl (by decide) _ _ _ rfl hown qa ql qc (qcells qs) rfl (uH RQN) hll (uH HNW) hone ?c3 ?c4 ?c5 ?_)
 case c3=>unfold maxLen;omega
 case c4=>omega
 case c5=>simp
 intro v w4 hown' hgrow _
 have hbB:Below w3.heap.size w3 w4:=hb1.grown hgrow (by simp) (fun k e=>by simp [Value.ownBlock] at e;omega)
 have hoo:QOwn (w.heap.size+3) w4 v qs:=by
  refine qown_base (B:=w3.heap.size) ?_ (uH CP).z
  unfold QOwn
  rw [←(uH RQ).1]
  simpa using hown'
 obtain ⟨qo,qd,rfl,hcap,hhas⟩:=QOwn.has hoo
 obtain ⟨nq,hnl⟩:∃n,qs.length=n:=⟨_,rfl⟩
 rw [hnl] at hhas ⊢
 have HH0:=hide hhas
 have HMb:=hide (RmL.cons (own1_of hoo) ((uH HM).below hbB))
 have CPb:=hide ((uH CP).below hbB)
 have HNL0:=hide hnl
 have HCAP0:=hide (show nq≤qd by omega)
 have d0:=(uH CPb).r2.at 0
 have f0:=(uH CPb).r2.f 0
 simp at d0
 clear hown' hgrow hown hone hll HNW a0 hhas hoo hb1 hbB hnl hcap hi hz0 hz1 hz2 CP
 go_upto_region 3 with fail
 have CP:=hide (show CpS w _ #[.slice qo nq qd,.int .i64 clock,.int .i64 epoch,.int .i64 next,.int .i64 serial,.slice aa al ac,.slice ma ml mc,.slice ca cl cc] (w4.setCell ⟨w.heap.size+2,0,none⟩ (.slice qo nq qd)) from (uH CPb).sc 0 (.slice qo nq qd))
 have HMn:=hide ((uH HMb).sc (w.heap.size+2) 0 (.slice qo nq qd))
 have HHn0:=hide ((uH HH0).sc (k:=w.heap.size+2) (j:=0) (v:=.slice qo nq qd) (by omega))
 generalize w4.setCell ⟨w.heap.size+2,0,none⟩ (.slice qo nq qd)=w5 at CP HMn HHn0  ⊢
 clear d0 f0 CPb HH0 i0 HM HMb
 have HM:=HMn
 clear HMn
 have HH0:=HHn0
 clear HHn0
 have hb1:=yA (yH _ w5) (.cells #[] 147)
 have HNW:=hide (show ∀ad,ma=some ad→∀j u,(mcells ms)[j]? = some u→(w5.alloc (.cells #[] 147)).cell? (ad.add j)=some u from fun ad he j u hj=>by
  have hr:=(((uH RM).below (uH CP).b).below hb1)
  rcases hr.2 with e | ⟨b,off,e,_⟩
  ·have hl:=mcells_len ms
   have h2:=(List.getElem?_eq_some_iff.1 hj).1
   have h3:=hr.1
   rw [hl] at h2
   omega
  ·obtain rfl:=Option.some.inj (he.symm.trans e)
   rw [e] at hr
   have:=mcells_row hr j u hj
   rw [Lib.add_plain]
   exact this)
 have hown:(w5.alloc (.cells #[] 147)).ownsRow w5.heap.size 147 4 (.slice (some ⟨w5.heap.size,0,none⟩) 0 0) 0 []:=mown_empty w5
 have hll:(mcells ms).length=ml*4:=by rw [mcells_len,(uH RM).1]
 have hone:=mcells_one ms
 have cp1:=(uH CP).below hb1
 have a6:=cp1.r0.at 6
 simp at a6
 obtain ⟨i0,hi,hz0,hz1,hz2⟩:=info_parts Tryz.infoMachine
 clear cp1
 go_wp2_with (at_builtin;refine wpList_append_opt _ rfl _ _ 34 rfl w5.heap.size 147 i0 (.agg #[.string ByteArray.empty,.int .i64 0,.int .i64 0,.int .i64 0]) 4 40 Tryz.underlying34 hi hz0 hz1 hz2 rfl (by decide) _ _ _ rfl hown ma ml mc (mcells ms) rfl (uH RMN) hll (uH HNW) hone ?c3 ?c4 ?c5 ?_)
 case c3=>unfold maxLen;omega
 case c4=>omega
 case c5=>simp
 intro v w6 hown' hgrow _
 have hbB:Below w5.heap.size w5 w6:=hb1.grown hgrow (by simp) (fun k e=>by simp [Value.ownBlock] at e;omega)
 have hoo:MOwn (w.heap.size+3) w6 v ms:=by
  refine mown_base (B:=w5.heap.size) ?_ (uH CP).z
  unfold MOwn
  rw [←(uH RM).1]
  simpa using hown'
 obtain ⟨mo,md,rfl,hcap,hhas⟩:=mown_has hoo
 obtain ⟨nm,hnl⟩:∃n,ms.length=n:=⟨_,rfl⟩
 rw [hnl] at hhas ⊢
 have HH6:=hide hhas
 have HMb:=hide (RmL.cons (own1_of hoo) ((uH HM).below hbB))
 have CPb:=hide ((uH CP).below hbB)
 have HNL6:=hide hnl
 have HCAP6:=hide (show nm≤md by omega)
 have HH0b:=hide ((uH HH0).below hbB)
 have d6:=(uH CPb).r2.at 6
 have f6:=(uH CPb).r2.f 6
 simp at d6
 clear hown' hgrow hown hone hll HNW a6 hhas hoo hb1 hbB hnl hcap hi hz0 hz1 hz2 CP
 go_upto_region 4 with fail
 have CP:=hide (show CpS w _ #[.slice qo nq qd,.int .i64 clock,.int .i64 epoch,.int .i64 next,.int .i64 serial,.slice aa al ac,.slice mo nm md,.slice ca cl cc] (w6.setCell ⟨w.heap.size+2,6,none⟩ (.slice mo nm md)) from (uH CPb).sc 6 (.slice mo nm md))
 have HMn:=hide ((uH HMb).sc (w.heap.size+2) 6 (.slice mo nm md))
 have HHn6:=hide ((uH HH6).sc (k:=w.heap.size+2) (j:=6) (v:=.slice mo nm md) (by omega))
 have HH0n:=hide ((uH HH0b).sc (k:=w.heap.size+2) (j:=6) (v:=.slice mo nm md) (by omega))
 generalize w6.setCell ⟨w.heap.size+2,6,none⟩ (.slice mo nm md)=w7 at CP HMn HHn6 HH0n ⊢
 clear d6 f6 CPb HH6 i0 HM HMb HH0 HH0b
 have HM:=HMn
 clear HMn
 have HH0:=HH0n
 clear HH0n
 have HH6:=HHn6
 clear HHn6
 have hb1:=yA (yH _ w7) (.cells #[] 150)
 have HNW:=hide (show ∀ad,ca=some ad→∀j u,(ccells cs)[j]? = some u→(w7.alloc (.cells #[] 150)).cell? (ad.add j)=some u from fun ad he j u hj=>by
  have hr:=(((uH RC).below (uH CP).b).below hb1)
  rcases hr.2 with e | ⟨b,off,e,_⟩
  ·have hl:=ccells_len cs
   have h2:=(List.getElem?_eq_some_iff.1 hj).1
   have h3:=hr.1
   rw [hl] at h2
   omega
  ·obtain rfl:=Option.some.inj (he.symm.trans e)
   rw [e] at hr
   have:=ccells_row hr j u hj
   rw [Lib.add_plain]
   exact this)
 have hown:(w7.alloc (.cells #[] 150)).ownsRow w7.heap.size 150 5 (.slice (some ⟨w7.heap.size,0,none⟩) 0 0) 0 []:=cown_empty w7
 have hll:(ccells cs).length=cl*5:=by rw [ccells_len,(uH RC).1]
 have hone:=ccells_one cs
 have cp1:=(uH CP).below hb1
 have a7:=cp1.r0.at 7
 simp at a7
 obtain ⟨i0,hi,hz0,hz1,hz2⟩:=info_parts Tryz.infoCont
 clear cp1
 go_wp2_with (at_builtin;refine wpList_append_opt _ rfl _ _ 35 rfl w7.heap.size 150 i0 (.agg #[.int .i64 0,.int .i64 0,.string ByteArray.empty,.int .i64 0,.int .i64 0]) 5 48 Tryz.underlying35 hi hz0 hz1 hz2 rfl (by decide) _ _ _ rfl hown ca cl cc (ccells cs) rfl (uH RCN) hll (uH HNW) hone ?c3 ?c4 ?c5 ?_)
 case c3=>unfold maxLen;omega
 case c4=>omega
 case c5=>simp
 intro v w8 hown' hgrow hnz
 have hvn:v≠.slice none 0 0:=hnz
 have hbB:Below w7.heap.size w7 w8:=hb1.grown hgrow (by simp) (fun k e=>by simp [Value.ownBlock] at e;omega)
 have hoo:COwn (w.heap.size+3) w8 v cs:=by
  refine cown_base (B:=w7.heap.size) ?_ (uH CP).z
  unfold COwn
  rw [←(uH RC).1]
  simpa using hown'
 obtain ⟨co,cd,rfl,hcap,hhas⟩:=cown_has hoo
 have HNZ7:=hide (show ∃g,co=some ⟨g,0,none⟩ from by
  rcases hoo.2 with ⟨e,_⟩ | ⟨g,cap,cur,e,_⟩
  ·exact absurd e hvn
  ·cases e;exact ⟨g,rfl⟩)
 clear hvn hnz
 obtain ⟨nc,hnl⟩:∃n,cs.length=n:=⟨_,rfl⟩
 rw [hnl] at hhas ⊢
 have HH7:=hide hhas
 have HMb:=hide (RmL.cons (own1_of hoo) ((uH HM).below hbB))
 have CPb:=hide ((uH CP).below hbB)
 have HNL7:=hide hnl
 have HCAP7:=hide (show nc≤cd by omega)
 have HH0b:=hide ((uH HH0).below hbB)
 have HH6b:=hide ((uH HH6).below hbB)
 have d7:=(uH CPb).r2.at 7
 have f7:=(uH CPb).r2.f 7
 simp at d7
 clear hown' hgrow hown hone hll HNW a7 hhas hoo hb1 hbB hnl hcap hi hz0 hz1 hz2 CP
 go_upto_region 5 with fail
 have CP:=hide (show CpS w _ #[.slice qo nq qd,.int .i64 clock,.int .i64 epoch,.int .i64 next,.int .i64 serial,.slice aa al ac,.slice mo nm md,.slice co nc cd] (w8.setCell ⟨w.heap.size+2,7,none⟩ (.slice co nc cd)) from (uH CPb).sc 7 (.slice co nc cd))
 have HMn:=hide ((uH HMb).sc (w.heap.size+2) 7 (.slice co nc cd))
 have HHn7:=hide ((uH HH7).sc (k:=w.heap.size+2) (j:=7) (v:=.slice co nc cd) (by omega))
 have HH0n:=hide ((uH HH0b).sc (k:=w.heap.size+2) (j:=7) (v:=.slice co nc cd) (by omega))
 have HH6n:=hide ((uH HH6b).sc (k:=w.heap.size+2) (j:=7) (v:=.slice co nc cd) (by omega))
 generalize w8.setCell ⟨w.heap.size+2,7,none⟩ (.slice co nc cd)=w9 at CP HMn HHn7 HH0n HH6n ⊢
 clear d7 f7 CPb HH7 i0 HM HMb HH0 HH6 HH0b HH6b
 have HM:=HMn
 clear HMn
 have HH0:=HH0n
 have HH6:=HH6n
 clear HH0n HH6n
 have HH7:=HHn7
 clear HHn7
 have hb1:=yA (yH _ w9) (.cells #[] 139)
 have PO:=hide (show POwn w9.heap.size (w9.alloc (.cells #[] 139)) (.slice (some ⟨w9.heap.size,0,none⟩) 0 0) [] from pown_empty w9)
 have CPb:=hide ((uH CP).below hb1)
 have HMb:=hide ((uH HM).below hb1)
 have H0b:=hide ((uH HH0).below hb1)
 have H6b:=hide ((uH HH6).below hb1)
 have H7b:=hide ((uH HH7).below hb1)
 have d5:=(uH CPb).r2.at 5
 have f5:=(uH CPb).r2.f 5
 simp at d5
 have hz9:=(uH CP).z
 obtain ⟨g0,hg0⟩:∃g,w9.heap.size=g:=⟨_,rfl⟩
 have HG0:=hide hg0
 rw [hg0] at PO hz9
 clear hb1 CP HH0 HH6 HH7 hg0 HM
 go_upto_region 6 with fail
 rw [uH HG0]
 have CP:=hide (show CpS w #[.slice qa ql qc,.int .i64 clock,.int .i64 epoch,.int .i64 next,.int .i64 serial,.slice aa al ac,.slice ma ml mc,.slice ca cl cc] #[.slice qo nq qd,.int .i64 clock,.int .i64 epoch,.int .i64 next,.int .i64 serial,.slice (some ⟨g0,0,none⟩) 0 0,.slice mo nm md,.slice co nc cd] ((w9.alloc (.cells #[] 139)).setCell ⟨w.heap.size+2,5,none⟩ (.slice (some ⟨g0,0,none⟩) 0 0)) from (uH CPb).sc 5 _)
 have HM:=hide ((uH HMb).sc (w.heap.size+2) 5 (.slice (some ⟨g0,0,none⟩) 0 0))
 have H0:=hide ((uH H0b).sc (k:=w.heap.size+2) (j:=5) (v:=.slice (some ⟨g0,0,none⟩) 0 0) (by omega))
 have H6:=hide ((uH H6b).sc (k:=w.heap.size+2) (j:=5) (v:=.slice (some ⟨g0,0,none⟩) 0 0) (by omega))
 have H7:=hide ((uH H7b).sc (k:=w.heap.size+2) (j:=5) (v:=.slice (some ⟨g0,0,none⟩) 0 0) (by omega))
 have PO2:=hide (pown_base (pown_other (uH PO) (w.heap.size+2) 5 (.slice (some ⟨g0,0,none⟩) 0 0) (by omega)) hz9)
 generalize (w9.alloc (.cells #[] 139)).setCell ⟨w.heap.size+2,5,none⟩ (.slice (some ⟨g0,0,none⟩) 0 0)=w10 at CP HM H0 H6 H7 PO2 ⊢
 clear CPb HMb H0b H6b H7b d5 f5 PO hz9
 go_wp2
 go_loopw [4] (fun i wr=>∃(k:Nat),k≤al∧i=.int .i64 k∧Hid (∃po pd ns,POwn (w.heap.size+3) wr (.slice po k pd) ns∧ns.length=k∧KHas (w.heap.size+3) wr ns (apps.take k)∧RmL (w.heap.size+3) wr (RL4 co cd mo md qo qd ns)∧CpS w #[.slice qa ql qc,.int .i64 clock,.int .i64 epoch,.int .i64 next,.int .i64 serial,.slice aa al ac,.slice ma ml mc,.slice ca cl cc] #[.slice qo nq qd,.int .i64 clock,.int .i64 epoch,.int .i64 next,.int .i64 serial,.slice po k pd,.slice mo nm md,.slice co nc cd] wr)∧Hid (QHas (w.heap.size+3) wr qo nq qs)∧Hid (MHas (w.heap.size+3) wr mo nm ms)∧Hid (CHas (w.heap.size+3) wr co nc cs)) (fun i _=>al - (intOf i).toNat)
 case atStart=>exact ⟨0,Nat.zero_le _,rfl,hide ⟨some ⟨g0,0,none⟩,0,[],uH PO2,rfl,by simpa using KHas.nil _ _,by simpa [RL4] using uH HM,uH CP⟩,H0,H6,H7⟩
 case round=>
  clear CP H0 H6 H7 PO2 HM
  obtain ⟨k,hk,rfl,HX,H0,H6,H7⟩:=hrel
  obtain ⟨po,pd,ns,hpo,hns,hkh,hrm,hcp⟩:=uH HX
  have HC:=hide hcp
  have HNS:=hide hns
  have a5:=hcp.r0.at 5
  simp at a5
  by_cases hlt:k<al
  ·have hk0:k<hs0.length:=by have:=uH HAL;omega
   have hk1:k<apps.length:=by have:=(uH SH).1;omega
   obtain ⟨b,off,rfl,hat⟩:=((uH SV).below hcp.b).at hlt
   obtain ⟨c0,c1,c2⟩:=hat hk0
   obtain ⟨e0,e1,e2,e3⟩:=(uH SH).2 k hk0 hk1
   have hfa:=(uH HF).2.1.2 apps[k] (yM hk1)
   have haad:=uH HSS hs0[k] (yM hk0)
   obtain ⟨⟨ai,aq,ak⟩,hap⟩:∃a,apps[k]=a:=⟨_,rfl⟩
   obtain ⟨⟨vi,vq,va,vl,vc⟩,hv⟩:∃v,hs0[k]=v:=⟨_,rfl⟩
   have htk:apps.take (k+1)=apps.take k++[⟨ai,aq,ak⟩]:=by rw [List.take_succ_eq_append_getElem hk1,hap]
   rw [hap] at e0 e1 e2 hfa
   rw [hv] at c0 c1 c2 e0 e1 e2 e3 haad
   simp only at c0 c1 c2 e0 e1 e2 e3 haad
   subst e0 e1
   have HAD:=hide haad
   clear haad
   have hvl:vl≤1048576:=by have:=e2.1;have:ak.length≤1048576:=hfa.2.1;omega
   have hrow:=e2.below hcp.b
   have HTK:=hide htk
   have HPO:=hide hpo
   have HKH:=hide hkh
   have HW:=hide (yA (yH _ wr) (.cells #[.int .i64 vi,.string (bs vq),.slice va vl vc] 139))
   have X0:=hide (hcp.below (uH HW))
   have XP:=hide (pown_below hpo (uH HW))
   have XK:=hide (hkh.below (uH HW))
   have XM:=hide (hrm.below (uH HW))
   have Y0:=hide ((uH H0).below (uH HW))
   have Y6:=hide ((uH H6).below (uH HW))
   have Y7:=hide ((uH H7).below (uH HW))
   have XA:=hide (yD wr #[.int .i64 vi,.string (bs vq),.slice va vl vc] 139)
   have XR:=hide (hrow.below (uH HW))
   obtain ⟨ba,hba⟩:∃b,wr.heap.size=b:=⟨_,rfl⟩
   have HBA:=hide hba
   have HPLT:=hide (show ∀kk,(Value.slice po k pd).ownBlock=some kk→kk<ba from fun kk e=>by have:=(World.ownsRow.lt hpo kk e).2;omega)
   rw [hba] at XA
   have hzb:w.heap.size+3≤ba:=by have:=hcp.z;omega
   have k0:(0:Int)≤k:=by omega
   have k1:(k:Int)<al:=by omega
   clear hpo hkh hrm hcp hat hap hv htk hrow e3 hfa hk0 hk1 hns HX H0 H6 H7 hba
   go_upto_region 10 with fail
   rw [uH HBA]
   have XZ:=hide (show (wr.alloc (.cells #[.int .i64 vi,.string (bs vq),.slice va vl vc] 139)).heap.size=ba+1 by rw [yE,uH HBA])
   generalize wr.alloc (.cells #[.int .i64 vi,.string (bs vq),.slice va vl vc] 139)=W at X0 XP XK XM Y0 Y6 Y7 XA XR XZ ⊢
   clear HW HC HPO HKH c0 c1 c2 a5 e2
   have hb1:=yA (yH _ W) (.cells #[] 193)
   have HNW:=hide (show ∀ad,va=some ad→∀j u,(acells ak)[j]? = some u→(W.alloc (.cells #[] 193)).cell? (ad.add j)=some u from fun ad he j u hj=>by
    have hr:=(uH XR).below hb1
    rcases hr.2 with e | ⟨b,off,e,_⟩
    ·have hl:=acells_len ak
     have h2:=(List.getElem?_eq_some_iff.1 hj).1
     have h3:=hr.1
     rw [hl] at h2
     omega
    ·obtain rfl:=Option.some.inj (he.symm.trans e)
     rw [e] at hr
     have:=acells_row hr j u hj
     rw [Lib.add_plain]
     exact this)
   have hown:(W.alloc (.cells #[] 193)).ownsRow W.heap.size 193 5 (.slice (some ⟨W.heap.size,0,none⟩) 0 0) 0 []:=aown_empty W
   have hll:(acells ak).length=vl*5:=by rw [acells_len,(uH XR).1]
   have hone:=acells_one ak
   have xa2:=((uH XA).below hb1).at 2
   simp at xa2
   obtain ⟨i0,hi,hz0,hz1,hz2⟩:=info_parts Tryz.infoA
   go_wp2_with (at_builtin;refine wpList_append_opt _ rfl _ _ 137 rfl W.heap.size 193 i0 (.agg #[.int .i64 0,.int .i64 0,.int .i64 0,.string ByteArray.empty,.int .i64 0]) 5 48 Tryz.underlying137 hi hz0 hz1 hz2 rfl (by decide) _ _ _ rfl hown va vl vc (acells ak) rfl (uH HAD) hll (uH HNW) hone ?c3 ?c4 ?c5 ?_)
   case c3=>unfold maxLen;omega
   case c4=>omega
   case c5=>simp
   intro v w11 hown' hgrow _
   have hbB:Below W.heap.size W w11:=hb1.grown hgrow (by simp) (fun k e=>by simp [Value.ownBlock] at e;omega)
   have hoo:AOwn W.heap.size w11 v ak:=by
    unfold AOwn
    rw [←(uH XR).1]
    simpa using hown'
   obtain ⟨no,nd,rfl,hnd,hnr,hno⟩:=aown_has hoo
   obtain ⟨nl,hnl⟩:∃n,ak.length=n:=⟨_,rfl⟩
   have HNL:=hide hnl
   have HND:=hide hnd
   have HNR:=hide hnr
   have HAM:=hide ((own1_of hoo).mono (show w.heap.size+3≤W.heap.size by have:=uH XZ;omega) (yJ _))
   have HNO:=hide hno
   rw [hnl]
   have HBW:=hide hbB
   have XAb:=hide ((uH XA).below hbB)
   have xd2:=(uH XAb).at 2
   have xf2:=(uH XAb).f 2
   simp at xd2
   clear hown' hgrow hown hone hll HNW xa2 hoo hb1 hbB hnl hnd hnr hno hi hz0 hz1 hz2
   go_upto_region 11 with fail
   have N2:Mks (fun k=>k=ba) w11 (w11.setCell ⟨ba,2,none⟩ (.slice no nl nd)):=Mks.one _ _ _ _ _ rfl
   have hcel:Cel w11 139 ba 3:=⟨_,uH XAb,rfl⟩
   have X0n:=hide (show CpS w _ #[.slice qo nq qd,.int .i64 clock,.int .i64 epoch,.int .i64 next,.int .i64 serial,.slice po k pd,.slice mo nm md,.slice co nc cd] (w11.setCell ⟨ba,2,none⟩ (.slice no nl nd)) from by
    have hx:=(uH X0).below (uH HBW)
    exact ⟨hx.r0.other _ _ _ (by omega),hx.r1.other _ _ _ (by omega),hx.r2.other _ _ _ (by omega),yC hx.b _ _ _ (by omega),by rw [set_size];exact hx.z⟩)
   have XPn:=hide (show POwn (w.heap.size+3) (w11.setCell ⟨ba,2,none⟩ (.slice no nl nd)) (.slice po k pd) ns from ownsRow_setCell_other (pown_below (uH XP) (uH HBW)) (a:=⟨ba,2,none⟩) (fun e=>by have:=uH HPLT ba e;omega) _)
   have XKn:=hide (show KHas (w.heap.size+3) (w11.setCell ⟨ba,2,none⟩ (.slice no nl nd)) (ns++[⟨vi,vq,no,nl,nd⟩]) (apps.take (k+1)) from by
    rw [uH HTK,←uH HNL]
    exact ((uH XK).snoc (uH HBW) (by have:=uH XZ;omega) vi vq no nd ak (uH HND) (uH HNR) (uH HNO)).sc (.inr ⟨_,_,hcel,by decide⟩))
   have XMn:=hide (show RmL (w.heap.size+3) (w11.setCell ⟨ba,2,none⟩ (.slice no nl nd)) (RL4 co cd mo md qo qd (ns++[⟨vi,vq,no,nl,nd⟩])) from ((RmL.cons (uH HAM) ((uH XM).below (uH HBW))).sub (rl4_snoc co cd mo md qo qd ns ⟨vi,vq,no,nl,nd⟩)).sc ba 2 _)
   have hr1:∀k,some ba=some k→∃N,Cel w11 139 k N:=fun k e=>⟨3,by rw [←Option.some.inj e];exact hcel⟩
   have Y0n:=hide (((uH Y0).below (uH HBW)).grown (grown_sc w11 ba 2 (.slice no nl nd)) hr1 (by decide))
   have Y6n:=hide (((uH Y6).below (uH HBW)).grown (grown_sc w11 ba 2 (.slice no nl nd)) hr1 (by decide))
   have Y7n:=hide (((uH Y7).below (uH HBW)).grown (grown_sc w11 ba 2 (.slice no nl nd)) hr1 (by decide))
   have XAn:=hide (show Blk (w11.setCell ⟨ba,2,none⟩ (.slice no nl nd)) ba #[.int .i64 vi,.string (bs vq),.slice no nl nd] 139 from (uH XAb).set 2 _)
   generalize w11.setCell ⟨ba,2,none⟩ (.slice no nl nd)=w12 at X0n XPn XKn XMn Y0n Y6n Y7n XAn ⊢
   clear N2 hcel hr1 xd2 xf2 XAb HAM XM X0 XP XK Y0 Y6 Y7 XA XR XZ HBW HNR HNO HND HNL
   have hb2:=yA (yH _ w12) (.cells #[.int .i64 vi,.string (bs vq),.slice no nl nd] 139)
   have g5:=(uH X0n).r2.at 5
   have q0:=(uH XAn).at 0
   have q1:=(uH XAn).at 1
   have q2:=(uH XAn).at 2
   simp at g5 q0 q1 q2
   have hzz:=(uH X0n).z
   have hown:w12.ownsRow (w.heap.size+3) 139 3 (.slice po k pd) k (pcells ns):=by have:=uH XPn;unfold POwn at this;rwa [uH HNS] at this
   have HOW:=hide hown
   obtain ⟨i0,hi,hz0,hz1,hz2⟩:=info_parts Tryz.infoApp
   go_wp2_with (at_builtin;refine wpList_append_own _ rfl _ _ 33 rfl (w.heap.size+3) 139 i0 (.agg #[.int .i64 0,.string ByteArray.empty,.slice none 0 0]) 3 48 Tryz.underlying33 hi hz0 hz1 hz2 rfl (by decide) _ _ _ rfl (hown.alloc _) ⟨w12.heap.size,0,none⟩ 1 1 (pcell ⟨vi,vq,no,nl,nd⟩) rfl rfl ?c1 ?c2 ?c3 ?c4 ?c5 ?_)
   case c1=>exact World.news_of_block (yD w12 #[.int .i64 vi,.string (bs vq),.slice no nl nd] 139)
   case c2=>intro u hu;simp at hu;rcases hu with rfl | rfl | rfl<;>rfl
   case c3=>unfold maxLen;omega
   case c4=>omega
   case c5=>simp;omega
   intro v' w13 hown' hgrow _
   obtain ⟨ng,ncap,rfl,_,_⟩:=World.ownsRow.form hown' (by omega)
   have hr2:∀kk,(Value.slice po k pd).ownBlock=some kk→w.heap.size≤kk∧∃N,Cel (w12.alloc (.cells #[.int .i64 vi,.string (bs vq),.slice no nl nd] 139)) 139 kk N:=fun kk e=>by
    have h1:=(World.ownsRow.lt (uH HOW) kk e).1
    obtain ⟨N,hc⟩:=owns_cel (uH HOW) kk e
    exact ⟨by omega,N,hc.below hb2⟩
   have X0m:=hide (((uH X0n).below hb2).grown hgrow hr2 (by decide))
   have Y0m:=hide (((uH Y0n).below hb2).grown hgrow (fun kk e=>(hr2 kk e).2) (by decide))
   have Y6m:=hide (((uH Y6n).below hb2).grown hgrow (fun kk e=>(hr2 kk e).2) (by decide))
   have Y7m:=hide (((uH Y7n).below hb2).grown hgrow (fun kk e=>(hr2 kk e).2) (by decide))
   have XKm:=hide (((uH XKn).below hb2).grown hgrow (fun kk e=>(hr2 kk e).2) (by decide))
   have XMm:=hide (((uH XMn).below hb2).grown hgrow (fun kk e=>(hr2 kk e).2) (rl4_app co cd mo md qo qd _))
   have XPm:=hide (show POwn (w.heap.size+3) w13 (.slice (some ⟨ng,0,none⟩) (k+1) ncap) (ns++[⟨vi,vq,no,nl,nd⟩]) by
    unfold POwn
    rw [pcells_app,List.length_append,uH HNS]
    exact hown')
   have d5:=(uH X0m).r2.at 5
   have f5:=(uH X0m).r2.f 5
   simp at d5
   clear hown hown' hgrow hr2 hb2 g5 q0 q1 q2 HOW X0n XPn XKn XMn Y0n Y6n Y7n XAn hi hz0 hz1 hz2
   go_wp2
   go_roundw
   case rel=>
    refine ⟨k+1,by omega,by go_num,hide ⟨some ⟨ng,0,none⟩,ncap,ns++[⟨vi,vq,no,nl,nd⟩],pown_other (uH XPm) _ _ _ (by omega),by simp [uH HNS],(uH XKm).sc (.inl (by omega)),(uH XMm).sc _ _ _,(uH X0m).sc 5 _⟩,hide ((uH Y0m).sc (by omega)),hide ((uH Y6m).sc (by omega)),hide ((uH Y7m).sc (by omega))⟩
   case measure=>simp [intOf];omega
  ·obtain rfl:k=al:=by omega
   have HC:=hide hcp
   have htk:apps.take k=apps:=List.take_of_length_le (by have:=(uH SH).1;have:=uH HAL;omega)
   have HPM:=hide (own1_of hpo)
   have HRM:=hide hrm
   obtain ⟨_,_,e,hpc,hph⟩:=pown_has hpo
   rw [htk] at hkh
   rw [hns] at hph e hpc
   cases e
   have HPC:=hide hpc
   have HP:=hide hph
   have HK:=hide hkh
   have k1:¬(k:Int)<k:=by omega
   have b0:=hcp.r2.at 0;have b1:=hcp.r2.at 1;have b2:=hcp.r2.at 2;have b3:=hcp.r2.at 3;have b4:=hcp.r2.at 4;have b5:=hcp.r2.at 5;have b6:=hcp.r2.at 6;have b7:=hcp.r2.at 7
   have c0:=hcp.r1.at 0;have c1:=hcp.r1.at 1;have c2:=hcp.r1.at 2;have c3:=hcp.r1.at 3;have c4:=hcp.r1.at 4;have c5:=hcp.r1.at 5;have c6:=hcp.r1.at 6;have c7:=hcp.r1.at 7
   have f0:=hcp.r1.f 0;have f1:=hcp.r1.f 1;have f2:=hcp.r1.f 2;have f3:=hcp.r1.f 3;have f4:=hcp.r1.f 4;have f5:=hcp.r1.f 5;have f6:=hcp.r1.f 6;have f7:=hcp.r1.f 7
   simp at b0 b1 b2 b3 b4 b5 b6 b7 c0 c1 c2 c3 c4 c5 c6 c7
   clear hpo hkh hrm hcp htk hlt hns hph HX hpc
   go_wp2
   have R9:=hide (show Blk ((((((((wr.setCell ⟨w.heap.size+1,0,none⟩ (.slice qo nq qd)).setCell ⟨w.heap.size+1,1,none⟩ (.int .i64 clock)).setCell ⟨w.heap.size+1,2,none⟩ (.int .i64 epoch)).setCell ⟨w.heap.size+1,3,none⟩ (.int .i64 next)).setCell ⟨w.heap.size+1,4,none⟩ (.int .i64 serial)).setCell ⟨w.heap.size+1,5,none⟩ (.slice po k pd)).setCell ⟨w.heap.size+1,6,none⟩ (.slice mo nm md)).setCell ⟨w.heap.size+1,7,none⟩ (.slice co nc cd)) (w.heap.size+1) #[.slice qo nq qd,.int .i64 clock,.int .i64 epoch,.int .i64 next,.int .i64 serial,.slice po k pd,.slice mo nm md,.slice co nc cd] 37 from (((((((((uH HC).r1.set 0 (.slice qo nq qd)).set 1 (.int .i64 clock)).set 2 (.int .i64 epoch)).set 3 (.int .i64 next)).set 4 (.int .i64 serial)).set 5 (.slice po k pd)).set 6 (.slice mo nm md)).set 7 (.slice co nc cd)))
   have Q9:=hide (((((((((uH H0).sc (k:=w.heap.size+1) (j:=0) (v:=.slice qo nq qd) (by omega)).sc (k:=w.heap.size+1) (j:=1) (v:=.int .i64 clock) (by omega)).sc (k:=w.heap.size+1) (j:=2) (v:=.int .i64 epoch) (by omega)).sc (k:=w.heap.size+1) (j:=3) (v:=.int .i64 next) (by omega)).sc (k:=w.heap.size+1) (j:=4) (v:=.int .i64 serial) (by omega)).sc (k:=w.heap.size+1) (j:=5) (v:=.slice po k pd) (by omega)).sc (k:=w.heap.size+1) (j:=6) (v:=.slice mo nm md) (by omega)).sc (k:=w.heap.size+1) (j:=7) (v:=.slice co nc cd) (by omega))
   have P9:=hide (((((((((uH HP).sc (k:=w.heap.size+1) (j:=0) (v:=.slice qo nq qd) (by omega)).sc (k:=w.heap.size+1) (j:=1) (v:=.int .i64 clock) (by omega)).sc (k:=w.heap.size+1) (j:=2) (v:=.int .i64 epoch) (by omega)).sc (k:=w.heap.size+1) (j:=3) (v:=.int .i64 next) (by omega)).sc (k:=w.heap.size+1) (j:=4) (v:=.int .i64 serial) (by omega)).sc (k:=w.heap.size+1) (j:=5) (v:=.slice po k pd) (by omega)).sc (k:=w.heap.size+1) (j:=6) (v:=.slice mo nm md) (by omega)).sc (k:=w.heap.size+1) (j:=7) (v:=.slice co nc cd) (by omega))
   have K9:=hide (((((((((uH HK).sc (k:=w.heap.size+1) (j:=0) (v:=.slice qo nq qd) (.inl (by omega))).sc (k:=w.heap.size+1) (j:=1) (v:=.int .i64 clock) (.inl (by omega))).sc (k:=w.heap.size+1) (j:=2) (v:=.int .i64 epoch) (.inl (by omega))).sc (k:=w.heap.size+1) (j:=3) (v:=.int .i64 next) (.inl (by omega))).sc (k:=w.heap.size+1) (j:=4) (v:=.int .i64 serial) (.inl (by omega))).sc (k:=w.heap.size+1) (j:=5) (v:=.slice po k pd) (.inl (by omega))).sc (k:=w.heap.size+1) (j:=6) (v:=.slice mo nm md) (.inl (by omega))).sc (k:=w.heap.size+1) (j:=7) (v:=.slice co nc cd) (.inl (by omega)))
   have M9:=hide (((((((((uH H6).sc (k:=w.heap.size+1) (j:=0) (v:=.slice qo nq qd) (by omega)).sc (k:=w.heap.size+1) (j:=1) (v:=.int .i64 clock) (by omega)).sc (k:=w.heap.size+1) (j:=2) (v:=.int .i64 epoch) (by omega)).sc (k:=w.heap.size+1) (j:=3) (v:=.int .i64 next) (by omega)).sc (k:=w.heap.size+1) (j:=4) (v:=.int .i64 serial) (by omega)).sc (k:=w.heap.size+1) (j:=5) (v:=.slice po k pd) (by omega)).sc (k:=w.heap.size+1) (j:=6) (v:=.slice mo nm md) (by omega)).sc (k:=w.heap.size+1) (j:=7) (v:=.slice co nc cd) (by omega))
   have C9:=hide (((((((((uH H7).sc (k:=w.heap.size+1) (j:=0) (v:=.slice qo nq qd) (by omega)).sc (k:=w.heap.size+1) (j:=1) (v:=.int .i64 clock) (by omega)).sc (k:=w.heap.size+1) (j:=2) (v:=.int .i64 epoch) (by omega)).sc (k:=w.heap.size+1) (j:=3) (v:=.int .i64 next) (by omega)).sc (k:=w.heap.size+1) (j:=4) (v:=.int .i64 serial) (by omega)).sc (k:=w.heap.size+1) (j:=5) (v:=.slice po k pd) (by omega)).sc (k:=w.heap.size+1) (j:=6) (v:=.slice mo nm md) (by omega)).sc (k:=w.heap.size+1) (j:=7) (v:=.slice co nc cd) (by omega))
   have B9:=hide (yC (yC (yC (yC (yC (yC (yC (yC (uH HC).b (w.heap.size+1) 0 (.slice qo nq qd) (by omega)) (w.heap.size+1) 1 (.int .i64 clock) (by omega)) (w.heap.size+1) 2 (.int .i64 epoch) (by omega)) (w.heap.size+1) 3 (.int .i64 next) (by omega)) (w.heap.size+1) 4 (.int .i64 serial) (by omega)) (w.heap.size+1) 5 (.slice po k pd) (by omega)) (w.heap.size+1) 6 (.slice mo nm md) (by omega)) (w.heap.size+1) 7 (.slice co nc cd) (by omega))
   have N9:=hide (((((((((uH HRM).sc (w.heap.size+1) 0 (.slice qo nq qd)).sc (w.heap.size+1) 1 (.int .i64 clock)).sc (w.heap.size+1) 2 (.int .i64 epoch)).sc (w.heap.size+1) 3 (.int .i64 next)).sc (w.heap.size+1) 4 (.int .i64 serial)).sc (w.heap.size+1) 5 (.slice po k pd)).sc (w.heap.size+1) 6 (.slice mo nm md)).sc (w.heap.size+1) 7 (.slice co nc cd))
   have L9:=hide (own1_sc (own1_sc (own1_sc (own1_sc (own1_sc (own1_sc (own1_sc (own1_sc (uH HPM) (w.heap.size+1) 0 (.slice qo nq qd)) (w.heap.size+1) 1 (.int .i64 clock)) (w.heap.size+1) 2 (.int .i64 epoch)) (w.heap.size+1) 3 (.int .i64 next)) (w.heap.size+1) 4 (.int .i64 serial)) (w.heap.size+1) 5 (.slice po k pd)) (w.heap.size+1) 6 (.slice mo nm md)) (w.heap.size+1) 7 (.slice co nc cd))
   generalize ((((((((wr.setCell ⟨w.heap.size+1,0,none⟩ (.slice qo nq qd)).setCell ⟨w.heap.size+1,1,none⟩ (.int .i64 clock)).setCell ⟨w.heap.size+1,2,none⟩ (.int .i64 epoch)).setCell ⟨w.heap.size+1,3,none⟩ (.int .i64 next)).setCell ⟨w.heap.size+1,4,none⟩ (.int .i64 serial)).setCell ⟨w.heap.size+1,5,none⟩ (.slice po k pd)).setCell ⟨w.heap.size+1,6,none⟩ (.slice mo nm md)).setCell ⟨w.heap.size+1,7,none⟩ (.slice co nc cd))=W9 at R9 Q9 P9 K9 M9 C9 B9 N9 L9 ⊢
   obtain ⟨z0,z1,z2,z3,z4,z5,z6,z7⟩:=zq (uH R9)
   refine bodyPost_ret (v:=.agg #[.slice qo nq qd,.int .i64 clock,.int .i64 epoch,.int .i64 next,.int .i64 serial,.slice po k pd,.slice mo nm md,.slice co nc cd]) (by simp [results,Tryz.results121,go_sem,z0,z1,z2,z3,z4,z5,z6,z7]) rfl (show CopyAnsS w _ _ _ from ⟨⟨qo,nq,qd,po,k,pd,mo,nm,md,co,nc,cd⟩,ns,rfl,?_,uH B9,uH HNZ7⟩)
   exact (sans_of (x:=⟨qo,nq,qd,po,k,pd,mo,nm,md,co,nc,cd⟩) (s:=⟨qs,clock,epoch,next,serial,apps,ms,cs⟩) (uH Q9) (uH P9) (uH K9) (uH M9) (uH C9) ⟨uH HCAP0,uH HPC,uH HCAP6,uH HCAP7⟩ (rms_of (uH N9) (uH L9))).mono (by omega) (yJ _)
theorem l04Copy_any (x:Sls) (s:St) (hs0:List AV) (w:World) (h:SRow w x s) (hav:AVRow w x.aa x.al hs0) (hhd:Heads w hs0 s.apps) (hss:SSome x hs0) (hf:FitSt s) :
  Calls Tryz.prog 121 #[sv x s] w (CopyAns w s):=(l04Copy_some x s hs0 w h hav hhd hss hf).mono fun e w' ⟨y,hs,h1,h2,h3,_⟩=>⟨y,hs,h1,h2,h3⟩
end
end Go.Proofs.YtjkfappkpopbdaaGreat
