/-
  The law FnExactClusterNew answers true at every list of queues and every list of agents: the program's ClusterNew answers as the model's, writes into nothing that it was handed and keeps nothing of it, and its answer owns its memory, behind another call too; no condition.
-/
import Derived.Test.YtmkedfdnokmglaaGreatSackT
import Derived.ShutString
import Derived.ChangeOld
namespace Go.Proofs.YtmkedfdnokmglaaGreat.fnExactClusterNew
open Go.ChangeShapes Go.WideShapes Go.ChangeAt Go.RowKit
open Go.ChangeMaps (open_string shut_string)
set_option linter.unusedVariables false
theorem own:ownKnob Tryz.prog.godebug=none:=by kernel_rfl
theorem laidOut:laidOutB Tryz.prog=true:=by kernel_rfl
set_option maxRecDepth 100000 in
set_option maxHeartbeats 16000000 in
theorem walk (a0:Option Addr) (len0 cap0:Nat) (l0:List Q) (a1:Option Addr) (len1 cap1:Nat) (l1:List Agt) (w:World) (w0:QRow w a0 len0 l0) (x0:len0≤9223372036854775807) (y0:∀q ∈ l0,QFit q∧(Lit.int .i64 q.due).wf=true∧(Lit.int .i64 q.most).wf=true) (w1:AgtRow w a1 len1 l1) (x1:len1≤9223372036854775807) (y1:∀q ∈ l1,AgtFit q) :
  Calls Tryz.prog 4 #[.slice a0 len0 cap0,.slice a1 len1 cap1] w fun e w'=>e=.returned (.bool true)∧Below w.heap.size w w':=by
 have HR0:=hide w0
 have HR1:=hide w1
 have HLL0:=hide w0.1
 have HLL1:=hide w1.1
 have C0:=hide (szQueueS_any a0 len0 cap0 l0 w w0 x0 (fun q hq=>(y0 q hq).1))
 have C1:=hide (fun (r:Int) (h0:0≤r) (h1:r≤1048576) wx (hb:Below w.heap.size w wx)=>szAgentS_any a1 len1 cap1 l1 r wx (w1.below hb) x1 (fun q hq=>(y1 q hq).big) h0 h1)
 clear w0 x0 y0 w1 x1 y1
 go_enter Tryz.func4,Tryz.ntmps4
 go_wp2_with fail
 refine (uH C0).mono ?_
 rintro e wa ⟨r,rfl,hr,hb⟩
 have HBA:=hide hb
 clear hb C0
 rcases hr with rfl | ⟨hr,hr2,hfit0⟩
 ·go_wp2
  go_ret
  exact ⟨rfl,uH HBA⟩
 have hr0:¬r<0:=by omega
 go_wp2_with fail
 refine (uH C1 r hr hr2 _ (uH HBA)).mono ?_
 rintro e wb ⟨r',rfl,hr',hb⟩
 have HBB:=hide (yB (uH HBA) hb)
 clear hb C1 HBA hr hr2 hr0
 rcases hr' with rfl | ⟨hr,hr2,hfit1⟩
 ·go_wp2
  go_ret
  exact ⟨rfl,uH HBB⟩
 have hr0:¬r'<0:=by omega
 have hlen0:len0≤1048576:=by have:=hfit0.1;have:=uH HLL0;omega
 have hlen1:len1≤1048576:=by have:=hfit1.1;have:=uH HLL1;omega
 have hk1:=hfit1.one
 have hnm:∀q ∈ l1,q.name.length≤1048576:=fun q hq=>(hfit1.2 q hq).1
 have CSM:=hide (fun (v:Value) (wx:World) (ao:Option Addr) (hv:v=.slice ao len0 len0) (h:QRow wx ao len0 l0) (hs:∃g,ao=some ⟨g,0,none⟩)=>(show Calls Tryz.prog 39 #[v] wx (MgAns wx l0) by
  subst hv
  exact specManagerNew_any (.slice ao len0 len0) l0 wx (fun wv hb _=>(specStateNew_any ao len0 len0 l0 wv (h.below hb) hlen0 hfit0 (hs.elim fun g e=>⟨_,e⟩) (fun qo n c wy hr _=>by have:=specStateOk_any (newX qo n c) (newSt l0 1 1001 1) wy (new_row 1 1001 1 hr) (new_fit 1 1001 1 hfit0);rw [new_ok] at this;exact this)).mono (fun e w' h=>h.one))))
 have CIM:=hide (fun (v:Value) (wx:World) (ao:Option Addr) (hv:v=.slice ao len0 len0) (h:QRow wx ao len0 l0)=>(show Calls Tryz.prog 45 #[v] wx (MgAns wx l0) by
  subst hv
  exact implManagerNew_any (.slice ao len0 len0) l0 wx (fun wv hb _=>(implStateNew_any ao len0 len0 l0 wv (h.below hb) hlen0 hfit0 (fun qo n c wy hr hc=>by have:=implStateOk_any (newX qo n c) (newSt l0 1 1001 1) wy (new_row 1 1001 1 hr) (new_fit 1 1001 1 hfit0) hc ⟨by simp,by simp⟩;rw [new_ok] at this;exact this) (yJ _)).mono (fun e w' h=>h.one))))
 have CS:=hide (fun (wx:World) (g g':Nat) (h:QBlk wx 95 g len0 len0 l0) (h':AgtBlk wx 71 g' len1 len1 l1)=>specClusterNew_any (.slice (some ⟨g,0,none⟩) len0 len0) l0 g' len1 l1 wx h' (uH HLL1) hlen1 hnm (fun _=>hfit0) (fun wv hb=>uH CSM _ wv (some ⟨g,0,none⟩) rfl ((h.row (uH HLL0)).below hb) ⟨g,rfl⟩))
 have CI:=hide (fun (wx:World) (g g':Nat) (h:QBlk wx 95 g len0 len0 l0) (h':AgtBlk wx 71 g' len1 len1 l1)=>implClusterNew_any (.slice (some ⟨g,0,none⟩) len0 len0) l0 (some ⟨g',0,none⟩) len1 len1 l1 wx (h'.row (uH HLL1)) hlen1 hnm (fun wv hb=>uH CIM _ wv (some ⟨g,0,none⟩) rfl ((h.row (uH HLL0)).below hb)))
 have CTQ:=hide (fun (wx:World) (hb:Below w.heap.size w wx)=>toQueueS_any a0 len0 cap0 l0 wx ((uH HR0).below hb) hlen0)
 have CTA:=hide (fun (wx:World) (hb:Below w.heap.size w wx)=>toAgentS_any a1 len1 cap1 l1 wx ((uH HR1).below hb) hlen1 hk1)
 have CEQ:=hide (fun (wx:World) (g k:Nat) (h:QBlk wx 95 g len0 len0 l0) (h':QBlk wx 95 k len0 len0 l0)=>eqQueueS_same (some ⟨g,0,none⟩) (some ⟨k,0,none⟩) len0 len0 len0 l0 wx (h.row (uH HLL0)) (h'.row (uH HLL0)) hlen0)
 have CEA:=hide (fun (wx:World) (g k:Nat) (h:AgtBlk wx 71 g len1 len1 l1) (h':AgtBlk wx 71 k len1 len1 l1)=>eqAgentS_same (some ⟨g,0,none⟩) (some ⟨k,0,none⟩) len1 len1 len1 l1 wx (h.row (uH HLL1)) (h'.row (uH HLL1)) hlen1 hk1)
 have HWH:=hide (fun (wx:World) (g:Nat) (h:AgtBlk wx 71 g len1 len1 l1)=>h.wh (uH HLL1) hk1)
 obtain ⟨ql,ep,nx,la,hcn,hql,hla,hfc⟩:=cluN_form l0 l1 hfit0 hfit1
 obtain ⟨b,hbo⟩:∃q,clOk l0 l1=q:=⟨_,rfl⟩
 unfold SpAns at CS
 unfold ClAns at CI
 rw [hcn,hbo] at CS CI
 have CE:=hide (fun (wx:World) (z z':Cls) (h:CRow wx z ⟨⟨newSt ql ep nx ep,[],0,[]⟩,la,[]⟩) (h':CRow wx z' ⟨⟨newSt ql ep nx ep,[],0,[]⟩,la,[]⟩)=>eqCluster_same z z' ⟨⟨newSt ql ep nx ep,[],0,[]⟩,la,[]⟩ wx h h' hfc)
 have CR:=hide (fun (B B' n c gl gc:Nat) (qo go:Option Addr) (hs:List AH) (wx:World) (h:QOwn B wx (.slice qo n c) ql) (hn:n=ql.length) (hg:GHas B' wx go gl gc hs) (ht:Thin hs la)=>cl_row ep nx h hn hg ht)
 clear hfit0 hfit1 hcn hbo hfc hr hr2 CSM CIM hnm hk1
 try simp only at CS CI
 go_wp2_with fail
 refine (uH CTQ _ (uH HBB)).mono ?_
 rintro e w2 ⟨rfl,hq,hb⟩
 have Q2:=hide hq
 have HB2:=hide (yB (uH HBB) hb)
 clear hq hb HBB hr0
 go_wp2_with fail
 refine (uH CTA _ (uH HB2)).mono ?_
 rintro e w3 ⟨rfl,hq,hb⟩
 have Q3:=hide ((uH Q2).below hb)
 have A3:=hide hq
 have HB3:=hide (yB (uH HB2) hb)
 clear hq hb HB2 Q2
 go_wp2_with fail
 refine (uH CS _ _ _ (uH Q3) (uH A3)).mono ?_
 rintro e w4 ⟨⟨qa,qn,qc,aa,al,ac,ma,ml,mc,ca,cl,cc⟩,so,sc,rfl,hcr,hb⟩
 obtain ⟨sn,hsn⟩:∃n,la.length=n:=⟨_,rfl⟩
 rw [hsn] at hcr ⊢
 have hbm:=yA (yH _ w4) (.cells #[.slice qa qn qc,.int .i64 0,.int .i64 ep,.int .i64 nx,.int .i64 ep,.slice aa al ac,.slice ma ml mc,.slice ca cl cc,.string (bs []),.int .i64 0,.slice none 0 0,.slice so sn sc,.slice none 0 0] 48)
 have HB5:=hide (yB (yB (uH HB3) hb) hbm)
 have BW:=hide (yD w4 #[.slice qa qn qc,.int .i64 0,.int .i64 ep,.int .i64 nx,.int .i64 ep,.slice aa al ac,.slice ma ml mc,.slice ca cl cc,.string (bs []),.int .i64 0,.slice none 0 0,.slice so sn sc,.slice none 0 0] 48)
 have RW:=hide (hcr.below hbm)
 have HSN:=hide hsn
 clear hb hcr Q3 A3 HB3 hsn
 go_upto_region 9 with fail
 obtain ⟨gw,hgw⟩:∃g,w4.heap.size=g:=⟨_,rfl⟩
 obtain ⟨w5,hw5⟩:∃W,w4.alloc (.cells #[.slice qa qn qc,.int .i64 0,.int .i64 ep,.int .i64 nx,.int .i64 ep,.slice aa al ac,.slice ma ml mc,.slice ca cl cc,.string (bs []),.int .i64 0,.slice none 0 0,.slice so sn sc,.slice none 0 0] 48)=W:=⟨_,rfl⟩
 rw [hw5] at HB5 BW RW ⊢
 rw [hgw] at BW ⊢
 clear hgw hw5 hbm
 go_wp2_with fail
 refine (uH CTQ _ (uH HB5)).mono ?_
 rintro e w6 ⟨rfl,hq,hb⟩
 have Q6:=hide hq
 have S6:=hide hb
 have hz6:w5.heap.size<w6.heap.size:=hq.lt
 clear hq hb
 obtain ⟨g0,hg0⟩:∃g,w5.heap.size=g:=⟨_,rfl⟩
 have HG0:=hide hg0
 rw [hg0] at Q6 hz6 ⊢
 clear hg0
 go_wp2_with fail
 refine (uH CTA _ (yB (uH HB5) (uH S6))).mono ?_
 rintro e w7 ⟨rfl,hq,hb⟩
 have Q7:=hide ((uH Q6).below hb)
 have A7:=hide hq
 have W7:=hide (uH HWH _ _ hq)
 have S7:=hide (yB (uH S6) hb)
 have hz7:w6.heap.size<w7.heap.size:=hq.lt
 clear hq hb Q6 S6 HWH
 obtain ⟨g1,hg1⟩:∃g,w6.heap.size=g:=⟨_,rfl⟩
 rw [hg1] at A7 W7 hz6 hz7 ⊢
 clear hg1
 obtain ⟨E1,hE1⟩:∃g,w7.heap.size=g:=⟨_,rfl⟩
 rw [hE1] at W7 hz7
 have HE1:=hide hE1
 clear hE1
 go_wp2_with fail
 refine (uH CI _ _ _ (uH Q7) (uH A7)).mono ?_
 rintro e w8 ⟨io,jn,ic,ig,jl,ik,hs,rfl,hn1,hn2,hown,hgh,hth,hb⟩
 obtain rfl:jl=sn:=by have:=uH HSN;omega
 have hbm:=yA (yH _ w8) (.cells (clc io jn ic ep nx ig jl ik) 48)
 have H9:=hide (show Held1 E1 w8.heap.size io jn ic ep nx ig jl ik ql hs la (w8.alloc (.cells (clc io jn ic ep nx ig jl ik) 48)) from
  ⟨yD _ _ _,(qown_base hown (by have:=uH HE1;omega)).below hbm,(hgh.base (by have:=uH HE1;omega)).below hbm,fun k e=>⟨by have:=(own_lt hown k e).1;have:=uH HE1;omega,(own_lt hown k e).2⟩,fun k e hz=>⟨by have:=(ghas_lt hgh k e hz).1;have:=uH HE1;omega,(ghas_lt hgh k e hz).2⟩,by have:=hb.size;have:=uH HE1;omega⟩)
 have Q9:=hide (((uH Q7).below hb).below hbm)
 have A9:=hide (((uH A7).below hb).below hbm)
 have W9:=hide (((uH W7).below hb).below hbm)
 have S9:=hide (yB (yB (uH S7) hb) hbm)
 have TH:=hide hth
 have HN1:=hide hn1
 have HN2:=hide hn2
 clear hb hown hgh hth hn1 hn2 Q7 A7 W7 S7
 go_upto_region 12 with fail
 obtain ⟨gg,hgg⟩:∃g,w8.heap.size=g:=⟨_,rfl⟩
 obtain ⟨w9,hw9⟩:∃W,w8.alloc (.cells (clc io jn ic ep nx ig jl ik) 48)=W:=⟨_,rfl⟩
 rw [hw9] at H9 Q9 A9 W9 S9
 rw [show (w8.alloc (.cells #[.slice io jn ic,.int .i64 0,.int .i64 ep,.int .i64 nx,.int .i64 ep,.slice none 0 0,.slice none 0 0,.slice none 0 0,.string (bs []),.int .i64 0,.slice none 0 0,.slice ig jl ik,.slice none 0 0] 48))=w9 from hw9]
 rw [hgg] at H9 ⊢
 clear hgg hw9 hbm
 have PG:=hide (uH H9).box
 have PW:=hide ((uH BW).below (uH S9))
 have RG:=hide (uH CR _ _ _ _ _ _ _ _ _ _ (uH H9).q (uH HN1) (uH H9).g (uH TH))
 have RX:=hide ((uH RW).below (uH S9))
 obtain ⟨u0,u1,u2,u3,u4,u5,u6,u7,u8,u9,u10,u11,u12⟩:_∧_∧_∧_∧_∧_∧_∧_∧_∧_∧_∧_∧_:=⟨(uH PG).at 0,(uH PG).at 1,(uH PG).at 2,(uH PG).at 3,(uH PG).at 4,(uH PG).at 5,(uH PG).at 6,(uH PG).at 7,(uH PG).at 8,(uH PG).at 9,(uH PG).at 10,(uH PG).at 11,(uH PG).at 12⟩
 simp at u0 u1 u2 u3 u4 u5 u6 u7 u8 u9 u10 u11 u12
 obtain ⟨v0,v1,v2,v3,v4,v5,v6,v7,v8,v9,v10,v11,v12⟩:_∧_∧_∧_∧_∧_∧_∧_∧_∧_∧_∧_∧_:=⟨(uH PW).at 0,(uH PW).at 1,(uH PW).at 2,(uH PW).at 3,(uH PW).at 4,(uH PW).at 5,(uH PW).at 6,(uH PW).at 7,(uH PW).at 8,(uH PW).at 9,(uH PW).at 10,(uH PW).at 11,(uH PW).at 12⟩
 simp at v0 v1 v2 v3 v4 v5 v6 v7 v8 v9 v10 v11 v12
 go_wp2_with fail
 refine (uH CE _ _ _ (uH RG) (uH RX)).mono ?_
 rintro e w10 ⟨rfl,hb⟩
 clear PG PW RG RX u0 u1 u2 u3 u4 u5 u6 u7 u8 u9 u10 u11 u12 v0 v1 v2 v3 v4 v5 v6 v7 v8 v9 v10 v11 v12
 have H10:=hide ((uH H9).below hb)
 have Q10:=hide ((uH Q9).below hb)
 have A10:=hide ((uH A9).below hb)
 have W10:=hide ((uH W9).below hb)
 have S10:=hide (yB (uH S9) hb)
 clear hb H9 Q9 A9 W9 S9
 go_wp2_with fail
 refine (uH CTQ _ (yB (uH HB5) (uH S10))).mono ?_
 rintro e w11 ⟨rfl,hq,hb⟩
 have YQ:=hide hq
 clear hq
 have H11:=hide ((uH H10).below hb)
 have Q11:=hide ((uH Q10).below hb)
 have A11:=hide ((uH A10).below hb)
 have W11:=hide ((uH W10).below hb)
 have S11:=hide (yB (uH S10) hb)
 clear hb H10 Q10 A10 W10 S10
 go_wp2_with fail
 refine (uH CEQ _ _ _ (uH Q11) (uH YQ)).mono ?_
 rintro e w12 ⟨rfl,hb⟩
 clear YQ
 have H12:=hide ((uH H11).below hb)
 have Q12:=hide ((uH Q11).below hb)
 have A12:=hide ((uH A11).below hb)
 have W12:=hide ((uH W11).below hb)
 have S12:=hide (yB (uH S11) hb)
 clear hb H11 Q11 A11 W11 S11
 go_wp2_with fail
 refine (uH CTA _ (yB (uH HB5) (uH S12))).mono ?_
 rintro e w13 ⟨rfl,hq,hb⟩
 have YA:=hide hq
 clear hq
 have H13:=hide ((uH H12).below hb)
 have Q13:=hide ((uH Q12).below hb)
 have A13:=hide ((uH A12).below hb)
 have W13:=hide ((uH W12).below hb)
 have S13:=hide (yB (uH S12) hb)
 clear hb H12 Q12 A12 W12 S12
 go_wp2_with fail
 refine (uH CEA _ _ _ (uH A13) (uH YA)).mono ?_
 rintro e w14 ⟨rfl,hb⟩
 clear YA CEQ CEA
 have H14:=hide ((uH H13).below hb)
 have Q14:=hide ((uH Q13).below hb)
 have A14:=hide ((uH A13).below hb)
 have W14:=hide ((uH W13).below hb)
 have S14:=hide (yB (uH S13) hb)
 clear hb H13 Q13 A13 W13 S13
 have hg01:g0<g1:=hz6
 go_wp2_with fail
 refine (markQueueS_any g0 len0 _ (uH Q14).any hlen0).mono ?_
 rintro e w15 ⟨rfl,hg⟩
 have H15:=hide ((uH H14).keep (wy:=w15) (fun k h1 h2=>hg.block k h2 (fun e=>by cases e;omega)))
 have W15:=hide ((uH W14).keep (w':=w15) hg01 (by omega) (fun k h1 h2=>hg.block k h1 (fun e=>by cases e;exact h2 rfl)))
 have S15:=hide ((uH S14).grown hg (uH S14).size (fun k e=>by cases e;have:=uH HG0;omega))
 clear hg H14 Q14 A14 W14 S14
 go_wp2_with fail
 refine (markAgentS_from g1 E1 g1 len1 (1+4*(len0:Int)) _ ((uH W15).mono (by omega) (yJ _)) (yJ _) hz7 hlen1 (by omega) (by omega)).mono ?_
 rintro e w16 ⟨k,rfl,hk0,_,hm⟩
 have H16:=hide ((uH H15).keep (wy:=w16) (fun k h1 h2=>hm.block k h2 (.inr h1)))
 have S16:=hide ((uH S15).trans ((hm.below (by have:=(uH W15).1.lt;omega)).mono (by have:=uH HG0;omega)))
 clear hm H15 W15 S15
 have hkn:¬k<0:=by omega
 have PG:=hide (uH H16).box
 have PW:=hide ((uH BW).below (uH S16))
 have RG:=hide (uH CR _ _ _ _ _ _ _ _ _ _ (uH H16).q (uH HN1) (uH H16).g (uH TH))
 have RX:=hide ((uH RW).below (uH S16))
 obtain ⟨u0,u1,u2,u3,u4,u5,u6,u7,u8,u9,u10,u11,u12⟩:_∧_∧_∧_∧_∧_∧_∧_∧_∧_∧_∧_∧_:=⟨(uH PG).at 0,(uH PG).at 1,(uH PG).at 2,(uH PG).at 3,(uH PG).at 4,(uH PG).at 5,(uH PG).at 6,(uH PG).at 7,(uH PG).at 8,(uH PG).at 9,(uH PG).at 10,(uH PG).at 11,(uH PG).at 12⟩
 simp at u0 u1 u2 u3 u4 u5 u6 u7 u8 u9 u10 u11 u12
 obtain ⟨v0,v1,v2,v3,v4,v5,v6,v7,v8,v9,v10,v11,v12⟩:_∧_∧_∧_∧_∧_∧_∧_∧_∧_∧_∧_∧_:=⟨(uH PW).at 0,(uH PW).at 1,(uH PW).at 2,(uH PW).at 3,(uH PW).at 4,(uH PW).at 5,(uH PW).at 6,(uH PW).at 7,(uH PW).at 8,(uH PW).at 9,(uH PW).at 10,(uH PW).at 11,(uH PW).at 12⟩
 simp at v0 v1 v2 v3 v4 v5 v6 v7 v8 v9 v10 v11 v12
 go_wp2_with fail
 refine (uH CE _ _ _ (uH RG) (uH RX)).mono ?_
 rintro e w17 ⟨rfl,hb⟩
 clear PG PW RG RX u0 u1 u2 u3 u4 u5 u6 u7 u8 u9 u10 u11 u12 v0 v1 v2 v3 v4 v5 v6 v7 v8 v9 v10 v11 v12
 have H17:=hide ((uH H16).below hb)
 have S17:=hide (yB (uH S16) hb)
 clear hb H16 S16
 have hjn:jn≤1048576:=by have:=uH HN1;omega
 have hjl:jl≤1048576:=by have:=uH HSN;omega
 have PG:=hide (uH H17).box
 obtain ⟨u0,u1,u2,u3,u4,u5,u6,u7,u8,u9,u10,u11,u12⟩:_∧_∧_∧_∧_∧_∧_∧_∧_∧_∧_∧_∧_:=⟨(uH PG).at 0,(uH PG).at 1,(uH PG).at 2,(uH PG).at 3,(uH PG).at 4,(uH PG).at 5,(uH PG).at 6,(uH PG).at 7,(uH PG).at 8,(uH PG).at 9,(uH PG).at 10,(uH PG).at 11,(uH PG).at 12⟩
 simp at u0 u1 u2 u3 u4 u5 u6 u7 u8 u9 u10 u11 u12
 go_wp2_with fail
 refine (markCl_new (E:=gg) ep nx (uH H17).q (uH HN1) hjn (uH H17).g (uH TH) hjl (fun k e=>((uH H17).qE k e).2) (fun k e hz=>((uH H17).gE k e hz).2) (uH H17).lo (Nat.le_of_lt (uH H17).box.lt)).mono ?_
 rintro e w18 ⟨rfl,hm,hmk,ht⟩
 have H18:=hide (show Held2 gg io jn ic ep nx ig jl ik hs w18 from ⟨ht.blk (uH PG) (.inr (yJ _)),hm,hmk⟩)
 have S18:=hide ((uH S17).trans (ht.1.mono (by have:=uH HG0;omega)))
 clear hm hmk ht H17 S17 PG u0 u1 u2 u3 u4 u5 u6 u7 u8 u9 u10 u11 u12
 have PG:=hide (uH H18).box
 obtain ⟨u0,u1,u2,u3,u4,u5,u6,u7,u8,u9,u10,u11,u12⟩:_∧_∧_∧_∧_∧_∧_∧_∧_∧_∧_∧_∧_:=⟨(uH PG).at 0,(uH PG).at 1,(uH PG).at 2,(uH PG).at 3,(uH PG).at 4,(uH PG).at 5,(uH PG).at 6,(uH PG).at 7,(uH PG).at 8,(uH PG).at 9,(uH PG).at 10,(uH PG).at 11,(uH PG).at 12⟩
 simp at u0 u1 u2 u3 u4 u5 u6 u7 u8 u9 u10 u11 u12
 have hmn:¬((1+4*jn+3*jl:Nat):Int)<0:=by omega
 have HTL:=hide (show jl=hs.length by have:=(uH TH).1;have:=uH HSN;omega)
 go_wp2_with fail
 refine (heldCl_new ql ep nx (uH H18).q hjn (uH H18).g (uH TH) (uH HTL) hjl).mono ?_
 rintro e w19 ⟨rfl,hb⟩
 clear PG u0 u1 u2 u3 u4 u5 u6 u7 u8 u9 u10 u11 u12
 have H19:=hide ((uH H18).below hb)
 have S19:=hide (yB (uH S18) hb)
 clear hb H18 S18
 go_wp2_with fail
 refine (uH CTQ _ (yB (uH HB5) (uH S19))).mono ?_
 rintro e w20 ⟨rfl,hq,hb⟩
 have YQ:=hide hq
 clear hq
 have H20:=hide ((uH H19).below hb)
 have S20:=hide (yB (uH S19) hb)
 clear hb H19 S19
 go_wp2_with fail
 refine (uH CTA _ (yB (uH HB5) (uH S20))).mono ?_
 rintro e w21 ⟨rfl,hq,hb⟩
 have YA:=hide hq
 have YQ1:=hide ((uH YQ).below hb)
 clear hq YQ
 have H21:=hide ((uH H20).below hb)
 have S21:=hide (yB (uH S20) hb)
 clear hb H20 S20
 go_wp2_with fail
 refine (uH CI _ _ _ (uH YQ1) (uH YA)).mono ?_
 rintro e w22 ⟨ho,hn,hc,hgo,hl',hgc,hs2,rfl,hn1,hn2,hown,hgh,hth,hb⟩
 have hbm:=yA (yH _ w22) (.cells (clc ho hn hc ep nx hgo hl' hgc) 48)
 have PB:=hide (yD w22 (clc ho hn hc ep nx hgo hl' hgc) 48)
 have RG:=hide (uH CR _ _ _ _ _ _ _ _ _ _ (hown.below hbm) hn1 (hgh.below hbm) hth)
 have H23:=hide (((uH H21).below hb).below hbm)
 have S23:=hide (yB (yB (uH S21) hb) hbm)
 clear hb hown hgh hth hn1 hn2 H21 S21 YQ1 YA CI CTQ CTA CR
 go_upto_region 32 with fail
 obtain ⟨gh,hgg⟩:∃g,w22.heap.size=g:=⟨_,rfl⟩
 obtain ⟨w23,hw9⟩:∃W,w22.alloc (.cells (clc ho hn hc ep nx hgo hl' hgc) 48)=W:=⟨_,rfl⟩
 rw [hw9] at H23 S23 PB RG
 rw [show (w22.alloc (.cells #[.slice ho hn hc,.int .i64 0,.int .i64 ep,.int .i64 nx,.int .i64 ep,.slice none 0 0,.slice none 0 0,.slice none 0 0,.string (bs []),.int .i64 0,.slice none 0 0,.slice hgo hl' hgc,.slice none 0 0] 48))=w23 from hw9]
 rw [hgg] at PB ⊢
 clear hgg hw9 hbm
 have PW:=hide ((uH BW).below (uH S23))
 have RX:=hide ((uH RW).below (uH S23))
 obtain ⟨u0,u1,u2,u3,u4,u5,u6,u7,u8,u9,u10,u11,u12⟩:_∧_∧_∧_∧_∧_∧_∧_∧_∧_∧_∧_∧_:=⟨(uH PB).at 0,(uH PB).at 1,(uH PB).at 2,(uH PB).at 3,(uH PB).at 4,(uH PB).at 5,(uH PB).at 6,(uH PB).at 7,(uH PB).at 8,(uH PB).at 9,(uH PB).at 10,(uH PB).at 11,(uH PB).at 12⟩
 simp at u0 u1 u2 u3 u4 u5 u6 u7 u8 u9 u10 u11 u12
 obtain ⟨v0,v1,v2,v3,v4,v5,v6,v7,v8,v9,v10,v11,v12⟩:_∧_∧_∧_∧_∧_∧_∧_∧_∧_∧_∧_∧_:=⟨(uH PW).at 0,(uH PW).at 1,(uH PW).at 2,(uH PW).at 3,(uH PW).at 4,(uH PW).at 5,(uH PW).at 6,(uH PW).at 7,(uH PW).at 8,(uH PW).at 9,(uH PW).at 10,(uH PW).at 11,(uH PW).at 12⟩
 simp at v0 v1 v2 v3 v4 v5 v6 v7 v8 v9 v10 v11 v12
 go_wp2_with fail
 refine (uH CE _ _ _ (uH RG) (uH RX)).mono ?_
 rintro e w24 ⟨rfl,hb⟩
 clear PB PW RG RX CE u0 u1 u2 u3 u4 u5 u6 u7 u8 u9 u10 u11 u12 v0 v1 v2 v3 v4 v5 v6 v7 v8 v9 v10 v11 v12
 have H24:=hide ((uH H23).below hb)
 have S24:=hide (yB (uH S23) hb)
 clear hb H23 S23
 have PG:=hide (uH H24).box
 obtain ⟨u0,u1,u2,u3,u4,u5,u6,u7,u8,u9,u10,u11,u12⟩:_∧_∧_∧_∧_∧_∧_∧_∧_∧_∧_∧_∧_:=⟨(uH PG).at 0,(uH PG).at 1,(uH PG).at 2,(uH PG).at 3,(uH PG).at 4,(uH PG).at 5,(uH PG).at 6,(uH PG).at 7,(uH PG).at 8,(uH PG).at 9,(uH PG).at 10,(uH PG).at 11,(uH PG).at 12⟩
 simp at u0 u1 u2 u3 u4 u5 u6 u7 u8 u9 u10 u11 u12
 go_wp2_with fail
 refine (heldCl_new ql ep nx (uH H24).q hjn (uH H24).g (uH TH) (uH HTL) hjl).mono ?_
 rintro e w25 ⟨rfl,hb⟩
 have HB:=hide (yB (uH HB5) (yB (uH S24) hb))
 clear hb PG H24 S24 u0 u1 u2 u3 u4 u5 u6 u7 u8 u9 u10 u11 u12
 go_wp2
 go_ret
 exact ⟨rfl,uH HB⟩
set_option maxRecDepth 100000 in
theorem lifted (os:Os) (started:os.Started) (H:Type) (enc:TypeId×Value→H) :
  ReturnsInHanded {} Tryz.checked os 4 .any (Rows.fnExactClusterNewSpec.pre6 enc Tryz.prog Tryz.f4 Rows.fnExactClusterNewRow.domain false) (Rows.fnExactClusterNewSpec.post enc Tryz.prog Tryz.f4 false true false false):=by
 refine returnsInHanded_of_change (C:=Tryz.checked) own started (by kernel_rfl) Tryz.func4
  (ChangeSpec.witness6 (enc:=enc) (C:=Tryz.checked) false ⟨#[],#[.slice none 0 0,.slice none 0 0],[]⟩ 8 (by kernel_rfl) (by kernel_rfl) (by kernel_rfl) (by kernel_rfl)) ?_
 intro W base args ds gs before hval0 hW hcnd _
 have hval:∀(j:Nat) t v,Tryz.f4.params[j]? = some t→args[j]? = some v→Value.okWide Tryz.prog W .any base t v:=hval0
 have hW':=hW
 obtain ⟨p,q,hA0,hV,rfl,hfz,hnd⟩:=hW
 have hA:DataW.TrodAll enc Tryz.prog W 0 (fun _=>true) true Tryz.f4.params.toList args.toList ds p:=hA0
 rw [Tryz.params4] at hA hval
 obtain ⟨v0,vs0,d0,ds0,p0,q0,hargs,rfl,rfl,h0,r0⟩:=trodAll_cons hA
 obtain ⟨v1,vs1,d1,ds1,p1,q1,rfl,rfl,rfl,h1,r1⟩:=trodAll_cons r0
 obtain ⟨rfl,rfl,rfl⟩:=trodAll_nil r1
 obtain rfl:args=#[v0,v1]:=by cases args;simp_all
 obtain ⟨rfl,rfl⟩:=trodVars_none hV
 obtain ⟨a0,len0,cap0,rfl⟩:=okWide_slice Tryz.underlying22 (hval 0 22 v0 rfl rfl)
 have k0:=h0
 have lt0:∀x ∈ p0,x.block<W.heap.size:=by obtain ⟨m,hm⟩:=k0;exact DataW.trod_lt m _ _ _ hm
 obtain ⟨l0,w0,x0,y0⟩:=open_queues h0
 obtain ⟨a1,len1,cap1,rfl⟩:=okWide_slice Tryz.underlying31 (hval 1 31 v1 rfl rfl)
 have k1:=h1
 have lt1:∀x ∈ p1,x.block<W.heap.size:=by obtain ⟨m,hm⟩:=k1;exact DataW.trod_lt m _ _ _ hm
 obtain ⟨l1,w1,x1,y1⟩:=open_agtw h1
 clear hA0 hval0
 refine (walk a0 len0 cap0 l0 a1 len1 cap1 l1 W w0 x0 y0 w1 x1 y1).mono fun e W' ⟨he,bel⟩=>?_
 subst he
 exact ⟨_,rfl,_,_,_,[],_,[],hW',trodAll_mk1 (shut_bool Tryz.underlying4 _),(trodAll_cons_mk (Below.trod laidOut (by kernel_rfl) (of_decide_eq_true (by kernel_rfl)) k0 bel lt0) (trodAll_cons_mk (Below.trod laidOut (by kernel_rfl) (of_decide_eq_true (by kernel_rfl)) k1 bel lt1) trodAll_mk0)),rfl,bel.frame _,fun h=>by cases h⟩
set_option maxRecDepth 100000 in
set_option maxHeartbeats 16000000 in
theorem closed:joinedFacts Tryz.prog 4 Tryz.f4 Rows.fnExactClusterNewSpec Rows.fnExactClusterNewRow=true:=by
 unfold joinedFacts
 repeat rw [yK]
 repeat' apply And.intro
 all_goals (as_aux_lemma=>kernel_rfl)
theorem over:Rows.fnExactClusterNewRow.holds Tryz.pinned (OpenSpec.ofChange Rows.fnExactClusterNewSpec):=
 OpenClaim.holds_of_wide 4 Tryz.f4 rfl rfl rfl rfl rfl rfl rfl ⟨rfl,rfl,rfl,rfl,rfl⟩ rfl rfl rfl rfl rfl (by kernel_rfl) Tryz.func4 closed
  (of_decide_eq_true (by kernel_rfl)) (by unfold Func.isWrapper;first | (rw [if_pos (by decide +kernel)];kernel_rfl) | (rw [if_neg (by decide +kernel)];exact ⟨rfl,rfl⟩))
  (fun os started H enc _=>lifted os started H enc)
end Go.Proofs.YtmkedfdnokmglaaGreat.fnExactClusterNew
namespace Go.Proofs.YtmkedfdnokmglaaGreat
theorem fnExactClusterNew_holds:Rows.FnExactClusterNewSaid:=fnExactClusterNew.over
#print axioms fnExactClusterNew_holds
end Go.Proofs.YtmkedfdnokmglaaGreat
