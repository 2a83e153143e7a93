/-
  The law FnExactGrant answers true at every state and every text: the program's Grant answers as the model's, writes into nothing that it was handed and keeps nothing of it, and its answer owns its memory, behind another call too; no condition.
-/
import Derived.Test.YtdhibeclkdepiaaGreatPackAH
import Derived.ShutString
import Derived.ChangeOld
namespace Go.Proofs.YtdhibeclkdepiaaGreat.fnExactGrant
open Go.ChangeShapes Go.WideShapes Go.ChangeAt Go.RowKit
open Go.ChangeMaps (open_string shut_string)
set_option linter.unusedVariables false
theorem own:ownKnob Tryz.prog.godebug=none:=by kernel_rfl
theorem laidOut:laidOutB Tryz.prog=true:=by kernel_rfl
set_option maxRecDepth 100000 in
set_option maxHeartbeats 16000000 in
theorem walk (a0:Sls) (b0:St) (a1:ByteArray) (w:World) (w0:SRow w a0 b0) (x0:StFit a0 b0) (w1:a1.size≤maxLen) :
  Calls Tryz.prog 3 #[sv a0 b0,.string a1] w fun e w'=>e=.returned (.bool true)∧Below w.heap.size w w':=by
 clear w1
 obtain ⟨nm,rfl⟩:∃nm,a1=bs nm:=⟨a1.data.toList,by simp [bs]⟩
 by_cases hbig:(bs nm).size≤1048576
 case neg=>
  go_enter Tryz.func3,Tryz.ntmps3
  go_wp2
  go_ret
  exact ⟨rfl,yA (Below.refl _ _) _⟩
 have hnm:nm.length≤1048576:=by rw [bs_size] at hbig;exact hbig
 have HR:=hide w0
 have HLEN:=hide w0.len
 have I0:=hide (InBox.new w a0 b0)
 have C0:=hide (szState_any a0 b0 _ (w0.below (uH I0).2) x0.big)
 have RB:=hide (InBox.read w a0 b0)
 have HFIT:=hide (fun hf:FitSt b0=>fit_grant hf hnm)
 obtain ⟨S1,hap⟩:∃r,grantV b0 nm=r:=⟨_,rfl⟩
 obtain ⟨⟨c0,c1,cn,c3,c4⟩,hap2⟩:∃r,conOf (nextGV b0 nm)=r:=⟨_,rfl⟩
 obtain ⟨ok,hap3⟩:∃r,(nextGV b0 nm).isSome=r:=⟨_,rfl⟩
 rw [hap] at HFIT
 have CS:=hide (fun (hf:FitSt b0) g1 g2 g3 g4 wx (h:SOwn4 wx g1 g2 g3 g4 a0.ql a0.al a0.ml a0.cl b0)=>by
  obtain ⟨hs0,h1,h2,h3⟩:=own4_heads h (uH HLEN)
  have:=specGrant_any (own4 g1 g2 g3 g4 a0.ql a0.al a0.ml a0.cl) b0 hs0 nm wx (h.row (uH HLEN)) h1 h2 h3 hf hnm
  rw [hap,hap2,hap3] at this
  exact this.mono (fun e w' h=>h.lay))
 have CI:=hide (fun (hf:FitSt b0) g1 g2 g3 g4 wx (h:SOwn4 wx g1 g2 g3 g4 a0.ql a0.al a0.ml a0.cl b0)=>by
  have:=implGrant_any (own4 g1 g2 g3 g4 a0.ql a0.al a0.ml a0.cl) b0 nm wx (h.row (uH HLEN)) hf x0.wfs hnm
  rw [hap,hap2,hap3] at this
  exact this.mono (fun e w' h=>h.lay))
 have CT:=hide (fun (hf:FitSt b0) wx (hb:Below w.heap.size w wx)=>toState_any a0 b0 wx ((uH HR).below hb) hf)
 have CE:=hide (fun (hf:FitSt b0) g1 g2 g3 g4 k1 k2 k3 k4 wx (h:SOwn4 wx g1 g2 g3 g4 a0.ql a0.al a0.ml a0.cl b0) (k:SOwn4 wx k1 k2 k3 k4 a0.ql a0.al a0.ml a0.cl b0)=>eqState_same (own4 g1 g2 g3 g4 a0.ql a0.al a0.ml a0.cl) (own4 k1 k2 k3 k4 a0.ql a0.al a0.ml a0.cl) b0 wx (h.row (uH HLEN)) (k.row (uH HLEN)) hf)
 have CM:=hide (fun (hf:FitSt b0) B E g1 g2 g3 g4 wx (h:SOwn4 wx g1 g2 g3 g4 a0.ql a0.al a0.ml a0.cl b0) (ha:AWh wx B E g2 a0.al) (hb:B≤g1∧g1<g2∧g2<g3∧g3<g4∧g4<E) (hE:E≤wx.heap.size)=>markState_any B E g1 g2 g3 g4 a0.ql a0.al a0.ml a0.cl b0 wx h.1.cel ha h.2.2.1.cel h.2.2.2.cel hb hE (by have:=(uH HLEN).1;have:=hf.1.1;omega) (by have:=(uH HLEN).2.1;have:=hf.2.1.1;omega) (by have:=(uH HLEN).2.2.1;have:=hf.2.2.1.1;omega) (by have:=(uH HLEN).2.2.2;have:=hf.2.2.2.1;omega))
 have CW:=hide (fun (hf:FitSt b0) g1 g2 g3 g4 wx (h:SOwn4 wx g1 g2 g3 g4 a0.ql a0.al a0.ml a0.cl b0)=>h.2.1.wh (uH HLEN).2.1 (fun q hq=>(hf.2.1.2 q hq).2.1))
 clear w0 x0 hap hap2 hap3
 obtain ⟨qa,ql,qc,aa,al,ac,ma,ml,mc,ca,cl,cc⟩:=a0
 obtain ⟨qs,clock,epoch,next,serial,apps,ms,cs⟩:=b0
 simp only at CS CI CT CE CM CW
 go_enter Tryz.func3,Tryz.ntmps3
 go_wp2_with fail
 refine (uH C0).mono ?_
 rintro e w1 ⟨r,rfl,hr,hb⟩
 have I1:=hide ((uH I0).call hb)
 clear hb C0 I0
 rcases hr with rfl | ⟨hr,hfit⟩
 ·go_wp2
  go_ret
  exact ⟨rfl,(uH I1).2⟩
 have HF:=hide hfit
 have HFS:=hide (uH HFIT hfit)
 clear hfit HFIT
 obtain ⟨p0,p1,p2,p3,p4,p5,p6,p7⟩:=uH RB _ (uH I1)
 try simp only at p0 p1 p2 p3 p4 p5 p6 p7
 go_wp2_with fail
 refine (uH CT (uH HF) _ (uH I1).2).mono ?_
 rintro e w2 ⟨f1,f2,f3,f4,rfl,hq,_,hb⟩
 have I2:=hide ((uH I1).call hb)
 have Q2:=hide hq
 have z2:w.heap.size<w2.heap.size:=(uH I2).1.lt
 clear hb hq I1 p0 p1 p2 p3 p4 p5 p6 p7
 go_wp2_with fail
 refine (uH CS (uH HF) _ _ _ _ _ (uH Q2)).mono ?_
 rintro e w3 ⟨yw,hw,rfl,haw,hkw,hb⟩
 have I3:=hide ((((uH I2).call hb).al (.cells (svc yw S1) 34)).al (.cells #[.int .i64 c0,.int .i64 c1,.string (bs cn),.int .i64 c3,.int .i64 c4] 38))
 have A3:=hide haw
 have K3:=hide hkw
 have z3:w.heap.size<w3.heap.size:=by have:=hb.size;omega
 clear hb haw hkw I2 Q2 CS
 obtain ⟨p0,p1,p2,p3,p4,p5,p6,p7⟩:=uH RB _ (uH I3)
 try simp only at p0 p1 p2 p3 p4 p5 p6 p7
 go_wp2_with fail
 refine (uH CT (uH HF) _ (uH I3).2).mono ?_
 rintro e w4 ⟨g1,g2,g3,g4,rfl,hq,hgs,hb⟩
 have A4:=hide (((uH A3).below hb).al (.cells (svc (own4 g1 g2 g3 g4 ql al ml cl) ⟨qs,clock,epoch,next,serial,apps,ms,cs⟩) 34))
 have K4:=hide (((uH K3).below hb).al (.cells (svc (own4 g1 g2 g3 g4 ql al ml cl) ⟨qs,clock,epoch,next,serial,apps,ms,cs⟩) 34))
 have N4:=hide (show InTwo w ⟨qa,ql,qc,aa,al,ac,ma,ml,mc,ca,cl,cc⟩ ⟨qs,clock,epoch,next,serial,apps,ms,cs⟩ w4.heap.size g1 g2 g3 g4 (w4.alloc (.cells (svc (own4 g1 g2 g3 g4 ql al ml cl) ⟨qs,clock,epoch,next,serial,apps,ms,cs⟩) 34)) from ⟨((uH I3).call hb).al _,yD _ _ _,SOwn4.below hq (yA (Below.refl _ _) _)⟩)
 have W4:=hide (((uH CW (uH HF) _ _ _ _ _ hq).mono (show w3.heap.size+1+1≤g2+1 by rw [yE,yE] at hgs;omega) (Nat.le_refl _)).below (yA (Below.refl _ _) (.cells (svc (own4 g1 g2 g3 g4 ql al ml cl) ⟨qs,clock,epoch,next,serial,apps,ms,cs⟩) 34)))
 have hg4:g4<w4.heap.size:=hq.2.2.2.lt
 rw [yE,yE] at hgs
 obtain ⟨hg1,hg2,hg3,hg3'⟩:=hgs
 clear hb hq I3 A3 K3 p0 p1 p2 p3 p4 p5 p6 p7
 go_wp2_with fail
 refine (uH CI (uH HF) _ _ _ _ _ (uH N4).2.2).mono ?_
 rintro e w5 ⟨yg,hg,rfl,hag,hkg,hb⟩
 rw [yE] at hag
 have A5:=hide ((((uH A4).below hb).al (.cells (svc yg S1) 34)).al (.cells #[.int .i64 c0,.int .i64 c1,.string (bs cn),.int .i64 c3,.int .i64 c4] 38))
 have K5:=hide ((((uH K4).below hb).al (.cells (svc yg S1) 34)).al (.cells #[.int .i64 c0,.int .i64 c1,.string (bs cn),.int .i64 c3,.int .i64 c4] 38))
 have N5:=hide ((((uH N4).call hb).al (.cells (svc yg S1) 34)).al (.cells #[.int .i64 c0,.int .i64 c1,.string (bs cn),.int .i64 c3,.int .i64 c4] 38))
 have W5:=hide ((((uH W4).below hb)).below (yA (yA (Below.refl _ _) (.cells (svc yg S1) 34)) (.cells #[.int .i64 c0,.int .i64 c1,.string (bs cn),.int .i64 c3,.int .i64 c4] 38)))
 have G5:=hide hag
 have L5:=hide hkg
 have z5:w4.heap.size<w5.heap.size:=((uH N4).2.1.below hb).lt
 have HLIM:=hide (hag.a.lim (uH HFS))
 clear hb hag hkg N4 A4 K4 W4
 obtain ⟨v0,v1,v2,v3,v4,v5,v6,v7⟩:=(uH A5).read
 obtain ⟨u0,u1,u2,u3,u4,u5,u6,u7⟩:=(uH G5).read
 obtain ⟨gw,hgw⟩:∃g,w3.heap.size=g:=⟨_,rfl⟩
 obtain ⟨gx,hgx⟩:∃g,w4.heap.size=g:=⟨_,rfl⟩
 rw [hgw] at A5 K5 W5 z3 hg1 v0 v1 v2 v3 v4 v5 v6 v7
 rw [hgx] at N5 W5 G5 z5 hg4
 have HGW:=hide hgw
 rw [hgw,hgx]
 clear hgw hgx
 obtain ⟨gg,hgg⟩:∃g,w5.heap.size=g:=⟨_,rfl⟩
 rw [hgg] at L5 G5 z5 u0 u1 u2 u3 u4 u5 u6 u7
 go_wp2_with fail
 clear hgg
 refine (eqState_same yg yw S1 _ (uH G5).a.row (uH A5).a.row (uH HFS)).mono ?_
 rintro e w6 ⟨rfl,hb⟩
 have A6:=hide ((uH A5).below hb)
 have N6:=hide ((uH N5).call hb)
 have W6:=hide ((uH W5).below hb)
 have G6:=hide ((uH G5).below hb)
 have K6:=hide ((uH K5).below hb)
 have L6:=hide ((uH L5).below hb)
 clear hb A5 N5 W5 G5 K5 L5 v0 v1 v2 v3 v4 v5 v6 v7 u0 u1 u2 u3 u4 u5 u6 u7
 have k0:=(uH K6).at 0;have k1:=(uH K6).at 1;have k2:=(uH K6).at 2;have k3:=(uH K6).at 3;have k4:=(uH K6).at 4
 have l0:=(uH L6).at 0;have l1:=(uH L6).at 1;have l2:=(uH L6).at 2;have l3:=(uH L6).at 3;have l4:=(uH L6).at 4
 simp at k0 k1 k2 k3 k4 l0 l1 l2 l3 l4
 go_wp2_with fail
 refine (eqCont_same ⟨c0,c1,cn,c3,c4⟩ _).mono ?_
 rintro e w6b ⟨rfl,hb⟩
 have A6b:=hide ((uH A6).below hb)
 have N6b:=hide ((uH N6).call hb)
 have W6b:=hide ((uH W6).below hb)
 have G6b:=hide ((uH G6).below hb)
 have K6b:=hide ((uH K6).below hb)
 have L6b:=hide ((uH L6).below hb)
 clear hb A6 N6 W6 G6 K6 L6 k0 k1 k2 k3 k4 l0 l1 l2 l3 l4
 have R:=fun wx (h:InTwoB w6b w ⟨qa,ql,qc,aa,al,ac,ma,ml,mc,ca,cl,cc⟩ ⟨qs,clock,epoch,next,serial,apps,ms,cs⟩ gx g1 g2 g3 g4 wx)=>InTwo.read w ⟨qa,ql,qc,aa,al,ac,ma,ml,mc,ca,cl,cc⟩ ⟨qs,clock,epoch,next,serial,apps,ms,cs⟩ gx g1 g2 g3 g4 wx h.1
 simp only at R
 have N6B:=hide (show InTwoB w6b w ⟨qa,ql,qc,aa,al,ac,ma,ml,mc,ca,cl,cc⟩ ⟨qs,clock,epoch,next,serial,apps,ms,cs⟩ gx g1 g2 g3 g4 w6b from ⟨uH N6b,Below.refl _ _⟩)
 clear N6b
 go_wp2_with fail
 go_region_held3 (fun wx=>InTwoB w6b w ⟨qa,ql,qc,aa,al,ac,ma,ml,mc,ca,cl,cc⟩ ⟨qs,clock,epoch,next,serial,apps,ms,cs⟩ gx g1 g2 g3 g4 wx)
  (first | (with_reducible assumption) | exact uH SA | exact (uH N6B).drew | exact InTwoB.call (by assumption) (by assumption))
  (first
  | (go_at_call 7;refine (uH CT (uH HF) _ ?_).mono ?_;(exact (show InTwoB w6b w ⟨qa,ql,qc,aa,al,ac,ma,ml,mc,ca,cl,cc⟩ ⟨qs,clock,epoch,next,serial,apps,ms,cs⟩ gx g1 g2 g3 g4 _ by assumption).1.1.2);rintro e wt ⟨k1,k2,k3,k4,rfl,hk,_,hb⟩;have HK:=hide hk;have SA:=InTwoB.call (w9:=w6b) (w:=w) (x:=⟨qa,ql,qc,aa,al,ac,ma,ml,mc,ca,cl,cc⟩) (s:=⟨qs,clock,epoch,next,serial,apps,ms,cs⟩) (g:=gx) (g1:=g1) (g2:=g2) (g3:=g3) (g4:=g4) (by assumption) hb)
  | (go_at_call 9;refine (uH CE (uH HF) _ _ _ _ _ _ _ _ _ ?_ ?_).mono ?_;(exact (show InTwoB w6b w ⟨qa,ql,qc,aa,al,ac,ma,ml,mc,ca,cl,cc⟩ ⟨qs,clock,epoch,next,serial,apps,ms,cs⟩ gx g1 g2 g3 g4 _ by assumption).1.2.2);(exact uH HK);rintro e wu ⟨rfl,hb⟩;have SA:=InTwoB.call (w9:=w6b) (w:=w) (x:=⟨qa,ql,qc,aa,al,ac,ma,ml,mc,ca,cl,cc⟩) (s:=⟨qs,clock,epoch,next,serial,apps,ms,cs⟩) (g:=gx) (g1:=g1) (g2:=g2) (g3:=g3) (g4:=g4) (by assumption) hb))
 all_goals
  have A7:=hide ((uH A6b).below SA.2)
  have G7:=hide ((uH G6b).below SA.2)
  have W7:=hide ((uH W6b).below SA.2)
  have N7:=hide SA.1
  have K7:=hide ((uH K6b).below SA.2)
  have L7:=hide ((uH L6b).below SA.2)
  clear SA A6b G6b W6b N6B R K6b L6b
  obtain ⟨_,q0,q1,q2,q3,q4,q5,q6,q7⟩:=InTwo.read w ⟨qa,ql,qc,aa,al,ac,ma,ml,mc,ca,cl,cc⟩ ⟨qs,clock,epoch,next,serial,apps,ms,cs⟩ gx g1 g2 g3 g4 _ (uH N7)
  try simp only at q0 q1 q2 q3 q4 q5 q6 q7
  go_wp2_with fail
  refine (uH CM (uH HF) (gw+1+1) gx g1 g2 g3 g4 _ (uH N7).2.2 (uH W7) ⟨by omega,hg2,hg3,hg3',hg4⟩ (Nat.le_of_lt (uH N7).2.1.lt)).mono ?_
  rintro e w8 ⟨k,rfl,hk,hm⟩
  have I8:=hide ((uH N7).1.mkd hm (by omega) (by have:=(uH N7).2.1.lt;omega))
  have A8:=hide ((uH A7).offd hm (.inl (by omega)) (.inl (by omega)))
  have G8:=hide ((uH G7).offd hm (.inr (by omega)) (.inr (by omega)))
  have K8:=hide ((uH K7).offd hm (.inl (by omega)))
  have L8:=hide ((uH L7).offd hm (.inr (by omega)))
  clear hm N7 A7 G7 W7 K7 L7 q0 q1 q2 q3 q4 q5 q6 q7 CM CE CW
  obtain ⟨v0,v1,v2,v3,v4,v5,v6,v7⟩:=(uH A8).read
  obtain ⟨u0,u1,u2,u3,u4,u5,u6,u7⟩:=(uH G8).read
  have hkn:¬k<0:=by omega
  go_wp2_with fail
  refine (eqState_same yg yw S1 _ (uH G8).a.row (uH A8).a.row (uH HFS)).mono ?_
  rintro e w9 ⟨rfl,hb⟩
  have A9:=hide ((uH A8).below hb)
  have G9:=hide ((uH G8).below hb)
  have I9:=hide ((uH I8).call hb)
  have K9:=hide ((uH K8).below hb)
  have L9:=hide ((uH L8).below hb)
  clear hb A8 G8 I8 K8 L8 v0 v1 v2 v3 v4 v5 v6 v7 u0 u1 u2 u3 u4 u5 u6 u7
  have k0:=(uH K9).at 0;have k1:=(uH K9).at 1;have k2:=(uH K9).at 2;have k3:=(uH K9).at 3;have k4:=(uH K9).at 4
  have l0:=(uH L9).at 0;have l1:=(uH L9).at 1;have l2:=(uH L9).at 2;have l3:=(uH L9).at 3;have l4:=(uH L9).at 4
  simp at k0 k1 k2 k3 k4 l0 l1 l2 l3 l4
  go_wp2_with fail
  refine (eqCont_same ⟨c0,c1,cn,c3,c4⟩ _).mono ?_
  rintro e w9b ⟨rfl,hb⟩
  have A9b:=hide ((uH A9).below hb)
  have G9b:=hide ((uH G9).below hb)
  have I9b:=hide ((uH I9).call hb)
  have K9b:=hide ((uH K9).below hb)
  clear hb A9 G9 I9 K9 L9 k0 k1 k2 k3 k4 l0 l1 l2 l3 l4
  obtain ⟨u0,u1,u2,u3,u4,u5,u6,u7⟩:=(uH G9b).read
  go_wp2_with fail
  refine (mark_st (uH G9b) (uH HLIM)).mono ?_
  rintro e w10 ⟨rfl,hH,hm⟩
  have hin:=(uH G9b).a.ins
  have zg:=(uH G9b).box.lt
  have I10:=hide ((uH I9b).off hm (B:=gx+1) (fun k hk=>(hin k hk).1) (by omega) (by omega))
  have A10:=hide ((uH A9b).off hm hin (.inl (by omega)) (.inl (by omega)))
  have K10:=hide (hm.blk (uH K9b) (fun hk=>by have:=hin _ hk;omega))
  have M10:=hide hH.done
  clear hm hH hin zg A9b G9b I9b K9b u0 u1 u2 u3 u4 u5 u6 u7
  obtain ⟨u0,u1,u2,u3,u4,u5,u6,u7⟩:=(uH M10).read
  go_wp2_with fail
  refine (heldState_ans S1 (uH M10).m (uH HLIM)).mono ?_
  rintro e w11 ⟨rfl,hb⟩
  have I11:=hide ((uH I10).call hb)
  have A11:=hide ((uH A10).below hb)
  have M11:=hide ((uH M10).below hb)
  have K11:=hide ((uH K10).below hb)
  clear hb I10 A10 M10 K10 u0 u1 u2 u3 u4 u5 u6 u7
  have he1:¬((endS yg hg:Nat):Int)<0:=by omega
  have I11b:=I11
  have A11b:=A11
  have M11b:=M11
  clear I11 A11 M11
  obtain ⟨p0,p1,p2,p3,p4,p5,p6,p7⟩:=uH RB _ (uH I11b)
  try simp only at p0 p1 p2 p3 p4 p5 p6 p7
  go_wp2_with fail
  refine (uH CT (uH HF) _ (uH I11b).2).mono ?_
  rintro e w12 ⟨h1,h2,h3,h4,rfl,hq,_,hb⟩
  have I12:=hide ((uH I11b).call hb)
  have A12:=hide ((uH A11b).below hb)
  have M12:=hide ((uH M11b).below hb)
  have Q12:=hide hq
  have K12:=hide ((uH K11).below hb)
  clear hb hq I11b A11b M11b K11 p0 p1 p2 p3 p4 p5 p6 p7
  go_wp2_with fail
  refine (uH CI (uH HF) _ _ _ _ _ (uH Q12)).mono ?_
  rintro e w13 ⟨yh,hh,rfl,hah,hkh,hb⟩
  have I13:=hide ((((uH I12).call hb).al (.cells (svc yh S1) 34)).al (.cells #[.int .i64 c0,.int .i64 c1,.string (bs cn),.int .i64 c3,.int .i64 c4] 38))
  have A13:=hide ((((uH A12).below hb).al (.cells (svc yh S1) 34)).al (.cells #[.int .i64 c0,.int .i64 c1,.string (bs cn),.int .i64 c3,.int .i64 c4] 38))
  have M13:=hide ((((uH M12).below hb).al (.cells (svc yh S1) 34)).al (.cells #[.int .i64 c0,.int .i64 c1,.string (bs cn),.int .i64 c3,.int .i64 c4] 38))
  have K13:=hide ((((uH K12).below hb).al (.cells (svc yh S1) 34)).al (.cells #[.int .i64 c0,.int .i64 c1,.string (bs cn),.int .i64 c3,.int .i64 c4] 38))
  have S13:=hide hah
  have L13:=hide hkh
  clear hb hah hkh I12 A12 M12 K12 Q12 CI CT
  obtain ⟨gh,hgh⟩:∃g,w13.heap.size=g:=⟨_,rfl⟩
  rw [hgh] at L13 S13
  obtain ⟨v0,v1,v2,v3,v4,v5,v6,v7⟩:=(uH A13).read
  obtain ⟨u0,u1,u2,u3,u4,u5,u6,u7⟩:=(uH S13).read
  go_wp2_with fail
  clear hgh
  refine (eqState_same yh yw S1 _ (uH S13).a.row (uH A13).a.row (uH HFS)).mono ?_
  rintro e w14 ⟨rfl,hb⟩
  have I14:=hide ((uH I13).call hb)
  have A14:=hide ((uH A13).below hb)
  have M14:=hide ((uH M13).below hb)
  have K14:=hide ((uH K13).below hb)
  have L14:=hide ((uH L13).below hb)
  clear hb I13 A13 M13 S13 K13 L13 v0 v1 v2 v3 v4 v5 v6 v7 u0 u1 u2 u3 u4 u5 u6 u7
  have k0:=(uH K14).at 0;have k1:=(uH K14).at 1;have k2:=(uH K14).at 2;have k3:=(uH K14).at 3;have k4:=(uH K14).at 4
  have l0:=(uH L14).at 0;have l1:=(uH L14).at 1;have l2:=(uH L14).at 2;have l3:=(uH L14).at 3;have l4:=(uH L14).at 4
  simp at k0 k1 k2 k3 k4 l0 l1 l2 l3 l4
  go_wp2_with fail
  refine (eqCont_same ⟨c0,c1,cn,c3,c4⟩ _).mono ?_
  rintro e w14b ⟨rfl,hb⟩
  have I14b:=hide ((uH I14).call hb)
  have M14b:=hide ((uH M14).below hb)
  clear hb I14 A14 M14 K14 L14 k0 k1 k2 k3 k4 l0 l1 l2 l3 l4
  obtain ⟨u0,u1,u2,u3,u4,u5,u6,u7⟩:=(uH M14b).read
  go_wp2_with fail
  refine (heldState_ans S1 (uH M14b).m (uH HLIM)).mono ?_
  rintro e w15 ⟨rfl,hb⟩
  have HB:=hide (yB (uH I14b).2 hb)
  clear hb I14b M14b u0 u1 u2 u3 u4 u5 u6 u7
  go_wp2
  go_ret
  exact ⟨rfl,uH HB⟩
set_option maxRecDepth 100000 in
theorem lifted (os:Os) (started:os.Started) (H:Type) (enc:TypeId×Value→H) :
  ReturnsInHanded {} Tryz.checked os 3 .any (Rows.fnExactGrantSpec.pre6 enc Tryz.prog Tryz.f3 Rows.fnExactGrantRow.domain false) (Rows.fnExactGrantSpec.post enc Tryz.prog Tryz.f3 false true false false):=by
 refine returnsInHanded_of_change (C:=Tryz.checked) own started (by kernel_rfl) Tryz.func3
  (ChangeSpec.witness6 (enc:=enc) (C:=Tryz.checked) false ⟨#[],#[.agg #[.slice none 0 0,.int .i64 0,.int .i64 0,.int .i64 0,.int .i64 0,.slice none 0 0,.slice none 0 0,.slice none 0 0],.string ByteArray.empty],[]⟩ 8 (by kernel_rfl) (by kernel_rfl) (by kernel_rfl) (by kernel_rfl)) ?_
 intro W base args ds gs before hval0 hW hcnd _
 have hval:∀(j:Nat) t v,Tryz.f3.params[j]? = some t→args[j]? = some v→Value.okWide Tryz.prog W .any base t v:=hval0
 have hW':=hW
 obtain ⟨p,q,hA0,hV,rfl,hfz,hnd⟩:=hW
 have hA:DataW.TrodAll enc Tryz.prog W 0 (fun _=>true) true Tryz.f3.params.toList args.toList ds p:=hA0
 rw [Tryz.params3] at hA hval
 obtain ⟨v0,vs0,d0,ds0,p0,q0,hargs,rfl,rfl,h0,r0⟩:=trodAll_cons hA
 obtain ⟨v1,vs1,d1,ds1,p1,q1,rfl,rfl,rfl,h1,r1⟩:=trodAll_cons r0
 obtain ⟨rfl,rfl,rfl⟩:=trodAll_nil r1
 obtain rfl:args=#[v0,v1]:=by cases args;simp_all
 obtain ⟨rfl,rfl⟩:=trodVars_none hV
 have k0:=h0
 have lt0:∀x ∈ p0,x.block<W.heap.size:=by obtain ⟨m,hm⟩:=k0;exact DataW.trod_lt m _ _ _ hm
 obtain ⟨a0,b0,rfl,w0,x0⟩:=open_state (hval 0 27 v0 rfl rfl) h0
 obtain ⟨a1,rfl,rfl,rfl,w1⟩:=open_string Tryz.underlying9 (hval 1 9 v1 rfl rfl) h1
 clear hA0 hval0
 refine (walk a0 b0 a1 W w0 x0 w1).mono fun e W' ⟨he,bel⟩=>?_
 subst he
 exact ⟨_,rfl,_,_,_,[],_,[],hW',trodAll_mk1 (shut_bool Tryz.underlying4 _),(trodAll_cons_mk (Below.trod laidOut (by kernel_rfl) (of_decide_eq_true (by kernel_rfl)) k0 bel lt0) (trodAll_cons_mk (shut_string Tryz.underlying9 w1) trodAll_mk0)),rfl,bel.frame _,fun h=>by cases h⟩
set_option maxRecDepth 100000 in
set_option maxHeartbeats 16000000 in
theorem closed:joinedFacts Tryz.prog 3 Tryz.f3 Rows.fnExactGrantSpec Rows.fnExactGrantRow=true:=by
 unfold joinedFacts
 repeat rw [Bool.and_eq_true]
 repeat' apply And.intro
 all_goals (as_aux_lemma=>kernel_rfl)
theorem over:Rows.fnExactGrantRow.holds Tryz.pinned (OpenSpec.ofChange Rows.fnExactGrantSpec):=
 OpenClaim.holds_of_wide 3 Tryz.f3 rfl rfl rfl rfl rfl rfl rfl ⟨rfl,rfl,rfl,rfl,rfl⟩ rfl rfl rfl rfl rfl (by kernel_rfl) Tryz.func3 closed
  (of_decide_eq_true (by kernel_rfl)) (by unfold Func.isWrapper;first | (rw [if_pos (by decide +kernel)];kernel_rfl) | (rw [if_neg (by decide +kernel)];exact ⟨rfl,rfl⟩))
  (fun os started H enc _=>lifted os started H enc)
end Go.Proofs.YtdhibeclkdepiaaGreat.fnExactGrant
namespace Go.Proofs.YtdhibeclkdepiaaGreat
theorem fnExactGrant_holds:Rows.FnExactGrantSaid:=fnExactGrant.over
#print axioms fnExactGrant_holds
end Go.Proofs.YtdhibeclkdepiaaGreat
