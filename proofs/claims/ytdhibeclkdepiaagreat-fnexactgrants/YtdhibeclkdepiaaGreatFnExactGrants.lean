/-
  The law FnExactGrants answers true at every state, every text and every number: the program's Grants answers as the model's, writes into nothing that it was handed and keeps nothing of it, and its answer owns its memory, behind another call too; no condition.
-/
import Derived.Test.YtdhibeclkdepiaaGreatSackAC
import Derived.ShutString
import Derived.ChangeOld
namespace Go.Proofs.YtdhibeclkdepiaaGreat.fnExactGrants
open Go.ChangeShapes Go.WideShapes Go.ChangeAt Go.RowKit
open Go.ChangeMaps (open_string shut_string)
set_option linter.unusedVariables false
theorem own:ownKnob Tryz.prog.godebug=none:=by kernel_rfl
theorem aKW:laidOutB Tryz.prog=true:=by kernel_rfl
theorem aGS {s:St} {nd:List UInt8} {most:Int} (hn:nd.length≤1048576) (hf:bD s) (hw:pX s):bD (fH s nd most).1∧(fH s nd most).2.length≤1048576:=by
 obtain ⟨a,_,b⟩:=aEQ (most:=most) hn hf hw
 exact ⟨a,by omega⟩
set_option maxRecDepth 100000 in
set_option maxHeartbeats 16000000 in
theorem aBn (a0:Sls) (b0:St) (a1:ByteArray) (a2:Int) (w:World) (w0:jC w a0 b0) (x0:aGb a0 b0) (w1:a1.size≤maxLen) (w2:(Lit.int .i64 a2).wf=true) :
  Calls Tryz.prog 4 #[sv a0 b0,.string a1,.int .i64 a2] w fun e w'=>e=.returned (.bool true)∧Below w.heap.size w w':=by
 clear w1
 obtain ⟨nm,rfl⟩:∃nm,a1=bs nm:=⟨a1.data.toList,by simp [bs]⟩
 by_cases hbig:(bs nm).size≤1048576
 case neg=>
  go_enter Tryz.func4,Tryz.ntmps4
  go_wp2
  go_ret
  exact ⟨rfl,yA (yH _ _) _⟩
 have hnm:nm.length≤1048576:=by rw [dI] at hbig;exact hbig
 have HR:=aA w0
 have HLEN:=aA w0.len
 have I0:=aA (jD.new w a0 b0)
 have C0:=aA (aD3 a0 b0 _ (w0.below (uH I0).2) x0.big)
 have RB:=aA (jD.read w a0 b0)
 have HFIT:=aA (fun hf:bD b0=>aGS (most:=a2) hnm hf x0.wfs)
 obtain ⟨⟨S1,G1⟩,hap⟩:∃r,fH b0 nm a2=r:=⟨_,rfl⟩
 rw [hap] at HFIT
 simp only at HFIT
 have CS:=aA (fun (hf:bD b0) g1 g2 g3 g4 wx (h:iU wx g1 g2 g3 g4 a0.ql a0.al a0.ml a0.cl b0)=>by
  obtain ⟨hs0,h1,h2,h3⟩:=aFq h (uH HLEN)
  have:=(zC (aDo g1 g2 g3 g4 a0.ql a0.al a0.ml a0.cl) b0 hs0 nm a2 wx (h.row (uH HLEN)) h1 h2 h3 hf x0.wfs hnm).mono (fun e w' h=>h.lay)
  rw [hap] at this
  exact this)
 have CI:=aA (fun (hf:bD b0) g1 g2 g3 g4 wx (h:iU wx g1 g2 g3 g4 a0.ql a0.al a0.ml a0.cl b0)=>by
  have:=(zS (aDo g1 g2 g3 g4 a0.ql a0.al a0.ml a0.cl) b0 nm a2 wx (h.row (uH HLEN)) hf (yJ _) x0.wfs hnm).mono (fun e w' h=>h.lay)
  rw [hap] at this
  exact this)
 have CT:=aA (fun (hf:bD b0) wx (hb:Below w.heap.size w wx)=>aD0 a0 b0 wx ((uH HR).below hb) hf)
 have CE:=aA (fun (hf:bD b0) g1 g2 g3 g4 k1 k2 k3 k4 wx (h:iU wx g1 g2 g3 g4 a0.ql a0.al a0.ml a0.cl b0) (k:iU wx k1 k2 k3 k4 a0.ql a0.al a0.ml a0.cl b0)=>kU (aDo g1 g2 g3 g4 a0.ql a0.al a0.ml a0.cl) (aDo k1 k2 k3 k4 a0.ql a0.al a0.ml a0.cl) b0 wx (h.row (uH HLEN)) (k.row (uH HLEN)) hf)
 have CM:=aA (fun (hf:bD b0) B E g1 g2 g3 g4 wx (h:iU wx g1 g2 g3 g4 a0.ql a0.al a0.ml a0.cl b0) (ha:AWh wx B E g2 a0.al) (hb:B≤g1∧g1<g2∧g2<g3∧g3<g4∧g4<E) (hE:E≤wx.heap.size)=>aBN B E g1 g2 g3 g4 a0.ql a0.al a0.ml a0.cl b0 wx h.1.cel ha h.2.2.1.cel h.2.2.2.cel hb hE (by have:=(uH HLEN).1;have:=hf.1.1;omega) (by have:=(uH HLEN).2.1;have:=hf.2.1.1;omega) (by have:=(uH HLEN).2.2.1;have:=hf.2.2.1.1;omega) (by have:=(uH HLEN).2.2.2;have:=hf.2.2.2.1;omega))
 have CW:=aA (fun (hf:bD b0) g1 g2 g3 g4 wx (h:iU wx g1 g2 g3 g4 a0.ql a0.al a0.ml a0.cl b0)=>h.2.1.wh (uH HLEN).2.1 (fun q hq=>(hf.2.1.2 q hq).2.1))
 clear w0 x0 hap w2
 obtain ⟨qa,ql,qc,aa,al,ac,ma,ml,mc,ca,cl,cc⟩:=a0
 obtain ⟨qs,clock,epoch,next,serial,apps,ms,cs⟩:=b0
 simp only at CS CI CT CE CM CW
 go_enter Tryz.func4,Tryz.ntmps4
 go_wp2_with fail
 refine (uH C0).mono ?_
 rintro e w1 ⟨r,rfl,hr,hb⟩
 have I1:=aA ((uH I0).call hb)
 clear hb C0 I0
 rcases hr with rfl | ⟨hr,hfit⟩
 ·go_wp2
  go_ret
  exact ⟨rfl,(uH I1).2⟩
 have HF:=aA hfit
 obtain ⟨hfs,hla⟩:=uH HFIT hfit
 have HFS:=aA hfs
 obtain ⟨n,hnn⟩:∃n,G1.length=n:=⟨_,rfl⟩
 rw [hnn] at hla
 have HNN:=aA hnn
 clear hfit HFIT hnn hfs
 obtain ⟨p0,p1,p2,p3,p4,p5,p6,p7⟩:=uH RB _ (uH I1)
 try simp only at p0 p1 p2 p3 p4 p5 p6 p7
 go_wp2_with fail
 refine (uH CT (uH HF) _ (uH I1).2).mono ?_
 rintro e w2 ⟨f1,f2,f3,f4,rfl,hq,_,hb⟩
 have I2:=aA ((uH I1).call hb)
 have Q2:=aA hq
 have z2:w.heap.size<w2.heap.size:=(uH I2).1.lt
 clear hb hq I1 p0 p1 p2 p3 p4 p5 p6 p7
 go_wp2_with fail
 refine (uH CS (uH HF) _ _ _ _ _ (uH Q2)).mono ?_
 rintro e w3 ⟨yw,hw,wo,wn,wc,rfl,haw,hb⟩
 obtain rfl:wn=n:=haw.c.1.trans (uH HNN)
 have I3:=aA (((uH I2).call hb).al (.cells (svc yw S1) 34))
 have A3:=aA haw
 have z3:w.heap.size<w3.heap.size:=by have:=hb.size;omega
 clear hb haw I2 Q2 CS
 obtain ⟨p0,p1,p2,p3,p4,p5,p6,p7⟩:=uH RB _ (uH I3)
 try simp only at p0 p1 p2 p3 p4 p5 p6 p7
 go_wp2_with fail
 refine (uH CT (uH HF) _ (uH I3).2).mono ?_
 rintro e w4 ⟨g1,g2,g3,g4,rfl,hq,hgs,hb⟩
 have A4:=aA (((uH A3).below hb).al (.cells (svc (aDo g1 g2 g3 g4 ql al ml cl) ⟨qs,clock,epoch,next,serial,apps,ms,cs⟩) 34))
 have N4:=aA (show pU w ⟨qa,ql,qc,aa,al,ac,ma,ml,mc,ca,cl,cc⟩ ⟨qs,clock,epoch,next,serial,apps,ms,cs⟩ w4.heap.size g1 g2 g3 g4 (w4.alloc (.cells (svc (aDo g1 g2 g3 g4 ql al ml cl) ⟨qs,clock,epoch,next,serial,apps,ms,cs⟩) 34)) from ⟨((uH I3).call hb).al _,yD _ _ _,iU.below hq (yA (yH _ _) _)⟩)
 have W4:=aA (((uH CW (uH HF) _ _ _ _ _ hq).mono (show w3.heap.size+1≤g2+1 by rw [yE] at hgs;omega) (yJ _)).below (yA (yH _ _) (.cells (svc (aDo g1 g2 g3 g4 ql al ml cl) ⟨qs,clock,epoch,next,serial,apps,ms,cs⟩) 34)))
 have hg4:g4<w4.heap.size:=hq.2.2.2.lt
 rw [yE] at hgs
 obtain ⟨hg1,hg2,hg3,hg3'⟩:=hgs
 clear hb hq I3 A3 p0 p1 p2 p3 p4 p5 p6 p7
 go_wp2_with fail
 refine (uH CI (uH HF) _ _ _ _ _ (uH N4).2.2).mono ?_
 rintro e w5 ⟨yg,hg,go,gn,gc,rfl,hag,hb⟩
 obtain rfl:gn=wn:=hag.c.1.trans (uH HNN)
 rw [yE] at hag
 have A5:=aA (((uH A4).below hb).al (.cells (svc yg S1) 34))
 have N5:=aA (((uH N4).call hb).al (.cells (svc yg S1) 34))
 have W5:=aA ((((uH W4).below hb)).below (yA (yH _ _) (.cells (svc yg S1) 34)))
 have G5:=aA hag
 have z5:w4.heap.size<w5.heap.size:=((uH N4).2.1.below hb).lt
 have HLIM:=aA (hag.a.lim (uH HFS))
 clear hb hag N4 A4 W4
 obtain ⟨v0,v1,v2,v3,v4,v5,v6,v7⟩:=(uH A5).read
 obtain ⟨u0,u1,u2,u3,u4,u5,u6,u7⟩:=(uH G5).read
 obtain ⟨gw,hgw⟩:∃g,w3.heap.size=g:=⟨_,rfl⟩
 obtain ⟨gx,hgx⟩:∃g,w4.heap.size=g:=⟨_,rfl⟩
 rw [hgw] at A5 W5 z3 hg1 v0 v1 v2 v3 v4 v5 v6 v7
 rw [hgx] at N5 W5 G5 z5 hg4
 rw [hgw,hgx]
 clear hgw hgx
 go_wp2_with fail
 refine (kU yg yw S1 _ (uH G5).a.row (uH A5).a.row (uH HFS)).mono ?_
 rintro e w6 ⟨rfl,hb⟩
 have A6:=aA ((uH A5).below hb)
 have N6:=aA ((uH N5).call hb)
 have W6:=aA ((uH W5).below hb)
 have G6:=aA ((uH G5).below hb)
 clear hb A5 N5 W5 G5 v0 v1 v2 v3 v4 v5 v6 v7 u0 u1 u2 u3 u4 u5 u6 u7
 obtain ⟨gg,hgg⟩:∃g,w5.heap.size=g:=⟨_,rfl⟩
 rw [hgg] at G6 z5
 rw [hgg]
 clear hgg
 go_wp2_with fail
 refine (kV go wo gn gc wc G1 _ (uH G6).c (uH A6).c hla).mono ?_
 rintro e w6b ⟨rfl,hb⟩
 have A6b:=aA ((uH A6).below hb)
 have N6b:=aA ((uH N6).call hb)
 have W6b:=aA ((uH W6).below hb)
 have G6b:=aA ((uH G6).below hb)
 clear hb A6 N6 W6 G6
 have R:=fun wx (h:kY w6b w ⟨qa,ql,qc,aa,al,ac,ma,ml,mc,ca,cl,cc⟩ ⟨qs,clock,epoch,next,serial,apps,ms,cs⟩ gx g1 g2 g3 g4 wx)=>pU.read w ⟨qa,ql,qc,aa,al,ac,ma,ml,mc,ca,cl,cc⟩ ⟨qs,clock,epoch,next,serial,apps,ms,cs⟩ gx g1 g2 g3 g4 wx h.1
 simp only at R
 have N6B:=aA (show kY w6b w ⟨qa,ql,qc,aa,al,ac,ma,ml,mc,ca,cl,cc⟩ ⟨qs,clock,epoch,next,serial,apps,ms,cs⟩ gx g1 g2 g3 g4 w6b from ⟨uH N6b,yH _ _⟩)
 clear N6b
 go_wp2_with fail
 go_region_held3 (fun wx=>kY w6b w ⟨qa,ql,qc,aa,al,ac,ma,ml,mc,ca,cl,cc⟩ ⟨qs,clock,epoch,next,serial,apps,ms,cs⟩ gx g1 g2 g3 g4 wx)
  (first | (with_reducible assumption) | exact uH SA | exact (uH N6B).drew | exact kY.call (by assumption) (by assumption))
  (first
  | (go_at_call 7;refine (uH CT (uH HF) _ ?_).mono ?_;(exact (show kY w6b w ⟨qa,ql,qc,aa,al,ac,ma,ml,mc,ca,cl,cc⟩ ⟨qs,clock,epoch,next,serial,apps,ms,cs⟩ gx g1 g2 g3 g4 _ by assumption).1.1.2);rintro e wt ⟨k1,k2,k3,k4,rfl,hk,_,hb⟩;have HK:=aA hk;have SA:=kY.call (w9:=w6b) (w:=w) (x:=⟨qa,ql,qc,aa,al,ac,ma,ml,mc,ca,cl,cc⟩) (s:=⟨qs,clock,epoch,next,serial,apps,ms,cs⟩) (g:=gx) (g1:=g1) (g2:=g2) (g3:=g3) (g4:=g4) (by assumption) hb)
  | (go_at_call 9;refine (uH CE (uH HF) _ _ _ _ _ _ _ _ _ ?_ ?_).mono ?_;(exact (show kY w6b w ⟨qa,ql,qc,aa,al,ac,ma,ml,mc,ca,cl,cc⟩ ⟨qs,clock,epoch,next,serial,apps,ms,cs⟩ gx g1 g2 g3 g4 _ by assumption).1.2.2);(exact uH HK);rintro e wu ⟨rfl,hb⟩;have SA:=kY.call (w9:=w6b) (w:=w) (x:=⟨qa,ql,qc,aa,al,ac,ma,ml,mc,ca,cl,cc⟩) (s:=⟨qs,clock,epoch,next,serial,apps,ms,cs⟩) (g:=gx) (g1:=g1) (g2:=g2) (g3:=g3) (g4:=g4) (by assumption) hb))
 all_goals
  have A7:=aA ((uH A6b).below SA.2)
  have G7:=aA ((uH G6b).below SA.2)
  have W7:=aA ((uH W6b).below SA.2)
  have N7:=aA SA.1
  clear SA A6b G6b W6b N6B R
  obtain ⟨_,q0,q1,q2,q3,q4,q5,q6,q7⟩:=pU.read w ⟨qa,ql,qc,aa,al,ac,ma,ml,mc,ca,cl,cc⟩ ⟨qs,clock,epoch,next,serial,apps,ms,cs⟩ gx g1 g2 g3 g4 _ (uH N7)
  try simp only at q0 q1 q2 q3 q4 q5 q6 q7
  go_wp2_with fail
  refine (uH CM (uH HF) (gw+1) gx g1 g2 g3 g4 _ (uH N7).2.2 (uH W7) ⟨by omega,hg2,hg3,hg3',hg4⟩ (Nat.le_of_lt (uH N7).2.1.lt)).mono ?_
  rintro e w8 ⟨k,rfl,hk,hm⟩
  have I8:=aA ((uH N7).1.mkd hm (by omega) (by have:=(uH N7).2.1.lt;omega))
  have A8:=aA ((uH A7).offd hm (.inl (by omega)) (.inl (by omega)))
  have G8:=aA ((uH G7).offd hm (.inr (by omega)) (.inr (by omega)))
  clear hm N7 A7 G7 W7 q0 q1 q2 q3 q4 q5 q6 q7 CM CE CW
  obtain ⟨v0,v1,v2,v3,v4,v5,v6,v7⟩:=(uH A8).read
  obtain ⟨u0,u1,u2,u3,u4,u5,u6,u7⟩:=(uH G8).read
  have hkn:¬k<0:=by omega
  go_wp2_with fail
  refine (kU yg yw S1 _ (uH G8).a.row (uH A8).a.row (uH HFS)).mono ?_
  rintro e w9 ⟨rfl,hb⟩
  have A9:=aA ((uH A8).below hb)
  have G9:=aA ((uH G8).below hb)
  have I9:=aA ((uH I8).call hb)
  clear hb A8 G8 I8 v0 v1 v2 v3 v4 v5 v6 v7 u0 u1 u2 u3 u4 u5 u6 u7
  go_wp2_with fail
  refine (kV go wo gn gc wc G1 _ (uH G9).c (uH A9).c hla).mono ?_
  rintro e w9b ⟨rfl,hb⟩
  have A9b:=aA ((uH A9).below hb)
  have G9b:=aA ((uH G9).below hb)
  have I9b:=aA ((uH I9).call hb)
  clear hb A9 G9 I9
  obtain ⟨u0,u1,u2,u3,u4,u5,u6,u7⟩:=(uH G9b).read
  go_wp2_with fail
  refine (aKQ (uH G9b) (uH HLIM)).mono ?_
  rintro e w10 ⟨rfl,hH,hm⟩
  have hin:=(uH G9b).a.ins
  have zg:=(uH G9b).box.lt
  have I10:=aA ((uH I9b).off hm (B:=gx+1) (fun k hk=>(hin k hk).1) (by omega) (by omega))
  have A10:=aA ((uH A9b).off hm hin (.inl (by omega)) (.inl (by omega)))
  have H10:=aA hH
  clear hm hH hin zg A9b G9b I9b u0 u1 u2 u3 u4 u5 u6 u7
  go_wp2_with fail
  refine (aHa (uH H10) (uH HLIM) hla).mono ?_
  rintro e w10b ⟨rfl,hM,hm⟩
  have hin:=fun k hk=>(uH H10).co.lies k hk
  have zg:=(uH H10).box.lt
  have I10b:=aA ((uH I10).off hm (B:=gx+1) (fun k hk=>(hin k hk).1) (by omega) (by omega))
  have A10b:=aA ((uH A10).off hm (fun k hk=>⟨(hin k hk).1,(hin k hk).2.1⟩) (.inl (by omega)) (.inl (by omega)))
  have M10:=aA hM
  clear hm hM hin zg A10 H10 I10
  obtain ⟨u0,u1,u2,u3,u4,u5,u6,u7⟩:=(uH M10).read
  go_wp2_with fail
  refine (rC S1 (uH M10).m (uH HLIM)).mono ?_
  rintro e w11 ⟨rfl,hb⟩
  have I11:=aA ((uH I10b).call hb)
  have A11:=aA ((uH A10b).below hb)
  have M11:=aA ((uH M10).below hb)
  clear hb I10b A10b M10 u0 u1 u2 u3 u4 u5 u6 u7
  have he1:¬((aDA yg hg:Nat):Int)<0:=by omega
  have he2:¬(((aDA yg hg:Nat):Int)+5*(gn:Int))<0:=by omega
  go_wp2_with fail
  refine (aCt (uH M11) (uH HLIM) hla).mono ?_
  rintro e w11b ⟨rfl,hb⟩
  have I11b:=aA ((uH I11).call hb)
  have A11b:=aA ((uH A11).below hb)
  have M11b:=aA ((uH M11).below hb)
  clear hb I11 A11 M11
  obtain ⟨p0,p1,p2,p3,p4,p5,p6,p7⟩:=uH RB _ (uH I11b)
  try simp only at p0 p1 p2 p3 p4 p5 p6 p7
  go_wp2_with fail
  refine (uH CT (uH HF) _ (uH I11b).2).mono ?_
  rintro e w12 ⟨h1,h2,h3,h4,rfl,hq,_,hb⟩
  have I12:=aA ((uH I11b).call hb)
  have A12:=aA ((uH A11b).below hb)
  have M12:=aA ((uH M11b).below hb)
  have Q12:=aA hq
  clear hb hq I11b A11b M11b p0 p1 p2 p3 p4 p5 p6 p7
  go_wp2_with fail
  refine (uH CI (uH HF) _ _ _ _ _ (uH Q12)).mono ?_
  rintro e w13 ⟨yh,hh,so,sn,sc,rfl,hah,hb⟩
  obtain rfl:sn=gn:=hah.c.1.trans (uH HNN)
  have I13:=aA (((uH I12).call hb).al (.cells (svc yh S1) 34))
  have A13:=aA (((uH A12).below hb).al (.cells (svc yh S1) 34))
  have M13:=aA (((uH M12).below hb).al (.cells (svc yh S1) 34))
  have S13:=aA hah
  clear hb hah I12 A12 M12 Q12 CI CT
  obtain ⟨v0,v1,v2,v3,v4,v5,v6,v7⟩:=(uH A13).read
  obtain ⟨u0,u1,u2,u3,u4,u5,u6,u7⟩:=(uH S13).read
  go_wp2_with fail
  refine (kU yh yw S1 _ (uH S13).a.row (uH A13).a.row (uH HFS)).mono ?_
  rintro e w14 ⟨rfl,hb⟩
  have I14:=aA ((uH I13).call hb)
  have A14:=aA ((uH A13).below hb)
  have M14:=aA ((uH M13).below hb)
  have S14:=aA ((uH S13).below hb)
  clear hb I13 A13 M13 S13 v0 v1 v2 v3 v4 v5 v6 v7 u0 u1 u2 u3 u4 u5 u6 u7
  go_wp2_with fail
  refine (kV so wo sn sc wc G1 _ (uH S14).c (uH A14).c hla).mono ?_
  rintro e w14b ⟨rfl,hb⟩
  have I14b:=aA ((uH I14).call hb)
  have M14b:=aA ((uH M14).below hb)
  clear hb I14 A14 M14 S14
  obtain ⟨u0,u1,u2,u3,u4,u5,u6,u7⟩:=(uH M14b).read
  go_wp2_with fail
  refine (rC S1 (uH M14b).m (uH HLIM)).mono ?_
  rintro e w15 ⟨rfl,hb⟩
  have I15:=aA ((uH I14b).call hb)
  have M15:=aA ((uH M14b).below hb)
  clear hb I14b M14b u0 u1 u2 u3 u4 u5 u6 u7
  go_wp2_with fail
  refine (aCt (uH M15) (uH HLIM) hla).mono ?_
  rintro e w16 ⟨rfl,hb⟩
  have HB:=aA (yB (uH I15).2 hb)
  clear hb I15 M15
  go_wp2
  go_ret
  exact ⟨rfl,uH HB⟩
set_option maxRecDepth 100000 in
theorem aLH (os:Os) (started:os.Started) (H:Type) (enc:TypeId×Value→H) :
  ReturnsInHanded {} Tryz.checked os 4 .any (Rows.fnExactGrantsSpec.pre6 enc Tryz.prog Tryz.f4 Rows.fnExactGrantsRow.domain false) (Rows.fnExactGrantsSpec.post enc Tryz.prog Tryz.f4 false true false false):=by
 refine returnsInHanded_of_change (C:=Tryz.checked) own started (by kernel_rfl) Tryz.func4
  (ChangeSpec.witness6 (enc:=enc) (C:=Tryz.checked) false ⟨#[],#[.agg #[.slice none 0 0,.int .i64 0,.int .i64 0,.int .i64 0,.int .i64 0,.slice none 0 0,.slice none 0 0,.slice none 0 0],.string ByteArray.empty,.int .i64 0],[]⟩ 8 (by kernel_rfl) (by kernel_rfl) (by kernel_rfl) (by kernel_rfl)) ?_
 intro W base args ds gs before hval0 hW hcnd _
 have hval:∀(j:Nat) t v,Tryz.f4.params[j]? = some t→args[j]? = some v→Value.okWide Tryz.prog W .any base t v:=hval0
 have hW':=hW
 obtain ⟨p,q,hA0,hV,rfl,hfz,hnd⟩:=hW
 have hA:DataW.TrodAll enc Tryz.prog W 0 (fun _=>true) true Tryz.f4.params.toList args.toList ds p:=hA0
 rw [Tryz.params4] at hA hval
 obtain ⟨v0,vs0,d0,ds0,p0,q0,hargs,rfl,rfl,h0,r0⟩:=trodAll_cons hA
 obtain ⟨v1,vs1,d1,ds1,p1,q1,rfl,rfl,rfl,h1,r1⟩:=trodAll_cons r0
 obtain ⟨v2,vs2,d2,ds2,p2,q2,rfl,rfl,rfl,h2,r2⟩:=trodAll_cons r1
 obtain ⟨rfl,rfl,rfl⟩:=trodAll_nil r2
 obtain rfl:args=#[v0,v1,v2]:=by cases args;simp_all
 obtain ⟨rfl,rfl⟩:=trodVars_none hV
 have k0:=h0
 have lt0:∀x ∈ p0,x.block<W.heap.size:=by obtain ⟨m,hm⟩:=k0;exact DataW.trod_lt m _ _ _ hm
 obtain ⟨a0,b0,rfl,w0,x0⟩:=aFs (hval 0 27 v0 rfl rfl) h0
 obtain ⟨a1,rfl,rfl,rfl,w1⟩:=open_string Tryz.underlying9 (hval 1 9 v1 rfl rfl) h1
 obtain ⟨a2,rfl,rfl,rfl,w2⟩:=open_int Tryz.underlying3 (hval 2 3 v2 rfl rfl) h2
 clear hA0 hval0
 refine (aBn a0 b0 a1 a2 W w0 x0 w1 w2).mono fun e W' ⟨he,bel⟩=>?_
 subst he
 exact ⟨_,rfl,_,_,_,[],_,[],hW',trodAll_mk1 (shut_bool Tryz.underlying4 _),(trodAll_cons_mk (Below.trod aKW (by kernel_rfl) (of_decide_eq_true (by kernel_rfl)) k0 bel lt0) (trodAll_cons_mk (shut_string Tryz.underlying9 w1) (trodAll_cons_mk (shut_int Tryz.underlying3 w2) trodAll_mk0))),rfl,bel.frame _,fun h=>by cases h⟩
set_option maxRecDepth 100000 in
set_option maxHeartbeats 16000000 in
theorem aLT:joinedFacts Tryz.prog 4 Tryz.f4 Rows.fnExactGrantsSpec Rows.fnExactGrantsRow=true:=by
 unfold joinedFacts
 repeat rw [yK]
 repeat' apply And.intro
 all_goals (as_aux_lemma=>kernel_rfl)
theorem over:Rows.fnExactGrantsRow.holds Tryz.pinned (OpenSpec.ofChange Rows.fnExactGrantsSpec):=
 OpenClaim.holds_of_wide 4 Tryz.f4 rfl rfl rfl rfl rfl rfl rfl ⟨rfl,rfl,rfl,rfl,rfl⟩ rfl rfl rfl rfl rfl (by kernel_rfl) Tryz.func4 aLT
  (of_decide_eq_true (by kernel_rfl)) (by unfold Func.isWrapper;first | (rw [if_pos (by decide +kernel)];kernel_rfl) | (rw [if_neg (by decide +kernel)];exact ⟨rfl,rfl⟩))
  (fun os started H enc _=>aLH os started H enc)
end Go.Proofs.YtdhibeclkdepiaaGreat.fnExactGrants
namespace Go.Proofs.YtdhibeclkdepiaaGreat
theorem fnExactGrants_holds:Rows.FnExactGrantsSaid:=fnExactGrants.over
#print axioms fnExactGrants_holds
end Go.Proofs.YtdhibeclkdepiaaGreat
