/-
  The law FnExactVictims answers true at every state and every text: the program's Victims answers as the model's, writes into nothing that it was handed and keeps nothing of it, and its answer owns its memory, behind another call too; no condition.
-/
import Derived.Test.YtokabeokclpljaaGreatSackAB
import Derived.Test.YtokabeokclpljaaGreatSackAC
import Derived.ShutString
import Derived.ChangeOld
namespace Go.Proofs.YtokabeokclpljaaGreat.fnExactVictims
open Go.ChangeShapes Go.WideShapes Go.ChangeAt Go.RowKit
open Go.ChangeMaps (open_string shut_string)
set_option linter.unusedVariables false
theorem own:ownKnob Tryz.prog.godebug=none:=by kernel_rfl
theorem laidOut:laidOutB Tryz.prog=true:=by kernel_rfl
set_option maxRecDepth 100000 in
set_option maxHeartbeats 8000000 in
theorem walk (a0:Sls) (b0:St) (a1:ByteArray) (w:World) (w0:SRow w a0 b0) (x0:StFit a0 b0) (w1:a1.size≤maxLen) :
  Calls Tryz.prog 3 #[sv a0 b0,.string a1] w fun e w'=>e=.returned (.bool true)∧Below w.heap.size w w':=by
 have hsz:a1.size≤9223372036854775807:=w1
 clear w1
 obtain ⟨nm,rfl⟩:∃nm,a1=bs nm:=⟨a1.data.toList,(bs_back a1).symm⟩
 by_cases hbig:(bs nm).size≤1048576
 case neg=>
  go_enter Tryz.func3,Tryz.ntmps3
  go_wp2
  go_ret
  exact ⟨rfl,yA (yH _ _) _⟩
 have HR:=hide w0
 have HLEN:=hide w0.len
 have I0:=hide (InBox.new w a0 b0)
 have C0:=hide (szState_any a0 b0 _ (w0.below (uH I0).2) x0.big)
 have RB:=hide (InBox.read w a0 b0)
 have HLA:=hide (fun hf:FitSt b0=>show (victimsV b0 nm).length≤1048576 by have:=victims_len b0 nm;have:=hf.2.2.2.1;omega)
 obtain ⟨ans,hans⟩:∃r,victimsV b0 nm=r:=⟨_,rfl⟩
 rw [hans] at HLA
 have CS:=hide (fun (hf:FitSt b0) g1 g2 g3 g4 wx (h:SOwn4 wx g1 g2 g3 g4 a0.ql a0.al a0.ml a0.cl b0)=>by
  obtain ⟨hs0,h1,h2,h3⟩:=own4_heads h (uH HLEN)
  have:=specVictims_any (own4 g1 g2 g3 g4 a0.ql a0.al a0.ml a0.cl) b0 hs0 nm wx (h.row (uH HLEN)) h1 h2 h3 hf
  rw [hans] at this;exact this)
 have CI:=hide (fun (hf:FitSt b0) g1 g2 g3 g4 wx (h:SOwn4 wx g1 g2 g3 g4 a0.ql a0.al a0.ml a0.cl b0)=>by have:=implVictims_any (own4 g1 g2 g3 g4 a0.ql a0.al a0.ml a0.cl) b0 nm wx (h.row (uH HLEN)) hf (yJ _) x0.wfs;rw [hans] at this;exact this)
 have CT:=hide (fun (hf:FitSt b0) wx (hb:Below w.heap.size w wx)=>toState_any a0 b0 wx ((uH HR).below hb) hf)
 have CE:=hide (fun (hf:FitSt b0) g1 g2 g3 g4 k1 k2 k3 k4 wx (h:SOwn4 wx g1 g2 g3 g4 a0.ql a0.al a0.ml a0.cl b0) (k:SOwn4 wx k1 k2 k3 k4 a0.ql a0.al a0.ml a0.cl b0)=>eqState_same (own4 g1 g2 g3 g4 a0.ql a0.al a0.ml a0.cl) (own4 k1 k2 k3 k4 a0.ql a0.al a0.ml a0.cl) b0 wx (h.row (uH HLEN)) (k.row (uH HLEN)) hf)
 have CM:=hide (fun (hf:FitSt b0) B E g1 g2 g3 g4 wx (h:SOwn4 wx g1 g2 g3 g4 a0.ql a0.al a0.ml a0.cl b0) (ha:AWh wx B E g2 a0.al) (hb:B≤g1∧g1<g2∧g2<g3∧g3<g4∧g4<E) (hE:E≤wx.heap.size)=>markState_any B E g1 g2 g3 g4 a0.ql a0.al a0.ml a0.cl b0 wx h.1.cel ha h.2.2.1.cel h.2.2.2.cel hb hE (by have:=(uH HLEN).1;have:=hf.1.1;omega) (by have:=(uH HLEN).2.1;have:=hf.2.1.1;omega) (by have:=(uH HLEN).2.2.1;have:=hf.2.2.1.1;omega) (by have:=(uH HLEN).2.2.2;have:=hf.2.2.2.1;omega))
 have CW:=hide (fun (hf:FitSt b0) g1 g2 g3 g4 wx (h:SOwn4 wx g1 g2 g3 g4 a0.ql a0.al a0.ml a0.cl b0)=>h.2.1.wh (uH HLEN).2.1 (fun q hq=>(hf.2.1.2 q hq).2.1))
 clear w0 x0 hans
 obtain ⟨qa,ql,qc,aa,al,ac,ma,ml,mc,ca,cl,cc⟩:=a0
 obtain ⟨qs,clock,epoch,next,serial,apps,ms,cs⟩:=b0
 simp only at CS CI CT CE CM CW HLA
 go_enter Tryz.func3,Tryz.ntmps3
 go_wp2_with fail
 refine (uH C0).mono ?_
 rintro e w1 ⟨r,rfl,hr,hb⟩
 have I1:=hide ((uH I0).call hb)
 clear hb C0 I0
 rcases hr with rfl | ⟨hr,hfit⟩
 ·go_wp2
  go_ret
  exact ⟨rfl,(uH I1).2⟩
 have HF:=hide hfit
 have hla:=uH HLA hfit
 have hq0:¬1+(ans.length:Int)<0:=by omega
 clear hfit HLA
 obtain ⟨p0,p1,p2,p3,p4,p5,p6,p7⟩:=uH RB _ (uH I1)
 try simp only at p0 p1 p2 p3 p4 p5 p6 p7
 go_wp2_with fail
 refine (uH CT (uH HF) _ (uH I1).2).mono ?_
 rintro e w2 ⟨f1,f2,f3,f4,rfl,hq,_,hb⟩
 have I2:=hide ((uH I1).call hb)
 have Q2:=hide hq
 clear hb hq I1 p0 p1 p2 p3 p4 p5 p6 p7
 go_wp2_with fail
 refine (uH CS (uH HF) _ _ _ _ _ (uH Q2)).mono ?_
 rintro e w3 ⟨v,rfl,hv⟩
 obtain ⟨ht,hb⟩:=uH hv
 clear hv
 have I3:=hide ((uH I2).call hb)
 have A3:=hide ht.ans
 have z3:w.heap.size<w3.heap.size:=((uH I2).call hb).1.lt
 clear hb ht I2 Q2 CS
 obtain ⟨p0,p1,p2,p3,p4,p5,p6,p7⟩:=uH RB _ (uH I3)
 try simp only at p0 p1 p2 p3 p4 p5 p6 p7
 go_wp2_with fail
 refine (uH CT (uH HF) _ (uH I3).2).mono ?_
 rintro e w4 ⟨g1,g2,g3,g4,rfl,hq,hgs,hb⟩
 have A4:=hide (((uH A3).below hb).below (yA (yH _ _) (.cells (svc (own4 g1 g2 g3 g4 ql al ml cl) ⟨qs,clock,epoch,next,serial,apps,ms,cs⟩) 36)))
 have N4:=hide (show InTwo w ⟨qa,ql,qc,aa,al,ac,ma,ml,mc,ca,cl,cc⟩ ⟨qs,clock,epoch,next,serial,apps,ms,cs⟩ w4.heap.size g1 g2 g3 g4 (w4.alloc (.cells (svc (own4 g1 g2 g3 g4 ql al ml cl) ⟨qs,clock,epoch,next,serial,apps,ms,cs⟩) 36)) from ⟨((uH I3).call hb).al _,yD _ _ _,SOwn4.below hq (yA (yH _ _) _)⟩)
 have W4:=hide (((uH CW (uH HF) _ _ _ _ _ hq).mono (show w3.heap.size≤g2+1 by omega) (yJ _)).below (yA (yH _ _) (.cells (svc (own4 g1 g2 g3 g4 ql al ml cl) ⟨qs,clock,epoch,next,serial,apps,ms,cs⟩) 36)))
 have hg4:g4<w4.heap.size:=hq.2.2.2.lt
 obtain ⟨hg1,hg2,hg3,hg3'⟩:=hgs
 clear hb hq I3 A3 p0 p1 p2 p3 p4 p5 p6 p7
 go_wp2_with fail
 refine (uH CI (uH HF) _ _ _ _ _ (uH N4).2.2).mono ?_
 rintro e w5 ⟨u,rfl,hv⟩
 obtain ⟨ht,hb⟩:=uH hv
 clear hv
 rw [yE] at ht
 have A5:=hide ((uH A4).below hb)
 have N5:=hide ((uH N4).call hb)
 have W5:=hide ((uH W4).below hb)
 have G5:=hide ht.ans
 have z5:w4.heap.size<w5.heap.size:=((uH N4).2.1.below hb).lt
 clear hb ht N4 A4 W4
 obtain ⟨gw,hgw⟩:∃g,w3.heap.size=g:=⟨_,rfl⟩
 obtain ⟨gx,hgx⟩:∃g,w4.heap.size=g:=⟨_,rfl⟩
 obtain ⟨gy,hgy⟩:∃g,w5.heap.size=g:=⟨_,rfl⟩
 have zy:gy≤w5.heap.size:=by omega
 rw [hgw] at A5 W5 z3 hg1
 rw [hgx] at N5 W5 G5 z5 hg4
 rw [hgy] at G5 z5
 try rw [hgw]
 try rw [hgx]
 clear hgw hgx hgy
 go_wp2_with fail
 refine (eqI_any (uH G5) (uH A5) hla).mono ?_
 rintro e w6 ⟨rfl,hb⟩
 have z6:gy≤w6.heap.size:=Nat.le_trans zy hb.size
 have A6:=hide ((uH A5).below hb)
 have N6:=hide ((uH N5).call hb)
 have W6:=hide ((uH W5).below hb)
 have G6:=hide ((uH G5).below hb)
 clear hb A5 N5 W5 G5 zy
 have R:=fun wx (h:InTwoB w6 w ⟨qa,ql,qc,aa,al,ac,ma,ml,mc,ca,cl,cc⟩ ⟨qs,clock,epoch,next,serial,apps,ms,cs⟩ gx g1 g2 g3 g4 wx)=>InTwo.read w ⟨qa,ql,qc,aa,al,ac,ma,ml,mc,ca,cl,cc⟩ ⟨qs,clock,epoch,next,serial,apps,ms,cs⟩ gx g1 g2 g3 g4 wx h.1
 simp only at R
 have N6B:=hide (show InTwoB w6 w ⟨qa,ql,qc,aa,al,ac,ma,ml,mc,ca,cl,cc⟩ ⟨qs,clock,epoch,next,serial,apps,ms,cs⟩ gx g1 g2 g3 g4 w6 from ⟨uH N6,yH _ _⟩)
 clear N6
 go_wp2_with fail
 go_region_held3 (fun wx=>InTwoB w6 w ⟨qa,ql,qc,aa,al,ac,ma,ml,mc,ca,cl,cc⟩ ⟨qs,clock,epoch,next,serial,apps,ms,cs⟩ gx g1 g2 g3 g4 wx)
  (first | (with_reducible assumption) | exact uH SA | exact (uH N6B).drew | exact InTwoB.call (by assumption) (by assumption))
  (first
  | (go_at_call 6;refine (uH CT (uH HF) _ ?_).mono ?_;(exact (show InTwoB w6 w ⟨qa,ql,qc,aa,al,ac,ma,ml,mc,ca,cl,cc⟩ ⟨qs,clock,epoch,next,serial,apps,ms,cs⟩ gx g1 g2 g3 g4 _ by assumption).1.1.2);rintro e wt ⟨k1,k2,k3,k4,rfl,hk,_,hb⟩;have HK:=hide hk;have SA:=InTwoB.call (w9:=w6) (w:=w) (x:=⟨qa,ql,qc,aa,al,ac,ma,ml,mc,ca,cl,cc⟩) (s:=⟨qs,clock,epoch,next,serial,apps,ms,cs⟩) (g:=gx) (g1:=g1) (g2:=g2) (g3:=g3) (g4:=g4) (by assumption) hb)
  | (go_at_call 9;refine (uH CE (uH HF) _ _ _ _ _ _ _ _ _ ?_ ?_).mono ?_;(exact (show InTwoB w6 w ⟨qa,ql,qc,aa,al,ac,ma,ml,mc,ca,cl,cc⟩ ⟨qs,clock,epoch,next,serial,apps,ms,cs⟩ gx g1 g2 g3 g4 _ by assumption).1.2.2);(exact uH HK);rintro e wu ⟨rfl,hb⟩;have SA:=InTwoB.call (w9:=w6) (w:=w) (x:=⟨qa,ql,qc,aa,al,ac,ma,ml,mc,ca,cl,cc⟩) (s:=⟨qs,clock,epoch,next,serial,apps,ms,cs⟩) (g:=gx) (g1:=g1) (g2:=g2) (g3:=g3) (g4:=g4) (by assumption) hb))
 all_goals
  have zS:=SA.2.size
  have A7:=hide ((uH A6).below SA.2)
  have G7:=hide ((uH G6).below SA.2)
  have W7:=hide ((uH W6).below SA.2)
  have N7:=hide SA.1
  clear SA A6 G6 W6 N6B R
  obtain ⟨_,q0,q1,q2,q3,q4,q5,q6,q7⟩:=InTwo.read w ⟨qa,ql,qc,aa,al,ac,ma,ml,mc,ca,cl,cc⟩ ⟨qs,clock,epoch,next,serial,apps,ms,cs⟩ gx g1 g2 g3 g4 _ (uH N7)
  try simp only at q0 q1 q2 q3 q4 q5 q6 q7
  go_wp2_with fail
  refine (uH CM (uH HF) gw gx g1 g2 g3 g4 _ (uH N7).2.2 (uH W7) ⟨by omega,hg2,hg3,hg3',hg4⟩ (Nat.le_of_lt (uH N7).2.1.lt)).mono ?_
  rintro e w8 ⟨k,rfl,hk,hm⟩
  have I8:=hide ((uH N7).1.mkd hm (by omega) (by have:=(uH N7).2.1.lt;omega))
  have A8:=hide ((uH A7).mkd hm (.inl (by omega)))
  have G8:=hide ((uH G7).mkd hm (.inr (by omega)))
  have z8:gy≤w8.heap.size:=by have:=(hm.below (by have:=(uH N7).2.1.lt;omega)).size;omega
  clear hm N7 A7 G7 W7 q0 q1 q2 q3 q4 q5 q6 q7 CM CE CW zS
  have hkn:¬k<0:=by omega
  go_wp2_with fail
  refine (eqI_any (uH G8) (uH A8) hla).mono ?_
  rintro e w9 ⟨rfl,hb⟩
  have A9:=hide ((uH A8).below hb)
  have G9:=hide ((uH G8).below hb)
  have I9:=hide ((uH I8).call hb)
  have z9:gy≤w9.heap.size:=Nat.le_trans z8 hb.size
  clear hb A8 G8 I8
  go_wp2_with fail
  refine (markI_any (uH G9) z9 (by omega) hla).mono ?_
  rintro e w10 ⟨rfl,hM,hb,_⟩
  have I10:=hide ((uH I9).low hb (by omega))
  have A10:=hide ((uH A9).low hb (by omega))
  have M10:=hide hM
  clear hb hM A9 G9 I9
  go_wp2_with fail
  refine (heldI_any (uH M10) hla).mono ?_
  rintro e w11 ⟨rfl,hb⟩
  have I11:=hide ((uH I10).call hb)
  have A11:=hide ((uH A10).below hb)
  have M11:=hide ((uH M10).below hb)
  clear hb I10 A10 M10
  obtain ⟨p0,p1,p2,p3,p4,p5,p6,p7⟩:=uH RB _ (uH I11)
  try simp only at p0 p1 p2 p3 p4 p5 p6 p7
  go_wp2_with fail
  refine (uH CT (uH HF) _ (uH I11).2).mono ?_
  rintro e w12 ⟨h1,h2,h3,h4,rfl,hq,_,hb⟩
  have I12:=hide ((uH I11).call hb)
  have A12:=hide ((uH A11).below hb)
  have M12:=hide ((uH M11).below hb)
  have Q12:=hide hq
  clear hb hq I11 A11 M11 p0 p1 p2 p3 p4 p5 p6 p7
  go_wp2_with fail
  refine (uH CI (uH HF) _ _ _ _ _ (uH Q12)).mono ?_
  rintro e w13 ⟨u2,rfl,hv⟩
  obtain ⟨ht,hb⟩:=uH hv
  clear hv
  have I13:=hide ((uH I12).call hb)
  have A13:=hide ((uH A12).below hb)
  have M13:=hide ((uH M12).below hb)
  have S13:=hide ht.ans
  clear hb ht I12 A12 M12 Q12 CI CT
  go_wp2_with fail
  refine (eqI_any (uH S13) (uH A13) hla).mono ?_
  rintro e w14 ⟨rfl,hb⟩
  have I14:=hide ((uH I13).call hb)
  have M14:=hide ((uH M13).below hb)
  clear hb I13 A13 M13 S13
  go_wp2_with fail
  refine (heldI_any (uH M14) hla).mono ?_
  rintro e w15 ⟨rfl,hb⟩
  have HB:=hide (yB (uH I14).2 hb)
  clear hb I14 M14
  go_wp2
  go_ret
  exact ⟨rfl,uH HB⟩
set_option maxRecDepth 100000 in
theorem lifted (os:Os) (started:os.Started) (H:Type) (enc:TypeId×Value→H) :
  ReturnsInHanded {} Tryz.checked os 3 .any (Rows.fnExactVictimsSpec.pre6 enc Tryz.prog Tryz.f3 Rows.fnExactVictimsRow.domain false) (Rows.fnExactVictimsSpec.post enc Tryz.prog Tryz.f3 false true false false):=by
 refine returnsInHanded_of_change (C:=Tryz.checked) own started (by kernel_rfl) Tryz.func3
  (ChangeSpec.witness6 (enc:=enc) (C:=Tryz.checked) false ⟨#[],#[.agg #[.slice none 0 0,.int .i64 0,.int .i64 0,.int .i64 0,.int .i64 0,.slice none 0 0,.slice none 0 0,.slice none 0 0],.string ByteArray.empty],[]⟩ 8 (by kernel_rfl) (by kernel_rfl) (by kernel_rfl) (by kernel_rfl)) ?_
 intro W base args ds gs before hval0 hW hcnd _
 have hval:∀(j:Nat) t v,Tryz.f3.params[j]? = some t→args[j]? = some v→Value.okWide Tryz.prog W .any base t v:=hval0
 have hW':=hW
 obtain ⟨p,q,hA0,hV,rfl,hfz,hnd⟩:=hW
 have hA:DataW.TrodAll enc Tryz.prog W 0 (fun _=>true) true Tryz.f3.params.toList args.toList ds p:=hA0
 rw [Tryz.params3] at hA hval
 obtain ⟨v0,vs0,d0,ds0,p0,q0,hargs,rfl,rfl,h0,r0⟩:=trodAll_cons hA
 obtain ⟨v1,vs1,d1,ds1,p1,q1,rfl,rfl,rfl,h1,r1⟩:=trodAll_cons r0
 obtain ⟨rfl,rfl,rfl⟩:=trodAll_nil r1
 obtain rfl:args=#[v0,v1]:=by cases args;simp_all
 obtain ⟨rfl,rfl⟩:=trodVars_none hV
 have k0:=h0
 have lt0:∀x ∈ p0,x.block<W.heap.size:=by obtain ⟨m,hm⟩:=k0;exact DataW.trod_lt m _ _ _ hm
 obtain ⟨a0,b0,rfl,w0,x0⟩:=open_state (hval 0 27 v0 rfl rfl) h0
 obtain ⟨a1,rfl,rfl,rfl,w1⟩:=open_string Tryz.underlying9 (hval 1 9 v1 rfl rfl) h1
 clear hA0 hval0
 refine (walk a0 b0 a1 W w0 x0 w1).mono fun e W' ⟨he,bel⟩=>?_
 subst he
 exact ⟨_,rfl,_,_,_,[],_,[],hW',trodAll_mk1 (shut_bool Tryz.underlying4 _),(trodAll_cons_mk (Below.trod laidOut (by kernel_rfl) (of_decide_eq_true (by kernel_rfl)) k0 bel lt0) (trodAll_cons_mk (shut_string Tryz.underlying9 w1) trodAll_mk0)),rfl,bel.frame _,fun h=>by cases h⟩
set_option maxRecDepth 100000 in
set_option maxHeartbeats 16000000 in
theorem closed:joinedFacts Tryz.prog 3 Tryz.f3 Rows.fnExactVictimsSpec Rows.fnExactVictimsRow=true:=by
 unfold joinedFacts
 repeat rw [yK]
 repeat' apply And.intro
 all_goals (as_aux_lemma=>kernel_rfl)
theorem over:Rows.fnExactVictimsRow.holds Tryz.pinned (OpenSpec.ofChange Rows.fnExactVictimsSpec):=
 OpenClaim.holds_of_wide 3 Tryz.f3 rfl rfl rfl rfl rfl rfl rfl ⟨rfl,rfl,rfl,rfl,rfl⟩ rfl rfl rfl rfl rfl (by kernel_rfl) Tryz.func3 closed
  (of_decide_eq_true (by kernel_rfl)) (by unfold Func.isWrapper;first | (rw [if_pos (by decide +kernel)];kernel_rfl) | (rw [if_neg (by decide +kernel)];exact ⟨rfl,rfl⟩))
  (fun os started H enc _=>lifted os started H enc)
end Go.Proofs.YtokabeokclpljaaGreat.fnExactVictims
namespace Go.Proofs.YtokabeokclpljaaGreat
theorem fnExactVictims_holds:Rows.FnExactVictimsSaid:=fnExactVictims.over
#print axioms fnExactVictims_holds
end Go.Proofs.YtokabeokclpljaaGreat
