/-
  The law FnExactRuns answers true at every cluster: the program's Runs answers as the model's, writes into nothing that it was handed and keeps nothing of it, and its answer owns its memory, behind another call too; no condition.
-/
import Derived.Test.YtmkedfdnokmglaaGreatPackM
import Derived.Test.YtmkedfdnokmglaaGreatPackN
import Derived.ShutString
import Derived.ChangeOld
namespace Go.Proofs.YtmkedfdnokmglaaGreat.fnExactRuns
open Go.ChangeShapes Go.WideShapes Go.ChangeAt Go.RowKit
open Go.ChangeMaps (open_string shut_string)
set_option linter.unusedVariables false
theorem own:ownKnob Tryz.prog.godebug=none:=by kernel_rfl
theorem laidOut:laidOutB Tryz.prog=true:=by kernel_rfl
set_option maxRecDepth 100000 in
set_option maxHeartbeats 8000000 in
theorem walk (a0:Cls) (b0:Clu) (w:World) (w0:CRow w a0 b0) (x0:CluFit a0 b0) :
  Calls Tryz.prog 3 #[cluv a0 b0] w fun e w'=>e=.returned (.bool true)∧Below w.heap.size w w':=by
 have HR:=hide w0
 have I0:=hide (OneC.new w a0 b0)
 have C0:=hide (szCluster_any a0 b0 _ (w0.below (uH I0).2) x0.big)
 have RB:=hide (OneC.read w a0 b0)
 have HLA:=hide (fun hf:FitClu b0=>show (runsV b0.ags).length≤1099511627776 by rw [runs_len];have h1:=flat_len hf.2.1.one b0.ags.length;rw [List.take_length] at h1;have h2:=hf.2.1.1;omega)
 obtain ⟨ans,hans⟩:∃r,runsV b0.ags=r:=⟨_,rfl⟩
 rw [hans] at HLA
 have CS:=hide (fun (hf:FitClu b0) z wx (h:CRow wx z b0)=>by have:=specRuns_any z b0 wx h hf;rw [hans] at this;exact this)
 have CI:=hide (fun (hf:FitClu b0) z wx (h:CRow wx z b0)=>by have:=implRuns_any z b0 wx h hf;rw [hans] at this;exact this)
 have CT:=hide (fun (hf:FitClu b0) wx (hb:Below w.heap.size w wx)=>toCluster_any a0 b0 wx ((uH HR).below hb) hf)
 have CE:=hide (fun (hf:FitClu b0) z z' wx (h:CRow wx z b0) (k:CRow wx z' b0)=>eqCluster_same z z' b0 wx h k hf)
 have CM:=hide (fun (hf:FitClu b0) B E z wx (h:CMd wx B E z b0) (hE:E≤wx.heap.size)=>markCluster_made B E z b0 wx h hE hf)
 clear w0 x0 hans
 obtain ⟨⟨⟨qa,ql,qc,aa,al,ac,ma,ml,mc,ca,cl,cc⟩,wo,wl,wc⟩,go,gl,gc,eo,tl,tc⟩:=a0
 obtain ⟨⟨⟨qs,clock,epoch,next,serial,apps,ms,cs⟩,log,safe,wait⟩,ags,told⟩:=b0
 try simp only at CS CI CT CE CM HLA
 go_enter Tryz.func3,Tryz.ntmps3
 obtain ⟨p0,p1,p2,p3,p4,p5,p6,p7,p8,p9,p10,p11,p12⟩:=uH RB _ (uH I0)
 try simp only at p0 p1 p2 p3 p4 p5 p6 p7 p8 p9 p10 p11 p12
 go_wp2_with fail
 refine (uH C0).mono ?_
 rintro e w1 ⟨r,rfl,hr,hb⟩
 have I1:=hide ((uH I0).call hb)
 clear hb C0 I0 p0 p1 p2 p3 p4 p5 p6 p7 p8 p9 p10 p11 p12
 rcases hr with rfl | ⟨hr,hfit⟩
 ·go_wp2
  go_ret
  exact ⟨rfl,(uH I1).2⟩
 have HF:=hide hfit
 have hla:=uH HLA hfit
 have hq0:¬1+(ans.length:Int)<0:=by omega
 have hr0:¬r<0:=by omega
 clear hfit HLA
 obtain ⟨p0,p1,p2,p3,p4,p5,p6,p7,p8,p9,p10,p11,p12⟩:=uH RB _ (uH I1)
 try simp only at p0 p1 p2 p3 p4 p5 p6 p7 p8 p9 p10 p11 p12
 go_wp2_with fail
 refine (uH CT (uH HF) _ (uH I1).2).mono ?_
 rintro e w2 ⟨z1,rfl,hq,hb⟩
 have I2:=hide ((uH I1).call hb)
 have Q2:=hide hq.row
 clear hb hq I1 p0 p1 p2 p3 p4 p5 p6 p7 p8 p9 p10 p11 p12
 go_wp2_with fail
 refine (uH CS (uH HF) _ _ (uH Q2)).mono ?_
 rintro e w3 ⟨v,rfl,hv⟩
 obtain ⟨ht,hb⟩:=uH hv
 clear hv
 have I3:=hide ((uH I2).call hb)
 have A3:=hide ht.ans
 have z3:w.heap.size<w3.heap.size:=((uH I2).call hb).1.lt
 clear hb ht I2 Q2 CS
 obtain ⟨p0,p1,p2,p3,p4,p5,p6,p7,p8,p9,p10,p11,p12⟩:=uH RB _ (uH I3)
 try simp only at p0 p1 p2 p3 p4 p5 p6 p7 p8 p9 p10 p11 p12
 go_wp2_with fail
 refine (uH CT (uH HF) _ (uH I3).2).mono ?_
 rintro e w4 ⟨z2,rfl,hq,hb⟩
 have hbz:=yA (yH _ w4) (.cells (cluc z2 ⟨⟨⟨qs,clock,epoch,next,serial,apps,ms,cs⟩,log,safe,wait⟩,ags,told⟩) 48)
 have A4:=hide (((uH A3).below hb).below hbz)
 have N4:=hide (((uH I3).call hb).call hbz)
 have X4:=hide (show Blk (w4.alloc (.cells (cluc z2 ⟨⟨⟨qs,clock,epoch,next,serial,apps,ms,cs⟩,log,safe,wait⟩,ags,told⟩) 48)) w4.heap.size (cluc z2 ⟨⟨⟨qs,clock,epoch,next,serial,apps,ms,cs⟩,log,safe,wait⟩,ags,told⟩) 48 from yD _ _ _)
 have D4:=hide (hq.below hbz)
 have hz34:w3.heap.size≤w4.heap.size:=hb.size
 clear hb hq I3 A3 p0 p1 p2 p3 p4 p5 p6 p7 p8 p9 p10 p11 p12 hbz
 obtain ⟨⟨⟨ra,rl,rc,ba,bl,bc,na,nl,nc,da,dl,dc⟩,vo,vl,vc⟩,ho,hl,hc,uo,ul,uc⟩:=z2
 obtain ⟨q0a,q0b⟩:True∧True:=⟨trivial,trivial⟩
 have QA:=(uH X4).at 0;have Q1:=(uH X4).at 1;have Q2:=(uH X4).at 2;have Q3:=(uH X4).at 3;have Q4:=(uH X4).at 4;have Q5:=(uH X4).at 5;have Q6:=(uH X4).at 6;have Q7:=(uH X4).at 7;have Q8:=(uH X4).at 8;have Q9:=(uH X4).at 9;have Q10:=(uH X4).at 10;have Q11:=(uH X4).at 11;have Q12:=(uH X4).at 12
 simp at QA Q1 Q2 Q3 Q4 Q5 Q6 Q7 Q8 Q9 Q10 Q11 Q12
 go_wp2_with fail
 refine (uH CI (uH HF) _ _ (uH D4).row).mono ?_
 rintro e w5 ⟨u,rfl,hv⟩
 obtain ⟨ht,hb⟩:=uH hv
 clear hv QA Q1 Q2 Q3 Q4 Q5 Q6 Q7 Q8 Q9 Q10 Q11 Q12 q0a q0b
 rw [yE] at ht
 have A5:=hide ((uH A4).below hb)
 have N5:=hide ((uH N4).call hb)
 have X5:=hide ((uH X4).below hb)
 have D5:=hide ((uH D4).below hb)
 have G5:=hide ht.ans
 have z5:w4.heap.size<w5.heap.size:=((uH X4).below hb).lt
 clear hb ht N4 X4 D4 A4
 obtain ⟨gw,hgw⟩:∃g,w3.heap.size=g:=⟨_,rfl⟩
 obtain ⟨gx,hgx⟩:∃g,w4.heap.size=g:=⟨_,rfl⟩
 obtain ⟨gy,hgy⟩:∃g,w5.heap.size=g:=⟨_,rfl⟩
 have zy:gy≤w5.heap.size:=by omega
 rw [hgw] at A5 D5 z3 hz34
 rw [hgx] at X5 D5 G5 z5 hz34
 rw [hgy] at G5 z5
 try rw [hgw]
 try rw [hgx]
 clear hgw hgx hgy
 go_wp2_with fail
 refine (eqI_any' (uH G5) (uH A5) hla).mono ?_
 rintro e w6 ⟨rfl,hb⟩
 have z6:gy≤w6.heap.size:=Nat.le_trans zy hb.size
 have A6:=hide ((uH A5).below hb)
 have G6:=hide ((uH G5).below hb)
 have N6B:=hide (show TwoC w6 w ⟨⟨⟨qa,ql,qc,aa,al,ac,ma,ml,mc,ca,cl,cc⟩,wo,wl,wc⟩,go,gl,gc,eo,tl,tc⟩ ⟨⟨⟨qs,clock,epoch,next,serial,apps,ms,cs⟩,log,safe,wait⟩,ags,told⟩ gx ⟨⟨⟨ra,rl,rc,ba,bl,bc,na,nl,nc,da,dl,dc⟩,vo,vl,vc⟩,ho,hl,hc,uo,ul,uc⟩ gw gx w6 from ⟨(uH N5).call hb,(uH X5).below hb,(uH D5).below hb,yH _ _⟩)
 clear hb A5 N5 X5 D5 G5 zy
 go_upto_region 10 with fail
 refine wp_region_held_drew (S:=fun wx=>TwoC w6 w ⟨⟨⟨qa,ql,qc,aa,al,ac,ma,ml,mc,ca,cl,cc⟩,wo,wl,wc⟩,go,gl,gc,eo,tl,tc⟩ ⟨⟨⟨qs,clock,epoch,next,serial,apps,ms,cs⟩,log,safe,wait⟩,ags,told⟩ gx ⟨⟨⟨ra,rl,rc,ba,bl,bc,na,nl,nc,da,dl,dc⟩,vo,vl,vc⟩,ho,hl,hc,uo,ul,uc⟩ gw gx wx) (by kernel_rfl) (uH N6B).drew (fun S0=>?_)
 have S1:TwoC w6 w ⟨⟨⟨qa,ql,qc,aa,al,ac,ma,ml,mc,ca,cl,cc⟩,wo,wl,wc⟩,go,gl,gc,eo,tl,tc⟩ ⟨⟨⟨qs,clock,epoch,next,serial,apps,ms,cs⟩,log,safe,wait⟩,ags,told⟩ gx ⟨⟨⟨ra,rl,rc,ba,bl,bc,na,nl,nc,da,dl,dc⟩,vo,vl,vc⟩,ho,hl,hc,uo,ul,uc⟩ gw gx w6.drew:=S0
 clear S0 N6B
 have S0:=S1
 clear S1
 generalize w6.drew=wn at S0 ⊢
 refine takeW 0 27 (cluv ⟨⟨⟨ra,rl,rc,ba,bl,bc,na,nl,nc,da,dl,dc⟩,vo,vl,vc⟩,ho,hl,hc,uo,ul,uc⟩ ⟨⟨⟨qs,clock,epoch,next,serial,apps,ms,cs⟩,log,safe,wait⟩,ags,told⟩) rfl rfl S0 ?_ (hy:=Or.inl ⟨by rfl,fun wz hz=>run_v (ns_load 48 hz.2.1 Tryz.underlying48 rfl (by kernel_rfl))⟩)
 try simp only [zW]
 refine takeW 1 28 (cluv ⟨⟨⟨qa,ql,qc,aa,al,ac,ma,ml,mc,ca,cl,cc⟩,wo,wl,wc⟩,go,gl,gc,eo,tl,tc⟩ ⟨⟨⟨qs,clock,epoch,next,serial,apps,ms,cs⟩,log,safe,wait⟩,ags,told⟩) rfl rfl S0 ?_ (hy:=Or.inl ⟨by rfl,fun wz hz=>run_v (ns_load 33 hz.1.1 Tryz.underlying33 rfl (by kernel_rfl))⟩)
 try simp only [zW]
 refine wpAnyH_ready (rs:=[2]) (by kernel_rfl) (by simp) (AllReadyH.cons rfl (fun K hK=>?_) AllReadyH.nil)
 go_simp
 refine (uH CT (uH HF) _ S0.1.2).mono ?_
 rintro e wt ⟨z3,rfl,hk,hb⟩
 have HK:=hide hk.row
 have S1:=S0.call hb
 clear S0 hk hb
 go_wp2_with fail
 refine hK.out _ _ S1 (fun S0=>?_)
 clear hK K S0
 try simp only [zW]
 have S0:=S1
 clear S1
 refine wpAnyH_ready (rs:=[3]) (by kernel_rfl) (by simp) (AllReadyH.cons rfl (fun K hK=>?_) AllReadyH.nil)
 go_simp
 refine (uH CE (uH HF) _ _ _ S0.2.2.1.row (uH HK)).mono ?_
 rintro e wu ⟨rfl,hb⟩
 have S1:=S0.call hb
 clear S0 hb HK
 go_wp2_with fail
 refine hK.out _ _ S1 (fun S0=>?_)
 clear hK K S0
 try simp only [zW]
 have S0:=S1
 clear S1
 refine tW 4 31 (.bool false) S0 ?_
 try simp only [zW]
 refine wpAnyH_done (by kernel_rfl) ?_ _
 have SA:=S0
 clear S0
 have R:=TwoC.read w6 w ⟨⟨⟨qa,ql,qc,aa,al,ac,ma,ml,mc,ca,cl,cc⟩,wo,wl,wc⟩,go,gl,gc,eo,tl,tc⟩ ⟨⟨⟨qs,clock,epoch,next,serial,apps,ms,cs⟩,log,safe,wait⟩,ags,told⟩ gx ⟨⟨⟨ra,rl,rc,ba,bl,bc,na,nl,nc,da,dl,dc⟩,vo,vl,vc⟩,ho,hl,hc,uo,ul,uc⟩ gw gx
 simp only at R
 have zS:=SA.2.2.2.size
 have A7:=hide ((uH A6).below SA.2.2.2)
 have G7:=hide ((uH G6).below SA.2.2.2)
 have N7:=hide SA
 obtain ⟨_,q0,q1,q2,q3,q4,q5,q6,q7,q8,q9,q10,q11,q12⟩:=R _ SA
 clear SA A6 G6 R
 go_wp2_with fail
 refine (uH CM (uH HF) gw gx ⟨⟨⟨ra,rl,rc,ba,bl,bc,na,nl,nc,da,dl,dc⟩,vo,vl,vc⟩,ho,hl,hc,uo,ul,uc⟩ _ (uH N7).2.2.1 (Nat.le_of_lt (uH N7).2.1.lt)).mono ?_
 rintro e w8 ⟨k,rfl,hk,hm⟩
 have hgxl:=(uH N7).2.1.lt
 have I8:=hide ((uH N7).1.mkd hm (by omega) (by omega))
 have A8:=hide ((uH A7).mkd hm (.inl (by omega)))
 have G8:=hide ((uH G7).mkd hm (.inr (by omega)))
 have z8:gy≤w8.heap.size:=by have:=(hm.below (by omega)).size;omega
 clear hm N7 A7 G7 q0 q1 q2 q3 q4 q5 q6 q7 q8 q9 q10 q11 q12 CM CE zS hgxl
 have hkn:¬k<0:=by omega
 go_wp2_with fail
 refine (eqI_any' (uH G8) (uH A8) hla).mono ?_
 rintro e w9 ⟨rfl,hb⟩
 have A9:=hide ((uH A8).below hb)
 have G9:=hide ((uH G8).below hb)
 have I9:=hide ((uH I8).call hb)
 have z9:gy≤w9.heap.size:=Nat.le_trans z8 hb.size
 clear hb A8 G8 I8
 go_wp2_with fail
 refine (markI_any' (uH G9) z9 (by omega) hla).mono ?_
 rintro e w10 ⟨rfl,hM,hb,_⟩
 have I10:=hide ((uH I9).low hb (by omega))
 have A10:=hide ((uH A9).low hb (by omega))
 have M10:=hide hM
 clear hb hM A9 G9 I9
 go_wp2_with fail
 refine (heldI_any' (uH M10) hla).mono ?_
 rintro e w11 ⟨rfl,hb⟩
 have I11:=hide ((uH I10).call hb)
 have A11:=hide ((uH A10).below hb)
 have M11:=hide ((uH M10).below hb)
 clear hb I10 A10 M10
 obtain ⟨p0,p1,p2,p3,p4,p5,p6,p7,p8,p9,p10,p11,p12⟩:=uH RB _ (uH I11)
 try simp only at p0 p1 p2 p3 p4 p5 p6 p7 p8 p9 p10 p11 p12
 go_wp2_with fail
 refine (uH CT (uH HF) _ (uH I11).2).mono ?_
 rintro e w12 ⟨z4,rfl,hq,hb⟩
 have I12:=hide ((uH I11).call hb)
 have A12:=hide ((uH A11).below hb)
 have M12:=hide ((uH M11).below hb)
 have Q12:=hide hq.row
 clear hb hq I11 A11 M11 p0 p1 p2 p3 p4 p5 p6 p7 p8 p9 p10 p11 p12
 go_wp2_with fail
 refine (uH CI (uH HF) _ _ (uH Q12)).mono ?_
 rintro e w13 ⟨u2,rfl,hv⟩
 obtain ⟨ht,hb⟩:=uH hv
 clear hv
 have I13:=hide ((uH I12).call hb)
 have A13:=hide ((uH A12).below hb)
 have M13:=hide ((uH M12).below hb)
 have S13:=hide ht.ans
 clear hb ht I12 A12 M12 Q12 CI CT
 go_wp2_with fail
 refine (eqI_any' (uH S13) (uH A13) hla).mono ?_
 rintro e w14 ⟨rfl,hb⟩
 have I14:=hide ((uH I13).call hb)
 have M14:=hide ((uH M13).below hb)
 clear hb I13 A13 M13 S13
 go_wp2_with fail
 refine (heldI_any' (uH M14) hla).mono ?_
 rintro e w15 ⟨rfl,hb⟩
 have HB:=hide (yB (uH I14).2 hb)
 clear hb I14 M14
 go_wp2
 go_ret
 exact ⟨rfl,uH HB⟩
set_option maxRecDepth 100000 in
theorem lifted (os:Os) (started:os.Started) (H:Type) (enc:TypeId×Value→H) :
  ReturnsInHanded {} Tryz.checked os 3 .any (Rows.fnExactRunsSpec.pre6 enc Tryz.prog Tryz.f3 Rows.fnExactRunsRow.domain false) (Rows.fnExactRunsSpec.post enc Tryz.prog Tryz.f3 false true false false):=by
 refine returnsInHanded_of_change (C:=Tryz.checked) own started (by kernel_rfl) Tryz.func3
  (ChangeSpec.witness6 (enc:=enc) (C:=Tryz.checked) false ⟨#[],#[.agg #[.slice none 0 0,.int .i64 0,.int .i64 0,.int .i64 0,.int .i64 0,.slice none 0 0,.slice none 0 0,.slice none 0 0,.string ByteArray.empty,.int .i64 0,.slice none 0 0,.slice none 0 0,.slice none 0 0]],[]⟩ 8 (by kernel_rfl) (by kernel_rfl) (by kernel_rfl) (by kernel_rfl)) ?_
 intro W base args ds gs before hval0 hW hcnd _
 have hval:∀(j:Nat) t v,Tryz.f3.params[j]? = some t→args[j]? = some v→Value.okWide Tryz.prog W .any base t v:=hval0
 have hW':=hW
 obtain ⟨p,q,hA0,hV,rfl,hfz,hnd⟩:=hW
 have hA:DataW.TrodAll enc Tryz.prog W 0 (fun _=>true) true Tryz.f3.params.toList args.toList ds p:=hA0
 rw [Tryz.params3] at hA hval
 obtain ⟨v0,vs0,d0,ds0,p0,q0,hargs,rfl,rfl,h0,r0⟩:=trodAll_cons hA
 obtain ⟨rfl,rfl,rfl⟩:=trodAll_nil r0
 obtain rfl:args=#[v0]:=by cases args;simp_all
 obtain ⟨rfl,rfl⟩:=trodVars_none hV
 have k0:=h0
 have lt0:∀x ∈ p0,x.block<W.heap.size:=by obtain ⟨m,hm⟩:=k0;exact DataW.trod_lt m _ _ _ hm
 obtain ⟨a0,b0,rfl,w0,x0⟩:=open_cluster (hval 0 33 v0 rfl rfl) h0
 clear hA0 hval0
 refine (walk a0 b0 W w0 x0).mono fun e W' ⟨he,bel⟩=>?_
 subst he
 exact ⟨_,rfl,_,_,_,[],_,[],hW',trodAll_mk1 (shut_bool Tryz.underlying4 _),(trodAll_cons_mk (Below.trod laidOut (by kernel_rfl) (of_decide_eq_true (by kernel_rfl)) k0 bel lt0) trodAll_mk0),rfl,bel.frame _,fun h=>by cases h⟩
set_option maxRecDepth 100000 in
set_option maxHeartbeats 16000000 in
theorem closed:joinedFacts Tryz.prog 3 Tryz.f3 Rows.fnExactRunsSpec Rows.fnExactRunsRow=true:=by
 unfold joinedFacts
 repeat rw [yK]
 repeat' apply And.intro
 all_goals (as_aux_lemma=>kernel_rfl)
theorem over:Rows.fnExactRunsRow.holds Tryz.pinned (OpenSpec.ofChange Rows.fnExactRunsSpec):=
 OpenClaim.holds_of_wide 3 Tryz.f3 rfl rfl rfl rfl rfl rfl rfl ⟨rfl,rfl,rfl,rfl,rfl⟩ rfl rfl rfl rfl rfl (by kernel_rfl) Tryz.func3 closed
  (of_decide_eq_true (by kernel_rfl)) (by unfold Func.isWrapper;first | (rw [if_pos (by decide +kernel)];kernel_rfl) | (rw [if_neg (by decide +kernel)];exact ⟨rfl,rfl⟩))
  (fun os started H enc _=>lifted os started H enc)
end Go.Proofs.YtmkedfdnokmglaaGreat.fnExactRuns
namespace Go.Proofs.YtmkedfdnokmglaaGreat
theorem fnExactRuns_holds:Rows.FnExactRunsSaid:=fnExactRuns.over
#print axioms fnExactRuns_holds
end Go.Proofs.YtmkedfdnokmglaaGreat
