/-
  The law FnExactManagerCrash answers true at every manager and every number: the program's ManagerCrash answers as the model's, writes into nothing that it was handed and keeps nothing of it, and its answer owns its memory, behind another call too; no condition.
-/
import Derived.Test.YtjkfappkpopbdaaGreatSackAH
import Derived.Test.YtjkfappkpopbdaaGreatSackO
import Derived.ShutString
import Derived.ChangeOld
namespace Go.Proofs.YtjkfappkpopbdaaGreat.fnExactManagerCrash
open Go.ChangeShapes Go.WideShapes Go.ChangeAt Go.RowKit
open Go.ChangeMaps (open_string shut_string)
set_option linter.unusedVariables false
theorem own:ownKnob Tryz.prog.godebug=none:=by kernel_rfl
theorem laidOut:laidOutB Tryz.prog=true:=by kernel_rfl
theorem MCrAns.lay {w w':World} {s:St} {L:List UInt8} {e:Ending} (h:MCrAns w s L e w'):∃z hs,e=.returned (mgrv ⟨z,none,0,0⟩ ⟨recSt s.qs (readV (bs L)).1,L,L.length,[]⟩)∧MgA w.heap.size w'.heap.size (w'.alloc (.cells (mgt z (recSt s.qs (readV (bs L)).1) L) 40)) w'.heap.size z (recSt s.qs (readV (bs L)).1) L hs∧Below w.heap.size w w':=by
 obtain ⟨z,hs,rfl,h1,h2⟩:=h
 exact ⟨z,hs,rfl,⟨yD _ _ _,h1.ans.below (yA (yH _ _) _),yJ _⟩,h2⟩
theorem rec_fit {l:List Q} (hf:FitQ l) (rs:List Rc):FitSt (recSt l rs):=by
 unfold recSt
 split
 ·exact rinv_fit (rinv_rec hf rs) hf
 ·exact ⟨⟨by simp,by simp⟩,⟨by simp,by simp⟩,⟨by simp,by simp⟩,⟨by simp,by simp⟩⟩
set_option maxRecDepth 100000 in
set_option maxHeartbeats 16000000 in
theorem walk (a0:Mgs) (b0:Mgr) (a1:Int) (w:World) (w0:MRow w a0 b0) (x0:MgrFit a0 b0) (w1:(Lit.int .i64 a1).wf=true) :
  Calls Tryz.prog 3 #[mgrv a0 b0,.int .i64 a1] w fun e w'=>e=.returned (.bool true)∧Below w.heap.size w w':=by
 have HR:=hide w0
 have I0:=hide (MgBox.new w a0 b0)
 have C0:=hide (szManager_any a0 b0 _ (w0.below (uH I0).2) x0.big)
 have HFIT:=hide (fun hf:FitMgr b0=>And.intro (rec_fit hf.1.1 (readV (bs (crLog b0.log b0.safe a1))).1) (cr_le b0.log b0.safe a1 hf.2.1))
 have CS:=hide (fun (hf:FitMgr b0) (y:Mgs) (B E:Nat) wx (h:MMd wx B E y b0)=>(specManagerCrash_any y b0 a1 wx h.row h.some hf).mono (fun e w' h=>MCrAns.lay h))
 have CI:=hide (fun (hf:FitMgr b0) (y:Mgs) (B E:Nat) wx (h:MMd wx B E y b0)=>(implManagerCrash_any y b0 a1 wx h.row hf).mono (fun e w' h=>MCrAns.lay h))
 obtain ⟨L,hL⟩:∃L,crLog b0.log b0.safe a1=L:=⟨_,rfl⟩
 rw [hL] at HFIT CS CI
 obtain ⟨S1,hS1⟩:∃t,recSt b0.s.qs (readV (bs L)).1=t:=⟨_,rfl⟩
 rw [hS1] at HFIT CS CI
 have CT:=hide (fun (hf:FitMgr b0) wx (hb:Below w.heap.size w wx)=>toManager_any a0 b0 wx ((uH HR).below hb) hf)
 have CE:=hide (fun (hf:FitMgr b0) (y y':Mgs) wx (h:MRow wx y b0) (h':MRow wx y' b0)=>eqManager_two y y' b0 wx h h' hf)
 have CM:=hide (fun (hf:FitMgr b0) B E (y:Mgs) wx (h:MMd wx B E y b0) (hE:E≤wx.heap.size)=>markManager_made B E y b0 wx h hE hf)
 clear w0 x0 hL hS1 w1
 obtain ⟨⟨qa,ql,qc,aa,al,ac,ma,ml,mc,ca,cl,cc⟩,wo,wl,wc⟩:=a0
 obtain ⟨⟨qs,clock,epoch,next,serial,apps,ms,cs⟩,log,safe,wait⟩:=b0
 go_enter Tryz.func3,Tryz.ntmps3
 go_wp2_with fail
 refine (uH C0).mono ?_
 rintro e w1 ⟨r,rfl,hr,hb⟩
 have I1:=hide ((uH I0).call hb)
 clear hb C0 I0
 rcases hr with rfl | ⟨hr,hr2,hfit⟩
 ·go_wp2
  go_ret
  exact ⟨rfl,(uH I1).2⟩
 have HF:=hide hfit
 obtain ⟨hfs,hla⟩:=uH HFIT hfit
 have HFS:=hide hfs
 have HFG:=hide (show FitMgr ⟨S1,L,L.length,[]⟩ from ⟨hfs,hla,by simp,by simp⟩)
 have hr0:¬r<0:=by omega
 clear hfit HFIT hfs hr hr2
 obtain ⟨p0,p1,p2,p3,p4,p5,p6,p7,p8,p9,p10⟩:=mgr_read (uH I1).1
 try simp only at p0 p1 p2 p3 p4 p5 p6 p7 p8 p9 p10
 go_wp2_with fail
 refine (uH CT (uH HF) _ (uH I1).2).mono ?_
 rintro e w2 ⟨y2,rfl,hq,hb⟩
 have I2:=hide ((uH I1).call hb)
 have Q2:=hide hq
 have z2:w.heap.size<w2.heap.size:=(uH I2).1.lt
 clear hb hq I1 p0 p1 p2 p3 p4 p5 p6 p7 p8 p9 p10 hr0
 go_wp2_with fail
 refine (uH CS (uH HF) _ _ _ _ (uH Q2)).mono ?_
 rintro e w3 ⟨zw,hw,rfl,haw,hb⟩
 have I3:=hide (((uH I2).call hb).al (.cells (mgt zw S1 L) 40))
 have A3:=hide haw
 have z3:w.heap.size<w3.heap.size:=by have:=hb.size;omega
 clear hb haw I2 Q2 CS
 obtain ⟨p0,p1,p2,p3,p4,p5,p6,p7,p8,p9,p10⟩:=mgr_read (uH I3).1
 try simp only at p0 p1 p2 p3 p4 p5 p6 p7 p8 p9 p10
 go_wp2_with fail
 refine (uH CT (uH HF) _ (uH I3).2).mono ?_
 rintro e w4 ⟨y4,rfl,hq,hb⟩
 have A4:=hide (((uH A3).below hb).al (.cells (mgrc y4 ⟨⟨qs,clock,epoch,next,serial,apps,ms,cs⟩,log,safe,wait⟩) 40))
 have I4:=hide (((uH I3).call hb).al (.cells (mgrc y4 ⟨⟨qs,clock,epoch,next,serial,apps,ms,cs⟩,log,safe,wait⟩) 40))
 have X4:=hide (yD w4 (mgrc y4 ⟨⟨qs,clock,epoch,next,serial,apps,ms,cs⟩,log,safe,wait⟩) 40)
 have D4:=hide (hq.below (yA (yH _ _) (.cells (mgrc y4 ⟨⟨qs,clock,epoch,next,serial,apps,ms,cs⟩,log,safe,wait⟩) 40)))
 have z4:w3.heap.size+1≤w4.heap.size:=by have:=hb.size;rw [yE] at this;exact this
 clear hb hq I3 A3 p0 p1 p2 p3 p4 p5 p6 p7 p8 p9 p10
 rw [yE] at D4
 go_wp2_with fail
 refine (uH CI (uH HF) _ _ _ _ (uH D4)).mono ?_
 rintro e w5 ⟨zg,hg,rfl,hag,hb⟩
 rw [yE] at hag
 have A5:=hide (((uH A4).below hb).al (.cells (mgt zg S1 L) 40))
 have I5:=hide (((uH I4).call hb).al (.cells (mgt zg S1 L) 40))
 have X5:=hide (((uH X4).below hb).al (.cells (mgt zg S1 L) 40))
 have D5:=hide (((uH D4).below hb).below (yA (yH _ _) (.cells (mgt zg S1 L) 40)))
 have G5:=hide hag
 have z5:w4.heap.size<w5.heap.size:=((uH X4).below hb).lt
 have HLIM:=hide (hag.a.lim (uH HFS))
 clear hb hag I4 X4 D4 A4
 obtain ⟨v0,v1,v2,v3,v4,v5,v6,v7,v8,v9,v10⟩:=mgt_read (uH A5).box
 obtain ⟨u0,u1,u2,u3,u4,u5,u6,u7,u8,u9,u10⟩:=mgt_read (uH G5).box
 obtain ⟨gw,hgw⟩:∃g,w3.heap.size=g:=⟨_,rfl⟩
 obtain ⟨gx,hgx⟩:∃g,w4.heap.size=g:=⟨_,rfl⟩
 rw [hgw] at A5 D5 z3 z4 v0 v1 v2 v3 v4 v5 v6 v7 v8 v9 v10
 rw [hgx] at X5 D5 G5 z4 z5
 rw [hgw,hgx]
 clear hgw hgx
 go_wp2_with fail
 refine (eqManager_two ⟨zg,none,0,0⟩ ⟨zw,none,0,0⟩ ⟨S1,L,L.length,[]⟩ _ (uH G5).row (uH A5).row (uH HFG)).mono ?_
 rintro e w6 ⟨rfl,hb⟩
 have A6:=hide ((uH A5).below hb)
 have G6:=hide ((uH G5).below hb)
 have N6:=hide (show MgTwo w6 w ⟨⟨qa,ql,qc,aa,al,ac,ma,ml,mc,ca,cl,cc⟩,wo,wl,wc⟩ ⟨⟨qs,clock,epoch,next,serial,apps,ms,cs⟩,log,safe,wait⟩ (gw+1) gx gx y4 w6 from ⟨(uH I5).call hb,(uH X5).below hb,(uH D5).below hb,yH _ _⟩)
 clear hb A5 G5 I5 X5 D5 v0 v1 v2 v3 v4 v5 v6 v7 v8 v9 v10 u0 u1 u2 u3 u4 u5 u6 u7 u8 u9 u10
 obtain ⟨gg,hgg⟩:∃g,w5.heap.size=g:=⟨_,rfl⟩
 rw [hgg] at G6 z5
 rw [hgg]
 clear hgg
 go_upto_region 10 with fail
 have R:=fun wx (h:MgTwo w6 w ⟨⟨qa,ql,qc,aa,al,ac,ma,ml,mc,ca,cl,cc⟩,wo,wl,wc⟩ ⟨⟨qs,clock,epoch,next,serial,apps,ms,cs⟩,log,safe,wait⟩ (gw+1) gx gx y4 wx)=>And.intro (mgr_read h.1.1) (mgr_read h.2.1)
 try simp only at R
 refine wp_region_held_drew (S:=fun wx=>MgTwo w6 w ⟨⟨qa,ql,qc,aa,al,ac,ma,ml,mc,ca,cl,cc⟩,wo,wl,wc⟩ ⟨⟨qs,clock,epoch,next,serial,apps,ms,cs⟩,log,safe,wait⟩ (gw+1) gx gx y4 wx) (by kernel_rfl) ((uH N6).call (yH _ _).drew) (fun S0=>?_)
 generalize w6.drew=wn at S0 ⊢
 refine tW 0 31 (.agg (mgrc y4 ⟨⟨qs,clock,epoch,next,serial,apps,ms,cs⟩,log,safe,wait⟩)) S0 ?_
 try simp only [zW]
 refine tW 1 32 (.agg (mgrc ⟨⟨qa,ql,qc,aa,al,ac,ma,ml,mc,ca,cl,cc⟩,wo,wl,wc⟩ ⟨⟨qs,clock,epoch,next,serial,apps,ms,cs⟩,log,safe,wait⟩)) S0 ?_
 try simp only [zW]
 clear R N6
 refine wpAnyH_ready (rs:=[2]) (by kernel_rfl) (by simp) (AllReadyH.cons rfl (fun K hK=>?_) AllReadyH.nil)
 go_simp
 refine (uH CT (uH HF) _ S0.1.2).mono ?_
 rintro e wt ⟨y7,rfl,hq,hb⟩
 have S1':=S0.call hb
 have Q7:=hide hq
 clear hb hq S0
 go_wp2_with fail
 refine hK.out _ _ S1' (fun S0=>?_)
 clear hK K S1'
 try simp only [zW]
 refine wpAnyH_ready (rs:=[3]) (by kernel_rfl) (by simp) (AllReadyH.cons rfl (fun K hK=>?_) AllReadyH.nil)
 go_simp
 refine (uH CE (uH HF) _ _ _ S0.2.2.1.row (uH Q7).row).mono ?_
 rintro e w7 ⟨rfl,hb⟩
 have S1':=S0.call hb
 clear hb S0 Q7
 go_wp2_with fail
 refine hK.out _ _ S1' (fun S0=>?_)
 clear hK K S1'
 try simp only [zW]
 refine tW 4 35 (.bool false) S0 ?_
 try simp only [zW]
 refine wpAnyH_done (by kernel_rfl) ?_ _
 have A7:=hide ((uH A6).below S0.2.2.2)
 have G7:=hide ((uH G6).below S0.2.2.2)
 have I7:=hide S0.1
 have X7:=hide S0.2.1
 have D7:=hide S0.2.2.1
 clear S0 A6 G6
 obtain ⟨q0,q1,q2,q3,q4,q5,q6,q7,q8,q9,q10⟩:=mgr_read (uH X7)
 try simp only at q0 q1 q2 q3 q4 q5 q6 q7 q8 q9 q10
 go_wp2_with fail
 refine (uH CM (uH HF) _ _ _ _ (uH D7) (Nat.le_of_lt (uH X7).lt)).mono ?_
 rintro e w8 ⟨k,rfl,hk,hm⟩
 have I8:=hide ((uH I7).mkd hm (by omega) (by have:=(uH X7).lt;omega))
 have A8:=hide ((uH A7).offd hm (.inl (by omega)) (.inl (by omega)))
 have G8:=hide ((uH G7).offd hm (.inr (by omega)) (.inr (by omega)))
 have hkn:¬k<0:=by omega
 clear hm I7 A7 G7 X7 D7 q0 q1 q2 q3 q4 q5 q6 q7 q8 q9 q10 CM CE hk
 obtain ⟨v0,v1,v2,v3,v4,v5,v6,v7,v8,v9,v10⟩:=mgt_read (uH A8).box
 obtain ⟨u0,u1,u2,u3,u4,u5,u6,u7,u8,u9,u10⟩:=mgt_read (uH G8).box
 go_wp2_with fail
 refine (eqManager_two ⟨zg,none,0,0⟩ ⟨zw,none,0,0⟩ ⟨S1,L,L.length,[]⟩ _ (uH G8).row (uH A8).row (uH HFG)).mono ?_
 rintro e w9 ⟨rfl,hb⟩
 have A9:=hide ((uH A8).below hb)
 have G9:=hide ((uH G8).below hb)
 have I9:=hide ((uH I8).call hb)
 clear hb A8 G8 I8 v0 v1 v2 v3 v4 v5 v6 v7 v8 v9 v10 u0 u1 u2 u3 u4 u5 u6 u7 u8 u9 u10
 obtain ⟨u0,u1,u2,u3,u4,u5,u6,u7,u8,u9,u10⟩:=mgt_read (uH G9).box
 go_wp2_with fail
 refine (markMgr_ans L (uH G9).a (by have:=(uH G9).box.lt;have:=(uH G9).ge;omega) (uH HLIM)).mono ?_
 rintro e w10 ⟨rfl,hM,hm⟩
 have hin:=(uH G9).a.ins
 have zg:=(uH G9).box.lt
 have zge:=(uH G9).ge
 have I10:=hide ((uH I9).off hm (B:=gx+1) (fun k hk=>(hin k hk).1) (by omega) (by omega))
 have A10:=hide ((uH A9).off hm hin (.inl (by omega)) (.inl (by omega)))
 have B10:=hide (hm.blk (uH G9).box (fun hi=>by have:=hin _ hi;omega))
 have M10:=hide hM
 clear hm hM hin zg zge A9 G9 I9 u0 u1 u2 u3 u4 u5 u6 u7 u8 u9 u10
 obtain ⟨u0,u1,u2,u3,u4,u5,u6,u7,u8,u9,u10⟩:=mgt_read (uH B10)
 have he1:¬((endS zg hg:Nat):Int)<0:=by omega
 go_wp2_with fail
 refine (heldMgr_ans S1 L (uH M10) (uH HLIM)).mono ?_
 rintro e w11 ⟨rfl,hb⟩
 have I11:=hide ((uH I10).call hb)
 have A11:=hide ((uH A10).below hb)
 have M11:=hide ((uH M10).below hb)
 have B11:=hide ((uH B10).below hb)
 clear hb I10 A10 M10 B10 u0 u1 u2 u3 u4 u5 u6 u7 u8 u9 u10
 obtain ⟨p0,p1,p2,p3,p4,p5,p6,p7,p8,p9,p10⟩:=mgr_read (uH I11).1
 try simp only at p0 p1 p2 p3 p4 p5 p6 p7 p8 p9 p10
 go_wp2_with fail
 refine (uH CT (uH HF) _ (uH I11).2).mono ?_
 rintro e w12 ⟨y12,rfl,hq,hb⟩
 have I12:=hide ((uH I11).call hb)
 have A12:=hide ((uH A11).below hb)
 have M12:=hide ((uH M11).below hb)
 have B12:=hide ((uH B11).below hb)
 have Q12:=hide hq
 clear hb hq I11 A11 M11 B11 p0 p1 p2 p3 p4 p5 p6 p7 p8 p9 p10
 go_wp2_with fail
 refine (uH CI (uH HF) _ _ _ _ (uH Q12)).mono ?_
 rintro e w13 ⟨zh,hh,rfl,hah,hb⟩
 have I13:=hide (((uH I12).call hb).al (.cells (mgt zh S1 L) 40))
 have A13:=hide (((uH A12).below hb).al (.cells (mgt zh S1 L) 40))
 have M13:=hide (((uH M12).below hb).below (yA (yH _ _) (.cells (mgt zh S1 L) 40)))
 have B13:=hide (((uH B12).below hb).al (.cells (mgt zh S1 L) 40))
 have S13:=hide hah
 clear hb hah I12 A12 M12 B12 Q12 CI CT
 obtain ⟨v0,v1,v2,v3,v4,v5,v6,v7,v8,v9,v10⟩:=mgt_read (uH A13).box
 obtain ⟨u0,u1,u2,u3,u4,u5,u6,u7,u8,u9,u10⟩:=mgt_read (uH S13).box
 go_wp2_with fail
 refine (eqManager_two ⟨zh,none,0,0⟩ ⟨zw,none,0,0⟩ ⟨S1,L,L.length,[]⟩ _ (uH S13).row (uH A13).row (uH HFG)).mono ?_
 rintro e w14 ⟨rfl,hb⟩
 have I14:=hide ((uH I13).call hb)
 have M14:=hide ((uH M13).below hb)
 have B14:=hide ((uH B13).below hb)
 clear hb I13 A13 M13 B13 S13 v0 v1 v2 v3 v4 v5 v6 v7 v8 v9 v10 u0 u1 u2 u3 u4 u5 u6 u7 u8 u9 u10
 obtain ⟨u0,u1,u2,u3,u4,u5,u6,u7,u8,u9,u10⟩:=mgt_read (uH B14)
 go_wp2_with fail
 refine (heldMgr_ans S1 L (uH M14) (uH HLIM)).mono ?_
 rintro e w15 ⟨rfl,hb⟩
 have HB:=hide (yB (uH I14).2 hb)
 clear hb I14 M14 B14 u0 u1 u2 u3 u4 u5 u6 u7 u8 u9 u10
 go_wp2
 go_ret
 exact ⟨rfl,uH HB⟩
set_option maxRecDepth 100000 in
theorem lifted (os:Os) (started:os.Started) (H:Type) (enc:TypeId×Value→H) :
  ReturnsInHanded {} Tryz.checked os 3 .any (Rows.fnExactManagerCrashSpec.pre6 enc Tryz.prog Tryz.f3 Rows.fnExactManagerCrashRow.domain false) (Rows.fnExactManagerCrashSpec.post enc Tryz.prog Tryz.f3 false true false false):=by
 refine returnsInHanded_of_change (C:=Tryz.checked) own started (by kernel_rfl) Tryz.func3
  (ChangeSpec.witness6 (enc:=enc) (C:=Tryz.checked) false ⟨#[],#[.agg #[.slice none 0 0,.int .i64 0,.int .i64 0,.int .i64 0,.int .i64 0,.slice none 0 0,.slice none 0 0,.slice none 0 0,.string ByteArray.empty,.int .i64 0,.slice none 0 0],.int .i64 0],[]⟩ 8 (by kernel_rfl) (by kernel_rfl) (by kernel_rfl) (by kernel_rfl)) ?_
 intro W base args ds gs before hval0 hW hcnd _
 have hval:∀(j:Nat) t v,Tryz.f3.params[j]? = some t→args[j]? = some v→Value.okWide Tryz.prog W .any base t v:=hval0
 have hW':=hW
 obtain ⟨p,q,hA0,hV,rfl,hfz,hnd⟩:=hW
 have hA:DataW.TrodAll enc Tryz.prog W 0 (fun _=>true) true Tryz.f3.params.toList args.toList ds p:=hA0
 rw [Tryz.params3] at hA hval
 obtain ⟨v0,vs0,d0,ds0,p0,q0,hargs,rfl,rfl,h0,r0⟩:=trodAll_cons hA
 obtain ⟨v1,vs1,d1,ds1,p1,q1,rfl,rfl,rfl,h1,r1⟩:=trodAll_cons r0
 obtain ⟨rfl,rfl,rfl⟩:=trodAll_nil r1
 obtain rfl:args=#[v0,v1]:=by cases args;simp_all
 obtain ⟨rfl,rfl⟩:=trodVars_none hV
 have k0:=h0
 have lt0:∀x ∈ p0,x.block<W.heap.size:=by obtain ⟨m,hm⟩:=k0;exact DataW.trod_lt m _ _ _ hm
 obtain ⟨a0,b0,rfl,w0,x0⟩:=open_manager (hval 0 30 v0 rfl rfl) h0
 obtain ⟨a1,rfl,rfl,rfl,w1⟩:=open_int Tryz.underlying3 (hval 1 3 v1 rfl rfl) h1
 clear hA0 hval0
 refine (walk a0 b0 a1 W w0 x0 w1).mono fun e W' ⟨he,bel⟩=>?_
 subst he
 exact ⟨_,rfl,_,_,_,[],_,[],hW',trodAll_mk1 (shut_bool Tryz.underlying4 _),(trodAll_cons_mk (Below.trod laidOut (by kernel_rfl) (of_decide_eq_true (by kernel_rfl)) k0 bel lt0) (trodAll_cons_mk (shut_int Tryz.underlying3 w1) trodAll_mk0)),rfl,bel.frame _,fun h=>by cases h⟩
set_option maxRecDepth 100000 in
set_option maxHeartbeats 16000000 in
theorem closed:joinedFacts Tryz.prog 3 Tryz.f3 Rows.fnExactManagerCrashSpec Rows.fnExactManagerCrashRow=true:=by
 unfold joinedFacts
 repeat rw [yK]
 repeat' apply And.intro
 all_goals (as_aux_lemma=>kernel_rfl)
theorem over:Rows.fnExactManagerCrashRow.holds Tryz.pinned (OpenSpec.ofChange Rows.fnExactManagerCrashSpec):=
 OpenClaim.holds_of_wide 3 Tryz.f3 rfl rfl rfl rfl rfl rfl rfl ⟨rfl,rfl,rfl,rfl,rfl⟩ rfl rfl rfl rfl rfl (by kernel_rfl) Tryz.func3 closed
  (of_decide_eq_true (by kernel_rfl)) (by unfold Func.isWrapper;first | (rw [if_pos (by decide +kernel)];kernel_rfl) | (rw [if_neg (by decide +kernel)];exact ⟨rfl,rfl⟩))
  (fun os started H enc _=>lifted os started H enc)
end Go.Proofs.YtjkfappkpopbdaaGreat.fnExactManagerCrash
namespace Go.Proofs.YtjkfappkpopbdaaGreat
theorem fnExactManagerCrash_holds:Rows.FnExactManagerCrashSaid:=fnExactManagerCrash.over
#print axioms fnExactManagerCrash_holds
end Go.Proofs.YtjkfappkpopbdaaGreat
