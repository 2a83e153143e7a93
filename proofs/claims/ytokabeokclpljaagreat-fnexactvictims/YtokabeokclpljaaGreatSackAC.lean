/-
  What is taken back for a queue, by the model: Victims; a walk over the dump.
-/
import Derived.Test.YtokabeokclpljaaGreatSackAA
import Derived.Test.YtokabeokclpljaaGreatSackS
set_option maxRecDepth 100000
set_option maxHeartbeats 16000000
set_option linter.unusedVariables false
set_option linter.unusedSimpArgs false
namespace Go.Proofs.YtokabeokclpljaaGreat
section
open Go.RowKit
theorem specVictims_any (x:Sls) (s:St) (hs0:List AV) (nm:List UInt8) (w:World) (h:SRow w x s) (hav:AVRow w x.aa x.al hs0) (hhd:Heads w hs0 s.apps) (hss:SSome x hs0) (hf:FitSt s) :
  Calls Tryz.prog 5 #[sv x s,.string (bs nm)] w fun e w'=>∃v,e=.returned v∧Hid (IOwn w.heap.size w' v (victimsV s nm)∧Below w.heap.size w w'):=by
 obtain ⟨ti,hii,tz0,tz1,tz2⟩:=info_parts Tryz.infoI
 obtain ⟨i0,hic0,hz0,hzz1,hz2⟩:=info_parts Tryz.infoCont
 have HCL:=hide (show s.cs.length≤1048576 from hf.2.2.2.1)
 have CO:=hide (fun wx (hb:Below w.heap.size w wx)=>specStateOk_any x s wx (h.below hb) hf)
 have CS:=hide (fun wx (hb:Below w.heap.size w wx)=>specStarving_any x s wx (h.below hb) hf)
 have CL:=hide (fun wx (hb:Below w.heap.size w wx)=>specLack_any x s nm wx (h.below hb) hf)
 have CC:=hide (fun wx (hb:Below w.heap.size w wx)=>show Calls Tryz.prog 21 #[sv x s] wx (fun e w'=>∃y hs,e=.returned (sv y s)∧SAns wx.heap.size w'.heap.size w' y s hs∧Below wx.heap.size wx w'∧∃g,y.ca=some ⟨g,0,none⟩) from l04Copy_some x s hs0 wx (h.below hb) (hav.below hb) (hhd.below hb) hss hf)
 have CN:=hide (fun (L:List Con) (hl:L.length≤s.cs.length) (hsub:∀c ∈ L,c ∈ s.cs) (B:Nat) (y:Sls) (hs1:List AV) (wx:World) (hx:SHas B wx y (withC s L) hs1)=>l06Last_any y (withC s L) hs1 wx hx.ans.row hx.p.1 hx.k.heads hx.ans.some (fit_withC hf hl hsub))
 have HSL:=hide (show (starveV s).length≤1048576 from by have:=stv_len s;have:=h.1.1;have:=h.ql hf;omega)
 obtain ⟨vs,hvs⟩:∃l,victimsV s nm=l:=⟨_,rfl⟩
 obtain ⟨ok,hok⟩:∃b,stateOkV s=b:=⟨_,rfl⟩
 obtain ⟨stv,hstv⟩:∃b,starveV s=b:=⟨_,rfl⟩
 obtain ⟨⟨l1,l2⟩,hlk⟩:∃b,lackV s nm=b:=⟨_,rfl⟩
 have HVS:=hide (show vs=((if ok=true∧stv.any (fun x=>decide (x=nm))=true then vicF s (l1,l2) (s.cs.length+1) s.cs (0,0) else []).map (·.id)) from by rw [←hvs,←hok,←hstv,←hlk];rfl)
 have HVR:=hide (VRel.start s (l1,l2))
 have HWC:=hide (show withC s s.cs=s from rfl)
 rw [hok] at CO
 rw [hstv] at CS HSL
 rw [hlk] at CL
 rw [hvs]
 simp only at CL
 clear h hav hhd hss hf hvs hok hstv hlk
 have HB0:=hide (yA (yA (yH _ w) (.cells (svc x s) 36)) (.cells #[] 3))
 have P0:=hide ((yD w (svc x s) 36).al (.cells #[] 3))
 have N0:=hide (show IOwn w.heap.size ((w.alloc (.cells (svc x s) 36)).alloc (.cells #[] 3)) (.slice (some ⟨w.heap.size+1,0,none⟩) 0 0) [] from by have:=iown_base (iown_empty (w.alloc (.cells (svc x s) 36))) (show w.heap.size≤_ by rw [yE];omega);rwa [yE] at this)
 obtain ⟨qa,ql,qc,aa,al,ac,ma,ml,mc,ca,cl,cc⟩:=x
 obtain ⟨qs,clock,epoch,next,serial,apps,ms,cs⟩:=s
 simp only at HCL CN
 obtain ⟨q0,q1,q2,q3,q4,q5,q6,q7⟩:=zq (uH P0)
 go_enter Tryz.func5,Tryz.ntmps5
 go_wp2_with fail
 refine (uH CO _ (uH HB0)).mono ?_
 rintro e w1 ⟨rfl,hb⟩
 have HB1:=hide (yB (uH HB0) hb)
 have P1:=hide ((uH P0).below hb)
 have N1:=hide (iown_below (uH N0) hb)
 clear hb HB0 P0 N0 CO
 clear q0 q1 q2 q3 q4 q5 q6 q7
 obtain ⟨q0,q1,q2,q3,q4,q5,q6,q7⟩:=zq (uH P1)
 cases ok with
 | false=>
  obtain rfl:vs=[]:=by rw [uH HVS];simp
  clear HVS
  go_wp2
  go_ret
  exact ⟨_,rfl,hide ⟨uH N1,uH HB1⟩⟩
 | true=>
  go_wp2_with fail
  refine (uH CS _ (uH HB1)).mono ?_
  rintro e w2 ⟨v,rfl,ht,hb⟩
  have HB2:=hide (yB (uH HB1) hb)
  have P2:=hide ((uH P1).below hb)
  have N2:=hide (iown_below (uH N1) hb)
  have CH:=hide (l04Has_any v stv nm _ w2 ht (uH HSL))
  obtain ⟨vo,vc,rfl,-⟩:=ht.open
  clear hb ht HB1 P1 N1 CS
  clear q0 q1 q2 q3 q4 q5 q6 q7
  obtain ⟨sl,hsl⟩:∃n,stv.length=n:=⟨_,rfl⟩
  obtain ⟨has,hhas⟩:∃b,stv.any (fun x=>decide (x=nm))=b:=⟨_,rfl⟩
  rw [hsl] at CH ⊢
  rw [hhas] at CH HVS
  clear hsl hhas HSL
  go_wp2_with fail
  refine (uH CH).mono ?_
  rintro e w3 ⟨rfl,rfl⟩
  clear CH
  obtain ⟨q0,q1,q2,q3,q4,q5,q6,q7⟩:=zq (uH P2)
  cases has with
  | false=>
   obtain rfl:vs=[]:=by rw [uH HVS];simp
   clear HVS
   go_wp2
   go_ret
   exact ⟨_,rfl,hide ⟨uH N2,uH HB2⟩⟩
  | true=>
   have HVS2:=hide (show vs=(vicF ⟨qs,clock,epoch,next,serial,apps,ms,cs⟩ (l1,l2) (cs.length+1) cs (0,0)).map (·.id) from by rw [uH HVS];simp)
   clear HVS
   go_wp2_with fail
   refine (uH CL _ (uH HB2)).mono ?_
   rintro e w3 ⟨rfl,hb⟩
   have hbA:=yA (yH _ w3) (.cells #[.int .i64 l1,.int .i64 l2] 52)
   have HB4:=hide (yB (yB (uH HB2) hb) hbA)
   have P4:=hide (((uH P2).below hb).below hbA)
   have N4:=hide (iown_below (iown_below (uH N2) hb) hbA)
   have hw3:w.heap.size<w3.heap.size:=((uH P2).below hb).lt
   obtain ⟨gA,hgA⟩:∃g,w3.heap.size=g:=⟨_,rfl⟩
   have A4:=hide (show Blk _ gA #[.int .i64 l1,.int .i64 l2] 52 from by have:=yD w3 #[.int .i64 l1,.int .i64 l2] 52;rwa [hgA] at this)
   clear hb hbA HB2 P2 N2 CL
   clear q0 q1 q2 q3 q4 q5 q6 q7
   go_upto_region 5 with fail
   rw [hgA] at hw3
   try rw [hgA]
   clear hgA
   generalize w3.alloc (.cells #[.int .i64 l1,.int .i64 l2] 52)=w4 at HB4 P4 N4 A4 ⊢
   refine wp_region_lit ?_
   refine wpList_same (v:=sv ⟨qa,ql,qc,aa,al,ac,ma,ml,mc,ca,cl,cc⟩ ⟨qs,clock,epoch,next,serial,apps,ms,cs⟩) (d:=some 25) rfl rfl (run_v (state_load (uH P4) rfl)) ?_
   simp only [zW]
   refine wpList_plain rfl (fun K hK=>?_)
   go_simp
   refine (uH CC _ (uH HB4)).mono ?_
   rintro e w5 ⟨y,hs,rfl,ha,hb,hca⟩
   refine hK _ _ ?_
   clear hK K
   try simp only [zW]
   have H5:=hide ((ha.has (yJ _)).base (uH HB4).size)
   have P5:=hide ((uH P4).below hb)
   have N5:=hide (iown_below (uH N4) hb)
   have A5:=hide ((uH A4).below hb)
   have HB5:=hide (yB (uH HB4) hb)
   have HCA:=hide hca
   clear ha hb hca P4 N4 A4 HB4 CC
   refine wpList_none (d:=none) rfl rfl (run_u (blk_store 36 (arr:=svc y ⟨qs,clock,epoch,next,serial,apps,ms,cs⟩) (uH P5) (by kernel_rfl) rfl (by kernel_rfl))) ?_
   simp only [Act.put]
   have M6:=mks_row (uH P5) (svc y ⟨qs,clock,epoch,next,serial,apps,ms,cs⟩) rfl
   have P6:=hide (blk_row (uH P5) (svc y ⟨qs,clock,epoch,next,serial,apps,ms,cs⟩))
   have N6:=hide (iown_off (uH N5) M6 (uH P5) (by decide))
   have A6:=hide (M6.blk (uH A5) (by omega))
   have H6:=hide ((uH H5).mkt M6 (uH P5))
   have HB6:=hide ((uH HB5).trans (M6.below (fun k e=>by subst e;omega) (uH HB5).size))
   clear M6 P5 N5 A5 H5 HB5
   generalize World.setRow w5 w.heap.size (svc y ⟨qs,clock,epoch,next,serial,apps,ms,cs⟩)=w6 at P6 N6 A6 H6 HB6 ⊢
   have hbB:=yA (yH _ w6) (.cells #[.int .i64 0,.int .i64 0] 52)
   have P7:=hide ((uH P6).below hbB)
   have N7:=hide (iown_below (uH N6) hbB)
   have A7:=hide ((uH A6).below hbB)
   have H7:=hide ((uH H6).below hbB)
   have HB7:=hide (yB (uH HB6) hbB)
   have hw6:gA<w6.heap.size:=(uH A6).lt
   obtain ⟨gB,hgB⟩:∃g,w6.heap.size=g:=⟨_,rfl⟩
   have B7:=hide (show Blk _ gB #[.int .i64 0,.int .i64 0] 52 from by have:=yD w6 #[.int .i64 0,.int .i64 0] 52;rwa [hgB] at this)
   rw [hgB] at hw6
   clear hbB P6 N6 A6 H6 HB6
   go_wp2
   try rw [hgB]
   clear hgB
   generalize w6.alloc (.cells #[.int .i64 0,.int .i64 0] 52)=w7 at P7 N7 A7 H7 HB7 B7 ⊢
   go_loopw [5] (fun v wr=>∃(L G:List Con) (g1 g2:Int) (n:Nat) (y:Sls) (hs:List AV),Hid (IOwn w.heap.size wr v (G.map (·.id)))∧Hid (∃g,y.ca=some ⟨g,0,none⟩)∧Hid (Blk wr w.heap.size (svc y (withC ⟨qs,clock,epoch,next,serial,apps,ms,cs⟩ L)) 36)∧Hid (SHas w.heap.size wr y (withC ⟨qs,clock,epoch,next,serial,apps,ms,cs⟩ L) hs)∧Hid (Blk wr gA #[.int .i64 l1,.int .i64 l2] 52)∧Hid (Blk wr gB #[.int .i64 g1,.int .i64 g2] 52)∧Hid (VRel ⟨qs,clock,epoch,next,serial,apps,ms,cs⟩ (l1,l2) n L G (g1,g2))∧Hid (Below w.heap.size w wr)) (fun _ wr=>ccLen wr w.heap.size)
   case atStart=>exact ⟨cs,[],0,0,_,y,hs,N7,HCA,P7,H7,A7,B7,HVR,HB7⟩
   case round=>
    obtain ⟨L,G,g1,g2,n,y2,hs2,HN,HY,HP,HH,HA,HG,HV,HB⟩:=hrel
    clear P7 N7 A7 H7 HB7 B7 HVR HCA
    obtain ⟨wq,rfl⟩:∃wo:World,wo=wr:=⟨_,rfl⟩
    have a0:=(uH HA).at 0;have a1:=(uH HA).at 1
    have b0:=(uH HG).at 0;have b1:=(uH HG).at 1
    simp at a0 a1 b0 b1
    go_wp2_with fail
    refine (specWithin_any l1 l2 g1 g2 _).mono ?_
    rintro e w7 ⟨rfl,hb⟩
    have HN7:=hide (iown_below (uH HN) hb)
    have HP7:=hide ((uH HP).below hb)
    have HH7:=hide ((uH HH).below hb)
    have HA7:=hide ((uH HA).below hb)
    have HG7:=hide ((uH HG).below hb)
    have HB7:=hide (yB (uH HB) hb)
    have HMS:=hide (ccLen_is (uH HP))
    clear a0 a1 b0 b1 hb HN HP HH HA HG HB
    cases hwi:within l1 l2 g1 g2 with
    | true=>
     have HVS3:=hide (show vs=G.map (·.id) from by rw [uH HVS2];exact congrArg _ ((uH HV).enough hwi))
     clear hwi HVS2 HV
     go_wp2
     go_ret
     exact ⟨_,rfl,hide ⟨by rw [uH HVS3];exact uH HN7,uH HB7⟩⟩
    | false=>
     have HWI:=hide hwi
     clear hwi
     have CN7:=hide (uH CN L (by have:=(uH HV).tot;simp only at this;omega) (uH HV).sub w.heap.size y2 hs2 w7 (uH HH7))
     obtain ⟨at',hat⟩:∃o,lastS (withC ⟨qs,clock,epoch,next,serial,apps,ms,cs⟩ L)=o:=⟨_,rfl⟩
     have HAT:=hide hat
     rw [hat] at CN7
     clear hat
     obtain ⟨cg,hcg⟩:=uH HY
     have hll:y2.cl=L.length:=(uH HH7).c.1.1
     obtain ⟨qa2,ql2,qc2,aa2,al2,ac2,ma2,ml2,mc2,ca2,cl2,cc2⟩:=y2
     simp only at hcg hll HMS
     subst hcg
     have HLL:=hide hll
     clear hll HY
     obtain ⟨q0,q1,q2,q3,q4,q5,q6,q7⟩:=zq (uH HP7)
     go_wp2_with fail
     refine (uH CN7).mono ?_
     rintro e w8 ⟨rfl,hb⟩
     have HN8:=hide (iown_below (uH HN7) hb)
     have HP8:=hide ((uH HP7).below hb)
     have HH8:=hide ((uH HH7).below hb)
     have HA8:=hide ((uH HA7).below hb)
     have HG8:=hide ((uH HG7).below hb)
     have HB8:=hide (yB (uH HB7) hb)
     clear hb CN7 HN7 HP7 HH7 HA7 HG7 HB7
     clear q0 q1 q2 q3 q4 q5 q6 q7
     cases at' with
     | none=>
      simp only [plL]
      have HVS3:=hide (show vs=G.map (·.id) from by rw [uH HVS2];exact congrArg _ ((uH HV).over (uH HAT)))
      clear HVS2 HAT HV HWI
      go_wp2
      go_ret
      exact ⟨_,rfl,hide ⟨by rw [uH HVS3];exact uH HN8,uH HB8⟩⟩
     | some i=>
      simp only [plL]
      have hi0:¬((i:Int)<0):=by omega
      obtain ⟨hic,hvr⟩:=(uH HV).step (uH HWI) (uH HAT)
      have hgl:L.length≤1048576∧G.length≤1048576:=by have h1:=(uH HV).tot;have h2:=uH HCL;simp only at h1;omega
      have hcr:ConRow w8 (some ⟨cg,0,none⟩) cl2 L:=(uH HH8).c.1
      obtain ⟨b',off,hbo',hco⟩:=hcr.at (show i<cl2 by have:=uH HLL;omega)
      cases hbo'
      obtain ⟨k0,k1,k2,k3,k4⟩:=hco hic
      simp only [Nat.zero_add] at k0 k1 k2 k3 k4
      obtain ⟨c,hcx⟩:∃c,L[i]=c:=⟨_,rfl⟩
      rw [hcx] at hvr k0 k1 k2 k3 k4
      have HIC:=hide hic
      have hbo:=addV_both g1 g2 c
      obtain ⟨⟨b1,b2⟩,hbb⟩:∃p,addV (g1,g2) c=p:=⟨_,rfl⟩
      rw [hbb] at hvr hbo
      obtain ⟨c0,c1,cn,c3,c4⟩:=c
      simp only at hbo k0 k1 k2 k3 k4
      have CA:=hide (fun wx=>by have:=specAdd_any g1 g2 c3 c4 wx;rw [hbo] at this;exact this)
      have HVN:=hide hvr
      obtain ⟨bo,hboo⟩:∃b,bothOk 1 g1 g2 c3 c4=b:=⟨_,rfl⟩
      rw [hboo] at CA
      have hlen:=List.length_eraseIdx_of_lt hic
      have HLEN:=hide hlen
      have n0:(0:Int)≤i:=by omega
      have n1:(i:Int)<cl2:=by have:=uH HLL;omega
      clear hvr hcx hbb hbo hboo hlen hic HV HWI HAT hco hcr
      obtain ⟨q0,q1,q2,q3,q4,q5,q6,q7⟩:=zq (uH HP8)
      have hbc:=yA (yH _ w8) (.cells #[.int .i64 c0,.int .i64 c1,.string (bs cn),.int .i64 c3,.int .i64 c4] 58)
      have HN9:=hide (iown_below (uH HN8) hbc)
      have HP9:=hide ((uH HP8).below hbc)
      have HH9:=hide ((uH HH8).below hbc)
      have HA9:=hide ((uH HA8).below hbc)
      have HG9:=hide ((uH HG8).below hbc)
      have HB9:=hide (yB (uH HB8) hbc)
      have HC9:=hide (yD w8 #[.int .i64 c0,.int .i64 c1,.string (bs cn),.int .i64 c3,.int .i64 c4] 58)
      go_upto_region 12 with fail
      clear k0 k1 k2 k3 k4 n0 n1 HN8 HP8 HH8 HA8 HG8 HB8 hbc
      clear q0 q1 q2 q3 q4 q5 q6 q7
      generalize w8.alloc (.cells #[.int .i64 c0,.int .i64 c1,.string (bs cn),.int .i64 c3,.int .i64 c4] 58)=w9 at HN9 HP9 HH9 HA9 HG9 HB9 HC9 ⊢
      generalize w8.heap.size=gC at HC9 ⊢
      have e0:=(uH HC9).at 0
      simp at e0
      have hal:(G.map (·.id)).length≤1048576:=by rw [List.length_map];exact hgl.2
      obtain ⟨acc,hacc⟩:∃x,G.map (·.id)=x:=⟨_,rfl⟩
      have HACC:=hide hacc
      rw [hacc] at HN9 hal
      clear hacc
      have hown:w9.ownsRow w.heap.size 3 1 _ acc.length (icells acc):=uH HN9
      have hsz9:w.heap.size≤w9.heap.size:=(uH HB9).size
      go_wp2_with (at_builtin;refine wpList_append_own _ rfl _ _ 29 rfl w.heap.size 3 ti (.int .i64 0) 1 8 Tryz.underlying29 hii tz0 tz1 tz2 rfl (by decide) _ _ _ rfl (hown.alloc _) ⟨w9.heap.size,0,none⟩ 1 1 [.int .i64 c0] (by first | rfl | simp) rfl ?c1 ?c2 ?c3 ?c4 ?c5 ?_)
      case c2=>rfl
      case c3=>unfold maxLen;omega
      case c4=>omega
      case c5=>omega
      intro v' w10 hown' hgrow _
      have hba:=yA (yH _ w9) (.cells #[.int .i64 c0] 3)
      have hcel:=owns_cel (World.ownsRow.alloc (uH HN9) (.cells #[.int .i64 c0] 3))
      have HI10:=hide (iown_step (q:=c0) (uH HB9) (uH HN9) hown' hgrow hsz9)
      have HP10:=hide (((uH HP9).below hba).grown hgrow hcel (by decide))
      have HH10:=hide (((uH HH9).below hba).grownI hgrow hcel)
      have HA10:=hide (((uH HA9).below hba).grown hgrow hcel (by decide))
      have HG10:=hide (((uH HG9).below hba).grown hgrow hcel (by decide))
      have HC10:=hide (((uH HC9).below hba).grown hgrow hcel (by decide))
      clear hown hown' hgrow hba hcel HN9 HP9 HH9 HA9 HG9 HC9 HB9 e0 hsz9
      obtain ⟨nacc,hnacc⟩:∃x,acc++[c0]=x:=⟨_,rfl⟩
      rw [hnacc] at HI10
      have HNE:=hide (show (G++[(⟨c0,c1,cn,c3,c4⟩:Con)]).map (·.id)=nacc by rw [List.map_append,uH HACC];exact hnacc)
      clear hnacc hal HACC
      have f3:=(uH HC10).at 3;have f4:=(uH HC10).at 4
      have b0:=(uH HG10).at 0;have b1':=(uH HG10).at 1
      simp at f3 f4 b0 b1'
      have d0:=(uH HG10).f 0;have d1:=(uH HG10).f 1
      go_wp2_with fail
      refine (uH CA _).mono ?_
      rintro e w11 ⟨rfl,hb⟩
      have HN11:=hide (iown_below (uH HI10).1 hb)
      have HB11:=hide (yB (uH HI10).2 hb)
      have HP11:=hide ((uH HP10).below hb)
      have HH11:=hide ((uH HH10).below hb)
      have HA11:=hide ((uH HA10).below hb)
      have HG11:=hide ((uH HG10).below hb)
      clear hb HI10 HP10 HH10 HA10 HG10 HC10 CA f3 f4 b0 b1' d0 d1
      have b0:=(uH HG11).at 0;have b1':=(uH HG11).at 1
      simp at b0 b1'
      have d0:=(uH HG11).f 0;have d1:=(uH HG11).f 1
      go_upto_region 14 with fail
      have M13:Mks (fun k=>k=gB) w11 ((w11.setCell ⟨gB,0,none⟩ (.int .i64 b1)).setCell ⟨gB,1,none⟩ (.int .i64 b2)):=(Mks.one (fun k=>k=gB) w11 gB 0 (.int .i64 b1) rfl).sc gB 1 (.int .i64 b2) rfl
      have HN13:=hide (iown_off (uH HN11) M13 (uH HG11) (by decide))
      have HP13:=hide (M13.blk (uH HP11) (by omega))
      have HA13:=hide (M13.blk (uH HA11) (by omega))
      have HH13:=hide ((uH HH11).mkR M13 (fun k e=>by subst e;exact ⟨_,_,uH HG11,rfl⟩))
      have HG13:=hide (show Blk ((w11.setCell ⟨gB,0,none⟩ (.int .i64 b1)).setCell ⟨gB,1,none⟩ (.int .i64 b2)) gB #[.int .i64 b1,.int .i64 b2] 52 from ((uH HG11).set 0 (.int .i64 b1)).set 1 (.int .i64 b2))
      have HB13:=hide ((uH HB11).trans (M13.below (fun k e=>by subst e;omega) (uH HB11).size))
      clear M13 b0 b1' d0 d1 HN11 HP11 HA11 HH11 HG11 HB11
      generalize (w11.setCell ⟨gB,0,none⟩ (.int .i64 b1)).setCell ⟨gB,1,none⟩ (.int .i64 b2)=ws at HN13 HP13 HA13 HH13 HG13 HB13 ⊢
      have hll:=uH HLL
      have hic:=uH HIC
      have hcap:cl2≤cc2:=(uH HH13).cap.c
      have hil:i<cl2:=by omega
      have hlc:cl2≤1048576:=by omega
      have hlo:=cutC_lo cg cl2 cc2 i (by omega)
      have hhi:∀wx:World,(Instr.slice 34 (.slice (some ⟨cg,0,none⟩) cl2 cc2) (some (.int .i64 ((i:Int)+1))) none none).run Tryz.prog wx=.ok (.slice (some (hiA cg cc2 (i+1) 5)) (cl2 - (i+1)) (cc2 - (i+1))) wx:=fun wx=>by
       have:=cutC_hi cg cl2 cc2 (i+1) (by omega) wx
       rwa [show (((i+1:Nat)):Int)=(i:Int)+1 by omega] at this
      have hwi:IntKind.i64.wrap ((i:Int)+1)=(i:Int)+1:=by rw [IntKind.wrap_i64];omega
      obtain ⟨NC1,hc1⟩:∃c,ccells (L.take i)=c:=⟨_,rfl⟩
      obtain ⟨NC2,hc2⟩:∃c,ccells (L.drop (i+1))=c:=⟨_,rfl⟩
      have HL1:=hide (show NC1.length=i*5 by rw [←hc1,ccells_len,List.length_take,Nat.min_eq_left (by omega)])
      have HL2:=hide (show NC2.length=(cl2 - (i+1))*5 by rw [←hc2,ccells_len,List.length_drop,←hll])
      have hsp1:ccells L=NC1++ccells (L.drop i):=by rw [←hc1,←ccells_append,List.take_append_drop]
      have hsp2:ccells L=ccells (L.take (i+1))++NC2:=by rw [←hc2,←ccells_append,List.take_append_drop]
      have HCR:=hide (show ConRow ws (some ⟨cg,0,none⟩) cl2 L from (uH HH13).c.1)
      have HLO:=hide (show ∀wx:World,Kp ws wx→∀j u,NC1[j]? = some u→wx.cell? (Addr.add ⟨cg,0,none⟩ j)=some u from fun wx hb j u hu=>by
       rw [Lib.add_plain]
       refine ccells_row ((uH HCR).below hb) j u ?_
       rw [hsp1,List.getElem?_append_left (List.getElem?_eq_some_iff.1 hu).1]
       exact hu)
      have HHI:=hide (show ∀wx:World,Kp ws wx→∀j u,NC2[j]? = some u→wx.cell? (Addr.add (hiA cg cc2 (i+1) 5) j)=some u from fun wx hb j u hu=>by
       have hlt:=(List.getElem?_eq_some_iff.1 hu).1
       rw [uH HL2] at hlt
       rw [hiA_at (by omega)]
       have hl1:(ccells (L.take (i+1))).length=(i+1)*5:=by rw [ccells_len,List.length_take,Nat.min_eq_left (by omega)]
       have:=ccells_row ((uH HCR).below hb) ((i+1)*5+j) u (by
        rw [hsp2,List.getElem?_append_right (by rw [hl1];omega),hl1,Nat.add_sub_cancel_left]
        exact hu)
       rwa [Nat.zero_add] at this)
      have HO1:=hide (show ∀u ∈ NC1,u.oneCell'=true by rw [←hc1];exact ccells_one _)
      have HO2:=hide (show ∀u ∈ NC2,u.oneCell'=true by rw [←hc2];exact ccells_one _)
      have HER:=hide (show NC1++NC2=ccells (L.eraseIdx i) by rw [List.eraseIdx_eq_take_drop_succ,ccells_append,hc1,hc2])
      clear hc1 hc2 hsp1 hsp2 hll hic
      have HSZ:=hide (show w.heap.size<ws.heap.size from (uH HP13).lt)
      have i63:0+i≤1048576:=by omega
      refine wp_region_x 13 (fun _=>True) (fun wx=>Kp ws wx) (by kernel_rfl) trivial ((Kp.new ws).drew) (fun S0 T0=>?_)
      generalize ws.drew=wn at S0 T0 ⊢
      refine takeXS 1 55 (.pointer (some ⟨w.heap.size,7,none⟩)) rfl rfl S0 T0 ?_
      try simp only [zW]
      refine takeXT 2 56 (.slice (some ⟨cg,0,none⟩) cl2 cc2) rfl rfl S0 T0 ?_ (hy:=Or.inl ⟨by rfl,fun wz hz=>by (have c7:=((uH HP13).below hz).at 7;simp at c7;go_simp;try with_reducible rfl)⟩)
      try simp only [zW]
      refine takeXS 3 57 (.int .i64 (i:Int)) rfl rfl S0 T0 ?_
      try simp only [zW]
      refine takeXS 4 58 (.slice (some ⟨cg,0,none⟩) i cc2) rfl rfl S0 T0 ?_ (hy:=Or.inl ⟨by rfl,fun wz hz=>run_v (hlo wz)⟩)
      try simp only [zW]
      refine takeXS 6 60 (.pointer (some ⟨w.heap.size,7,none⟩)) rfl rfl S0 T0 ?_
      try simp only [zW]
      refine takeXT 7 61 (.slice (some ⟨cg,0,none⟩) cl2 cc2) rfl rfl S0 T0 ?_ (hy:=Or.inl ⟨by rfl,fun wz hz=>by (have c7:=((uH HP13).below hz).at 7;simp at c7;go_simp;try with_reducible rfl)⟩)
      try simp only [zW]
      refine takeXS 8 62 (.int .i64 (i:Int)) rfl rfl S0 T0 ?_
      try simp only [zW]
      refine takeXS 9 63 (.int .i64 ((i:Int)+1)) rfl rfl S0 T0 ?_
      try simp only [zW]
      refine takeXS 10 64 (.slice (some (hiA cg cc2 (i+1) 5)) (cl2 - (i+1)) (cc2 - (i+1))) rfl rfl S0 T0 ?_ (hy:=Or.inl ⟨by rfl,fun wz hz=>run_v (hhi wz)⟩)
      try simp only [zW]
      have IR:=irow_new (E:=58) (sz:=5) T0
      have T1:Kp ws _:=yA T0 (.cells #[] 58)
      refine wpAnyX_ready [0] (AllReadyX.cons rfl (fun K hK=>?_) AllReadyX.nil)
      go_simp
      go_wp2_with fail
      clear S0 T0
      refine hK.out _ _ trivial (fun _=>T1) ?_
      clear hK K
      try simp only [zW]
      generalize wn.alloc (.cells #[] 58)=wa at T1 IR ⊢
      generalize wn.heap.size=g0 at IR ⊢
      refine wpAnyX_ready [5] (AllReadyX.cons rfl (fun K hK=>?_) AllReadyX.nil)
      refine ins_app (w1:=ws) rfl (.tmp 54) (.tmp 58) 34 rfl 58 i0 (.agg #[.int .i64 0,.int .i64 0,.string ByteArray.empty,.int .i64 0,.int .i64 0]) 5 48 Tryz.underlying34 hic0 hz0 hzz1 hz2 rfl (by decide) (.slice (some ⟨g0,0,none⟩) 0 0) 0 [] rfl IR T1 ⟨cg,0,none⟩ i cc2 NC1 rfl (uH HL1) (fun j u hu=>uH HLO _ T1 j u hu) (uH HO1) (by unfold maxLen;omega) (by omega) ?_
      intro v1 wb hr1 kp1 _
      show K (Act.put _ (some 59) v1) wb
      clear T1 IR
      refine hK.out _ _ trivial (fun _=>kp1) ?_
      clear hK K
      try simp only [zW]
      refine wpAnyX_ready [11] (AllReadyX.cons rfl (fun K hK=>?_) AllReadyX.nil)
      refine ins_app (w1:=ws) rfl (.tmp 59) (.tmp 64) 34 rfl 58 i0 (.agg #[.int .i64 0,.int .i64 0,.string ByteArray.empty,.int .i64 0,.int .i64 0]) 5 48 Tryz.underlying34 hic0 hz0 hzz1 hz2 rfl (by decide) v1 (0+i) ([]++NC1) rfl hr1 kp1 (hiA cg cc2 (i+1) 5) (cl2 - (i+1)) (cc2 - (i+1)) NC2 rfl (uH HL2) (fun j u hu=>uH HHI _ kp1 j u hu) (uH HO2) (by unfold maxLen;omega) (by omega) ?_
      intro v2 wd hr2 kp2 _
      show K (Act.put _ (some 65) v2) wd
      clear kp1 hr1
      refine hK.out _ _ trivial (fun _=>kp2) ?_
      clear hK K
      try simp only [zW]
      refine takeXS 12 66 (.pointer (some ⟨w.heap.size,7,none⟩)) rfl rfl trivial kp2 ?_
      try simp only [zW]
      have hao:COwn ws.heap.size wd v2 (L.eraseIdx i):=by
       unfold COwn
       have h1:=hr2.1
       rw [List.nil_append,uH HER] at h1
       rw [uH HLEN,←uH HLL,show cl2 - 1=0+i+(cl2 - (i+1)) by omega]
       exact h1
      obtain ⟨ao,cp,rfl,hcp,hch⟩:=cown_has hao
      obtain ⟨g9,rfl⟩:∃g,ao=some ⟨g,0,none⟩:=by
       obtain ⟨g,cap,e,_⟩:=hr2.open
       injection e with e1 e2 e3
       exact ⟨g,e1⟩
      have hoc:=own1_of hao
      have HP14:=hide ((uH HP13).below kp2)
      have HN14:=hide (iown_below (uH HN13) kp2)
      have HA14:=hide ((uH HA13).below kp2)
      have HG14:=hide ((uH HG13).below kp2)
      have HB14:=hide (yB (uH HB13) kp2)
      have HH14:=hide ((uH HH13).below kp2)
      obtain ⟨L2,hL2⟩:∃l,L.eraseIdx i=l:=⟨_,rfl⟩
      rw [hL2] at hcp hch HVN ⊢
      have HLEN2:=hide (show L2.length=L.length - 1 from by rw [←hL2];exact uH HLEN)
      clear hao hr2 hL2
      obtain ⟨n2,hn2⟩:∃n,L2.length=n:=⟨_,rfl⟩
      have HN2:=hide hn2
      rw [hn2] at hcp hch ⊢
      clear hn2
      have M15:=Mks.one (fun k=>k=w.heap.size) wd w.heap.size 7 (.slice (some ⟨g9,0,none⟩) n2 cp) rfl
      have HH15:=hide (((uH HH14).conts (hch.base (uH HB13).size) hcp (hoc.mono (uH HB13).size (yJ _))).mkt M15 (uH HP14))
      have HB15:=hide (yC (uH HB14) w.heap.size 7 (.slice (some ⟨g9,0,none⟩) n2 cp) (yJ _))
      have HP15:=hide (show Blk (wd.setCell ⟨w.heap.size,7,none⟩ (.slice (some ⟨g9,0,none⟩) n2 cp)) w.heap.size (svc ⟨qa2,ql2,qc2,aa2,al2,ac2,ma2,ml2,mc2,some ⟨g9,0,none⟩,n2,cp⟩ (withC ⟨qs,clock,epoch,next,serial,apps,ms,cs⟩ L2)) 36 from (uH HP14).set 7 _)
      have HN15:=hide (iown_off (uH HN14) M15 (uH HP14) (by decide))
      have HA15:=hide ((uH HA14).other w.heap.size 7 (.slice (some ⟨g9,0,none⟩) n2 cp) (by omega))
      have HG15:=hide ((uH HG14).other w.heap.size 7 (.slice (some ⟨g9,0,none⟩) n2 cp) (by omega))
      refine wpAnyX_ready [13] (AllReadyX.cons rfl (fun K hK=>readyU (by rfl) rfl (run_u (put_cell 34 (.slice (some ⟨g9,0,none⟩) n2 cp) (uH HP14) (show 7<8 by omega) (by kernel_rfl) rfl)) ?_) AllReadyX.nil)
      refine hK.out _ _ trivial (fun e=>by cases e) ?_
      clear hK K kp2 hch hoc M15 HP14 HN14 HA14 HG14 HB14 HH14
      try simp only [zW]
      refine wpAnyX_on _ _ _ _ (by kernel_rfl) ?_
      refine wpAnyH_done (by kernel_rfl) ?_ _
      generalize wd.setCell ⟨w.heap.size,7,none⟩ (.slice (some ⟨g9,0,none⟩) n2 cp)=wz at HN15 HP15 HH15 HA15 HG15 HB15 ⊢
      go_wp2
      go_roundw
      case rel=>exact ⟨L2,G++[⟨c0,c1,cn,c3,c4⟩],b1,b2,n - 1,⟨qa2,ql2,qc2,aa2,al2,ac2,ma2,ml2,mc2,some ⟨g9,0,none⟩,n2,cp⟩,hs2,hide (by rw [uH HNE];exact uH HN15),hide ⟨g9,rfl⟩,HP15,HH15,HA15,HG15,HVN,HB15⟩
      case measure=>
       have h1:=ccLen_is (uH HP15)
       have h2:=uH HMS
       have h3:=uH HLEN2
       have h4:=uH HN2
       have h5:=uH HIC
       have h6:=uH HLL
       simp only at h1
       rw [h1,h2]
       omega
end
end Go.Proofs.YtokabeokclpljaaGreat
