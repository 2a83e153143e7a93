/-
  What is taken back for a queue, by the model: Victims; a walk over the dump.
-/
import Derived.Test.YtngkddhcmfbjnaaGreatSackAC
import Derived.Test.YtngkddhcmfbjnaaGreatSackT
import Derived.Test.YtngkddhcmfbjnaaGreatSackN
set_option maxRecDepth 100000
set_option maxHeartbeats 16000000
set_option linter.unusedVariables false
set_option linter.unusedSimpArgs false
namespace Go.Proofs.YtngkddhcmfbjnaaGreat
section
open Go.RowKit
theorem wP (x:Sls) (s:St) (hs0:List AV) (nm:List UInt8) (w:World) (h:gU w x s) (qj:fK w x.aa x.al hs0) (hhd:jJ w hs0 s.apps) (hss:aED x hs0) (hf:dI s) :
  cP 9 #[sv x s,.string (bs nm)] w fun e w'=>∃v,e=.returned v∧Hid (aBl w.heap.size w' v (iP s nm)∧Bw w w'):=by
 obtain ⟨ti,hii,tz0,tz1,tz2⟩:=info_parts Tryz.infoI
 obtain ⟨i0,BD,hz0,JE,hz2⟩:=info_parts Tryz.infoCont
 have QC:=aA (show s.cs.length≤1048576 from hf.2.2.2.1)
 have CO:=aA (fun wx (hb:Bw w wx)=>iQ x s wx (h.below hb) hf)
 have CS:=aA (fun wx (hb:Bw w wx)=>mK x s wx (h.below hb) hf)
 have CL:=aA (fun wx (hb:Bw w wx)=>uB x s nm wx (h.below hb) hf)
 have CC:=aA (fun wx (hb:Bw w wx)=>show cP 34 #[sv x s] wx (fun e w'=>∃y hs,e=.returned (sv y s)∧rA wx.heap.size w'.heap.size w' y s hs∧Bw wx w'∧∃g,y.ca=some ⟨g,0,none⟩) from aC6 x s hs0 wx (h.below hb) (qj.below hb) (hhd.below hb) hss hf)
 have CN:=aA (fun (L:List Con) (hl:L.length≤s.cs.length) (hsub:∀c ∈ L,c ∈ s.cs) (B:Nat) (y:Sls) (hs1:List AV) (wx:World) (hx:dQ B wx y (aZ s L) hs1)=>aDf y (aZ s L) hs1 wx hx.ans.row hx.p.1 hx.k.heads hx.ans.some (yQ hf hl hsub))
 have Vj:=aA (show (dJ s).length≤1048576 from by have:=aGU s;have:=h.1.1;have:=h.ql hf;omega)
 obtain ⟨vs,hvs⟩:∃l,iP s nm=l:=⟨_,rfl⟩
 obtain ⟨ok,hok⟩:∃b,aW s=b:=⟨_,rfl⟩
 obtain ⟨stv,ZW⟩:∃b,dJ s=b:=⟨_,rfl⟩
 obtain ⟨⟨l1,l2⟩,hlk⟩:∃b,sG s nm=b:=⟨_,rfl⟩
 have ZA:=aA (show vs=((if ok=true∧stv.any (fun x=>decide (x=nm))=true then tL s (l1,l2) (s.cs.length+1) s.cs (0,0) else []).map (·.id)) from by rw [←hvs,←hok,←ZW,←hlk];rfl)
 have MC:=aA (aGC.start s (l1,l2))
 have BQ:=aA (show aZ s s.cs=s from rfl)
 rw [hok] at CO
 rw [ZW] at CS Vj
 rw [hlk] at CL
 rw [hvs]
 simp only at CL
 clear h qj hhd hss hf hvs hok ZW hlk
 have HB0:=aA (yA (yA (yH _ w) (.cells (svc x s) 29)) (.cells #[] 3))
 have P0:=aA ((yD w (svc x s) 29).al (.cells #[] 3))
 have N0:=aA (show aBl w.heap.size ((w.alloc (.cells (svc x s) 29)).alloc (.cells #[] 3)) (.slice (some ⟨w.heap.size+1,0,none⟩) 0 0) [] from by have:=xW (aFf (w.alloc (.cells (svc x s) 29))) (show w.heap.size≤_ by rw [yE];omega);rwa [yE] at this)
 obtain ⟨qa,ql,qc,aa,al,ac,ma,ml,mc,ca,cl,cc⟩:=x
 obtain ⟨qs,cv,ez,nv,sj,aj,ms,cs⟩:=s
 simp only at QC CN
 obtain ⟨q0,q1,q2,q3,q4,q5,q6,q7⟩:=zq (uH P0)
 go_enter Tryz.func9,Tryz.ntmps9
 go_wp2_with fail
 refine (uH CO _ (uH HB0)).mono ?_
 rintro e w1 ⟨rfl,hb⟩
 have HB1:=aA (yB (uH HB0) hb)
 have P1:=aA ((uH P0).below hb)
 have N1:=aA (dX (uH N0) hb)
 clear hb HB0 P0 N0 CO
 clear q0 q1 q2 q3 q4 q5 q6 q7
 obtain ⟨q0,q1,q2,q3,q4,q5,q6,q7⟩:=zq (uH P1)
 cases ok with
 | false=>
  obtain rfl:vs=[]:=by rw [uH ZA];simp
  clear ZA
  go_wp2
  go_ret
  exact ⟨_,rfl,aA ⟨uH N1,uH HB1⟩⟩
 | true=>
  go_wp2_with fail
  refine (uH CS _ (uH HB1)).mono ?_
  rintro e w2 ⟨v,rfl,ht,hb⟩
  have HB2:=aA (yB (uH HB1) hb)
  have P2:=aA ((uH P1).below hb)
  have N2:=aA (dX (uH N1) hb)
  have CH:=aA (aA7 v stv nm _ w2 ht (uH Vj))
  obtain ⟨vo,vc,rfl,-⟩:=ht.open
  clear hb ht HB1 P1 N1 CS
  clear q0 q1 q2 q3 q4 q5 q6 q7
  obtain ⟨sl,hsl⟩:∃n,stv.length=n:=⟨_,rfl⟩
  obtain ⟨has,qz⟩:∃b,stv.any (fun x=>decide (x=nm))=b:=⟨_,rfl⟩
  rw [hsl] at CH ⊢
  rw [qz] at CH ZA
  clear hsl qz Vj
  go_wp2_with fail
  refine (uH CH).mono ?_
  rintro e w3 ⟨rfl,rfl⟩
  clear CH
  obtain ⟨q0,q1,q2,q3,q4,q5,q6,q7⟩:=zq (uH P2)
  cases has with
  | false=>
   obtain rfl:vs=[]:=by rw [uH ZA];simp
   clear ZA
   go_wp2
   go_ret
   exact ⟨_,rfl,aA ⟨uH N2,uH HB2⟩⟩
  | true=>
   have Qw:=aA (show vs=(tL ⟨qs,cv,ez,nv,sj,aj,ms,cs⟩ (l1,l2) (cs.length+1) cs (0,0)).map (·.id) from by rw [uH ZA];simp)
   clear ZA
   go_wp2_with fail
   refine (uH CL _ (uH HB2)).mono ?_
   rintro e w3 ⟨rfl,hb⟩
   have YA:=yA (yH _ w3) (.cells #[.int .i64 l1,.int .i64 l2] 37)
   have G8:=aA (yB (yB (uH HB2) hb) YA)
   have P4:=aA (((uH P2).below hb).below YA)
   have N4:=aA (dX (dX (uH N2) hb) YA)
   have hw3:w.heap.size<w3.heap.size:=((uH P2).below hb).lt
   obtain ⟨gA,hgA⟩:∃g,w3.heap.size=g:=⟨_,rfl⟩
   have A4:=aA (show Blk _ gA #[.int .i64 l1,.int .i64 l2] 37 from by have:=yD w3 #[.int .i64 l1,.int .i64 l2] 37;rwa [hgA] at this)
   clear hb YA HB2 P2 N2 CL
   clear q0 q1 q2 q3 q4 q5 q6 q7
   go_upto_region 5 with fail
   rw [hgA] at hw3
   try rw [hgA]
   clear hgA
   generalize w3.alloc (.cells #[.int .i64 l1,.int .i64 l2] 37)=w4 at G8 P4 N4 A4 ⊢
   refine wp_region_lit ?_
   refine aC (v:=sv ⟨qa,ql,qc,aa,al,ac,ma,ml,mc,ca,cl,cc⟩ ⟨qs,cv,ez,nv,sj,aj,ms,cs⟩) (d:=some 25) rfl rfl (bI (bF (uH P4) rfl)) ?_
   simp only [zW]
   refine wpList_plain rfl (fun K hK=>?_)
   go_simp
   refine (uH CC _ (uH G8)).mono ?_
   rintro e w5 ⟨y,hs,rfl,ha,hb,ZZ⟩
   refine hK _ _ ?_
   clear hK K
   try simp only [zW]
   have H5:=aA ((ha.has (yJ _)).base (uH G8).size)
   have P5:=aA ((uH P4).below hb)
   have N5:=aA (dX (uH N4) hb)
   have A5:=aA ((uH A4).below hb)
   have GR:=aA (yB (uH G8) hb)
   have UW:=aA ZZ
   clear ha hb ZZ P4 N4 A4 G8 CC
   refine bM (d:=none) rfl rfl (fC (bP 29 (arr:=svc y ⟨qs,cv,ez,nv,sj,aj,ms,cs⟩) (uH P5) (by kernel_rfl) rfl (by kernel_rfl))) ?_
   simp only [Act.put]
   have M6:=aBO (uH P5) (svc y ⟨qs,cv,ez,nv,sj,aj,ms,cs⟩) rfl
   have P6:=aA (zC (uH P5) (svc y ⟨qs,cv,ez,nv,sj,aj,ms,cs⟩))
   have N6:=aA (aBX (uH N5) M6 (uH P5) (by decide))
   have A6:=aA (M6.blk (uH A5) (by omega))
   have H6:=aA ((uH H5).mkt M6 (uH P5))
   have GY:=aA ((uH GR).trans (M6.below (fun k e=>by subst e;omega) (uH GR).size))
   clear M6 P5 N5 A5 H5 GR
   generalize World.setRow w5 w.heap.size (svc y ⟨qs,cv,ez,nv,sj,aj,ms,cs⟩)=w6 at P6 N6 A6 H6 GY ⊢
   have QF:=yA (yH _ w6) (.cells #[.int .i64 0,.int .i64 0] 37)
   have P7:=aA ((uH P6).below QF)
   have N7:=aA (dX (uH N6) QF)
   have A7:=aA ((uH A6).below QF)
   have H7:=aA ((uH H6).below QF)
   have QX:=aA (yB (uH GY) QF)
   have Sk:gA<w6.heap.size:=(uH A6).lt
   obtain ⟨gB,hgB⟩:∃g,w6.heap.size=g:=⟨_,rfl⟩
   have B7:=aA (show Blk _ gB #[.int .i64 0,.int .i64 0] 37 from by have:=yD w6 #[.int .i64 0,.int .i64 0] 37;rwa [hgB] at this)
   rw [hgB] at Sk
   clear QF P6 N6 A6 H6 GY
   go_wp2
   try rw [hgB]
   clear hgB
   generalize w6.alloc (.cells #[.int .i64 0,.int .i64 0] 37)=w7 at P7 N7 A7 H7 QX B7 ⊢
   go_loopw [5] (fun v wr=>∃(L G:List Con) (g1 g2:Int) (n:Nat) (y:Sls) (hs:List AV),Hid (aBl w.heap.size wr v (G.map (·.id)))∧Hid (∃g,y.ca=some ⟨g,0,none⟩)∧Hid (Blk wr w.heap.size (svc y (aZ ⟨qs,cv,ez,nv,sj,aj,ms,cs⟩ L)) 29)∧Hid (dQ w.heap.size wr y (aZ ⟨qs,cv,ez,nv,sj,aj,ms,cs⟩ L) hs)∧Hid (Blk wr gA #[.int .i64 l1,.int .i64 l2] 37)∧Hid (Blk wr gB #[.int .i64 g1,.int .i64 g2] 37)∧Hid (aGC ⟨qs,cv,ez,nv,sj,aj,ms,cs⟩ (l1,l2) n L G (g1,g2))∧Hid (Bw w wr)) (fun _ wr=>aKC wr w.heap.size)
   case atStart=>exact ⟨cs,[],0,0,_,y,hs,N7,UW,P7,H7,A7,B7,MC,QX⟩
   case round=>
    obtain ⟨L,G,g1,g2,n,y2,hs2,HN,HY,HP,HH,HA,HG,HV,HB⟩:=hrel
    clear P7 N7 A7 H7 QX B7 MC UW
    obtain ⟨wq,rfl⟩:∃wo:World,wo=wr:=⟨_,rfl⟩
    have a0:=(uH HA).at 0;have a1:=(uH HA).at 1
    have b0:=(uH HG).at 0;have b1:=(uH HG).at 1
    simp at a0 a1 b0 b1
    go_wp2_with fail
    refine (eD l1 l2 g1 g2 _).mono ?_
    rintro e w7 ⟨rfl,hb⟩
    have Ry:=aA (dX (uH HN) hb)
    have RZ:=aA ((uH HP).below hb)
    have VM:=aA ((uH HH).below hb)
    have FX:=aA ((uH HA).below hb)
    have UK:=aA ((uH HG).below hb)
    have QX:=aA (yB (uH HB) hb)
    have MU:=aA (aEt (uH HP))
    clear a0 a1 b0 b1 hb HN HP HH HA HG HB
    cases Gv:within l1 l2 g1 g2 with
    | true=>
     have Zz:=aA (show vs=G.map (·.id) from by rw [uH Qw];exact congrArg _ ((uH HV).enough Gv))
     clear Gv Qw HV
     go_wp2
     go_ret
     exact ⟨_,rfl,aA ⟨by rw [uH Zz];exact uH Ry,uH QX⟩⟩
    | false=>
     have ZI:=aA Gv
     clear Gv
     have CN7:=aA (uH CN L (by have:=(uH HV).tot;simp only at this;omega) (uH HV).sub w.heap.size y2 hs2 w7 (uH VM))
     obtain ⟨at',hat⟩:∃o,rY (aZ ⟨qs,cv,ez,nv,sj,aj,ms,cs⟩ L)=o:=⟨_,rfl⟩
     have HAT:=aA hat
     rw [hat] at CN7
     clear hat
     obtain ⟨cg,hcg⟩:=uH HY
     have hll:y2.cl=L.length:=(uH VM).c.1.1
     obtain ⟨qa2,ql2,qc2,aa2,al2,ac2,ma2,ml2,mc2,ca2,cl2,cc2⟩:=y2
     simp only at hcg hll MU
     subst hcg
     have Xz:=aA hll
     clear hll HY
     obtain ⟨q0,q1,q2,q3,q4,q5,q6,q7⟩:=zq (uH RZ)
     go_wp2_with fail
     refine (uH CN7).mono ?_
     rintro e w8 ⟨rfl,hb⟩
     have Rw:=aA (dX (uH Ry) hb)
     have RY:=aA ((uH RZ).below hb)
     have PS:=aA ((uH VM).below hb)
     have JD:=aA ((uH FX).below hb)
     have UJ:=aA ((uH UK).below hb)
     have VQ:=aA (yB (uH QX) hb)
     clear hb CN7 Ry RZ VM FX UK QX
     clear q0 q1 q2 q3 q4 q5 q6 q7
     cases at' with
     | none=>
      simp only [plL]
      have Zz:=aA (show vs=G.map (·.id) from by rw [uH Qw];exact congrArg _ ((uH HV).over (uH HAT)))
      clear Qw HAT HV ZI
      go_wp2
      go_ret
      exact ⟨_,rfl,aA ⟨by rw [uH Zz];exact uH Rw,uH VQ⟩⟩
     | some i=>
      simp only [plL]
      have hi0:¬((i:Int)<0):=by omega
      obtain ⟨hic,ZF⟩:=(uH HV).step (uH ZI) (uH HAT)
      have hgl:L.length≤1048576∧G.length≤1048576:=by have h1:=(uH HV).tot;have h2:=uH QC;simp only at h1;omega
      have hcr:bG w8 (some ⟨cg,0,none⟩) cl2 L:=(uH PS).c.1
      obtain ⟨b',off,Nz,hco⟩:=hcr.at (show i<cl2 by have:=uH Xz;omega)
      cases Nz
      obtain ⟨k0,k1,k2,k3,k4⟩:=hco hic
      simp only [Nat.zero_add] at k0 k1 k2 k3 k4
      obtain ⟨c,hcx⟩:∃c,L[i]=c:=⟨_,rfl⟩
      rw [hcx] at ZF k0 k1 k2 k3 k4
      have Mk:=aA hic
      have Vq:=zJ g1 g2 c
      obtain ⟨⟨b1,b2⟩,hbb⟩:∃p,aDF (g1,g2) c=p:=⟨_,rfl⟩
      rw [hbb] at ZF Vq
      obtain ⟨c0,c1,cn,c3,c4⟩:=c
      simp only at Vq k0 k1 k2 k3 k4
      have CA:=aA (fun wx=>by have:=wW g1 g2 c3 c4 wx;rw [Vq] at this;exact this)
      have BR:=aA ZF
      obtain ⟨bo,KT⟩:∃b,aP 1 g1 g2 c3 c4=b:=⟨_,rfl⟩
      rw [KT] at CA
      have gz:=List.length_eraseIdx_of_lt hic
      have Gj:=aA gz
      have n0:(0:Int)≤i:=by omega
      have n1:(i:Int)<cl2:=by have:=uH Xz;omega
      clear ZF hcx hbb Vq KT gz hic HV ZI HAT hco hcr
      obtain ⟨q0,q1,q2,q3,q4,q5,q6,q7⟩:=zq (uH RY)
      have hbc:=yA (yH _ w8) (.cells #[.int .i64 c0,.int .i64 c1,.string (bs cn),.int .i64 c3,.int .i64 c4] 52)
      have J5:=aA (dX (uH Rw) hbc)
      have RX:=aA ((uH RY).below hbc)
      have PR:=aA ((uH PS).below hbc)
      have JC:=aA ((uH JD).below hbc)
      have PV:=aA ((uH UJ).below hbc)
      have GM:=aA (yB (uH VQ) hbc)
      have FK:=aA (yD w8 #[.int .i64 c0,.int .i64 c1,.string (bs cn),.int .i64 c3,.int .i64 c4] 52)
      go_upto_region 12 with fail
      clear k0 k1 k2 k3 k4 n0 n1 Rw RY PS JD UJ VQ hbc
      clear q0 q1 q2 q3 q4 q5 q6 q7
      generalize w8.alloc (.cells #[.int .i64 c0,.int .i64 c1,.string (bs cn),.int .i64 c3,.int .i64 c4] 52)=w9 at J5 RX PR JC PV GM FK ⊢
      generalize w8.heap.size=gC at FK ⊢
      have e0:=(uH FK).at 0
      simp at e0
      have hal:(G.map (·.id)).length≤1048576:=by rw [List.length_map];exact hgl.2
      obtain ⟨acc,Gq⟩:∃x,G.map (·.id)=x:=⟨_,rfl⟩
      have FW:=aA Gq
      rw [Gq] at J5 hal
      clear Gq
      have Hq:w9.ownsRow w.heap.size 3 1 _ acc.length (yO acc):=uH J5
      have JQ:w.heap.size≤w9.heap.size:=(uH GM).size
      go_wp2_with (at_builtin;refine wpList_append_own _ rfl _ _ 32 rfl w.heap.size 3 ti (.int .i64 0) 1 8 Tryz.underlying32 hii tz0 tz1 tz2 rfl (by decide) _ _ _ rfl (Hq.alloc _) ⟨w9.heap.size,0,none⟩ 1 1 [.int .i64 c0] (by first | rfl | simp) rfl ?c1 ?c2 ?c3 ?c4 ?c5 ?_)
      case c2=>rfl
      case c3=>unfold maxLen;omega
      case c4=>omega
      case c5=>omega
      intro v' w10 Hy Hz _
      have GG:=yA (yH _ w9) (.cells #[.int .i64 c0] 3)
      have GV:=qE (World.ownsRow.alloc (uH J5) (.cells #[.int .i64 c0] 3))
      have yx:=aA (aC9 (q:=c0) (uH GM) (uH J5) Hy Hz JQ)
      have DR:=aA (((uH RX).below GG).grown Hz GV (by decide))
      have F8:=aA (((uH PR).below GG).grownI Hz GV)
      have ZN:=aA (((uH JC).below GG).grown Hz GV (by decide))
      have Xj:=aA (((uH PV).below GG).grown Hz GV (by decide))
      have WW:=aA (((uH FK).below GG).grown Hz GV (by decide))
      clear Hq Hy Hz GG GV J5 RX PR JC PV FK GM e0 JQ
      obtain ⟨nacc,KP⟩:∃x,acc++[c0]=x:=⟨_,rfl⟩
      rw [KP] at yx
      have ZK:=aA (show (G++[(⟨c0,c1,cn,c3,c4⟩:Con)]).map (·.id)=nacc by rw [List.map_append,uH FW];exact KP)
      clear KP hal FW
      have f3:=(uH WW).at 3;have f4:=(uH WW).at 4
      have b0:=(uH Xj).at 0;have b1':=(uH Xj).at 1
      simp at f3 f4 b0 b1'
      have d0:=(uH Xj).f 0;have d1:=(uH Xj).f 1
      go_wp2_with fail
      refine (uH CA _).mono ?_
      rintro e w11 ⟨rfl,hb⟩
      have Dq:=aA (dX (uH yx).1 hb)
      have Xw:=aA (yB (uH yx).2 hb)
      have DN:=aA ((uH DR).below hb)
      have F7:=aA ((uH F8).below hb)
      have VC:=aA ((uH ZN).below hb)
      have ZM:=aA ((uH Xj).below hb)
      clear hb yx DR F8 ZN Xj WW CA f3 f4 b0 b1' d0 d1
      have b0:=(uH ZM).at 0;have b1':=(uH ZM).at 1
      simp at b0 b1'
      have d0:=(uH ZM).f 0;have d1:=(uH ZM).f 1
      go_upto_region 14 with fail
      have M13:Mks (fun k=>k=gB) w11 ((w11.setCell ⟨gB,0,none⟩ (.int .i64 b1)).setCell ⟨gB,1,none⟩ (.int .i64 b2)):=(Mks.one (fun k=>k=gB) w11 gB 0 (.int .i64 b1) rfl).sc gB 1 (.int .i64 b2) rfl
      have DZ:=aA (aBX (uH Dq) M13 (uH ZM) (by decide))
      have Kz:=aA (M13.blk (uH DN) (by omega))
      have VA:=aA (M13.blk (uH VC) (by omega))
      have yj:=aA ((uH F7).mkR M13 (fun k e=>by subst e;exact ⟨_,_,uH ZM,rfl⟩))
      have FC:=aA (show Blk ((w11.setCell ⟨gB,0,none⟩ (.int .i64 b1)).setCell ⟨gB,1,none⟩ (.int .i64 b2)) gB #[.int .i64 b1,.int .i64 b2] 37 from ((uH ZM).set 0 (.int .i64 b1)).set 1 (.int .i64 b2))
      have xz:=aA ((uH Xw).trans (M13.below (fun k e=>by subst e;omega) (uH Xw).size))
      clear M13 b0 b1' d0 d1 Dq DN VC F7 ZM Xw
      generalize (w11.setCell ⟨gB,0,none⟩ (.int .i64 b1)).setCell ⟨gB,1,none⟩ (.int .i64 b2)=ws at DZ Kz VA yj FC xz ⊢
      have hll:=uH Xz
      have hic:=uH Mk
      have QW:cl2≤cc2:=(uH yj).cap.c
      have hil:i<cl2:=by omega
      have hlc:cl2≤1048576:=by omega
      have hlo:=aJx cg cl2 cc2 i (by omega)
      have hhi:∀wx:World,(Instr.slice 27 (.slice (some ⟨cg,0,none⟩) cl2 cc2) (some (.int .i64 ((i:Int)+1))) none none).run Tryz.prog wx=.ok (.slice (some (hiA cg cc2 (i+1) 5)) (cl2 - (i+1)) (cc2 - (i+1))) wx:=fun wx=>by
       have:=aJy cg cl2 cc2 (i+1) (by omega) wx
       rwa [show (((i+1:Nat)):Int)=(i:Int)+1 by omega] at this
      have Gv:IntKind.i64.wrap ((i:Int)+1)=(i:Int)+1:=by rw [IntKind.wrap_i64];omega
      obtain ⟨NC1,hc1⟩:∃c,aJ (L.take i)=c:=⟨_,rfl⟩
      obtain ⟨NC2,hc2⟩:∃c,aJ (L.drop (i+1))=c:=⟨_,rfl⟩
      have yz:=aA (show NC1.length=i*5 by rw [←hc1,bB,List.length_take,Nat.min_eq_left (by omega)])
      have HL2:=aA (show NC2.length=(cl2 - (i+1))*5 by rw [←hc2,bB,List.length_drop,←hll])
      have JW:aJ L=NC1++aJ (L.drop i):=by rw [←hc1,←eZ,List.take_append_drop]
      have JU:aJ L=aJ (L.take (i+1))++NC2:=by rw [←hc2,←eZ,List.take_append_drop]
      have UT:=aA (show bG ws (some ⟨cg,0,none⟩) cl2 L from (uH yj).c.1)
      have WM:=aA (show ∀wx:World,Kp ws wx→∀j u,NC1[j]? = some u→wx.cell? (Addr.add ⟨cg,0,none⟩ j)=some u from fun wx hb j u hu=>by
       rw [Lib.add_plain]
       refine iJ ((uH UT).below hb) j u ?_
       rw [JW,List.getElem?_append_left (List.getElem?_eq_some_iff.1 hu).1]
       exact hu)
      have fq:=aA (show ∀wx:World,Kp ws wx→∀j u,NC2[j]? = some u→wx.cell? (Addr.add (hiA cg cc2 (i+1) 5) j)=some u from fun wx hb j u hu=>by
       have hlt:=(List.getElem?_eq_some_iff.1 hu).1
       rw [uH HL2] at hlt
       rw [aJR (by omega)]
       have hl1:(aJ (L.take (i+1))).length=(i+1)*5:=by rw [bB,List.length_take,Nat.min_eq_left (by omega)]
       have:=iJ ((uH UT).below hb) ((i+1)*5+j) u (by
        rw [JU,List.getElem?_append_right (by rw [hl1];omega),hl1,Nat.add_sub_cancel_left]
        exact hu)
       rwa [Nat.zero_add] at this)
      have Zk:=aA (show ∀u ∈ NC1,u.oneCell'=true by rw [←hc1];exact jF _)
      have GD:=aA (show ∀u ∈ NC2,u.oneCell'=true by rw [←hc2];exact jF _)
      have HER:=aA (show NC1++NC2=aJ (L.eraseIdx i) by rw [List.eraseIdx_eq_take_drop_succ,eZ,hc1,hc2])
      clear hc1 hc2 JW JU hll hic
      have YC:=aA (show w.heap.size<ws.heap.size from (uH Kz).lt)
      have i63:0+i≤1048576:=by omega
      refine jB 13 (fun _=>True) (fun wx=>Kp ws wx) (by kernel_rfl) trivial ((Kp.new ws).drew) (fun S0 T0=>?_)
      generalize ws.drew=wn at S0 T0 ⊢
      refine aX 1 55 (.pointer (some ⟨w.heap.size,7,none⟩)) rfl rfl S0 T0 ?_
      try simp only [zW]
      refine tT 2 56 (.slice (some ⟨cg,0,none⟩) cl2 cc2) rfl rfl S0 T0 ?_ (hy:=Or.inl ⟨by rfl,fun wz hz=>by (have c7:=((uH Kz).below hz).at 7;simp at c7;go_simp;try with_reducible rfl)⟩)
      try simp only [zW]
      refine aX 3 57 (.int .i64 (i:Int)) rfl rfl S0 T0 ?_
      try simp only [zW]
      refine aX 4 58 (.slice (some ⟨cg,0,none⟩) i cc2) rfl rfl S0 T0 ?_ (hy:=Or.inl ⟨by rfl,fun wz hz=>bI (hlo wz)⟩)
      try simp only [zW]
      refine aX 6 60 (.pointer (some ⟨w.heap.size,7,none⟩)) rfl rfl S0 T0 ?_
      try simp only [zW]
      refine tT 7 61 (.slice (some ⟨cg,0,none⟩) cl2 cc2) rfl rfl S0 T0 ?_ (hy:=Or.inl ⟨by rfl,fun wz hz=>by (have c7:=((uH Kz).below hz).at 7;simp at c7;go_simp;try with_reducible rfl)⟩)
      try simp only [zW]
      refine aX 8 62 (.int .i64 (i:Int)) rfl rfl S0 T0 ?_
      try simp only [zW]
      refine aX 9 63 (.int .i64 ((i:Int)+1)) rfl rfl S0 T0 ?_
      try simp only [zW]
      refine aX 10 64 (.slice (some (hiA cg cc2 (i+1) 5)) (cl2 - (i+1)) (cc2 - (i+1))) rfl rfl S0 T0 ?_ (hy:=Or.inl ⟨by rfl,fun wz hz=>bI (hhi wz)⟩)
      try simp only [zW]
      have IR:=qN (E:=52) (sz:=5) T0
      have T1:Kp ws _:=yA T0 (.cells #[] 52)
      refine aD [0] (aB.cons rfl (fun K hK=>?_) aB.nil)
      go_simp
      go_wp2_with fail
      clear S0 T0
      refine hK.out _ _ trivial (fun _=>T1) ?_
      clear hK K
      try simp only [zW]
      generalize wn.alloc (.cells #[] 52)=wa at T1 IR ⊢
      generalize wn.heap.size=g0 at IR ⊢
      refine aD [5] (aB.cons rfl (fun K hK=>?_) aB.nil)
      refine lJ (w1:=ws) rfl (.tmp 54) (.tmp 58) 27 rfl 52 i0 (.agg #[.int .i64 0,.int .i64 0,.string ByteArray.empty,.int .i64 0,.int .i64 0]) 5 48 Tryz.underlying27 BD hz0 JE hz2 rfl (by decide) (.slice (some ⟨g0,0,none⟩) 0 0) 0 [] rfl IR T1 ⟨cg,0,none⟩ i cc2 NC1 rfl (uH yz) (fun j u hu=>uH WM _ T1 j u hu) (uH Zk) (by unfold maxLen;omega) (by omega) ?_
      intro v1 wb hr1 kp1 _
      show K (Act.put _ (some 59) v1) wb
      clear T1 IR
      refine hK.out _ _ trivial (fun _=>kp1) ?_
      clear hK K
      try simp only [zW]
      refine aD [11] (aB.cons rfl (fun K hK=>?_) aB.nil)
      refine lJ (w1:=ws) rfl (.tmp 59) (.tmp 64) 27 rfl 52 i0 (.agg #[.int .i64 0,.int .i64 0,.string ByteArray.empty,.int .i64 0,.int .i64 0]) 5 48 Tryz.underlying27 BD hz0 JE hz2 rfl (by decide) v1 (0+i) ([]++NC1) rfl hr1 kp1 (hiA cg cc2 (i+1) 5) (cl2 - (i+1)) (cc2 - (i+1)) NC2 rfl (uH HL2) (fun j u hu=>uH fq _ kp1 j u hu) (uH GD) (by unfold maxLen;omega) (by omega) ?_
      intro v2 wd hr2 kp2 _
      show K (Act.put _ (some 65) v2) wd
      clear kp1 hr1
      refine hK.out _ _ trivial (fun _=>kp2) ?_
      clear hK K
      try simp only [zW]
      refine aX 12 66 (.pointer (some ⟨w.heap.size,7,none⟩)) rfl rfl trivial kp2 ?_
      try simp only [zW]
      have hao:zQ ws.heap.size wd v2 (L.eraseIdx i):=by
       unfold zQ
       have h1:=hr2.1
       rw [List.nil_append,uH HER] at h1
       rw [uH Gj,←uH Xz,show cl2 - 1=0+i+(cl2 - (i+1)) by omega]
       exact h1
      obtain ⟨ao,cp,rfl,hcp,hch⟩:=wG hao
      obtain ⟨g9,rfl⟩:∃g,ao=some ⟨g,0,none⟩:=by
       obtain ⟨g,cap,e,_⟩:=hr2.open
       injection e with e1 e2 e3
       exact ⟨g,e1⟩
      have hoc:=jW hao
      have Kq:=aA ((uH Kz).below kp2)
      have DY:=aA (dX (uH DZ) kp2)
      have FZ:=aA ((uH VA).below kp2)
      have FB:=aA ((uH FC).below kp2)
      have FT:=aA (yB (uH xz) kp2)
      have F6:=aA ((uH yj).below kp2)
      obtain ⟨L2,hL2⟩:∃l,L.eraseIdx i=l:=⟨_,rfl⟩
      rw [hL2] at hcp hch BR ⊢
      have Dk:=aA (show L2.length=L.length - 1 from by rw [←hL2];exact uH Gj)
      clear hao hr2 hL2
      obtain ⟨n2,hn2⟩:∃n,L2.length=n:=⟨_,rfl⟩
      have ZR:=aA hn2
      rw [hn2] at hcp hch ⊢
      clear hn2
      have M15:=Mks.one (fun k=>k=w.heap.size) wd w.heap.size 7 (.slice (some ⟨g9,0,none⟩) n2 cp) rfl
      have F4:=aA (((uH F6).conts (hch.base (uH xz).size) hcp (hoc.mono (uH xz).size (yJ _))).mkt M15 (uH Kq))
      have FR:=aA (yC (uH FT) w.heap.size 7 (.slice (some ⟨g9,0,none⟩) n2 cp) (yJ _))
      have WI:=aA (show Blk (wd.setCell ⟨w.heap.size,7,none⟩ (.slice (some ⟨g9,0,none⟩) n2 cp)) w.heap.size (svc ⟨qa2,ql2,qc2,aa2,al2,ac2,ma2,ml2,mc2,some ⟨g9,0,none⟩,n2,cp⟩ (aZ ⟨qs,cv,ez,nv,sj,aj,ms,cs⟩ L2)) 29 from (uH Kq).set 7 _)
      have DX:=aA (aBX (uH DY) M15 (uH Kq) (by decide))
      have FY:=aA ((uH FZ).other w.heap.size 7 (.slice (some ⟨g9,0,none⟩) n2 cp) (by omega))
      have F9:=aA ((uH FB).other w.heap.size 7 (.slice (some ⟨g9,0,none⟩) n2 cp) (by omega))
      refine aD [13] (aB.cons rfl (fun K hK=>fQ (by rfl) rfl (fC (dP 27 (.slice (some ⟨g9,0,none⟩) n2 cp) (uH Kq) (show 7<8 by omega) (by kernel_rfl) rfl)) ?_) aB.nil)
      refine hK.out _ _ trivial (fun e=>by cases e) ?_
      clear hK K kp2 hch hoc M15 Kq DY FZ FB FT F6
      try simp only [zW]
      refine gK _ _ _ _ (by kernel_rfl) ?_
      refine wpAnyH_done (by kernel_rfl) ?_ _
      generalize wd.setCell ⟨w.heap.size,7,none⟩ (.slice (some ⟨g9,0,none⟩) n2 cp)=wz at DX WI F4 FY F9 FR ⊢
      go_wp2
      go_roundw
      case rel=>exact ⟨L2,G++[⟨c0,c1,cn,c3,c4⟩],b1,b2,n - 1,⟨qa2,ql2,qc2,aa2,al2,ac2,ma2,ml2,mc2,some ⟨g9,0,none⟩,n2,cp⟩,hs2,aA (by rw [uH ZK];exact uH DX),aA ⟨g9,rfl⟩,WI,F4,FY,F9,BR,FR⟩
      case measure=>
       have h1:=aEt (uH WI)
       have h2:=uH MU
       have h3:=uH Dk
       have h4:=uH ZR
       have h5:=uH Mk
       have h6:=uH Xz
       simp only at h1
       rw [h1,h2]
       omega
end
end Go.Proofs.YtngkddhcmfbjnaaGreat
