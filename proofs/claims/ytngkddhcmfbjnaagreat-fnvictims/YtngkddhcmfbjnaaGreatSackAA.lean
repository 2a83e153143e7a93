/-
  The leaves that starve, in order: what the program's Starving answers; a walk over the dump.
-/
import Derived.Test.YtngkddhcmfbjnaaGreatSackY
set_option maxRecDepth 100000
set_option maxHeartbeats 16000000
set_option linter.unusedVariables false
set_option linter.unusedSimpArgs false
namespace Go.Proofs.YtngkddhcmfbjnaaGreat
section
open Go.RowKit Go.Maps
def aJF (w w1:World) (nm:List UInt8) (ux uy tx ty dx dy:Int) (gv n0 k vc:Nat) (u3 u6 u7 u18 u23 u24 u25 u26 u27 u28 u29 u30 u31 u32 u33 u34 u35 u36 u37 u38 u39 u40 u41 u42:Value) (qa:Option Addr) (ql qc:Nat) (aa:Option Addr) (al ac:Nat) (ma:Option Addr) (ml mc:Nat) (ca:Option Addr) (cl cc:Nat) (qs:List Q) (cv ez nv sj:Int) (aj:List bN) (ms:List Mac) (cs:List Con) (c:Nat) (fs:List Bool) (us:List Nat):Act:={ tmps:=#[sv ⟨qa,ql,qc,aa,al,ac,ma,ml,mc,ca,cl,cc⟩ ⟨qs,cv,ez,nv,sj,aj,ms,cs⟩,.pointer (some ⟨w.heap.size,0,none⟩),.slice none 0 0,u3,undef,.string (bs nm),mkV (fs.getD 0 false) (.pointer (some ⟨us.getD 0 0,0,none⟩)) u6,mkV (fs.getD 1 false) (.pointer (some ⟨us.getD 1 0,0,none⟩)) u7,.pointer (some ⟨w.heap.size,0,none⟩),.slice qa ql qc,.slice (some ⟨gv,0,none⟩) n0 vc,.int .i64 (n0:Int),.int .i64 (k:Int),.bool true,.pointer (some ⟨gv,k,none⟩),.string (bs nm),.agg #[.slice qa ql qc,.int .i64 cv,.int .i64 ez,.int .i64 nv,.int .i64 sj,.slice aa al ac,.slice ma ml mc,.slice ca cl cc],.string (bs nm),mkV (Nat.ble 1 c) (rv ux uy) u18,.pointer (some ⟨w.heap.size,0,none⟩),.slice qa ql qc,.string (bs nm),.agg #[.slice qa ql qc,.int .i64 cv,.int .i64 ez,.int .i64 nv,.int .i64 sj,.slice aa al ac,.slice ma ml mc,.slice ca cl cc],mkV (Nat.ble 2 c) (rv tx ty) u23,mkV (Nat.ble 3 c) (rv dx dy) u24,u25,u26,u27,u28,u29,u30,u31,u32,u33,u34,u35,u36,u37,u38,u39,u40,u41,u42,undef,undef,undef],defers:=[] }
def aL4:Mul:=⟨13,[2,7,8],[9,10],[11,12],[true,true,false,true,true,true,true,false,false,false,false,false,false]⟩
theorem vR (x:Sls) (s:St) (w:World) (h:gU w x s) (hf:dI s) (hc:x.ql≤x.qc) (hw:aAF s) :
  cP 28 #[sv x s] w fun e w'=>∃v,e=.returned v∧bY w.heap.size w' v (dJ s)∧Bw w w':=by
 obtain ⟨i0,hi,hz0,hz1,hz2⟩:=info_parts Tryz.infoS
 have GJ:x.ql≤1048576:=h.ql hf
 have GN:x.ml≤1048576:=h.ml hf
 have CV:=aA (fun wx (hb:Bw w wx)=>aA5 x.qa x.ql x.qc s.qs wx (h.1.below hb) GJ (fun q hq=>(hf.1.2 q hq).1) hc)
 have CT:=aA (fun wx (hb:Bw w wx)=>show cP 41 #[sv x s] wx (fun e w'=>e=.returned (rv (bC s).1 (bC s).2)∧Bw wx w') from kE x s wx (h.2.2.1.below hb) GN)
 have CD:=aA (fun nm wx (hb:Bw w wx)=>show cP 40 #[.slice x.qa x.ql x.qc,.string (bs nm),rv (bC s).1 (bC s).2] wx (fun e w'=>e=.returned (rv (iO s nm).1 (iO s nm).2)∧Bw wx w') from kF x.qa x.ql x.qc s.qs nm (bC s).1 (bC s).2 wx (h.1.below hb) GJ (fun q hq=>(hf.1.2 q hq).1) hc)
 have CU:=aA (fun nm wx (hb:Bw w wx)=>jN x s nm wx (h.below hb) hf hc hw)
 have CP:=aA (fun nm wx (hb:Bw w wx)=>yN x s nm wx (h.below hb) hf)
 have KZ:=aA (fun nm=>show lC s nm=(kC s nm&&(within (aL s nm).1 (aL s nm).2 (iO s nm).1 (iO s nm).2&&!decide (aL s nm=iO s nm))) from rfl)
 have PK:=aA (iH s.qs)
 have VK:=aA (show s.qs.length=x.ql from h.1.1.symm)
 obtain ⟨lv,hlv⟩:∃l,dG s.qs=l:=⟨_,rfl⟩
 have RI:=aA (show dJ s=(lv.filter (lC s)).mergeSort (fun x y=>decide (x≤y)) by rw [dJ,aAv,hlv])
 rw [hlv] at CV PK
 obtain ⟨⟨tx,ty⟩,ht⟩:∃t,bC s=t:=⟨_,rfl⟩
 rw [ht] at CT CD
 have hlq:lv.length≤1048576:=by have:=uH PK;have:=uH VK;omega
 clear hlv ht h hf hc hw PK VK
 obtain ⟨sp,hsp⟩:∃p,lC s=p:=⟨_,rfl⟩
 obtain ⟨sV,KJ⟩:∃p,dJ s=p:=⟨_,rfl⟩
 obtain ⟨us,YQ⟩:∃p,aL s=p:=⟨_,rfl⟩
 obtain ⟨ds,hds⟩:∃p,iO s=p:=⟨_,rfl⟩
 obtain ⟨ps,hps⟩:∃p,kC s=p:=⟨_,rfl⟩
 rw [hsp,KJ] at RI
 rw [hsp,YQ,hds,hps] at KZ
 rw [KJ]
 rw [YQ] at CU
 rw [hds] at CD
 rw [hps] at CP
 clear hsp KJ YQ hds hps
 obtain ⟨qa,ql,qc,aa,al,ac,ma,ml,mc,ca,cl,cc⟩:=x
 obtain ⟨qs,cv,ez,nv,sj,aj,ms,cs⟩:=s
 simp only at CV CT CD CU CP GJ GN
 have HB0:=aA (yA (yH _ w) (.cells (svc ⟨qa,ql,qc,aa,al,ac,ma,ml,mc,ca,cl,cc⟩ ⟨qs,cv,ez,nv,sj,aj,ms,cs⟩) 29))
 have P0:=aA (yD w (svc ⟨qa,ql,qc,aa,al,ac,ma,ml,mc,ca,cl,cc⟩ ⟨qs,cv,ez,nv,sj,aj,ms,cs⟩) 29)
 go_enter Tryz.func28,Tryz.ntmps28
 go_wp2_with fail
 refine (uH CV _ (uH HB0)).mono ?_
 rintro e w1 ⟨v0,rfl,ht,hb⟩
 rw [yE] at ht
 obtain ⟨vo,vc,rfl,Hw⟩:=ht.open
 have GX:=aA Hw
 have HB1:=aA (yB (uH HB0) hb)
 have P1:=aA ((uH P0).below hb)
 have W1:=aA (yH w1.heap.size w1)
 clear hb ht Hw HB0 P0 CV
 go_wp2
 go_loopw [3,5,6,7,12] (fun v _ _ _ i wr=>∃(k:Nat) (o:List ByteArray),k≤lv.length∧i=.int .i64 k∧o.length≤k∧Hid (o=((lv.take k).filter sp).map bs)∧Hid (wr.ownsRow w1.heap.size 9 1 v o.length (iY o))∧Hid (Bw w1 wr)) (fun _ _ _ _ i _=>lv.length - (intOf i).toNat)
 case atStart=>exact ⟨0,[],Nat.zero_le _,rfl,yJ _,aA (by simp),aA (World.ownsRow_nil _ _ _ _),W1⟩
 case round=>
  obtain ⟨k,o,hk,rfl,hol,HO,HW,HB⟩:=hrel
  by_cases hlt:k<lv.length
  ·obtain ⟨gv,rfl,hcv⟩:=uH GX k hlt
   have htk:=List.take_succ_eq_append_getElem hlt
   have BG:=((uH HB).cell (yG hcv)).trans hcv
   obtain ⟨nm,hnm⟩:∃nm,lv[k]=nm:=⟨_,rfl⟩
   rw [hnm] at htk BG
   have qw:=aA htk
   have hst:=uH KZ nm
   obtain ⟨⟨ux,uy⟩,hu⟩:∃t,us nm=t:=⟨_,rfl⟩
   obtain ⟨⟨dx,dy⟩,hd⟩:∃t,ds nm=t:=⟨_,rfl⟩
   obtain ⟨pe,hpe⟩:∃t,ps nm=t:=⟨_,rfl⟩
   rw [hu,hd,hpe] at hst
   have HST:=aA hst
   have CU1:=aA (fun wx hb=>by have:=uH CU nm wx hb;rw [hu] at this;exact this)
   have CD1:=aA (fun wx hb=>by have:=uH CD nm wx hb;rw [hd] at this;exact this)
   have CP1:=aA (fun wx hb=>by have:=uH CP nm wx hb;rw [hpe] at this;exact this)
   have HB2:=aA (yB (uH HB1) (uH HB))
   have P2:=aA ((uH P1).below (uH HB))
   obtain ⟨q0,q1,q2,q3,q4,q5,q6,q7⟩:_∧_∧_∧_∧_∧_∧_∧_:=⟨(uH P2).at 0,(uH P2).at 1,(uH P2).at 2,(uH P2).at 3,(uH P2).at 4,(uH P2).at 5,(uH P2).at 6,(uH P2).at 7⟩
   simp at q0 q1 q2 q3 q4 q5 q6 q7
   simp only at CU1 CD1 CP1
   clear hnm htk hst hu hd hpe hcv
   have R:∀wx,Kp wr wx→wx.cell? ⟨w.heap.size,0,none⟩=some (.slice qa ql qc)∧wx.cell? ⟨w.heap.size,1,none⟩=some (.int .i64 cv)∧wx.cell? ⟨w.heap.size,2,none⟩=some (.int .i64 ez)∧wx.cell? ⟨w.heap.size,3,none⟩=some (.int .i64 nv)∧wx.cell? ⟨w.heap.size,4,none⟩=some (.int .i64 sj)∧wx.cell? ⟨w.heap.size,5,none⟩=some (.slice aa al ac)∧wx.cell? ⟨w.heap.size,6,none⟩=some (.slice ma ml mc)∧wx.cell? ⟨w.heap.size,7,none⟩=some (.slice ca cl cc):=fun wx h=>
    ⟨h.cell q0,h.cell q1,h.cell q2,h.cell q3,h.cell q4,h.cell q5,h.cell q6,h.cell q7⟩
   have A0:=aA (Kp.new wr)
   have HS:=aA (aK wr)
   clear q0 q1 q2 q3 q4 q5 q6 q7
   go_wp2_with fail
   clear BG
   go_cut [6,7] from 16 to 24 (fun v6 v7 wx=>∃g6 g7,v6=.pointer (some ⟨g6,0,none⟩)∧v7=.pointer (some ⟨g7,0,none⟩)∧Var wx 37 g6 ux uy∧Var wx 37 g7 dx dy∧wr.heap.size≤g6∧wr.heap.size≤g7∧Kp wr wx)
   case first=>
    refine wp_region_held_drew (S:=fun wx=>Kp wr wx) (by kernel_rfl) ((uH HS).drew (uH A0)) (fun S0=>?_)
    refine tW 0 16 _ S0 ?_
    simp only [zW]
    refine tW 1 17 _ S0 ?_
    simp only [zW]
    refine tW 3 19 _ S0 ?_
    simp only [zW]
    refine tW 4 20 _ S0 ?_
    simp only [zW]
    refine tW 5 21 _ S0 ?_
    simp only [zW]
    refine tW 6 22 _ S0 ?_
    simp only [zW]
    refine mR (n':=3+2+2) (l':=aL4.lst 0 [false,false] 0) (a':=aJF w wr nm ux uy tx ty dx dy gv lv.length k vc u3 u6 u7 u18 u23 u24 u25 u26 u27 u28 u29 u30 u31 u32 u33 u34 u35 u36 u37 u38 u39 u40 u41 u42 qa ql qc aa al ac ma ml mc ca cl cc qs cv ez nv sj aj ms cs 0 [false,false] [0,0]) rfl (by kernel_rfl) rfl ?_
    refine jO (w1:=wr) aL4 (aJF w wr nm ux uy tx ty dx dy gv lv.length k vc u3 u6 u7 u18 u23 u24 u25 u26 u27 u28 u29 u30 u31 u32 u33 u34 u35 u36 u37 u38 u39 u40 u41 u42 qa ql qc aa al ac ma ml mc ca cl cc qs cv ez nv sj aj ms cs) [(ux,uy),(dx,dy)] rfl (by as_aux_lemma=>kernel_rfl) ?call ?al ?st ?fin _ S0
    case call=>
     intro c f us wz K hc hf hu kp hK
     obtain ⟨f0,f1,rfl⟩:=vO hf
     obtain ⟨g6,g7,rfl⟩:=vO hu
     have hc4:c<3:=hc
     match c,hc4,hK with
     | 0,_,hK=>
      show Mul.step _ _ _ 2 _ _ _
      refine ⟨_,rfl,?_⟩
      simp only [aJF,List.getD_cons_zero,List.getD_cons_succ]
      go_simp
      refine (uH CU1 _ (yB (uH HB2) kp)).mono ?_
      rintro e w2 ⟨rfl,hb⟩
      go_wp2_with fail
      first | exact hb | exact hK _ hb
     | 1,_,hK=>
      show Mul.step _ _ _ 7 _ _ _
      refine ⟨_,rfl,?_⟩
      simp only [aJF,List.getD_cons_zero,List.getD_cons_succ]
      go_simp
      refine (uH CT _ (yB (uH HB2) kp)).mono ?_
      rintro e w2 ⟨rfl,hb⟩
      go_wp2_with fail
      first | exact hb | exact hK _ hb
     | 2,_,hK=>
      show Mul.step _ _ _ 8 _ _ _
      refine ⟨_,rfl,?_⟩
      simp only [aJF,List.getD_cons_zero,List.getD_cons_succ]
      go_simp
      refine (uH CD1 _ (yB (uH HB2) kp)).mono ?_
      rintro e w2 ⟨rfl,hb⟩
      go_wp2_with fail
      first | exact hb | exact hK _ hb
    case al=>
     intro j c f us wz K hc hf hu hj hK
     obtain ⟨f0,f1,rfl⟩:=vO hf
     obtain ⟨g6,g7,rfl⟩:=vO hu
     match j,hj,hK with
     | 0,hj,hK=>
      show Mul.step _ _ _ 9 _ _ _
      refine ⟨_,rfl,?_⟩
      simp only [aJF,List.getD_cons_zero,List.getD_cons_succ]
      go_simp
      go_wp2_with fail
      exact hK
     | 1,hj,hK=>
      show Mul.step _ _ _ 10 _ _ _
      refine ⟨_,rfl,?_⟩
      simp only [aJF,List.getD_cons_zero,List.getD_cons_succ]
      go_simp
      go_wp2_with fail
      exact hK
     | j+2,hj,_=>simp at hj
    case st=>
     intro s us wz K hs hu hv hK
     obtain ⟨g6,g7,rfl⟩:=vO hu
     have hs4:s<2:=hs
     match s,hs4,hv,hK with
     | 0,_,hv,hK=>
      replace hv:Var wz 37 g6 0 0:=hv
      have y0:=hv.c0
      have y1:=hv.c1
      have y2:=hv.f 0
      have y3:=hv.f 1
      show Mul.step _ _ _ 11 { tmps:=#[sv ⟨qa,ql,qc,aa,al,ac,ma,ml,mc,ca,cl,cc⟩ ⟨qs,cv,ez,nv,sj,aj,ms,cs⟩,.pointer (some ⟨w.heap.size,0,none⟩),.slice none 0 0,u3,undef,.string (bs nm),.pointer (some ⟨g6,0,none⟩),.pointer (some ⟨g7,0,none⟩),.pointer (some ⟨w.heap.size,0,none⟩),.slice qa ql qc,.slice (some ⟨gv,0,none⟩) lv.length vc,.int .i64 (lv.length:Int),.int .i64 (k:Int),.bool true,.pointer (some ⟨gv,k,none⟩),.string (bs nm),.agg #[.slice qa ql qc,.int .i64 cv,.int .i64 ez,.int .i64 nv,.int .i64 sj,.slice aa al ac,.slice ma ml mc,.slice ca cl cc],.string (bs nm),rv ux uy,.pointer (some ⟨w.heap.size,0,none⟩),.slice qa ql qc,.string (bs nm),.agg #[.slice qa ql qc,.int .i64 cv,.int .i64 ez,.int .i64 nv,.int .i64 sj,.slice aa al ac,.slice ma ml mc,.slice ca cl cc],rv tx ty,rv dx dy,u25,u26,u27,u28,u29,u30,u31,u32,u33,u34,u35,u36,u37,u38,u39,u40,u41,u42,undef,undef,undef],defers:=[] } _ _
      refine ⟨_,rfl,?_⟩
      simp only [aJF,List.getD_cons_zero,List.getD_cons_succ]
      go_simp
      go_wp2_with fail
      exact hK
     | 1,_,hv,hK=>
      replace hv:Var wz 37 g7 0 0:=hv
      have y0:=hv.c0
      have y1:=hv.c1
      have y2:=hv.f 0
      have y3:=hv.f 1
      show Mul.step _ _ _ 12 { tmps:=#[sv ⟨qa,ql,qc,aa,al,ac,ma,ml,mc,ca,cl,cc⟩ ⟨qs,cv,ez,nv,sj,aj,ms,cs⟩,.pointer (some ⟨w.heap.size,0,none⟩),.slice none 0 0,u3,undef,.string (bs nm),.pointer (some ⟨g6,0,none⟩),.pointer (some ⟨g7,0,none⟩),.pointer (some ⟨w.heap.size,0,none⟩),.slice qa ql qc,.slice (some ⟨gv,0,none⟩) lv.length vc,.int .i64 (lv.length:Int),.int .i64 (k:Int),.bool true,.pointer (some ⟨gv,k,none⟩),.string (bs nm),.agg #[.slice qa ql qc,.int .i64 cv,.int .i64 ez,.int .i64 nv,.int .i64 sj,.slice aa al ac,.slice ma ml mc,.slice ca cl cc],.string (bs nm),rv ux uy,.pointer (some ⟨w.heap.size,0,none⟩),.slice qa ql qc,.string (bs nm),.agg #[.slice qa ql qc,.int .i64 cv,.int .i64 ez,.int .i64 nv,.int .i64 sj,.slice aa al ac,.slice ma ml mc,.slice ca cl cc],rv tx ty,rv dx dy,u25,u26,u27,u28,u29,u30,u31,u32,u33,u34,u35,u36,u37,u38,u39,u40,u41,u42,undef,undef,undef],defers:=[] } _ _
      refine ⟨_,rfl,?_⟩
      simp only [aJF,List.getD_cons_zero,List.getD_cons_succ]
      go_simp
      go_wp2_with fail
      exact hK
    case fin=>
     intro us wz hu hV kp
     obtain ⟨g6,g7,rfl⟩:=vO hu
     have vA:VB wr wz g6 ux uy:=hV 0 (by decide)
     have vB:VB wr wz g7 dx dy:=hV 1 (by decide)
     go_wp2_with fail
     go_meet
     exact ⟨g6,g7,rfl,rfl,vA.2,vB.2,vA.1,vB.1,kp⟩
   case rest=>
    obtain ⟨g6,g7,rfl,rfl,hv6,hv7,Wj,YY,hA⟩:=hcut
    obtain ⟨w4,rfl⟩:∃w4,w4=wc:=⟨wc,rfl⟩
    obtain ⟨q0,q1,q2,q3,q4,q5,q6,q7⟩:=R _ hA
    have V6:=aA hv6
    have V7:=aA hv7
    have WB:=aA (gD (uH HW) hA)
    have G8:=aA (yB (uH HB2) hA)
    have J6:=aA (yB (uH HB) hA)
    clear hv6 hv7 hA R A0 HS HW HB HB2 P2
    go_wp2_with fail
    refine (uH CP1 _ (uH G8)).mono ?_
    rintro e w5 ⟨rfl,hb⟩
    have V65:=aA ((uH V6).below hb)
    have V75:=aA ((uH V7).below hb)
    have Gy:=aA (gD (uH WB) hb)
    have ZL:=aA (yB (uH J6) hb)
    clear hb V6 V7 WB G8 J6 q0 q1 q2 q3 q4 q5 q6 q7 CP1 CU1 CD1
    cases pe
    case false=>
     go_wp2
     go_roundw
     case rel=>exact ⟨k+1,o,by omega,by go_num,by omega,aA (by rw [uH qw,List.filter_append];simp only [List.filter_cons,List.filter_nil];rw [if_neg (by rw [uH HST];simp),List.append_nil];exact uH HO),Gy,ZL⟩
     case measure=>simp [intOf];omega
    case true=>
     by_cases h1:ux=dx
     ·subst h1
      by_cases h2:uy=dy
      ·subst h2
       have c0:=(uH V65).c0
       have c1:=(uH V65).c1
       have d0:=(uH V75).c0
       have d1:=(uH V75).c1
       go_wp2
       go_roundw
       case rel=>exact ⟨k+1,o,by omega,by go_num,by omega,aA (by rw [uH qw,List.filter_append];simp only [List.filter_cons,List.filter_nil];rw [if_neg (by rw [uH HST];simp),List.append_nil];exact uH HO),Gy,ZL⟩
       case measure=>simp [intOf];omega
      ·have c0:=(uH V65).c0
       have c1:=(uH V65).c1
       have d0:=(uH V75).c0
       have d1:=(uH V75).c1
       obtain ⟨wi,Gv⟩:∃b,within ux uy ux dy=b:=⟨_,rfl⟩
       have CW:=aA (fun wx=>by have:=fH ux uy ux dy wx;rw [Gv] at this;exact this)
       have ZI:=aA Gv
       clear Gv
       go_wp2_with fail
       refine (uH CW _).mono ?_
       rintro e w6 ⟨rfl,hb⟩
       have Qv:=aA (gD (uH Gy) hb)
       have Xx:=aA (yB (uH ZL) hb)
       clear hb Gy ZL V65 V75 c0 c1 d0 d1 CW
       cases wi
       case false=>
        go_wp2
        go_roundw
        case rel=>exact ⟨k+1,o,by omega,by go_num,by omega,aA (by rw [uH qw,List.filter_append];simp only [List.filter_cons,List.filter_nil];rw [if_neg (by rw [uH HST];rw [uH ZI];simp),List.append_nil];exact uH HO),Qv,Xx⟩
        case measure=>simp [intOf];omega
       case true=>
        have Hq:=uH Qv
        have Q4:=uH Xx
        have hwz:=Q4.size
        clear Qv Xx
        go_wp2_with (at_builtin;refine wpList_append_own _ rfl _ _ 41 rfl w1.heap.size 9 i0 (.string ByteArray.empty) 1 16 Tryz.underlying41 hi hz0 hz1 hz2 rfl (by decide) _ _ _ rfl (Hq.alloc _) ⟨w6.heap.size,0,none⟩ 1 1 [.string (bs nm)] rfl rfl ?c1 ?c2 ?c3 ?c4 ?c5 ?_)
        case c1=>intro j v hj;match j,hj with | 0,hj=>simp at hj;subst hj;simp [Addr.add]
        case c2=>intro v hv;simp at hv;subst hv;rfl
        case c3=>unfold maxLen;omega
        case c4=>omega
        case c5=>simp;omega
        intro v' w7 Hy Hz _
        have RR:=aA (pW Q4 Hq Hy Hz (by omega))
        clear Hy Hz Hq Q4
        go_wp2
        go_roundw
        case rel=>exact ⟨k+1,o++[bs nm],by omega,by go_num,by simp;omega,aA (by rw [uH qw,List.filter_append];simp only [List.filter_cons,List.filter_nil];rw [if_pos (by rw [uH HST,uH ZI];first | rfl | (simp;omega) | simp [*]),List.map_append,←uH HO];rfl),aA (uH RR).1,aA (uH RR).2⟩
        case measure=>simp [intOf];omega
     ·have c0:=(uH V65).c0
      have c1:=(uH V65).c1
      have d0:=(uH V75).c0
      have d1:=(uH V75).c1
      obtain ⟨wi,Gv⟩:∃b,within ux uy dx dy=b:=⟨_,rfl⟩
      have CW:=aA (fun wx=>by have:=fH ux uy dx dy wx;rw [Gv] at this;exact this)
      have ZI:=aA Gv
      clear Gv
      go_wp2_with fail
      refine (uH CW _).mono ?_
      rintro e w6 ⟨rfl,hb⟩
      have Qv:=aA (gD (uH Gy) hb)
      have Xx:=aA (yB (uH ZL) hb)
      clear hb Gy ZL V65 V75 c0 c1 d0 d1 CW
      cases wi
      case false=>
       go_wp2
       go_roundw
       case rel=>exact ⟨k+1,o,by omega,by go_num,by omega,aA (by rw [uH qw,List.filter_append];simp only [List.filter_cons,List.filter_nil];rw [if_neg (by rw [uH HST];rw [uH ZI];simp),List.append_nil];exact uH HO),Qv,Xx⟩
       case measure=>simp [intOf];omega
      case true=>
       have Hq:=uH Qv
       have Q4:=uH Xx
       have hwz:=Q4.size
       clear Qv Xx
       go_wp2_with (at_builtin;refine wpList_append_own _ rfl _ _ 41 rfl w1.heap.size 9 i0 (.string ByteArray.empty) 1 16 Tryz.underlying41 hi hz0 hz1 hz2 rfl (by decide) _ _ _ rfl (Hq.alloc _) ⟨w6.heap.size,0,none⟩ 1 1 [.string (bs nm)] rfl rfl ?c1 ?c2 ?c3 ?c4 ?c5 ?_)
       case c1=>intro j v hj;match j,hj with | 0,hj=>simp at hj;subst hj;simp [Addr.add]
       case c2=>intro v hv;simp at hv;subst hv;rfl
       case c3=>unfold maxLen;omega
       case c4=>omega
       case c5=>simp;omega
       intro v' w7 Hy Hz _
       have RR:=aA (pW Q4 Hq Hy Hz (by omega))
       clear Hy Hz Hq Q4
       go_wp2
       go_roundw
       case rel=>exact ⟨k+1,o++[bs nm],by omega,by go_num,by simp;omega,aA (by rw [uH qw,List.filter_append];simp only [List.filter_cons,List.filter_nil];rw [if_pos (by rw [uH HST,uH ZI];first | rfl | (simp;omega) | simp [*]),List.map_append,←uH HO];rfl),aA (uH RR).1,aA (uH RR).2⟩
       case measure=>simp [intOf];omega
  ·have hkk:k=lv.length:=by omega
   subst hkk
   have ho:=uH HO
   rw [List.take_length] at ho
   obtain ⟨sl,hsl⟩:∃sl,lv.filter sp=sl:=⟨_,rfl⟩
   rw [hsl] at ho
   have Bj:=aA (show sV=sl.mergeSort (fun x y=>decide (x≤y)) by rw [uH RI,hsl])
   subst ho
   have HT:=aA (show bY w1.heap.size wr u3 sl from uH HW)
   have hsn:sl.length≤1048576:=by rw [List.length_map] at hol;omega
   have GR:=aA (yB (uH HB1) (uH HB))
   clear hsl hol HO HW RI
   by_cases h0:sl=[]
   ·subst h0
    obtain ⟨po,pc,rfl⟩:=kJ (uH HT)
    have CN:=aA (Tryz.slices_Sort_string_none po pc wr)
    go_wp2_with fail
    refine (uH CN).mono ?_
    rintro e w8 ⟨rfl,rfl⟩
    go_wp2
    go_ret
    refine ⟨_,rfl,?_,uH GR⟩
    rw [uH Bj]
    simp only [List.mergeSort_nil]
    exact (uH HT).base (uH HB1).size
   ·obtain ⟨g,cap,rfl,hs,hg⟩:=kI (uH HT) h0
    have CN:=aA (aIL g cap sl wr hs (by omega))
    have HG:=aA hg
    clear hs hg h0
    go_wp2_with fail
    refine (uH CN).mono ?_
    rintro e w8 ⟨rfl,ht,hgr⟩
    have jq:=aA ht
    have VQ:=aA (kG (uH GR) hgr (by have:=(uH GR).size;omega) (by have:=uH HG;have:=(uH HB1).size;omega))
    have VW:=(uH HB1).size
    have hg:=uH HG
    clear ht hgr CN HT GR
    go_wp2
    go_ret
    refine ⟨_,rfl,?_,uH VQ⟩
    rw [uH Bj]
    have Gw:=((uH jq).own).base (B':=w.heap.size) (by omega)
    rw [List.length_mergeSort] at Gw
    exact Gw
end
end Go.Proofs.YtngkddhcmfbjnaaGreat
