/-
  Texts in one: StvI, LackI.
-/
import Derived.Test.YtokabeokclpljaaGreatSackV
set_option maxRecDepth 100000
set_option maxHeartbeats 16000000
set_option linter.unusedVariables false
set_option linter.unusedSimpArgs false
namespace Go.Proofs.YtokabeokclpljaaGreat
section
open Go.RowKit Go.Maps
def FSVI (w w1:World) (nm:List UInt8) (ux uy tx ty dx dy:Int) (gv n0 k vc:Nat) (u3 u6 u7 u18 u23 u24 u25 u26 u27 u28 u29 u30 u31 u32 u33 u34 u35 u36 u37 u38 u39 u40 u41 u42:Value) (qa:Option Addr) (ql qc:Nat) (aa:Option Addr) (al ac:Nat) (ma:Option Addr) (ml mc:Nat) (ca:Option Addr) (cl cc:Nat) (qs:List Q) (clock epoch next serial:Int) (apps:List Appl) (ms:List Mac) (cs:List Con) (c:Nat) (fs:List Bool) (us:List Nat):Act:={ tmps:=#[sv ⟨qa,ql,qc,aa,al,ac,ma,ml,mc,ca,cl,cc⟩ ⟨qs,clock,epoch,next,serial,apps,ms,cs⟩,.pointer (some ⟨w.heap.size,0,none⟩),.slice none 0 0,u3,undef,.string (bs nm),mkV (fs.getD 0 false) (.pointer (some ⟨us.getD 0 0,0,none⟩)) u6,mkV (fs.getD 1 false) (.pointer (some ⟨us.getD 1 0,0,none⟩)) u7,.pointer (some ⟨w.heap.size,0,none⟩),.slice qa ql qc,.slice (some ⟨gv,0,none⟩) n0 vc,.int .i64 (n0:Int),.int .i64 (k:Int),.bool true,.pointer (some ⟨gv,k,none⟩),.string (bs nm),.agg #[.slice qa ql qc,.int .i64 clock,.int .i64 epoch,.int .i64 next,.int .i64 serial,.slice aa al ac,.slice ma ml mc,.slice ca cl cc],.string (bs nm),mkV (Nat.ble 1 c) (rv ux uy) u18,.pointer (some ⟨w.heap.size,0,none⟩),.slice qa ql qc,.string (bs nm),.agg #[.slice qa ql qc,.int .i64 clock,.int .i64 epoch,.int .i64 next,.int .i64 serial,.slice aa al ac,.slice ma ml mc,.slice ca cl cc],mkV (Nat.ble 2 c) (rv tx ty) u23,mkV (Nat.ble 3 c) (rv dx dy) u24,u25,u26,u27,u28,u29,u30,u31,u32,u33,u34,u35,u36,u37,u38,u39,u40,u41,u42,undef,undef,undef],defers:=[] }
def MSVI:Mul:=⟨13,[2,7,8],[9,10],[11,12],[true,true,false,true,true,true,true,false,false,false,false,false,false]⟩
theorem implStarving_any (x:Sls) (s:St) (w:World) (h:SRow w x s) (hf:FitSt s) (hc:x.ql≤x.qc) (hw:WfSt s) :
  Calls Tryz.prog 31 #[sv x s] w fun e w'=>∃v,e=.returned v∧Texts w.heap.size w' v (starveV s)∧Below w.heap.size w w':=by
 obtain ⟨i0,hi,hz0,hz1,hz2⟩:=info_parts Tryz.infoS
 have hql:x.ql≤1048576:=h.ql hf
 have hml:x.ml≤1048576:=h.ml hf
 have CV:=hide (fun wx (hb:Below w.heap.size w wx)=>leaves_any x.qa x.ql x.qc s.qs wx (h.1.below hb) hql (fun q hq=>(hf.1.2 q hq).1) hc)
 have CT:=hide (fun wx (hb:Below w.heap.size w wx)=>show Calls Tryz.prog 83 #[sv x s] wx (fun e w'=>e=.returned (rv (totalV s).1 (totalV s).2)∧Below wx.heap.size wx w') from implTotal_any x s wx (h.2.2.1.below hb) hml)
 have CD:=hide (fun nm wx (hb:Below w.heap.size w wx)=>show Calls Tryz.prog 82 #[.slice x.qa x.ql x.qc,.string (bs nm),rv (totalV s).1 (totalV s).2] wx (fun e w'=>e=.returned (rv (dueV s nm).1 (dueV s nm).2)∧Below wx.heap.size wx w') from implDueOf_any x.qa x.ql x.qc s.qs nm (totalV s).1 (totalV s).2 wx (h.1.below hb) hql (fun q hq=>(hf.1.2 q hq).1) hc)
 have CU:=hide (fun nm wx (hb:Below w.heap.size w wx)=>implUsedBy_any x s nm wx (h.below hb) hf hc hw)
 have CP:=hide (fun nm wx (hb:Below w.heap.size w wx)=>implPending_any x s nm wx (h.below hb) hf)
 have HPS:=hide (fun nm=>show starveP s nm=(pendingV s nm&&(within (usedByV s nm).1 (usedByV s nm).2 (dueV s nm).1 (dueV s nm).2&&!decide (usedByV s nm=dueV s nm))) from rfl)
 have HLV:=hide (leavesOf_len s.qs)
 have HLQ:=hide (show s.qs.length=x.ql from h.1.1.symm)
 obtain ⟨lv,hlv⟩:∃l,leavesOf s.qs=l:=⟨_,rfl⟩
 have HSV:=hide (show starveV s=(lv.filter (starveP s)).mergeSort (fun x y=>decide (x≤y)) by rw [starveV,starveL,hlv])
 rw [hlv] at CV HLV
 obtain ⟨⟨tx,ty⟩,ht⟩:∃t,totalV s=t:=⟨_,rfl⟩
 rw [ht] at CT CD
 have hlq:lv.length≤1048576:=by have:=uH HLV;have:=uH HLQ;omega
 clear hlv ht h hf hc hw HLV HLQ
 obtain ⟨sp,hsp⟩:∃p,starveP s=p:=⟨_,rfl⟩
 obtain ⟨sV,hsV⟩:∃p,starveV s=p:=⟨_,rfl⟩
 obtain ⟨us,hus⟩:∃p,usedByV s=p:=⟨_,rfl⟩
 obtain ⟨ds,hds⟩:∃p,dueV s=p:=⟨_,rfl⟩
 obtain ⟨ps,hps⟩:∃p,pendingV s=p:=⟨_,rfl⟩
 rw [hsp,hsV] at HSV
 rw [hsp,hus,hds,hps] at HPS
 rw [hsV]
 rw [hus] at CU
 rw [hds] at CD
 rw [hps] at CP
 clear hsp hsV hus hds hps
 obtain ⟨qa,ql,qc,aa,al,ac,ma,ml,mc,ca,cl,cc⟩:=x
 obtain ⟨qs,clock,epoch,next,serial,apps,ms,cs⟩:=s
 simp only at CV CT CD CU CP hql hml
 have HB0:=hide (yA (yH _ w) (.cells (svc ⟨qa,ql,qc,aa,al,ac,ma,ml,mc,ca,cl,cc⟩ ⟨qs,clock,epoch,next,serial,apps,ms,cs⟩) 36))
 have P0:=hide (yD w (svc ⟨qa,ql,qc,aa,al,ac,ma,ml,mc,ca,cl,cc⟩ ⟨qs,clock,epoch,next,serial,apps,ms,cs⟩) 36)
 go_enter Tryz.func31,Tryz.ntmps31
 go_wp2_with fail
 refine (uH CV _ (uH HB0)).mono ?_
 rintro e w1 ⟨v0,rfl,ht,hb⟩
 rw [yE] at ht
 obtain ⟨vo,vc,rfl,hrow⟩:=ht.open
 have HROW:=hide hrow
 have HB1:=hide (yB (uH HB0) hb)
 have P1:=hide ((uH P0).below hb)
 have W1:=hide (yH w1.heap.size w1)
 clear hb ht hrow HB0 P0 CV
 go_wp2
 go_loopw [3,5,6,7,12] (fun v _ _ _ i wr=>∃(k:Nat) (o:List ByteArray),k≤lv.length∧i=.int .i64 k∧o.length≤k∧Hid (o=((lv.take k).filter sp).map bs)∧Hid (wr.ownsRow w1.heap.size 9 1 v o.length (scells o))∧Hid (Below w1.heap.size w1 wr)) (fun _ _ _ _ i _=>lv.length - (intOf i).toNat)
 case atStart=>exact ⟨0,[],Nat.zero_le _,rfl,yJ _,hide (by simp),hide (World.ownsRow_nil _ _ _ _),W1⟩
 case round=>
  obtain ⟨k,o,hk,rfl,hol,HO,HW,HB⟩:=hrel
  by_cases hlt:k<lv.length
  ·obtain ⟨gv,rfl,hcv⟩:=uH HROW k hlt
   have htk:=List.take_succ_eq_append_getElem hlt
   have hcv2:=((uH HB).cell (yG hcv)).trans hcv
   obtain ⟨nm,hnm⟩:∃nm,lv[k]=nm:=⟨_,rfl⟩
   rw [hnm] at htk hcv2
   have HTK:=hide htk
   have hst:=uH HPS nm
   obtain ⟨⟨ux,uy⟩,hu⟩:∃t,us nm=t:=⟨_,rfl⟩
   obtain ⟨⟨dx,dy⟩,hd⟩:∃t,ds nm=t:=⟨_,rfl⟩
   obtain ⟨pe,hpe⟩:∃t,ps nm=t:=⟨_,rfl⟩
   rw [hu,hd,hpe] at hst
   have HST:=hide hst
   have CU1:=hide (fun wx hb=>by have:=uH CU nm wx hb;rw [hu] at this;exact this)
   have CD1:=hide (fun wx hb=>by have:=uH CD nm wx hb;rw [hd] at this;exact this)
   have CP1:=hide (fun wx hb=>by have:=uH CP nm wx hb;rw [hpe] at this;exact this)
   have HB2:=hide (yB (uH HB1) (uH HB))
   have P2:=hide ((uH P1).below (uH HB))
   obtain ⟨q0,q1,q2,q3,q4,q5,q6,q7⟩:_∧_∧_∧_∧_∧_∧_∧_:=⟨(uH P2).at 0,(uH P2).at 1,(uH P2).at 2,(uH P2).at 3,(uH P2).at 4,(uH P2).at 5,(uH P2).at 6,(uH P2).at 7⟩
   simp at q0 q1 q2 q3 q4 q5 q6 q7
   simp only at CU1 CD1 CP1
   clear hnm htk hst hu hd hpe hcv
   have R:∀wx,Kp wr wx→wx.cell? ⟨w.heap.size,0,none⟩=some (.slice qa ql qc)∧wx.cell? ⟨w.heap.size,1,none⟩=some (.int .i64 clock)∧wx.cell? ⟨w.heap.size,2,none⟩=some (.int .i64 epoch)∧wx.cell? ⟨w.heap.size,3,none⟩=some (.int .i64 next)∧wx.cell? ⟨w.heap.size,4,none⟩=some (.int .i64 serial)∧wx.cell? ⟨w.heap.size,5,none⟩=some (.slice aa al ac)∧wx.cell? ⟨w.heap.size,6,none⟩=some (.slice ma ml mc)∧wx.cell? ⟨w.heap.size,7,none⟩=some (.slice ca cl cc):=fun wx h=>
    ⟨h.cell q0,h.cell q1,h.cell q2,h.cell q3,h.cell q4,h.cell q5,h.cell q6,h.cell q7⟩
   have A0:=hide (Kp.new wr)
   have HS:=hide (kp_holds wr)
   clear q0 q1 q2 q3 q4 q5 q6 q7
   go_wp2_with fail
   clear hcv2
   go_cut [6,7] from 16 to 24 (fun v6 v7 wx=>∃g6 g7,v6=.pointer (some ⟨g6,0,none⟩)∧v7=.pointer (some ⟨g7,0,none⟩)∧Var wx 52 g6 ux uy∧Var wx 52 g7 dx dy∧wr.heap.size≤g6∧wr.heap.size≤g7∧Kp wr wx)
   case first=>
    refine wp_region_held_drew (S:=fun wx=>Kp wr wx) (by kernel_rfl) ((uH HS).drew (uH A0)) (fun S0=>?_)
    refine tW 0 16 _ S0 ?_
    try simp only [zW]
    refine tW 1 17 _ S0 ?_
    try simp only [zW]
    refine tW 3 19 _ S0 ?_
    try simp only [zW]
    refine tW 4 20 _ S0 ?_
    try simp only [zW]
    refine tW 5 21 _ S0 ?_
    try simp only [zW]
    refine tW 6 22 _ S0 ?_
    try simp only [zW]
    refine wpAnyH_is (n':=3+2+2) (l':=MSVI.lst 0 [false,false] 0) (a':=FSVI w wr nm ux uy tx ty dx dy gv lv.length k vc u3 u6 u7 u18 u23 u24 u25 u26 u27 u28 u29 u30 u31 u32 u33 u34 u35 u36 u37 u38 u39 u40 u41 u42 qa ql qc aa al ac ma ml mc ca cl cc qs clock epoch next serial apps ms cs 0 [false,false] [0,0]) rfl (by kernel_rfl) rfl ?_
    refine region_multi (w1:=wr) MSVI (FSVI w wr nm ux uy tx ty dx dy gv lv.length k vc u3 u6 u7 u18 u23 u24 u25 u26 u27 u28 u29 u30 u31 u32 u33 u34 u35 u36 u37 u38 u39 u40 u41 u42 qa ql qc aa al ac ma ml mc ca cl cc qs clock epoch next serial apps ms cs) [(ux,uy),(dx,dy)] rfl (by as_aux_lemma=>kernel_rfl) ?call ?al ?st ?fin _ S0
    case call=>
     intro c f us wz K hc hf hu kp hK
     obtain ⟨f0,f1,rfl⟩:=list2 hf
     obtain ⟨g6,g7,rfl⟩:=list2 hu
     have hc4:c<3:=hc
     match c,hc4,hK with
     | 0,_,hK=>
      show Mul.step _ _ _ 2 _ _ _
      refine ⟨_,rfl,?_⟩
      simp only [FSVI,List.getD_cons_zero,List.getD_cons_succ]
      go_simp
      refine (uH CU1 _ (yB (uH HB2) kp)).mono ?_
      rintro e w2 ⟨rfl,hb⟩
      go_wp2_with fail
      first | exact hb | exact hK _ hb
     | 1,_,hK=>
      show Mul.step _ _ _ 7 _ _ _
      refine ⟨_,rfl,?_⟩
      simp only [FSVI,List.getD_cons_zero,List.getD_cons_succ]
      go_simp
      refine (uH CT _ (yB (uH HB2) kp)).mono ?_
      rintro e w2 ⟨rfl,hb⟩
      go_wp2_with fail
      first | exact hb | exact hK _ hb
     | 2,_,hK=>
      show Mul.step _ _ _ 8 _ _ _
      refine ⟨_,rfl,?_⟩
      simp only [FSVI,List.getD_cons_zero,List.getD_cons_succ]
      go_simp
      refine (uH CD1 _ (yB (uH HB2) kp)).mono ?_
      rintro e w2 ⟨rfl,hb⟩
      go_wp2_with fail
      first | exact hb | exact hK _ hb
    case al=>
     intro j c f us wz K hc hf hu hj hK
     obtain ⟨f0,f1,rfl⟩:=list2 hf
     obtain ⟨g6,g7,rfl⟩:=list2 hu
     match j,hj,hK with
     | 0,hj,hK=>
      show Mul.step _ _ _ 9 _ _ _
      refine ⟨_,rfl,?_⟩
      simp only [FSVI,List.getD_cons_zero,List.getD_cons_succ]
      go_simp
      go_wp2_with fail
      exact hK
     | 1,hj,hK=>
      show Mul.step _ _ _ 10 _ _ _
      refine ⟨_,rfl,?_⟩
      simp only [FSVI,List.getD_cons_zero,List.getD_cons_succ]
      go_simp
      go_wp2_with fail
      exact hK
     | j+2,hj,_=>simp at hj
    case st=>
     intro s us wz K hs hu hv hK
     obtain ⟨g6,g7,rfl⟩:=list2 hu
     have hs4:s<2:=hs
     match s,hs4,hv,hK with
     | 0,_,hv,hK=>
      replace hv:Var wz 52 g6 0 0:=hv
      have y0:=hv.c0
      have y1:=hv.c1
      have y2:=hv.f 0
      have y3:=hv.f 1
      show Mul.step _ _ _ 11 { tmps:=#[sv ⟨qa,ql,qc,aa,al,ac,ma,ml,mc,ca,cl,cc⟩ ⟨qs,clock,epoch,next,serial,apps,ms,cs⟩,.pointer (some ⟨w.heap.size,0,none⟩),.slice none 0 0,u3,undef,.string (bs nm),.pointer (some ⟨g6,0,none⟩),.pointer (some ⟨g7,0,none⟩),.pointer (some ⟨w.heap.size,0,none⟩),.slice qa ql qc,.slice (some ⟨gv,0,none⟩) lv.length vc,.int .i64 (lv.length:Int),.int .i64 (k:Int),.bool true,.pointer (some ⟨gv,k,none⟩),.string (bs nm),.agg #[.slice qa ql qc,.int .i64 clock,.int .i64 epoch,.int .i64 next,.int .i64 serial,.slice aa al ac,.slice ma ml mc,.slice ca cl cc],.string (bs nm),rv ux uy,.pointer (some ⟨w.heap.size,0,none⟩),.slice qa ql qc,.string (bs nm),.agg #[.slice qa ql qc,.int .i64 clock,.int .i64 epoch,.int .i64 next,.int .i64 serial,.slice aa al ac,.slice ma ml mc,.slice ca cl cc],rv tx ty,rv dx dy,u25,u26,u27,u28,u29,u30,u31,u32,u33,u34,u35,u36,u37,u38,u39,u40,u41,u42,undef,undef,undef],defers:=[] } _ _
      refine ⟨_,rfl,?_⟩
      simp only [FSVI,List.getD_cons_zero,List.getD_cons_succ]
      go_simp
      go_wp2_with fail
      exact hK
     | 1,_,hv,hK=>
      replace hv:Var wz 52 g7 0 0:=hv
      have y0:=hv.c0
      have y1:=hv.c1
      have y2:=hv.f 0
      have y3:=hv.f 1
      show Mul.step _ _ _ 12 { tmps:=#[sv ⟨qa,ql,qc,aa,al,ac,ma,ml,mc,ca,cl,cc⟩ ⟨qs,clock,epoch,next,serial,apps,ms,cs⟩,.pointer (some ⟨w.heap.size,0,none⟩),.slice none 0 0,u3,undef,.string (bs nm),.pointer (some ⟨g6,0,none⟩),.pointer (some ⟨g7,0,none⟩),.pointer (some ⟨w.heap.size,0,none⟩),.slice qa ql qc,.slice (some ⟨gv,0,none⟩) lv.length vc,.int .i64 (lv.length:Int),.int .i64 (k:Int),.bool true,.pointer (some ⟨gv,k,none⟩),.string (bs nm),.agg #[.slice qa ql qc,.int .i64 clock,.int .i64 epoch,.int .i64 next,.int .i64 serial,.slice aa al ac,.slice ma ml mc,.slice ca cl cc],.string (bs nm),rv ux uy,.pointer (some ⟨w.heap.size,0,none⟩),.slice qa ql qc,.string (bs nm),.agg #[.slice qa ql qc,.int .i64 clock,.int .i64 epoch,.int .i64 next,.int .i64 serial,.slice aa al ac,.slice ma ml mc,.slice ca cl cc],rv tx ty,rv dx dy,u25,u26,u27,u28,u29,u30,u31,u32,u33,u34,u35,u36,u37,u38,u39,u40,u41,u42,undef,undef,undef],defers:=[] } _ _
      refine ⟨_,rfl,?_⟩
      simp only [FSVI,List.getD_cons_zero,List.getD_cons_succ]
      go_simp
      go_wp2_with fail
      exact hK
    case fin=>
     intro us wz hu hV kp
     obtain ⟨g6,g7,rfl⟩:=list2 hu
     have vA:VB wr wz g6 ux uy:=hV 0 (by decide)
     have vB:VB wr wz g7 dx dy:=hV 1 (by decide)
     go_wp2_with fail
     go_meet
     exact ⟨g6,g7,rfl,rfl,vA.2,vB.2,vA.1,vB.1,kp⟩
   case rest=>
    obtain ⟨g6,g7,rfl,rfl,hv6,hv7,hg6,hg7,hA⟩:=hcut
    obtain ⟨w4,rfl⟩:∃w4,w4=wc:=⟨wc,rfl⟩
    obtain ⟨q0,q1,q2,q3,q4,q5,q6,q7⟩:=R _ hA
    have V6:=hide hv6
    have V7:=hide hv7
    have HW4:=hide (sown_below (uH HW) hA)
    have HB4:=hide (yB (uH HB2) hA)
    have HL4:=hide (yB (uH HB) hA)
    clear hv6 hv7 hA R A0 HS HW HB HB2 P2
    go_wp2_with fail
    refine (uH CP1 _ (uH HB4)).mono ?_
    rintro e w5 ⟨rfl,hb⟩
    have V65:=hide ((uH V6).below hb)
    have V75:=hide ((uH V7).below hb)
    have HW5:=hide (sown_below (uH HW4) hb)
    have HL5:=hide (yB (uH HL4) hb)
    clear hb V6 V7 HW4 HB4 HL4 q0 q1 q2 q3 q4 q5 q6 q7 CP1 CU1 CD1
    cases pe
    case false=>
     go_wp2
     go_roundw
     case rel=>exact ⟨k+1,o,by omega,by go_num,by omega,hide (by rw [uH HTK,List.filter_append];simp only [List.filter_cons,List.filter_nil];rw [if_neg (by rw [uH HST];simp),List.append_nil];exact uH HO),HW5,HL5⟩
     case measure=>simp [intOf];omega
    case true=>
     by_cases h1:ux=dx
     ·subst h1
      by_cases h2:uy=dy
      ·subst h2
       have c0:=(uH V65).c0
       have c1:=(uH V65).c1
       have d0:=(uH V75).c0
       have d1:=(uH V75).c1
       go_wp2
       go_roundw
       case rel=>exact ⟨k+1,o,by omega,by go_num,by omega,hide (by rw [uH HTK,List.filter_append];simp only [List.filter_cons,List.filter_nil];rw [if_neg (by rw [uH HST];simp),List.append_nil];exact uH HO),HW5,HL5⟩
       case measure=>simp [intOf];omega
      ·have c0:=(uH V65).c0
       have c1:=(uH V65).c1
       have d0:=(uH V75).c0
       have d1:=(uH V75).c1
       obtain ⟨wi,hwi⟩:∃b,within ux uy ux dy=b:=⟨_,rfl⟩
       have CW:=hide (fun wx=>by have:=implWithin_any ux uy ux dy wx;rw [hwi] at this;exact this)
       have HWI:=hide hwi
       clear hwi
       go_wp2_with fail
       refine (uH CW _).mono ?_
       rintro e w6 ⟨rfl,hb⟩
       have HW6:=hide (sown_below (uH HW5) hb)
       have HL6:=hide (yB (uH HL5) hb)
       clear hb HW5 HL5 V65 V75 c0 c1 d0 d1 CW
       cases wi
       case false=>
        go_wp2
        go_roundw
        case rel=>exact ⟨k+1,o,by omega,by go_num,by omega,hide (by rw [uH HTK,List.filter_append];simp only [List.filter_cons,List.filter_nil];rw [if_neg (by rw [uH HST];rw [uH HWI];simp),List.append_nil];exact uH HO),HW6,HL6⟩
        case measure=>simp [intOf];omega
       case true=>
        have hown:=uH HW6
        have hbel:=uH HL6
        have hwz:=hbel.size
        clear HW6 HL6
        go_wp2_with (at_builtin;refine wpList_append_own _ rfl _ _ 49 rfl w1.heap.size 9 i0 (.string ByteArray.empty) 1 16 Tryz.underlying49 hi hz0 hz1 hz2 rfl (by decide) _ _ _ rfl (hown.alloc _) ⟨w6.heap.size,0,none⟩ 1 1 [.string (bs nm)] rfl rfl ?c1 ?c2 ?c3 ?c4 ?c5 ?_)
        case c1=>intro j v hj;match j,hj with | 0,hj=>simp at hj;subst hj;simp [Addr.add]
        case c2=>intro v hv;simp at hv;subst hv;rfl
        case c3=>unfold maxLen;omega
        case c4=>omega
        case c5=>simp;omega
        intro v' w7 hown' hgrow _
        have RR:=hide (srow_step hbel hown hown' hgrow (by omega))
        clear hown' hgrow hown hbel
        go_wp2
        go_roundw
        case rel=>exact ⟨k+1,o++[bs nm],by omega,by go_num,by simp;omega,hide (by rw [uH HTK,List.filter_append];simp only [List.filter_cons,List.filter_nil];rw [if_pos (by rw [uH HST,uH HWI];first | rfl | (simp;omega) | simp [*]),List.map_append,←uH HO];rfl),hide (uH RR).1,hide (uH RR).2⟩
        case measure=>simp [intOf];omega
     ·have c0:=(uH V65).c0
      have c1:=(uH V65).c1
      have d0:=(uH V75).c0
      have d1:=(uH V75).c1
      obtain ⟨wi,hwi⟩:∃b,within ux uy dx dy=b:=⟨_,rfl⟩
      have CW:=hide (fun wx=>by have:=implWithin_any ux uy dx dy wx;rw [hwi] at this;exact this)
      have HWI:=hide hwi
      clear hwi
      go_wp2_with fail
      refine (uH CW _).mono ?_
      rintro e w6 ⟨rfl,hb⟩
      have HW6:=hide (sown_below (uH HW5) hb)
      have HL6:=hide (yB (uH HL5) hb)
      clear hb HW5 HL5 V65 V75 c0 c1 d0 d1 CW
      cases wi
      case false=>
       go_wp2
       go_roundw
       case rel=>exact ⟨k+1,o,by omega,by go_num,by omega,hide (by rw [uH HTK,List.filter_append];simp only [List.filter_cons,List.filter_nil];rw [if_neg (by rw [uH HST];rw [uH HWI];simp),List.append_nil];exact uH HO),HW6,HL6⟩
       case measure=>simp [intOf];omega
      case true=>
       have hown:=uH HW6
       have hbel:=uH HL6
       have hwz:=hbel.size
       clear HW6 HL6
       go_wp2_with (at_builtin;refine wpList_append_own _ rfl _ _ 49 rfl w1.heap.size 9 i0 (.string ByteArray.empty) 1 16 Tryz.underlying49 hi hz0 hz1 hz2 rfl (by decide) _ _ _ rfl (hown.alloc _) ⟨w6.heap.size,0,none⟩ 1 1 [.string (bs nm)] rfl rfl ?c1 ?c2 ?c3 ?c4 ?c5 ?_)
       case c1=>intro j v hj;match j,hj with | 0,hj=>simp at hj;subst hj;simp [Addr.add]
       case c2=>intro v hv;simp at hv;subst hv;rfl
       case c3=>unfold maxLen;omega
       case c4=>omega
       case c5=>simp;omega
       intro v' w7 hown' hgrow _
       have RR:=hide (srow_step hbel hown hown' hgrow (by omega))
       clear hown' hgrow hown hbel
       go_wp2
       go_roundw
       case rel=>exact ⟨k+1,o++[bs nm],by omega,by go_num,by simp;omega,hide (by rw [uH HTK,List.filter_append];simp only [List.filter_cons,List.filter_nil];rw [if_pos (by rw [uH HST,uH HWI];first | rfl | (simp;omega) | simp [*]),List.map_append,←uH HO];rfl),hide (uH RR).1,hide (uH RR).2⟩
       case measure=>simp [intOf];omega
  ·have hkk:k=lv.length:=by omega
   subst hkk
   have ho:=uH HO
   rw [List.take_length] at ho
   obtain ⟨sl,hsl⟩:∃sl,lv.filter sp=sl:=⟨_,rfl⟩
   rw [hsl] at ho
   have HSV2:=hide (show sV=sl.mergeSort (fun x y=>decide (x≤y)) by rw [uH HSV,hsl])
   subst ho
   have HT:=hide (show Texts w1.heap.size wr u3 sl from uH HW)
   have hsn:sl.length≤1048576:=by rw [List.length_map] at hol;omega
   have HB5:=hide (yB (uH HB1) (uH HB))
   clear hsl hol HO HW HSV
   by_cases h0:sl=[]
   ·subst h0
    obtain ⟨po,pc,rfl⟩:=texts_none (uH HT)
    have CN:=hide (Tryz.slices_Sort_string_none po pc wr)
    go_wp2_with fail
    refine (uH CN).mono ?_
    rintro e w8 ⟨rfl,rfl⟩
    go_wp2
    go_ret
    refine ⟨_,rfl,?_,uH HB5⟩
    rw [uH HSV2]
    simp only [List.mergeSort_nil]
    exact (uH HT).base (uH HB1).size
   ·obtain ⟨g,cap,rfl,hs,hg⟩:=texts_some (uH HT) h0
    have CN:=hide (sort_any g cap sl wr hs (by omega))
    have HG:=hide hg
    clear hs hg h0
    go_wp2_with fail
    refine (uH CN).mono ?_
    rintro e w8 ⟨rfl,ht,hgr⟩
    have HT8:=hide ht
    have HB8:=hide (below_grownBy (uH HB5) hgr (by have:=(uH HB5).size;omega) (by have:=uH HG;have:=(uH HB1).size;omega))
    have hsz1:=(uH HB1).size
    have hg:=uH HG
    clear ht hgr CN HT HB5
    go_wp2
    go_ret
    refine ⟨_,rfl,?_,uH HB8⟩
    rw [uH HSV2]
    have hfin:=((uH HT8).own).base (B':=w.heap.size) (by omega)
    rw [List.length_mergeSort] at hfin
    exact hfin
def LFI (w w1:World) (nm:List UInt8) (ux uy tx ty dx dy nx ny:Int) (qa:Option Addr) (ql qc:Nat) (aa:Option Addr) (al ac:Nat) (ma:Option Addr) (ml mc:Nat) (ca:Option Addr) (cl cc:Nat) (qs:List Q) (clock epoch next serial:Int) (apps:List Appl) (ms:List Mac) (cs:List Con) (c:Nat) (fs:List Bool) (us:List Nat):Act:={ tmps:=#[sv ⟨qa,ql,qc,aa,al,ac,ma,ml,mc,ca,cl,cc⟩ ⟨qs,clock,epoch,next,serial,apps,ms,cs⟩,.string (bs nm),.pointer (some ⟨w.heap.size,0,none⟩),undef,.pointer (some ⟨w.heap.size+1,0,none⟩),mkPtr (fs.getD 0 false) (us.getD 0 0),mkPtr (fs.getD 1 false) (us.getD 1 0),mkPtr (fs.getD 2 false) (us.getD 2 0),.pointer (some ⟨w.heap.size,0,none⟩),.slice qa ql qc,.string (bs nm),.bool true,.bool false,undef,.agg #[.slice qa ql qc,.int .i64 clock,.int .i64 epoch,.int .i64 next,.int .i64 serial,.slice aa al ac,.slice ma ml mc,.slice ca cl cc],.string (bs nm),mkRes (Nat.ble 1 c) (rv ux uy),.pointer (some ⟨w.heap.size,0,none⟩),.slice qa ql qc,.string (bs nm),.agg #[.slice qa ql qc,.int .i64 clock,.int .i64 epoch,.int .i64 next,.int .i64 serial,.slice aa al ac,.slice ma ml mc,.slice ca cl cc],mkRes (Nat.ble 2 c) (rv tx ty),mkRes (Nat.ble 3 c) (rv dx dy),.agg #[.slice qa ql qc,.int .i64 clock,.int .i64 epoch,.int .i64 next,.int .i64 serial,.slice aa al ac,.slice ma ml mc,.slice ca cl cc],.string (bs nm),mkRes (Nat.ble 4 c) (rv nx ny),undef,undef,undef,undef,undef,undef,undef,undef,undef,undef,undef,undef,undef,undef,undef],defers:=[] }
def LMI:Mul:=⟨18,[2,7,8,11],[12,13,14],[15,16,17],[true,true,false,true,true,true,true,false,false,true,true,false,false,false,false,false,false,false]⟩
theorem implLack_any (x:Sls) (s:St) (nm:List UInt8) (w:World) (h:SRow w x s) (hf:FitSt s) (hc:x.ql≤x.qc) (hw:WfSt s) :
  Calls Tryz.prog 32 #[sv x s,.string (bs nm)] w fun e w'=>e=.returned (rv (lackV s nm).1 (lackV s nm).2)∧Below w.heap.size w w':=by
 have hql:x.ql≤1048576:=h.ql hf
 have hml:x.ml≤1048576:=h.ml hf
 have CL:=hide (fun wx (hb:Below w.heap.size w wx)=>implLeaf_any x.qa x.ql x.qc s.qs nm wx (h.1.below hb) hql (fun q hq=>(hf.1.2 q hq).1) hc)
 have CT:=hide (fun wx (hb:Below w.heap.size w wx)=>implTotal_any x s wx (h.2.2.1.below hb) hml)
 have CD:=hide (fun wx (hb:Below w.heap.size w wx)=>show Calls Tryz.prog 82 #[.slice x.qa x.ql x.qc,.string (bs nm),rv (totalV s).1 (totalV s).2] wx (fun e w'=>e=.returned (rv (dueV s nm).1 (dueV s nm).2)∧Below wx.heap.size wx w') from implDueOf_any x.qa x.ql x.qc s.qs nm (totalV s).1 (totalV s).2 wx (h.1.below hb) hql (fun q hq=>(hf.1.2 q hq).1) hc)
 have CU:=hide (fun wx (hb:Below w.heap.size w wx)=>implUsedBy_any x s nm wx (h.below hb) hf hc hw)
 have CW:=hide (fun wx (hb:Below w.heap.size w wx)=>wanted_any x s nm wx (h.below hb) hf)
 have HU:=hide (used_ok s nm)
 have HD:=hide (due_ok s nm)
 have HW:=hide (want_ok s nm)
 obtain ⟨lf,hlf⟩:∃b,leaf s.qs nm=b:=⟨_,rfl⟩
 obtain ⟨⟨tx,ty⟩,ht⟩:∃t,totalV s=t:=⟨_,rfl⟩
 obtain ⟨⟨dx,dy⟩,hd⟩:∃t,dueV s nm=t:=⟨_,rfl⟩
 obtain ⟨⟨ux,uy⟩,hu⟩:∃t,usedByV s nm=t:=⟨_,rfl⟩
 obtain ⟨⟨nx,ny⟩,hn⟩:∃t,wantV s nm=t:=⟨_,rfl⟩
 have HO:lackV s nm=if lf=true then (lack1 dx ux nx,lack1 dy uy ny) else (0,0):=by simp only [lackV,hlf,hu,hd,hn]
 rw [show (sumR (capsOf s.ms)).1=tx from congrArg Prod.fst ht,show (sumR (capsOf s.ms)).2.1=ty from congrArg Prod.snd ht] at CT
 rw [hlf] at CL
 rw [ht,hd] at CD
 rw [hu] at CU HU
 rw [hd] at HD
 rw [hn] at CW HW
 obtain ⟨⟨zx,zy⟩,hz⟩:∃z,(if lf=true then (lack1 dx ux nx,lack1 dy uy ny) else (0,0))=z:=⟨_,rfl⟩
 rw [HO,hz]
 have HZ:=hide hz
 clear hz
 simp only at CD CU CW HU HD HW
 obtain ⟨u0,u1,u2,u3⟩:=resOk_bd (uH HU)
 obtain ⟨d0,d1,d2,d3⟩:=resOk_bd (uH HD)
 obtain ⟨n0,n1,n2,n3⟩:=resOk_bd (uH HW)
 clear h hf hc hw hlf ht hd hu hn HO HU HD HW
 obtain ⟨qa,ql,qc,aa,al,ac,ma,ml,mc,ca,cl,cc⟩:=x
 obtain ⟨qs,clock,epoch,next,serial,apps,ms,cs⟩:=s
 simp only at CL CT CD CU CW hql hml
 have HB0:=hide (capW_below w (svc ⟨qa,ql,qc,aa,al,ac,ma,ml,mc,ca,cl,cc⟩ ⟨qs,clock,epoch,next,serial,apps,ms,cs⟩))
 have V0:=hide (capW_var w (svc ⟨qa,ql,qc,aa,al,ac,ma,ml,mc,ca,cl,cc⟩ ⟨qs,clock,epoch,next,serial,apps,ms,cs⟩))
 have P0:=hide ((boxW_blk w (svc ⟨qa,ql,qc,aa,al,ac,ma,ml,mc,ca,cl,cc⟩ ⟨qs,clock,epoch,next,serial,apps,ms,cs⟩)).al (.cells #[.int .i64 0,.int .i64 0] 52))
 go_enter Tryz.func32,Tryz.ntmps32
 go_wp2_with fail
 refine (uH CL _ (uH HB0)).mono ?_
 rintro e w1 ⟨rfl,hb⟩
 have HB1:=hide (yB (uH HB0) hb)
 have V1:=hide ((uH V0).below hb)
 have P1:=hide ((uH P0).below hb)
 clear hb HB0 V0 P0 CL
 cases lf
 case false=>
  have hz:=uH HZ
  simp at hz
  obtain ⟨rfl,rfl⟩:=hz
  have k0:=(uH V1).c0
  have k1:=(uH V1).c1
  have k2:=(uH V1).f 0
  have k3:=(uH V1).f 1
  have k4:=(uH V1).s0 (.int .i64 0)
  have k5:=(uH V1).s1 (.int .i64 0) (.int .i64 0)
  go_wp2
  refine bodyPost_ret (v:=rv 0 0) (by simp [results,Tryz.results32,go_sem,k4,k5]) rfl ⟨rfl,?_⟩
  repeat (first | exact uH HB1 | refine yA ?_ _ | refine Below.drew ?_ | refine yC ?_ _ _ _ (by omega))
 have hz:=uH HZ
 rw [if_pos rfl] at hz
 simp only [Prod.mk.injEq] at hz
 have HZX:=hide hz.1
 have HZY:=hide hz.2
 clear hz HZ
 obtain ⟨q0,q1,q2,q3,q4,q5,q6,q7⟩:_∧_∧_∧_∧_∧_∧_∧_:=⟨(uH P1).at 0,(uH P1).at 1,(uH P1).at 2,(uH P1).at 3,(uH P1).at 4,(uH P1).at 5,(uH P1).at 6,(uH P1).at 7⟩
 simp at q0 q1 q2 q3 q4 q5 q6 q7
 have R:∀wx,Kp w1 wx→wx.cell? ⟨w.heap.size,0,none⟩=some (.slice qa ql qc)∧wx.cell? ⟨w.heap.size,1,none⟩=some (.int .i64 clock)∧wx.cell? ⟨w.heap.size,2,none⟩=some (.int .i64 epoch)∧wx.cell? ⟨w.heap.size,3,none⟩=some (.int .i64 next)∧wx.cell? ⟨w.heap.size,4,none⟩=some (.int .i64 serial)∧wx.cell? ⟨w.heap.size,5,none⟩=some (.slice aa al ac)∧wx.cell? ⟨w.heap.size,6,none⟩=some (.slice ma ml mc)∧wx.cell? ⟨w.heap.size,7,none⟩=some (.slice ca cl cc):=fun wx h=>
  ⟨h.cell q0,h.cell q1,h.cell q2,h.cell q3,h.cell q4,h.cell q5,h.cell q6,h.cell q7⟩
 have A0:=hide (Kp.new w1)
 have HS:=hide (kp_holds w1)
 clear P1 q0 q1 q2 q3 q4 q5 q6 q7
 go_wp2_with fail
 go_cut [5,6,7] from 14 to 25 (fun v5 v6 v7 wx=>∃g5 g6 g7,v5=.pointer (some ⟨g5,0,none⟩)∧v6=.pointer (some ⟨g6,0,none⟩)∧v7=.pointer (some ⟨g7,0,none⟩)∧Var wx 52 g5 ux uy∧Var wx 52 g6 dx dy∧Var wx 52 g7 nx ny∧w1.heap.size≤g5∧w1.heap.size≤g6∧w1.heap.size≤g7∧Kp w1 wx)
 case first=>
  refine wp_region_held_drew (S:=fun wx=>Kp w1 wx) (by kernel_rfl) ((uH HS).drew (uH A0)) (fun S0=>?_)
  refine tW 0 14 _ S0 ?_
  try simp only [zW]
  refine tW 1 15 _ S0 ?_
  try simp only [zW]
  refine tW 3 17 _ S0 ?_
  try simp only [zW]
  refine tW 4 18 _ S0 ?_
  try simp only [zW]
  refine tW 5 19 _ S0 ?_
  try simp only [zW]
  refine tW 6 20 _ S0 ?_
  try simp only [zW]
  refine tW 9 23 _ S0 ?_
  try simp only [zW]
  refine tW 10 24 _ S0 ?_
  try simp only [zW]
  refine wpAnyH_is (n':=4+3+3) (l':=LMI.lst 0 [false,false,false] 0) (a':=LFI w w1 nm ux uy tx ty dx dy nx ny qa ql qc aa al ac ma ml mc ca cl cc qs clock epoch next serial apps ms cs 0 [false,false,false] [0,0,0]) rfl (by kernel_rfl) rfl ?_
  refine region_multi (w1:=w1) LMI (LFI w w1 nm ux uy tx ty dx dy nx ny qa ql qc aa al ac ma ml mc ca cl cc qs clock epoch next serial apps ms cs) [(ux,uy),(dx,dy),(nx,ny)] rfl (by as_aux_lemma=>kernel_rfl) ?call ?al ?st ?fin _ S0
  case call=>
   intro c f us wz K hc hf hu kp hK
   obtain ⟨f0,f1,f2,rfl⟩:=list3 hf
   obtain ⟨g5,g6,g7,rfl⟩:=list3 hu
   have hc4:c<4:=hc
   match c,hc4,hK with
   | 0,_,hK=>
    show Mul.step _ _ _ 2 _ _ _
    refine ⟨_,rfl,?_⟩
    simp only [LFI,List.getD_cons_zero,List.getD_cons_succ]
    go_simp
    refine (uH CU _ (yB (uH HB1) kp)).mono ?_
    rintro e w2 ⟨rfl,hb⟩
    go_wp2_with fail
    first | exact hb | exact hK _ hb
   | 1,_,hK=>
    show Mul.step _ _ _ 7 _ _ _
    refine ⟨_,rfl,?_⟩
    simp only [LFI,List.getD_cons_zero,List.getD_cons_succ]
    go_simp
    refine (uH CT _ (yB (uH HB1) kp)).mono ?_
    rintro e w2 ⟨rfl,hb⟩
    go_wp2_with fail
    first | exact hb | exact hK _ hb
   | 2,_,hK=>
    show Mul.step _ _ _ 8 _ _ _
    refine ⟨_,rfl,?_⟩
    simp only [LFI,List.getD_cons_zero,List.getD_cons_succ]
    go_simp
    refine (uH CD _ (yB (uH HB1) kp)).mono ?_
    rintro e w2 ⟨rfl,hb⟩
    go_wp2_with fail
    first | exact hb | exact hK _ hb
   | 3,_,hK=>
    show Mul.step _ _ _ 11 _ _ _
    refine ⟨_,rfl,?_⟩
    simp only [LFI,List.getD_cons_zero,List.getD_cons_succ]
    go_simp
    refine (uH CW _ (yB (uH HB1) kp)).mono ?_
    rintro e w2 ⟨rfl,hb⟩
    go_wp2_with fail
    first | exact hb | exact hK _ hb
  case al=>
   intro j c f us wz K hc hf hu hj hK
   obtain ⟨f0,f1,f2,rfl⟩:=list3 hf
   obtain ⟨g5,g6,g7,rfl⟩:=list3 hu
   match j,hj,hK with
   | 0,hj,hK=>
    show Mul.step _ _ _ 12 _ _ _
    refine ⟨_,rfl,?_⟩
    simp only [LFI,List.getD_cons_zero,List.getD_cons_succ]
    go_simp
    go_wp2_with fail
    exact hK
   | 1,hj,hK=>
    show Mul.step _ _ _ 13 _ _ _
    refine ⟨_,rfl,?_⟩
    simp only [LFI,List.getD_cons_zero,List.getD_cons_succ]
    go_simp
    go_wp2_with fail
    exact hK
   | 2,hj,hK=>
    show Mul.step _ _ _ 14 _ _ _
    refine ⟨_,rfl,?_⟩
    simp only [LFI,List.getD_cons_zero,List.getD_cons_succ]
    go_simp
    go_wp2_with fail
    exact hK
   | j+3,hj,_=>simp at hj
  case st=>
   intro s us wz K hs hu hv hK
   obtain ⟨g5,g6,g7,rfl⟩:=list3 hu
   have hs4:s<3:=hs
   match s,hs4,hv,hK with
   | 0,_,hv,hK=>
    replace hv:Var wz 52 g5 0 0:=hv
    have y0:=hv.c0
    have y1:=hv.c1
    have y2:=hv.f 0
    have y3:=hv.f 1
    show Mul.step _ _ _ 15 { tmps:=#[sv ⟨qa,ql,qc,aa,al,ac,ma,ml,mc,ca,cl,cc⟩ ⟨qs,clock,epoch,next,serial,apps,ms,cs⟩,.string (bs nm),.pointer (some ⟨w.heap.size,0,none⟩),undef,.pointer (some ⟨w.heap.size+1,0,none⟩),.pointer (some ⟨g5,0,none⟩),.pointer (some ⟨g6,0,none⟩),.pointer (some ⟨g7,0,none⟩),.pointer (some ⟨w.heap.size,0,none⟩),.slice qa ql qc,.string (bs nm),.bool true,.bool false,undef,.agg #[.slice qa ql qc,.int .i64 clock,.int .i64 epoch,.int .i64 next,.int .i64 serial,.slice aa al ac,.slice ma ml mc,.slice ca cl cc],.string (bs nm),rv ux uy,.pointer (some ⟨w.heap.size,0,none⟩),.slice qa ql qc,.string (bs nm),.agg #[.slice qa ql qc,.int .i64 clock,.int .i64 epoch,.int .i64 next,.int .i64 serial,.slice aa al ac,.slice ma ml mc,.slice ca cl cc],rv tx ty,rv dx dy,.agg #[.slice qa ql qc,.int .i64 clock,.int .i64 epoch,.int .i64 next,.int .i64 serial,.slice aa al ac,.slice ma ml mc,.slice ca cl cc],.string (bs nm),rv nx ny,undef,undef,undef,undef,undef,undef,undef,undef,undef,undef,undef,undef,undef,undef,undef],defers:=[] } _ _
    refine ⟨_,rfl,?_⟩
    simp only [LFI,List.getD_cons_zero,List.getD_cons_succ]
    go_simp
    go_wp2_with fail
    exact hK
   | 1,_,hv,hK=>
    replace hv:Var wz 52 g6 0 0:=hv
    have y0:=hv.c0
    have y1:=hv.c1
    have y2:=hv.f 0
    have y3:=hv.f 1
    show Mul.step _ _ _ 16 { tmps:=#[sv ⟨qa,ql,qc,aa,al,ac,ma,ml,mc,ca,cl,cc⟩ ⟨qs,clock,epoch,next,serial,apps,ms,cs⟩,.string (bs nm),.pointer (some ⟨w.heap.size,0,none⟩),undef,.pointer (some ⟨w.heap.size+1,0,none⟩),.pointer (some ⟨g5,0,none⟩),.pointer (some ⟨g6,0,none⟩),.pointer (some ⟨g7,0,none⟩),.pointer (some ⟨w.heap.size,0,none⟩),.slice qa ql qc,.string (bs nm),.bool true,.bool false,undef,.agg #[.slice qa ql qc,.int .i64 clock,.int .i64 epoch,.int .i64 next,.int .i64 serial,.slice aa al ac,.slice ma ml mc,.slice ca cl cc],.string (bs nm),rv ux uy,.pointer (some ⟨w.heap.size,0,none⟩),.slice qa ql qc,.string (bs nm),.agg #[.slice qa ql qc,.int .i64 clock,.int .i64 epoch,.int .i64 next,.int .i64 serial,.slice aa al ac,.slice ma ml mc,.slice ca cl cc],rv tx ty,rv dx dy,.agg #[.slice qa ql qc,.int .i64 clock,.int .i64 epoch,.int .i64 next,.int .i64 serial,.slice aa al ac,.slice ma ml mc,.slice ca cl cc],.string (bs nm),rv nx ny,undef,undef,undef,undef,undef,undef,undef,undef,undef,undef,undef,undef,undef,undef,undef],defers:=[] } _ _
    refine ⟨_,rfl,?_⟩
    simp only [LFI,List.getD_cons_zero,List.getD_cons_succ]
    go_simp
    go_wp2_with fail
    exact hK
   | 2,_,hv,hK=>
    replace hv:Var wz 52 g7 0 0:=hv
    have y0:=hv.c0
    have y1:=hv.c1
    have y2:=hv.f 0
    have y3:=hv.f 1
    show Mul.step _ _ _ 17 { tmps:=#[sv ⟨qa,ql,qc,aa,al,ac,ma,ml,mc,ca,cl,cc⟩ ⟨qs,clock,epoch,next,serial,apps,ms,cs⟩,.string (bs nm),.pointer (some ⟨w.heap.size,0,none⟩),undef,.pointer (some ⟨w.heap.size+1,0,none⟩),.pointer (some ⟨g5,0,none⟩),.pointer (some ⟨g6,0,none⟩),.pointer (some ⟨g7,0,none⟩),.pointer (some ⟨w.heap.size,0,none⟩),.slice qa ql qc,.string (bs nm),.bool true,.bool false,undef,.agg #[.slice qa ql qc,.int .i64 clock,.int .i64 epoch,.int .i64 next,.int .i64 serial,.slice aa al ac,.slice ma ml mc,.slice ca cl cc],.string (bs nm),rv ux uy,.pointer (some ⟨w.heap.size,0,none⟩),.slice qa ql qc,.string (bs nm),.agg #[.slice qa ql qc,.int .i64 clock,.int .i64 epoch,.int .i64 next,.int .i64 serial,.slice aa al ac,.slice ma ml mc,.slice ca cl cc],rv tx ty,rv dx dy,.agg #[.slice qa ql qc,.int .i64 clock,.int .i64 epoch,.int .i64 next,.int .i64 serial,.slice aa al ac,.slice ma ml mc,.slice ca cl cc],.string (bs nm),rv nx ny,undef,undef,undef,undef,undef,undef,undef,undef,undef,undef,undef,undef,undef,undef,undef],defers:=[] } _ _
    refine ⟨_,rfl,?_⟩
    simp only [LFI,List.getD_cons_zero,List.getD_cons_succ]
    go_simp
    go_wp2_with fail
    exact hK
  case fin=>
   intro us wz hu hV kp
   obtain ⟨g5,g6,g7,rfl⟩:=list3 hu
   have v5:VB w1 wz g5 ux uy:=hV 0 (by decide)
   have v6:VB w1 wz g6 dx dy:=hV 1 (by decide)
   have v7:VB w1 wz g7 nx ny:=hV 2 (by decide)
   go_wp2_with fail
   go_meet
   exact ⟨g5,g6,g7,rfl,rfl,rfl,v5.2,v6.2,v7.2,v5.1,v6.1,v7.1,kp⟩
 case rest=>
  obtain ⟨g5,g6,g7,rfl,rfl,rfl,hv5,hv6,hv7,hg5,hg6,hg7,hA⟩:=hcut
  obtain ⟨w4,rfl⟩:∃w4,w4=wc:=⟨wc,rfl⟩
  have V4:=hide (show Var w4 52 (w.heap.size+1) 0 0 from (uH V1).below hA)
  have hv1:=(uH V1).lt
  have n5:g5≠w.heap.size+1:=by omega
  have n6:g6≠w.heap.size+1:=by omega
  have n7:g7≠w.heap.size+1:=by omega
  have S4:LS w g5 g6 g7 ux uy dx dy nx ny w4.drew:=⟨hv5,hv6,hv7,(yB (uH HB1) hA).drew⟩
  have RL:∀wx,LS w g5 g6 g7 ux uy dx dy nx ny wx→wx.cell? ⟨g5,0,none⟩=some (.int .i64 ux)∧wx.cell? ⟨g5,1,none⟩=some (.int .i64 uy)∧wx.cell? ⟨g6,0,none⟩=some (.int .i64 dx)∧wx.cell? ⟨g6,1,none⟩=some (.int .i64 dy)∧wx.cell? ⟨g7,0,none⟩=some (.int .i64 nx)∧wx.cell? ⟨g7,1,none⟩=some (.int .i64 ny):=fun wx h=>⟨h.1.c0,h.1.c1,h.2.1.c0,h.2.1.c1,h.2.2.1.c0,h.2.2.1.c1⟩
  have L1:=hide (fun wx=>by have:=lackOf_any dx ux nx wx ⟨d0,d1⟩ ⟨u0,u1⟩;rw [uH HZX] at this;exact this)
  have L2:=hide (fun wx=>by have:=lackOf_any dy uy ny wx ⟨d2,d3⟩ ⟨u2,u3⟩;rw [uH HZY] at this;exact this)
  clear R A0 HS hv5 hv6 hv7 hA
  go_wp2_with fail
  refine wp_region_held_drew (S:=fun wx=>LS w g5 g6 g7 ux uy dx dy nx ny wx) (by kernel_rfl) S4 (fun S0=>?_)
  refine tW 0 26 _ S0 ?_
  try simp only [zW]
  refine tW 1 27 _ S0 ?_
  try simp only [zW]
  refine tW 2 28 _ S0 ?_
  try simp only [zW]
  refine tW 3 29 _ S0 ?_
  try simp only [zW]
  refine tW 4 30 _ S0 ?_
  try simp only [zW]
  refine tW 5 31 _ S0 ?_
  try simp only [zW]
  refine tW 7 33 _ S0 ?_
  try simp only [zW]
  refine tW 8 34 _ S0 ?_
  try simp only [zW]
  refine tW 9 35 _ S0 ?_
  try simp only [zW]
  refine tW 10 36 _ S0 ?_
  try simp only [zW]
  refine tW 11 37 _ S0 ?_
  try simp only [zW]
  refine tW 12 38 _ S0 ?_
  try simp only [zW]
  refine wpAnyH_ready (rs:=[6]) (by kernel_rfl) (by simp) (AllReadyH.cons rfl (fun K hK=>?_) AllReadyH.nil)
  go_simp
  refine (uH L1 _).mono ?_
  rintro e wt ⟨rfl,rfl⟩
  have S1:=S0
  go_wp2_with fail
  refine hK.out _ _ S1 (fun S0=>?_)
  clear hK K S1
  try simp only [zW]
  refine wpAnyH_ready (rs:=[13]) (by kernel_rfl) (by simp) (AllReadyH.cons rfl (fun K hK=>?_) AllReadyH.nil)
  go_simp
  refine (uH L2 _).mono ?_
  rintro e wt ⟨rfl,rfl⟩
  have S1:=S0
  go_wp2_with fail
  refine hK.out _ _ S1 (fun S0=>?_)
  clear hK K S1
  try simp only [zW]
  refine tW 14 40 _ S0 ?_
  try simp only [zW]
  have c0:=(uH V4).c0
  have c1:=(uH V4).c1
  have c2:=(uH V4).f 0
  have c3:=(uH V4).f 1
  have k4:=(uH V4).s0 (.int .i64 zx)
  have k5:=(uH V4).s1 (.int .i64 zx) (.int .i64 zy)
  have S5:LS w g5 g6 g7 ux uy dx dy nx ny ((w4.setCell ⟨w.heap.size+1,0,none⟩ (.int .i64 zx)).setCell ⟨w.heap.size+1,1,none⟩ (.int .i64 zy)).drew:=⟨(S0.1.other _ _ _ n5).other _ _ _ n5,(S0.2.1.other _ _ _ n6).other _ _ _ n6,(S0.2.2.1.other _ _ _ n7).other _ _ _ n7,yC (yC S0.2.2.2 _ _ _ (by omega)) _ _ _ (by omega)⟩
  have HB9:=hide S5.2.2.2
  refine wpAnyH_ready (rs:=[15]) (by kernel_rfl) (by simp) (AllReadyH.cons rfl (fun K hK=>?_) AllReadyH.nil)
  go_simp
  go_wp2_with fail
  refine hK.out _ _ S5 (fun S0=>?_)
  clear hK K
  refine wpAnyH_done (by kernel_rfl) ?_ _
  go_wp2
  refine bodyPost_ret (v:=rv zx zy) (by simp [results,Tryz.results32,go_sem,k4,k5]) rfl ⟨rfl,uH HB9⟩
end
end Go.Proofs.YtokabeokclpljaaGreat
