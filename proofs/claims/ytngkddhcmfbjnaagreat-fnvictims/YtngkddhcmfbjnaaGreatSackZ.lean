/-
  Texts in one: BefS, OrdS.
-/
import Derived.Test.YtngkddhcmfbjnaaGreatSackY
set_option maxRecDepth 100000
set_option maxHeartbeats 16000000
set_option linter.unusedVariables false
set_option linter.unusedSimpArgs false
namespace Go.Proofs.YtngkddhcmfbjnaaGreat
section
open Go.RowKit Go.Maps
def BFr (w w1:World) (na nb:List UInt8) (ux uy dx dy vx vy fx fy tx ty:Int) (gt:Nat) (qa:Option Addr) (ql qc:Nat) (aa:Option Addr) (al ac:Nat) (ma:Option Addr) (ml mc:Nat) (ca:Option Addr) (cl cc:Nat) (qs:List Q) (cv ez nv sj:Int) (aj:List bN) (ms:List Mac) (cs:List Con) (c:Nat) (fs:List Bool) (us:List Nat):Act:={ tmps:=#[sv ⟨qa,ql,qc,aa,al,ac,ma,ml,mc,ca,cl,cc⟩ ⟨qs,cv,ez,nv,sj,aj,ms,cs⟩,.string (bs na),.string (bs nb),.pointer (some ⟨w.heap.size,0,none⟩),undef,undef,.bool false,.pointer (some ⟨gt,0,none⟩),zZ (fs.getD 0 false) (us.getD 0 0),zZ (fs.getD 1 false) (us.getD 1 0),zZ (fs.getD 2 false) (us.getD 2 0),zZ (fs.getD 3 false) (us.getD 3 0),.agg #[.slice qa ql qc,.int .i64 cv,.int .i64 ez,.int .i64 nv,.int .i64 sj,.slice aa al ac,.slice ma ml mc,.slice ca cl cc],rv tx ty,.agg #[.slice qa ql qc,.int .i64 cv,.int .i64 ez,.int .i64 nv,.int .i64 sj,.slice aa al ac,.slice ma ml mc,.slice ca cl cc],.string (bs na),vM (Nat.ble 1 c) (rv ux uy),.pointer (some ⟨w.heap.size,0,none⟩),.slice qa ql qc,.string (bs na),rv tx ty,vM (Nat.ble 2 c) (rv dx dy),.agg #[.slice qa ql qc,.int .i64 cv,.int .i64 ez,.int .i64 nv,.int .i64 sj,.slice aa al ac,.slice ma ml mc,.slice ca cl cc],.string (bs nb),vM (Nat.ble 3 c) (rv vx vy),.pointer (some ⟨w.heap.size,0,none⟩),.slice qa ql qc,.string (bs nb),rv tx ty,vM (Nat.ble 4 c) (rv fx fy),undef,undef,undef,undef,undef,undef,undef,undef,undef,undef,undef,undef,undef,undef,undef,undef],defers:=[] }
def BFM:Mul:=⟨24,[2,7,10,15],[16,17,18,19],[20,21,22,23],[true,true,false,true,true,true,true,false,true,true,false,true,true,true,true,false,false,false,false,false,false,false,false,false]⟩
theorem aFp (x:Sls) (s:St) (na nb:List UInt8) (w:World) (h:gU w x s) (hf:dI s) :
  cP 145 #[sv x s,.string (bs na),.string (bs nb)] w fun e w'=>e=.returned (.bool (aCu s na nb))∧Bw w w':=by
 have GJ:x.ql≤1048576:=h.ql hf
 have GN:x.ml≤1048576:=h.ml hf
 have CT:=aA (fun wx (hb:Bw w wx)=>show cP 45 #[sv x s] wx (fun e w'=>e=.returned (rv (bC s).1 (bC s).2)∧Bw wx w') from j4 x s wx (h.2.2.1.below hb) GN)
 have CD:=fun nm wx (hb:Bw w wx)=>show cP 44 #[.slice x.qa x.ql x.qc,.string (bs nm),rv (bC s).1 (bC s).2] wx (fun e w'=>e=.returned (rv (iO s nm).1 (iO s nm).2)∧Bw wx w') from j5 x.qa x.ql x.qc s.qs nm (bC s).1 (bC s).2 wx (h.1.below hb) GJ (fun q hq=>(hf.1.2 q hq).1)
 have CU:=fun nm wx (hb:Bw w wx)=>jL x s nm wx (h.below hb) hf
 have CU1:=aA (CU na)
 have CU2:=aA (CU nb)
 have CD1:=aA (CD na)
 have CD2:=aA (CD nb)
 have HA:=aA (show aCu s na nb=(vP (aL s na).1 (aL s na).2 (iO s na).1 (iO s na).2 (aL s nb).1 (aL s nb).2 (iO s nb).1 (iO s nb).2||(!vP (aL s nb).1 (aL s nb).2 (iO s nb).1 (iO s nb).2 (aL s na).1 (aL s na).2 (iO s na).1 (iO s na).2&&Op.bytesLess na nb)) from rfl)
 obtain ⟨⟨tx,ty⟩,ht⟩:∃t,bC s=t:=⟨_,rfl⟩
 obtain ⟨⟨dx,dy⟩,hd⟩:∃t,iO s na=t:=⟨_,rfl⟩
 obtain ⟨⟨ux,uy⟩,hu⟩:∃t,aL s na=t:=⟨_,rfl⟩
 obtain ⟨⟨fx,fy⟩,hd2⟩:∃t,iO s nb=t:=⟨_,rfl⟩
 obtain ⟨⟨vx,vy⟩,hu2⟩:∃t,aL s nb=t:=⟨_,rfl⟩
 rw [ht] at CT
 rw [ht,hd] at CD1
 rw [ht,hd2] at CD2
 rw [hu] at CU1
 rw [hu2] at CU2
 rw [hd,hu,hd2,hu2] at HA
 obtain ⟨o,ho⟩:∃o,aCu s na nb=o:=⟨_,rfl⟩
 rw [ho] at HA ⊢
 simp only at HA CD1 CD2 CU1 CU2 CT
 obtain ⟨l1,hl1⟩:∃z,vP ux uy dx dy vx vy fx fy=z:=⟨_,rfl⟩
 obtain ⟨l2,hl2⟩:∃z,vP vx vy fx fy ux uy dx dy=z:=⟨_,rfl⟩
 have CL1:=aA (fun wx=>by have:=lN ux uy dx dy vx vy fx fy wx;rw [hl1] at this;exact this)
 have CL2:=aA (fun wx=>by have:=lN vx vy fx fy ux uy dx dy wx;rw [hl2] at this;exact this)
 rw [hl1,hl2] at HA
 clear h hf CD CU ht hd hu hd2 hu2 ho hl1 hl2
 obtain ⟨qa,ql,qc,aa,al,ac,ma,ml,mc,ca,cl,cc⟩:=x
 obtain ⟨qs,cv,ez,nv,sj,aj,ms,cs⟩:=s
 simp only at CT CD1 CD2 CU1 CU2 GJ GN
 have HB0:=aA (yA (yH _ w) (.cells (svc ⟨qa,ql,qc,aa,al,ac,ma,ml,mc,ca,cl,cc⟩ ⟨qs,cv,ez,nv,sj,aj,ms,cs⟩) 29))
 have P0:=aA (yD w (svc ⟨qa,ql,qc,aa,al,ac,ma,ml,mc,ca,cl,cc⟩ ⟨qs,cv,ez,nv,sj,aj,ms,cs⟩) 29)
 go_enter Tryz.func145,Tryz.ntmps145
 go_wp2_with fail
 refine (uH CT _ (uH HB0)).mono ?_
 rintro e w0 ⟨rfl,hb⟩
 have HB1:=aA (yA (yB (uH HB0) hb) (.cells #[.int .i64 tx,.int .i64 ty] 37))
 have P1:=aA (((uH P0).below hb).al (.cells #[.int .i64 tx,.int .i64 ty] 37))
 have T1:=aA (bD w0 37 tx ty)
 clear hb HB0 P0 CT
 obtain ⟨gt,hgt⟩:∃g,w0.heap.size=g:=⟨_,rfl⟩
 rw [hgt] at T1
 go_wp2_with fail
 try rw [hgt]
 obtain ⟨w1,hw1⟩:∃W,w0.alloc (.cells #[.int .i64 tx,.int .i64 ty] 37)=W:=⟨_,rfl⟩
 rw [hw1] at HB1 P1 T1 ⊢
 clear hgt hw1
 obtain ⟨q0,q1,q2,q3,q4,q5,q6,q7⟩:_∧_∧_∧_∧_∧_∧_∧_:=⟨(uH P1).at 0,(uH P1).at 1,(uH P1).at 2,(uH P1).at 3,(uH P1).at 4,(uH P1).at 5,(uH P1).at 6,(uH P1).at 7⟩
 simp at q0 q1 q2 q3 q4 q5 q6 q7
 have R:∀wx,Kp w1 wx→wx.cell? ⟨w.heap.size,0,none⟩=some (.slice qa ql qc)∧wx.cell? ⟨w.heap.size,1,none⟩=some (.int .i64 cv)∧wx.cell? ⟨w.heap.size,2,none⟩=some (.int .i64 ez)∧wx.cell? ⟨w.heap.size,3,none⟩=some (.int .i64 nv)∧wx.cell? ⟨w.heap.size,4,none⟩=some (.int .i64 sj)∧wx.cell? ⟨w.heap.size,5,none⟩=some (.slice aa al ac)∧wx.cell? ⟨w.heap.size,6,none⟩=some (.slice ma ml mc)∧wx.cell? ⟨w.heap.size,7,none⟩=some (.slice ca cl cc)∧wx.cell? ⟨gt,0,none⟩=some (.int .i64 tx)∧wx.cell? ⟨gt,1,none⟩=some (.int .i64 ty):=fun wx h=>
  ⟨h.cell q0,h.cell q1,h.cell q2,h.cell q3,h.cell q4,h.cell q5,h.cell q6,h.cell q7,h.cell (uH T1).c0,h.cell (uH T1).c1⟩
 have A0:=aA (Kp.new w1)
 have HS:=aA (aK w1)
 clear P1 T1 q0 q1 q2 q3 q4 q5 q6 q7
 go_cut [8,9,10,11] from 14 to 29 (fun v8 v9 v10 v11 wx=>∃g8 g9 g10 g11,v8=.pointer (some ⟨g8,0,none⟩)∧v9=.pointer (some ⟨g9,0,none⟩)∧v10=.pointer (some ⟨g10,0,none⟩)∧v11=.pointer (some ⟨g11,0,none⟩)∧Var wx 37 g8 ux uy∧Var wx 37 g9 dx dy∧Var wx 37 g10 vx vy∧Var wx 37 g11 fx fy∧w1.heap.size≤g8∧w1.heap.size≤g9∧w1.heap.size≤g10∧w1.heap.size≤g11∧Kp w1 wx)
 case first=>
  refine wp_region_held_drew (S:=fun wx=>Kp w1 wx) (by kernel_rfl) ((uH HS).drew (uH A0)) (fun S0=>?_)
  refine tW 0 14 _ S0 ?_
  simp only [zW]
  refine tW 1 15 _ S0 ?_
  simp only [zW]
  refine tW 3 17 _ S0 ?_
  simp only [zW]
  refine tW 4 18 _ S0 ?_
  simp only [zW]
  refine tW 5 19 _ S0 ?_
  simp only [zW]
  refine tW 6 20 _ S0 ?_
  simp only [zW]
  refine tW 8 22 _ S0 ?_
  simp only [zW]
  refine tW 9 23 _ S0 ?_
  simp only [zW]
  refine tW 11 25 _ S0 ?_
  simp only [zW]
  refine tW 12 26 _ S0 ?_
  simp only [zW]
  refine tW 13 27 _ S0 ?_
  simp only [zW]
  refine tW 14 28 _ S0 ?_
  simp only [zW]
  refine mR (n':=4+4+4) (l':=BFM.lst 0 [false,false,false,false] 0) (a':=BFr w w1 na nb ux uy dx dy vx vy fx fy tx ty gt qa ql qc aa al ac ma ml mc ca cl cc qs cv ez nv sj aj ms cs 0 [false,false,false,false] [0,0,0,0]) rfl (by kernel_rfl) rfl ?_
  refine jO (w1:=w1) BFM (BFr w w1 na nb ux uy dx dy vx vy fx fy tx ty gt qa ql qc aa al ac ma ml mc ca cl cc qs cv ez nv sj aj ms cs) [(ux,uy),(dx,dy),(vx,vy),(fx,fy)] rfl (by as_aux_lemma=>kernel_rfl) ?call ?al ?st ?fin _ S0
  case call=>
   intro c f us wz K hc hf hu kp hK
   obtain ⟨f0,f1,f2,f3,rfl⟩:=aF6 hf
   obtain ⟨g8,g9,g10,g11,rfl⟩:=aF6 hu
   have hc4:c<4:=hc
   rcases (show c=0∨c=1∨c=2∨c=3 by omega) with rfl | rfl | rfl | rfl
   show Mul.step _ _ _ 2 _ _ _
   have CC:=CU1
   rotate_left
   show Mul.step _ _ _ 7 _ _ _
   have CC:=CD1
   rotate_left
   show Mul.step _ _ _ 10 _ _ _
   have CC:=CU2
   rotate_left
   show Mul.step _ _ _ 15 _ _ _
   have CC:=CD2
   rotate_left
   all_goals
    refine ⟨_,rfl,?_⟩
    simp only [BFr,List.getD_cons_zero,List.getD_cons_succ]
    go_simp
    refine (uH CC _ (yB (uH HB1) kp)).mono ?_
    rintro e w2 ⟨rfl,hb⟩
    go_wp2_with fail
    first | exact hb | exact hK _ hb
  case al=>
   intro j c f us wz K hc hf hu hj hK
   obtain ⟨f0,f1,f2,f3,rfl⟩:=aF6 hf
   obtain ⟨g8,g9,g10,g11,rfl⟩:=aF6 hu
   have NS:j<4:=by rcases Nat.lt_or_ge j 4 with h | h;exact h;(obtain ⟨q,rfl⟩:=Nat.exists_eq_add_of_le h;simp [Nat.add_comm] at hj)
   rcases (show j=0∨j=1∨j=2∨j=3 by omega) with rfl | rfl | rfl | rfl
   show Mul.step _ _ _ 16 _ _ _
   rotate_left
   show Mul.step _ _ _ 17 _ _ _
   rotate_left
   show Mul.step _ _ _ 18 _ _ _
   rotate_left
   show Mul.step _ _ _ 19 _ _ _
   rotate_left
   all_goals
    refine ⟨_,rfl,?_⟩
    simp only [BFr,List.getD_cons_zero,List.getD_cons_succ]
    go_simp
    go_wp2_with fail
    exact hK
  case st=>
   intro s us wz K hs hu hv hK
   obtain ⟨g8,g9,g10,g11,rfl⟩:=aF6 hu
   have hs4:s<4:=hs
   rcases (show s=0∨s=1∨s=2∨s=3 by omega) with rfl | rfl | rfl | rfl
   replace hv:Var wz 37 g8 0 0:=hv
   show Mul.step _ _ _ 20 _ _ _
   rotate_left
   replace hv:Var wz 37 g9 0 0:=hv
   show Mul.step _ _ _ 21 _ _ _
   rotate_left
   replace hv:Var wz 37 g10 0 0:=hv
   show Mul.step _ _ _ 22 _ _ _
   rotate_left
   replace hv:Var wz 37 g11 0 0:=hv
   show Mul.step _ _ _ 23 _ _ _
   rotate_left
   all_goals
    have y0:=hv.c0
    have y1:=hv.c1
    have y2:=hv.f 0
    have y3:=hv.f 1
    show Mul.step _ _ _ _ { tmps:=#[sv ⟨qa,ql,qc,aa,al,ac,ma,ml,mc,ca,cl,cc⟩ ⟨qs,cv,ez,nv,sj,aj,ms,cs⟩,.string (bs na),.string (bs nb),.pointer (some ⟨w.heap.size,0,none⟩),undef,undef,.bool false,.pointer (some ⟨gt,0,none⟩),.pointer (some ⟨g8,0,none⟩),.pointer (some ⟨g9,0,none⟩),.pointer (some ⟨g10,0,none⟩),.pointer (some ⟨g11,0,none⟩),.agg #[.slice qa ql qc,.int .i64 cv,.int .i64 ez,.int .i64 nv,.int .i64 sj,.slice aa al ac,.slice ma ml mc,.slice ca cl cc],rv tx ty,.agg #[.slice qa ql qc,.int .i64 cv,.int .i64 ez,.int .i64 nv,.int .i64 sj,.slice aa al ac,.slice ma ml mc,.slice ca cl cc],.string (bs na),rv ux uy,.pointer (some ⟨w.heap.size,0,none⟩),.slice qa ql qc,.string (bs na),rv tx ty,rv dx dy,.agg #[.slice qa ql qc,.int .i64 cv,.int .i64 ez,.int .i64 nv,.int .i64 sj,.slice aa al ac,.slice ma ml mc,.slice ca cl cc],.string (bs nb),rv vx vy,.pointer (some ⟨w.heap.size,0,none⟩),.slice qa ql qc,.string (bs nb),rv tx ty,rv fx fy,undef,undef,undef,undef,undef,undef,undef,undef,undef,undef,undef,undef,undef,undef,undef,undef],defers:=[] } _ _
    refine ⟨_,rfl,?_⟩
    simp only [BFr,List.getD_cons_zero,List.getD_cons_succ]
    go_simp
    go_wp2_with fail
    exact hK
  case fin=>
   intro us wz hu hV kp
   obtain ⟨g8,g9,g10,g11,rfl⟩:=aF6 hu
   have v8:VB w1 wz g8 ux uy:=hV 0 (by decide)
   have v9:VB w1 wz g9 dx dy:=hV 1 (by decide)
   have v10:VB w1 wz g10 vx vy:=hV 2 (by decide)
   have v11:VB w1 wz g11 fx fy:=hV 3 (by decide)
   go_wp2_with fail
   go_meet
   exact ⟨g8,g9,g10,g11,rfl,rfl,rfl,rfl,v8.2,v9.2,v10.2,v11.2,v8.1,v9.1,v10.1,v11.1,kp⟩
 case rest=>
  obtain ⟨g8,g9,g10,g11,rfl,rfl,rfl,rfl,v8,v9,v10,v11,_,_,_,_,hA⟩:=hcut
  obtain ⟨w4,rfl⟩:∃w4,w4=wc:=⟨wc,rfl⟩
  have V8:=aA v8
  have V9:=aA v9
  have V10:=aA v10
  have V11:=aA v11
  have G8:=aA (yB (uH HB1) hA)
  have a0:=v8.c0;have a1:=v8.c1;have b0:=v9.c0;have b1:=v9.c1;have c0:=v10.c0;have c1:=v10.c1;have d0:=v11.c0;have d1:=v11.c1
  clear v8 v9 v10 v11 hA R A0 HS HB1 CU1 CU2 CD1 CD2
  go_wp2_with fail
  refine (uH CL1 _).mono ?_
  rintro e w5 ⟨rfl,hb⟩
  have GR:=aA (yB (uH G8) hb)
  have X8:=(uH V8).below hb
  have X9:=(uH V9).below hb
  have X10:=(uH V10).below hb
  have X11:=(uH V11).below hb
  clear a0 a1 b0 b1 c0 c1 d0 d1 hb V8 V9 V10 V11 CL1 G8
  have a0:=X8.c0;have a1:=X8.c1;have b0:=X9.c0;have b1:=X9.c1;have c0:=X10.c0;have c1:=X10.c1;have d0:=X11.c0;have d1:=X11.c1
  cases l1
  case true=>
   go_wp2
   go_ret
   exact ⟨yF (by rw [uH HA];rfl),uH GR⟩
  clear X8 X9 X10 X11
  go_wp2_with fail
  refine (uH CL2 _).mono ?_
  rintro e w6 ⟨rfl,hb⟩
  have GY:=aA (yB (uH GR) hb)
  clear a0 a1 b0 b1 c0 c1 d0 d1 hb CL2 GR
  cases l2
  case true=>
   go_wp2
   go_ret
   exact ⟨yF (by rw [uH HA];rfl),uH GY⟩
  obtain ⟨bl,hbl⟩:∃z,Op.bytesLess (bs na).toList (bs nb).toList=z:=⟨_,rfl⟩
  have sw:=aA (show Op.bytesLess na nb=bl by rw [←hbl];simp [bs])
  go_wp2
  go_ret
  exact ⟨yF (by rw [uH HA,uH sw];rfl),uH GY⟩
def aLw (w1:World) (g n0 cap j:Nat) (NC1 NC2:List Value) (nm:List UInt8) (x0 x1 x2 x4 x7 x8 x9 x10 x11 x12 x13 x14 x15 x16 x17 x18 x19 x20 x21 x22 x23 x24 x25 x26 x27 x28 x29 x30 x31 x32 x33 x34 x35 x36 x37 x38 x39 x40 x41 x45 x47 x48 x52 x53:Value) (n:Nat) (lz:Array Bool) (az:Act) (wz:World):Prop:=(n=6∧lz=#[false,true,true,true,false,true,false,false,true,true,true,false,false]∧az = { tmps:=#[x0,x1,x2,.slice (some ⟨g,0,none⟩) n0 cap,x4,.string (bs nm),.int .i64 (j:Int),x7,x8,x9,x10,x11,x12,x13,x14,x15,x16,x17,x18,x19,x20,x21,x22,x23,x24,x25,x26,x27,x28,x29,x30,x31,x32,x33,x34,x35,x36,x37,x38,x39,x40,x41,.slice (some ⟨g,0,none⟩) n0 cap,.int .i64 (j:Int),.slice (some ⟨g,0,none⟩) j cap,x45,.string (bs nm),x47,x48,.slice (some ⟨g,0,none⟩) n0 cap,.int .i64 (j:Int),.slice (some (hiA g cap j 1)) (n0 - j) (cap - j),x52,x53],defers:=[] }∧Kp w1 wz)
def aLv (w1:World) (g n0 cap j:Nat) (NC1 NC2:List Value) (nm:List UInt8) (x0 x1 x2 x4 x7 x8 x9 x10 x11 x12 x13 x14 x15 x16 x17 x18 x19 x20 x21 x22 x23 x24 x25 x26 x27 x28 x29 x30 x31 x32 x33 x34 x35 x36 x37 x38 x39 x40 x41 x45 x47 x48 x52 x53:Value) (n:Nat) (lz:Array Bool) (az:Act) (wz:World):Prop:=(∃gb:Nat,n=5∧lz=#[false,true,true,true,false,true,true,false,true,true,true,false,false]∧az = { tmps:=#[x0,x1,x2,.slice (some ⟨g,0,none⟩) n0 cap,x4,.string (bs nm),.int .i64 (j:Int),x7,x8,x9,x10,x11,x12,x13,x14,x15,x16,x17,x18,x19,x20,x21,x22,x23,x24,x25,x26,x27,x28,x29,x30,x31,x32,x33,x34,x35,x36,x37,x38,x39,x40,x41,.slice (some ⟨g,0,none⟩) n0 cap,.int .i64 (j:Int),.slice (some ⟨g,0,none⟩) j cap,x45,.string (bs nm),.slice (some ⟨gb,0,none⟩) 1 1,x48,.slice (some ⟨g,0,none⟩) n0 cap,.int .i64 (j:Int),.slice (some (hiA g cap j 1)) (n0 - j) (cap - j),x52,x53],defers:=[] }∧aDC 9 w1 wz gb #[Value.string (bs nm)]∧Kp w1 wz)
def aLu (w1:World) (g n0 cap j:Nat) (NC1 NC2:List Value) (nm:List UInt8) (x0 x1 x2 x4 x7 x8 x9 x10 x11 x12 x13 x14 x15 x16 x17 x18 x19 x20 x21 x22 x23 x24 x25 x26 x27 x28 x29 x30 x31 x32 x33 x34 x35 x36 x37 x38 x39 x40 x41 x45 x47 x48 x52 x53:Value) (n:Nat) (lz:Array Bool) (az:Act) (wz:World):Prop:=(∃g0:Nat,n=5∧lz=#[true,true,true,true,false,true,false,false,true,true,true,false,false]∧az = { tmps:=#[x0,x1,x2,.slice (some ⟨g,0,none⟩) n0 cap,x4,.string (bs nm),.int .i64 (j:Int),x7,x8,x9,x10,x11,x12,x13,x14,x15,x16,x17,x18,x19,x20,x21,x22,x23,x24,x25,x26,x27,x28,x29,x30,x31,x32,x33,x34,x35,x36,x37,x38,x39,x40,.slice (some ⟨g0,0,none⟩) 0 0,.slice (some ⟨g,0,none⟩) n0 cap,.int .i64 (j:Int),.slice (some ⟨g,0,none⟩) j cap,x45,.string (bs nm),x47,x48,.slice (some ⟨g,0,none⟩) n0 cap,.int .i64 (j:Int),.slice (some (hiA g cap j 1)) (n0 - j) (cap - j),x52,x53],defers:=[] }∧wI 9 1 w1.heap.size wz (.slice (some ⟨g0,0,none⟩) 0 0) 0 []∧Kp w1 wz)
def aLt (w1:World) (g n0 cap j:Nat) (NC1 NC2:List Value) (nm:List UInt8) (x0 x1 x2 x4 x7 x8 x9 x10 x11 x12 x13 x14 x15 x16 x17 x18 x19 x20 x21 x22 x23 x24 x25 x26 x27 x28 x29 x30 x31 x32 x33 x34 x35 x36 x37 x38 x39 x40 x41 x45 x47 x48 x52 x53:Value) (n:Nat) (lz:Array Bool) (az:Act) (wz:World):Prop:=(∃g0:Nat,∃gb:Nat,n=4∧lz=#[true,true,true,true,false,true,true,false,true,true,true,false,false]∧az = { tmps:=#[x0,x1,x2,.slice (some ⟨g,0,none⟩) n0 cap,x4,.string (bs nm),.int .i64 (j:Int),x7,x8,x9,x10,x11,x12,x13,x14,x15,x16,x17,x18,x19,x20,x21,x22,x23,x24,x25,x26,x27,x28,x29,x30,x31,x32,x33,x34,x35,x36,x37,x38,x39,x40,.slice (some ⟨g0,0,none⟩) 0 0,.slice (some ⟨g,0,none⟩) n0 cap,.int .i64 (j:Int),.slice (some ⟨g,0,none⟩) j cap,x45,.string (bs nm),.slice (some ⟨gb,0,none⟩) 1 1,x48,.slice (some ⟨g,0,none⟩) n0 cap,.int .i64 (j:Int),.slice (some (hiA g cap j 1)) (n0 - j) (cap - j),x52,x53],defers:=[] }∧wI 9 1 w1.heap.size wz (.slice (some ⟨g0,0,none⟩) 0 0) 0 []∧aDC 9 w1 wz gb #[Value.string (bs nm)]∧gb≠g0∧Kp w1 wz)
def aLs (w1:World) (g n0 cap j:Nat) (NC1 NC2:List Value) (nm:List UInt8) (x0 x1 x2 x4 x7 x8 x9 x10 x11 x12 x13 x14 x15 x16 x17 x18 x19 x20 x21 x22 x23 x24 x25 x26 x27 x28 x29 x30 x31 x32 x33 x34 x35 x36 x37 x38 x39 x40 x41 x45 x47 x48 x52 x53:Value) (n:Nat) (lz:Array Bool) (az:Act) (wz:World):Prop:=(∃g0:Nat,∃v1:Value,n=4∧lz=#[true,true,true,true,true,true,false,false,true,true,true,false,false]∧az = { tmps:=#[x0,x1,x2,.slice (some ⟨g,0,none⟩) n0 cap,x4,.string (bs nm),.int .i64 (j:Int),x7,x8,x9,x10,x11,x12,x13,x14,x15,x16,x17,x18,x19,x20,x21,x22,x23,x24,x25,x26,x27,x28,x29,x30,x31,x32,x33,x34,x35,x36,x37,x38,x39,x40,.slice (some ⟨g0,0,none⟩) 0 0,.slice (some ⟨g,0,none⟩) n0 cap,.int .i64 (j:Int),.slice (some ⟨g,0,none⟩) j cap,v1,.string (bs nm),x47,x48,.slice (some ⟨g,0,none⟩) n0 cap,.int .i64 (j:Int),.slice (some (hiA g cap j 1)) (n0 - j) (cap - j),x52,x53],defers:=[] }∧wI 9 1 w1.heap.size wz v1 j NC1∧Kp w1 wz)
def aLr (w1:World) (g n0 cap j:Nat) (NC1 NC2:List Value) (nm:List UInt8) (x0 x1 x2 x4 x7 x8 x9 x10 x11 x12 x13 x14 x15 x16 x17 x18 x19 x20 x21 x22 x23 x24 x25 x26 x27 x28 x29 x30 x31 x32 x33 x34 x35 x36 x37 x38 x39 x40 x41 x45 x47 x48 x52 x53:Value) (n:Nat) (lz:Array Bool) (az:Act) (wz:World):Prop:=(∃g0:Nat,∃v1:Value,∃gb:Nat,n=3∧lz=#[true,true,true,true,true,true,true,false,true,true,true,false,false]∧az = { tmps:=#[x0,x1,x2,.slice (some ⟨g,0,none⟩) n0 cap,x4,.string (bs nm),.int .i64 (j:Int),x7,x8,x9,x10,x11,x12,x13,x14,x15,x16,x17,x18,x19,x20,x21,x22,x23,x24,x25,x26,x27,x28,x29,x30,x31,x32,x33,x34,x35,x36,x37,x38,x39,x40,.slice (some ⟨g0,0,none⟩) 0 0,.slice (some ⟨g,0,none⟩) n0 cap,.int .i64 (j:Int),.slice (some ⟨g,0,none⟩) j cap,v1,.string (bs nm),.slice (some ⟨gb,0,none⟩) 1 1,x48,.slice (some ⟨g,0,none⟩) n0 cap,.int .i64 (j:Int),.slice (some (hiA g cap j 1)) (n0 - j) (cap - j),x52,x53],defers:=[] }∧wI 9 1 w1.heap.size wz v1 j NC1∧aDC 9 w1 wz gb #[Value.string (bs nm)]∧Kp w1 wz)
def aLq (w1:World) (g n0 cap j:Nat) (NC1 NC2:List Value) (nm:List UInt8) (x0 x1 x2 x4 x7 x8 x9 x10 x11 x12 x13 x14 x15 x16 x17 x18 x19 x20 x21 x22 x23 x24 x25 x26 x27 x28 x29 x30 x31 x32 x33 x34 x35 x36 x37 x38 x39 x40 x41 x45 x47 x48 x52 x53:Value) (n:Nat) (lz:Array Bool) (az:Act) (wz:World):Prop:=(∃g0:Nat,∃v1:Value,∃gb:Nat,∃v2:Value,n=2∧lz=#[true,true,true,true,true,true,true,true,true,true,true,false,false]∧az = { tmps:=#[x0,x1,x2,.slice (some ⟨g,0,none⟩) n0 cap,x4,.string (bs nm),.int .i64 (j:Int),x7,x8,x9,x10,x11,x12,x13,x14,x15,x16,x17,x18,x19,x20,x21,x22,x23,x24,x25,x26,x27,x28,x29,x30,x31,x32,x33,x34,x35,x36,x37,x38,x39,x40,.slice (some ⟨g0,0,none⟩) 0 0,.slice (some ⟨g,0,none⟩) n0 cap,.int .i64 (j:Int),.slice (some ⟨g,0,none⟩) j cap,v1,.string (bs nm),.slice (some ⟨gb,0,none⟩) 1 1,v2,.slice (some ⟨g,0,none⟩) n0 cap,.int .i64 (j:Int),.slice (some (hiA g cap j 1)) (n0 - j) (cap - j),x52,x53],defers:=[] }∧wI 9 1 w1.heap.size wz v2 (j+1) (NC1++#[Value.string (bs nm)].toList)∧Kp w1 wz)
def aLp (w1:World) (g n0 cap j:Nat) (NC1 NC2:List Value) (nm:List UInt8) (x0 x1 x2 x4 x7 x8 x9 x10 x11 x12 x13 x14 x15 x16 x17 x18 x19 x20 x21 x22 x23 x24 x25 x26 x27 x28 x29 x30 x31 x32 x33 x34 x35 x36 x37 x38 x39 x40 x41 x45 x47 x48 x52 x53:Value) (n:Nat) (lz:Array Bool) (az:Act) (wz:World):Prop:=(∃g0:Nat,∃v1:Value,∃gb:Nat,∃v2:Value,∃v3:Value,n=1∧lz=#[true,true,true,true,true,true,true,true,true,true,true,true,false]∧az = { tmps:=#[x0,x1,x2,.slice (some ⟨g,0,none⟩) n0 cap,x4,.string (bs nm),.int .i64 (j:Int),x7,x8,x9,x10,x11,x12,x13,x14,x15,x16,x17,x18,x19,x20,x21,x22,x23,x24,x25,x26,x27,x28,x29,x30,x31,x32,x33,x34,x35,x36,x37,x38,x39,x40,.slice (some ⟨g0,0,none⟩) 0 0,.slice (some ⟨g,0,none⟩) n0 cap,.int .i64 (j:Int),.slice (some ⟨g,0,none⟩) j cap,v1,.string (bs nm),.slice (some ⟨gb,0,none⟩) 1 1,v2,.slice (some ⟨g,0,none⟩) n0 cap,.int .i64 (j:Int),.slice (some (hiA g cap j 1)) (n0 - j) (cap - j),v3,x53],defers:=[] }∧wI 9 1 w1.heap.size wz v3 (j+1+(n0 - j)) (NC1++#[Value.string (bs nm)].toList++NC2)∧Kp w1 wz)
def aLo (w1:World) (g n0 cap j:Nat) (NC1 NC2:List Value) (nm:List UInt8) (x0 x1 x2 x4 x7 x8 x9 x10 x11 x12 x13 x14 x15 x16 x17 x18 x19 x20 x21 x22 x23 x24 x25 x26 x27 x28 x29 x30 x31 x32 x33 x34 x35 x36 x37 x38 x39 x40 x41 x45 x47 x48 x52 x53:Value) (n:Nat) (lz:Array Bool) (az:Act) (wz:World):Prop:=(∃g0:Nat,∃v1:Value,∃gb:Nat,∃v2:Value,∃v3:Value,n=0∧lz=#[true,true,true,true,true,true,true,true,true,true,true,true,true]∧az = { tmps:=#[x0,x1,x2,v3,x4,.string (bs nm),.int .i64 (j:Int),x7,x8,x9,x10,x11,x12,x13,x14,x15,x16,x17,x18,x19,x20,x21,x22,x23,x24,x25,x26,x27,x28,x29,x30,x31,x32,x33,x34,x35,x36,x37,x38,x39,x40,.slice (some ⟨g0,0,none⟩) 0 0,.slice (some ⟨g,0,none⟩) n0 cap,.int .i64 (j:Int),.slice (some ⟨g,0,none⟩) j cap,v1,.string (bs nm),.slice (some ⟨gb,0,none⟩) 1 1,v2,.slice (some ⟨g,0,none⟩) n0 cap,.int .i64 (j:Int),.slice (some (hiA g cap j 1)) (n0 - j) (cap - j),v3,x53],defers:=[] }∧wI 9 1 w1.heap.size wz v3 (j+1+(n0 - j)) (NC1++#[Value.string (bs nm)].toList++NC2)∧Kp w1 wz)
def QOT (w1:World) (g n0 cap j:Nat) (NC1 NC2:List Value) (nm:List UInt8) (x0 x1 x2 x4 x7 x8 x9 x10 x11 x12 x13 x14 x15 x16 x17 x18 x19 x20 x21 x22 x23 x24 x25 x26 x27 x28 x29 x30 x31 x32 x33 x34 x35 x36 x37 x38 x39 x40 x41 x45 x47 x48 x52 x53:Value) (n:Nat) (lz:Array Bool) (az:Act) (wz:World):Prop:=aLw w1 g n0 cap j NC1 NC2 nm x0 x1 x2 x4 x7 x8 x9 x10 x11 x12 x13 x14 x15 x16 x17 x18 x19 x20 x21 x22 x23 x24 x25 x26 x27 x28 x29 x30 x31 x32 x33 x34 x35 x36 x37 x38 x39 x40 x41 x45 x47 x48 x52 x53 n lz az wz∨aLv w1 g n0 cap j NC1 NC2 nm x0 x1 x2 x4 x7 x8 x9 x10 x11 x12 x13 x14 x15 x16 x17 x18 x19 x20 x21 x22 x23 x24 x25 x26 x27 x28 x29 x30 x31 x32 x33 x34 x35 x36 x37 x38 x39 x40 x41 x45 x47 x48 x52 x53 n lz az wz∨aLu w1 g n0 cap j NC1 NC2 nm x0 x1 x2 x4 x7 x8 x9 x10 x11 x12 x13 x14 x15 x16 x17 x18 x19 x20 x21 x22 x23 x24 x25 x26 x27 x28 x29 x30 x31 x32 x33 x34 x35 x36 x37 x38 x39 x40 x41 x45 x47 x48 x52 x53 n lz az wz∨aLt w1 g n0 cap j NC1 NC2 nm x0 x1 x2 x4 x7 x8 x9 x10 x11 x12 x13 x14 x15 x16 x17 x18 x19 x20 x21 x22 x23 x24 x25 x26 x27 x28 x29 x30 x31 x32 x33 x34 x35 x36 x37 x38 x39 x40 x41 x45 x47 x48 x52 x53 n lz az wz∨aLs w1 g n0 cap j NC1 NC2 nm x0 x1 x2 x4 x7 x8 x9 x10 x11 x12 x13 x14 x15 x16 x17 x18 x19 x20 x21 x22 x23 x24 x25 x26 x27 x28 x29 x30 x31 x32 x33 x34 x35 x36 x37 x38 x39 x40 x41 x45 x47 x48 x52 x53 n lz az wz∨aLr w1 g n0 cap j NC1 NC2 nm x0 x1 x2 x4 x7 x8 x9 x10 x11 x12 x13 x14 x15 x16 x17 x18 x19 x20 x21 x22 x23 x24 x25 x26 x27 x28 x29 x30 x31 x32 x33 x34 x35 x36 x37 x38 x39 x40 x41 x45 x47 x48 x52 x53 n lz az wz∨aLq w1 g n0 cap j NC1 NC2 nm x0 x1 x2 x4 x7 x8 x9 x10 x11 x12 x13 x14 x15 x16 x17 x18 x19 x20 x21 x22 x23 x24 x25 x26 x27 x28 x29 x30 x31 x32 x33 x34 x35 x36 x37 x38 x39 x40 x41 x45 x47 x48 x52 x53 n lz az wz∨aLp w1 g n0 cap j NC1 NC2 nm x0 x1 x2 x4 x7 x8 x9 x10 x11 x12 x13 x14 x15 x16 x17 x18 x19 x20 x21 x22 x23 x24 x25 x26 x27 x28 x29 x30 x31 x32 x33 x34 x35 x36 x37 x38 x39 x40 x41 x45 x47 x48 x52 x53 n lz az wz∨aLo w1 g n0 cap j NC1 NC2 nm x0 x1 x2 x4 x7 x8 x9 x10 x11 x12 x13 x14 x15 x16 x17 x18 x19 x20 x21 x22 x23 x24 x25 x26 x27 x28 x29 x30 x31 x32 x33 x34 x35 x36 x37 x38 x39 x40 x41 x45 x47 x48 x52 x53 n lz az wz
theorem pY (x:Sls) (s:St) (w:World) (h:gU w x s) (hf:dI s) :
  cP 87 #[sv x s] w fun e w'=>∃v,e=.returned v∧bY w.heap.size w' v (gM s)∧Bw w w':=by
 obtain ⟨i0,hi,hz0,hz1,hz2⟩:=info_parts Tryz.infoS
 have GJ:x.ql≤1048576:=h.ql hf
 have CB:=aA (fun na nb wx (hb:Bw w wx)=>aFp x s na nb wx (h.below hb) hf)
 have CL:=aA (fun nm wx (hb:Bw w wx)=>fP x.qa x.ql x.qc s.qs nm wx (h.1.below hb) GJ (fun q hq=>(hf.1.2 q hq).1))
 have VK:=aA (show s.qs.length=x.ql from h.1.1.symm)
 have dw:=aA h.1
 have WK:=aA (fun k (hk:k<s.qs.length)=>aD1 s hk)
 have ZK:=aA (fun k (hk:s.qs.length≤k)=>aFX s hk)
 have Dz:=aA (show uF s 0=[] from rfl)
 clear h hf
 obtain ⟨sV,KJ⟩:∃p,gM s=p:=⟨_,rfl⟩
 obtain ⟨sF,VY⟩:∃p,uF s=p:=⟨_,rfl⟩
 obtain ⟨lf,hlf⟩:∃p,oI s.qs=p:=⟨_,rfl⟩
 obtain ⟨bf,hbf⟩:∃p,aCu s=p:=⟨_,rfl⟩
 rw [VY,KJ] at ZK
 rw [VY,hlf,hbf] at WK
 rw [VY] at Dz
 rw [KJ]
 rw [hlf] at CL
 rw [hbf] at CB
 clear KJ VY hlf hbf
 obtain ⟨qa,ql,qc,aa,al,ac,ma,ml,mc,ca,cl,cc⟩:=x
 obtain ⟨qs,cv,ez,nv,sj,aj,ms,cs⟩:=s
 simp only at CB CL GJ VK dw WK ZK
 have HB1:=aA (yA (yA (yH _ w) (.cells (svc ⟨qa,ql,qc,aa,al,ac,ma,ml,mc,ca,cl,cc⟩ ⟨qs,cv,ez,nv,sj,aj,ms,cs⟩) 29)) (.cells #[] 9))
 have P1:=aA ((yD w (svc ⟨qa,ql,qc,aa,al,ac,ma,ml,mc,ca,cl,cc⟩ ⟨qs,cv,ez,nv,sj,aj,ms,cs⟩) 29).al (.cells #[] 9))
 have S1:=aA (show SS ((w.alloc (.cells (svc ⟨qa,ql,qc,aa,al,ac,ma,ml,mc,ca,cl,cc⟩ ⟨qs,cv,ez,nv,sj,aj,ms,cs⟩) 29)).alloc (.cells #[] 9)) (w.heap.size+1) 0 [] from by have:=rO (w.alloc (.cells (svc ⟨qa,ql,qc,aa,al,ac,ma,ml,mc,ca,cl,cc⟩ ⟨qs,cv,ez,nv,sj,aj,ms,cs⟩) 29));rw [yE] at this;exact this)
 obtain ⟨w1,hw1⟩:∃W,(w.alloc (.cells (svc ⟨qa,ql,qc,aa,al,ac,ma,ml,mc,ca,cl,cc⟩ ⟨qs,cv,ez,nv,sj,aj,ms,cs⟩) 29)).alloc (.cells #[] 9)=W:=⟨_,rfl⟩
 rw [hw1] at HB1 P1 S1
 have HW1:=aA hw1
 clear hw1
 go_enter Tryz.func87,Tryz.ntmps87
 go_wp2
 rw [uH HW1]
 go_loopw [3,4,5,6] (fun v i _ _ wr=>∃(k g cap:Nat) (o:List (List UInt8)),k≤ql∧i=.int .i64 k∧v=.slice (some ⟨g,0,none⟩) o.length cap∧o.length≤k∧w.heap.size<g∧Hid (o=sF k)∧Hid (SS wr g cap (o.map bs))∧Hid (Bw w1 wr)) (fun _ i _ _ _=>ql - (intOf i).toNat)
 case atStart=>exact ⟨0,w.heap.size+1,0,[],Nat.zero_le _,rfl,rfl,yJ _,by omega,aA (uH Dz).symm,S1,aA (yH _ _)⟩
 case round=>
  obtain ⟨k,g,cap,o,hk,rfl,rfl,hol,hgg,HO,HW,HB⟩:=hrel
  have HB2:=aA (yB (uH HB1) (uH HB))
  have P2:=aA ((uH P1).below (uH HB))
  obtain ⟨q0,q1,q2,q3,q4,q5,q6,q7⟩:_∧_∧_∧_∧_∧_∧_∧_:=⟨(uH P2).at 0,(uH P2).at 1,(uH P2).at 2,(uH P2).at 3,(uH P2).at 4,(uH P2).at 5,(uH P2).at 6,(uH P2).at 7⟩
  simp at q0 q1 q2 q3 q4 q5 q6 q7
  by_cases hlt:k<ql
  ·have HR2:=aA ((uH dw).below (uH HB2))
   obtain ⟨b,off,rfl,hq⟩:=(uH HR2).at hlt
   have hkl:k<qs.length:=by have:=uH VK;omega
   have hc0:=(hq hkl).1
   have hnf:=uH WK k hkl
   obtain ⟨nm,hnm⟩:∃nm,qs[k].name=nm:=⟨_,rfl⟩
   rw [hnm] at hc0 hnf
   obtain ⟨le,hle⟩:∃t,lf nm=t:=⟨_,rfl⟩
   rw [hle] at hnf
   have J3:=aA hnf
   have CL1:=aA (fun wx hb=>by have:=uH CL nm wx hb;rw [hle] at this;exact this)
   try simp only at CL1
   clear hnm hle hnf hq hkl HR2
   go_wp2_with fail
   refine (uH CL1 _ (uH HB2)).mono ?_
   rintro e w5 ⟨rfl,hb⟩
   have Gy:=aA ((uH HW).below hb (uH HW).lt)
   have ZL:=aA (yB (uH HB) hb)
   have P5:=aA ((uH P2).below hb)
   clear hb HW HB HB2 P2 CL1 q0 q1 q2 q3 q4 q5 q6 q7 hc0
   cases le
   case false=>
    go_wp2
    go_roundw
    case rel=>exact ⟨k+1,g,cap,o,by omega,by go_num,rfl,by omega,hgg,aA (by rw [uH J3,if_neg (by simp)];exact uH HO),Gy,ZL⟩
    case measure=>simp [intOf];omega
   case true=>
    have HP:=aA (show OrdM.ins bf nm o=sF (k+1) by rw [uH J3,if_pos rfl,←uH HO])
    go_wp2
    go_loopw [6] (fun i wr2=>∃j:Nat,j≤o.length∧i=.int .i64 j∧Hid (j+j3 bf nm (o.drop j)=j3 bf nm o)∧Hid (Bw w5 wr2)) (fun i _=>o.length - (intOf i).toNat)
    case atStart=>exact ⟨0,Nat.zero_le _,rfl,aA (by simp),aA (yH _ _)⟩
    case round=>
     obtain ⟨j,hj,rfl,HJ,Kw⟩:=hrel
     obtain ⟨w6,rfl⟩:∃w6,w6=wr:=⟨wr,rfl⟩
     have Qv:=aA ((uH Gy).below (uH Kw) (uH Gy).lt)
     have Xx:=aA (yB (uH ZL) (uH Kw))
     have P6:=aA ((uH P5).below (uH Kw))
     have Wq:=aA (yB (uH HB1) (uH Xx))
     by_cases hjl:j<o.length
     rotate_left
     have HAT:=aA (show j3 bf nm o=j by have:=aAS bf nm (l:=o) (k:=j) (by omega);have:=uH HJ;omega)
     have hjn:¬(j:Int)<(o.length:Int):=by omega
     clear HJ
     go_wp2_with fail
     refine wp_region_held_drew (S:=fun wx=>Kp w6 wx) (by kernel_rfl) ((aK w6).drew (Kp.new w6)) (fun S0=>?_)
     refine tW 0 26 _ S0 ?_
     simp only [zW]
     refine tW 1 27 _ S0 ?_
     simp only [zW]
     refine tW 2 28 _ S0 ?_
     simp only [zW]
     refine tW 3 29 _ S0 ?_
     simp only [zW]
     refine tW 4 30 _ S0 ?_
     simp only [zW]
     refine tU 5 31 S0 ?_
     simp only [zW]
     refine tU 6 32 S0 ?_
     simp only [zW]
     refine tU 7 33 S0 ?_
     simp only [zW]
     refine tU 8 34 S0 ?_
     simp only [zW]
     refine tU 9 35 S0 ?_
     simp only [zW]
     refine tU 10 36 S0 ?_
     simp only [zW]
     refine tU 11 37 S0 ?_
     simp only [zW]
     refine tW 12 38 _ S0 ?_
     simp only [zW]
     refine wpAnyH_done (by kernel_rfl) ?_ _
     have KY:=aA ((uH Qv).below (yH _ _).drew (uH Qv).lt)
     have ZT:=aA (uH Xx).drew
     obtain ⟨w7,hw7⟩:∃w7,w6.drew=w7:=⟨_,rfl⟩
     rw [hw7] at KY ZT
     rw [hw7]
     clear hw7 Qv Xx P6 Wq Kw
     rotate_left
     focus
      have hcj:=(uH Qv).text hjl
      have hps:=xA bf nm hjl
      obtain ⟨y,hy⟩:∃y,o[j]=y:=⟨_,rfl⟩
      rw [hy] at hcj hps
      obtain ⟨bl,hbl⟩:∃b,bf y nm=b:=⟨_,rfl⟩
      rw [hbl] at hps
      have Zx:=aA hps
      have CB1:=aA (fun wx hb=>by have:=uH CB y nm wx hb;rw [hbl] at this;exact this)
      try simp only at CB1
      have R:∀wx,Kp w6 wx→wx.cell? ⟨w.heap.size,0,none⟩=some (.slice (some ⟨b,off,none⟩) ql qc)∧wx.cell? ⟨w.heap.size,1,none⟩=some (.int .i64 cv)∧wx.cell? ⟨w.heap.size,2,none⟩=some (.int .i64 ez)∧wx.cell? ⟨w.heap.size,3,none⟩=some (.int .i64 nv)∧wx.cell? ⟨w.heap.size,4,none⟩=some (.int .i64 sj)∧wx.cell? ⟨w.heap.size,5,none⟩=some (.slice aa al ac)∧wx.cell? ⟨w.heap.size,6,none⟩=some (.slice ma ml mc)∧wx.cell? ⟨w.heap.size,7,none⟩=some (.slice ca cl cc)∧wx.cell? ⟨g,j,none⟩=some (.string (bs y)):=fun wx h=>by
       obtain ⟨a0,a1,a2,a3,a4,a5,a6,a7⟩:=zq (uH P6)
       exact ⟨h.cell a0,h.cell a1,h.cell a2,h.cell a3,h.cell a4,h.cell a5,h.cell a6,h.cell a7,h.cell hcj⟩
      have hjz:(j:Int)<(o.length:Int):=by omega
      have A6:=aA (Kp.new w6)
      clear hps hy hbl hcj
      go_wp2_with fail
      go_region_held3 (fun wx=>Kp w6 wx)
       (first | (with_reducible assumption) | exact (uH A6) | exact Below.drew (uH A6) | exact Below.drew (by assumption))
       (first
       | (go_at_call 145;refine (uH CB1 _ ?_).mono ?_;(exact yB (uH Wq) (show Kp w6 _ by assumption));rintro e w7 ⟨rfl,hb⟩;have SA:Kp w6 w7:=yB (show Kp w6 _ by assumption) hb))
      all_goals
       have YM:=aA (yB (uH Kw) SA)
       have KY:=aA ((uH Qv).below SA (uH Qv).lt)
       have ZT:=aA (yB (uH Xx) SA)
       clear SA R A6 CB1 Qv Xx P6 Wq Kw
       cases bl
       have HAT:=aA (show j3 bf nm o=j by have:=uH Zx;have:=uH HJ;simp at *;omega)
       clear HJ Zx YM
       rotate_left
       go_wp2
       go_roundw
       case rel=>exact ⟨j+1,by omega,by go_num,aA (by have:=uH Zx;have:=uH HJ;simp at *;omega),YM⟩
       case measure=>simp [intOf];omega
     all_goals
      go_wp2_with fail
      have hlo:=aHZ g o.length cap j (by have:=(uH KY).block;obtain ⟨_,_,h,_⟩:=this;rw [List.length_map] at h;omega)
      have hhi:=aH0 g o.length cap j hj
      obtain ⟨NC1,hc1⟩:∃c,((o.map bs).take j).map Value.string=c:=⟨_,rfl⟩
      obtain ⟨NC2,hc2⟩:∃c,((o.map bs).drop j).map Value.string=c:=⟨_,rfl⟩
      have WM:=aA (show ∀wx:World,Kp w7 wx→∀i u,NC1[i]? = some u→wx.cell? (Addr.add ⟨g,0,none⟩ i)=some u from fun wx hb i u hu=>(uH KY).lo hb j i u (by rw [hc1];exact hu))
      have fq:=aA (show ∀wx:World,Kp w7 wx→∀i u,NC2[i]? = some u→wx.cell? (Addr.add (hiA g cap j 1) i)=some u from fun wx hb i u hu=>(uH KY).hi hb j i u (by rw [hc2];exact hu))
      have yz:=aA (show NC1.length=j*1 by rw [←hc1];simp;omega)
      have HL2:=aA (show NC2.length=(o.length - j)*1 by rw [←hc2];simp)
      have Zk:=aA (show ∀u ∈ NC1,u.oneCell'=true by rw [←hc1];exact l7 _)
      have GD:=aA (show ∀u ∈ NC2,u.oneCell'=true by rw [←hc2];exact l7 _)
      have Rz:=aA (show ∀u ∈ #[Value.string (bs nm)].toList,u.oneCell'=true from fun u hu=>by simp at hu;subst hu;rfl)
      have Z7:=aA hc1.symm
      have Zw:=aA hc2.symm
      have A0:=aA (Kp.new w7)
      have HS:=aA (aK w7)
      have GY:=aA (yB (uH HB1) (uH ZT))
      clear hc1 hc2
      refine wp_region_held_drew (S:=fun wx=>Kp w7 wx) (by kernel_rfl) ((uH HS).drew (uH A0)) (fun S0=>?_)
      refine tW 1 42 _ S0 ?_
      simp only [zW]
      refine tW 2 43 _ S0 ?_
      simp only [zW]
      refine mP (i:=3) (d:=some 44) (v:=.slice (some ⟨g,0,none⟩) j cap) rfl rfl (by kernel_rfl) (by kernel_rfl) (by kernel_rfl) (fun _ _ _ h=>h) (Or.inl ⟨by rfl,fun wz hz=>by (go_simp;try with_reducible rfl)⟩) S0 ?_
      try simp only [zW]
      refine tW 5 46 _ S0 ?_
      simp only [zW]
      refine tW 8 49 _ S0 ?_
      simp only [zW]
      refine tW 9 50 _ S0 ?_
      simp only [zW]
      refine mP (i:=10) (d:=some 51) (v:=.slice (some (hiA g cap j 1)) (o.length - j) (cap - j)) rfl rfl (by kernel_rfl) (by kernel_rfl) (by kernel_rfl) (fun _ _ _ h=>h) (Or.inl ⟨by rfl,fun wz hz=>by (go_simp;try with_reducible rfl)⟩) S0 ?_
      try simp only [zW]
      refine nS (QOT w7 g o.length cap j NC1 NC2 nm _ _ _ _ _ _ _ _ _ _ _ _ _ _ _ _ _ _ _ _ _ _ _ _ _ _ _ _ _ _ _ _ _ _ _ _ _ _ _ _ _ _ _ _) ?step ?fin 6 _ _ _ (.inl (⟨rfl,by kernel_rfl,rfl,S0⟩))
      case fin=>
       intro lz az wz hI
       rcases hI with h | h | h | h | h | h | h | h | h
       ·obtain ⟨hn,_⟩:=h
        cases hn
       ·obtain ⟨_,hn,_⟩:=h
        cases hn
       ·obtain ⟨_,hn,_⟩:=h
        cases hn
       ·obtain ⟨_,_,hn,_⟩:=h
        cases hn
       ·obtain ⟨_,_,hn,_⟩:=h
        cases hn
       ·obtain ⟨_,_,_,hn,_⟩:=h
        cases hn
       ·obtain ⟨_,_,_,_,hn,_⟩:=h
        cases hn
       ·obtain ⟨_,_,_,_,_,hn,_⟩:=h
        cases hn
       ·obtain ⟨g0,v1,gb,v2,v3,-,rfl,rfl,hr,kp⟩:=h
        refine ⟨by kernel_rfl,?_⟩
        obtain ⟨g2,cap2,rfl,hg2,Hq,hc2⟩:=hr.open
        have ZR:=aA (show OrdM.ins bf nm o=o.take j++nm::o.drop j by rw [xX,uH HAT])
        have Gx:(o.take j++nm::o.drop j).length=j+1+(o.length - j):=by simp;omega
        have RF:=aA (show SS wz g2 cap2 ((o.take j++nm::o.drop j).map bs) by
         unfold SS
         rw [List.length_map,Gx]
         have e:((o.take j++nm::o.drop j).map bs).map Value.string=NC1++[Value.string (bs nm)]++NC2:=by rw [uH Z7,uH Zw];simp
         rw [e]
         exact Hq)
        have WN:=aA (yB (uH ZT) kp)
        have hg3:w.heap.size<g2:=by have:=(uH GY).size;have:=(uH KY).lt;omega
        clear Hq hr kp
        go_wp2
        go_roundw
        case rel=>exact ⟨k+1,g2,cap2,o.take j++nm::o.drop j,by omega,by go_num,by rw [Gx],by rw [Gx];omega,hg3,aA (by rw [←uH HP,uH ZR]),RF,WN⟩
        case measure=>simp [intOf];omega
      case step=>
       intro n lz az wz hI
       rcases hI with h | h | h | h | h | h | h | h | h
       ·obtain ⟨hn,rfl,rfl,kp⟩:=h
        obtain rfl:n=5:=by omega
        refine bO (rs:=[0,6]) (by kernel_rfl) (by simp) ?_
        refine aI.cons rfl (fun K hK=>?_) ?_
        ·go_simp
         go_wp2_with fail
         exact hK.out _ _ (yA kp _) (.inr (.inr (.inl (⟨wz.heap.size,rfl,rfl,rfl,qN kp,yA kp _⟩))))
        refine aI.cons rfl (fun K hK=>?_) ?_
        ·go_simp
         go_wp2_with fail
         exact hK.out _ _ (yA kp _) (.inr (.inl (⟨wz.heap.size,rfl,rfl,rfl,nZ kp _,yA kp _⟩)))
        exact aI.nil
       ·obtain ⟨gb,hn,rfl,rfl,hbx,kp⟩:=h
        obtain rfl:n=4:=by omega
        refine bO (rs:=[0]) (by kernel_rfl) (by simp) ?_
        refine aI.cons rfl (fun K hK=>?_) ?_
        ·go_simp
         go_wp2_with fail
         exact hK.out _ _ (yA kp _) (.inr (.inr (.inr (.inl (⟨wz.heap.size,gb,rfl,rfl,rfl,qN kp,hbx.al _,Nat.ne_of_lt hbx.lt,yA kp _⟩)))))
        exact aI.nil
       ·obtain ⟨g0,hn,rfl,rfl,hr,kp⟩:=h
        obtain rfl:n=4:=by omega
        refine bO (rs:=[4,6]) (by kernel_rfl) (by simp) ?_
        refine aI.cons rfl (fun K hK=>?_) ?_
        ·refine lJ (w1:=w7) rfl (.tmp 41) (.tmp 44) 41 rfl 9 i0 (.string ByteArray.empty) 1 16 Tryz.underlying41 hi hz0 hz1 hz2 rfl (by decide) (.slice (some ⟨g0,0,none⟩) 0 0) 0 [] rfl hr kp ⟨g,0,none⟩ j cap NC1 rfl (uH yz) (fun i u hu=>uH WM _ kp i u hu) (uH Zk) (by unfold maxLen;omega) (by omega) ?_
         intro v1 wz2 hr2 kp2 G6
         try simp only [zW]
         exact hK.out _ _ kp2 (.inr (.inr (.inr (.inr (.inl (⟨g0,v1,rfl,by kernel_rfl,rfl,aBJ hr2 (by omega) (List.nil_append _),kp2⟩))))))
        refine aI.cons rfl (fun K hK=>?_) ?_
        ·go_simp
         go_wp2_with fail
         exact hK.out _ _ (yA kp _) (.inr (.inr (.inr (.inl (⟨g0,wz.heap.size,rfl,rfl,rfl,hr.al _,nZ kp _,(Nat.ne_of_gt (by obtain ⟨q,q2,q3,q4,q5,q6⟩:=hr.open;cases q3;exact (World.ownsRow.lt q5 g0 rfl).2)),yA kp _⟩)))))
        exact aI.nil
       ·obtain ⟨g0,gb,hn,rfl,rfl,hr,hbx,hne,kp⟩:=h
        obtain rfl:n=3:=by omega
        refine bO (rs:=[4]) (by kernel_rfl) (by simp) ?_
        refine aI.cons rfl (fun K hK=>?_) ?_
        ·refine lJ (w1:=w7) rfl (.tmp 41) (.tmp 44) 41 rfl 9 i0 (.string ByteArray.empty) 1 16 Tryz.underlying41 hi hz0 hz1 hz2 rfl (by decide) (.slice (some ⟨g0,0,none⟩) 0 0) 0 [] rfl hr kp ⟨g,0,none⟩ j cap NC1 rfl (uH yz) (fun i u hu=>uH WM _ kp i u hu) (uH Zk) (by unfold maxLen;omega) (by omega) ?_
         intro v1 wz2 hr2 kp2 G6
         try simp only [zW]
         exact hK.out _ _ kp2 (.inr (.inr (.inr (.inr (.inr (.inl (⟨g0,v1,gb,rfl,by kernel_rfl,rfl,aBJ hr2 (by omega) (List.nil_append _),hbx.same (G6 gb hbx.lt (by simp [Value.ownBlock];omega)),kp2⟩)))))))
        exact aI.nil
       ·obtain ⟨g0,v1,hn,rfl,rfl,hr,kp⟩:=h
        obtain rfl:n=3:=by omega
        refine bO (rs:=[6]) (by kernel_rfl) (by simp) ?_
        refine aI.cons rfl (fun K hK=>?_) ?_
        ·go_simp
         go_wp2_with fail
         exact hK.out _ _ (yA kp _) (.inr (.inr (.inr (.inr (.inr (.inl (⟨g0,v1,wz.heap.size,rfl,rfl,rfl,hr.al _,nZ kp _,yA kp _⟩)))))))
        exact aI.nil
       ·obtain ⟨g0,v1,gb,hn,rfl,rfl,hr,hbx,kp⟩:=h
        obtain rfl:n=2:=by omega
        refine bO (rs:=[7]) (by kernel_rfl) (by simp) ?_
        refine aI.cons rfl (fun K hK=>?_) ?_
        ·refine lJ (w1:=w7) rfl (.tmp 45) (.tmp 47) 41 rfl 9 i0 (.string ByteArray.empty) 1 16 Tryz.underlying41 hi hz0 hz1 hz2 rfl (by decide) v1 j NC1 rfl hr kp ⟨gb,0,none⟩ 1 1 #[Value.string (bs nm)].toList rfl (by rfl) hbx.news (uH Rz) (by unfold maxLen;omega) (by omega) ?_
         intro v2 wz2 hr2 kp2 G6
         try simp only [zW]
         exact hK.out _ _ kp2 (.inr (.inr (.inr (.inr (.inr (.inr (.inl (⟨g0,v1,gb,v2,rfl,by kernel_rfl,rfl,hr2,kp2⟩))))))))
        exact aI.nil
       ·obtain ⟨g0,v1,gb,v2,hn,rfl,rfl,hr,kp⟩:=h
        obtain rfl:n=1:=by omega
        refine bO (rs:=[11]) (by kernel_rfl) (by simp) ?_
        refine aI.cons rfl (fun K hK=>?_) ?_
        ·refine lJ (w1:=w7) rfl (.tmp 48) (.tmp 51) 41 rfl 9 i0 (.string ByteArray.empty) 1 16 Tryz.underlying41 hi hz0 hz1 hz2 rfl (by decide) v2 (j+1) (NC1++#[Value.string (bs nm)].toList) rfl hr kp (hiA g cap j 1) (o.length - j) (cap - j) NC2 rfl (uH HL2) (fun i u hu=>uH fq _ kp i u hu) (uH GD) (by unfold maxLen;omega) (by omega) ?_
         intro v3 wz2 hr2 kp2 G6
         try simp only [zW]
         exact hK.out _ _ kp2 (.inr (.inr (.inr (.inr (.inr (.inr (.inr (.inl (⟨g0,v1,gb,v2,v3,rfl,by kernel_rfl,rfl,hr2,kp2⟩)))))))))
        exact aI.nil
       ·obtain ⟨g0,v1,gb,v2,v3,hn,rfl,rfl,hr,kp⟩:=h
        obtain rfl:n=0:=by omega
        refine bO (rs:=[12]) (by kernel_rfl) (by simp) ?_
        refine aI.cons rfl (fun K hK=>?_) ?_
        ·go_simp
         go_wp2_with fail
         exact hK.out _ _ kp (.inr (.inr (.inr (.inr (.inr (.inr (.inr (.inr (⟨g0,v1,gb,v2,v3,rfl,rfl,rfl,hr,kp⟩)))))))))
        exact aI.nil
       ·obtain ⟨_,_,_,_,_,hn,_⟩:=h
        cases hn
  ·have hkk:k=ql:=by omega
   subst hkk
   have HE:=aA (uH ZK k (by have:=uH VK;omega))
   have YX:w.heap.size≤g:=by omega
   go_wp2
   go_ret
   refine ⟨_,rfl,?_,uH HB2⟩
   rw [←uH HE,←uH HO]
   exact ((uH HW).own).base YX
end
end Go.Proofs.YtngkddhcmfbjnaaGreat
