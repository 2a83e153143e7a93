/-
  bI in one: BefS, OrdS.
-/
import Derived.Test.YtdhibeclkdepiaaGreatPackAG
import Derived.Test.YtdhibeclkdepiaaGreatPackW
set_option maxRecDepth 100000
set_option maxHeartbeats 16000000
set_option linter.unusedVariables false
set_option linter.unusedSimpArgs false
namespace Go.Proofs.YtdhibeclkdepiaaGreat
section
open Go.RowKit Go.Maps
def BFr (w w1:World) (na nb:List UInt8) (ux uy dx dy vx vy fx fy tx ty:Int) (gt:Nat) (qa:Option Addr) (ql qc:Nat) (aa:Option Addr) (al ac:Nat) (ma:Option Addr) (ml mc:Nat) (ca:Option Addr) (cl cc:Nat) (qs:List Q) (clock epoch next serial:Int) (apps:List dB) (ms:List Mac) (cs:List Con) (c:Nat) (fs:List Bool) (us:List Nat):Act:={ tmps:=#[sv ⟨qa,ql,qc,aa,al,ac,ma,ml,mc,ca,cl,cc⟩ ⟨qs,clock,epoch,next,serial,apps,ms,cs⟩,.string (bs na),.string (bs nb),.pointer (some ⟨w.heap.size,0,none⟩),undef,undef,.bool false,.pointer (some ⟨gt,0,none⟩),aID (fs.getD 0 false) (us.getD 0 0),aID (fs.getD 1 false) (us.getD 1 0),aID (fs.getD 2 false) (us.getD 2 0),aID (fs.getD 3 false) (us.getD 3 0),.agg #[.slice qa ql qc,.int .i64 clock,.int .i64 epoch,.int .i64 next,.int .i64 serial,.slice aa al ac,.slice ma ml mc,.slice ca cl cc],rv tx ty,.agg #[.slice qa ql qc,.int .i64 clock,.int .i64 epoch,.int .i64 next,.int .i64 serial,.slice aa al ac,.slice ma ml mc,.slice ca cl cc],.string (bs na),aIC (Nat.ble 1 c) (rv ux uy),.pointer (some ⟨w.heap.size,0,none⟩),.slice qa ql qc,.string (bs na),rv tx ty,aIC (Nat.ble 2 c) (rv dx dy),.agg #[.slice qa ql qc,.int .i64 clock,.int .i64 epoch,.int .i64 next,.int .i64 serial,.slice aa al ac,.slice ma ml mc,.slice ca cl cc],.string (bs nb),aIC (Nat.ble 3 c) (rv vx vy),.pointer (some ⟨w.heap.size,0,none⟩),.slice qa ql qc,.string (bs nb),rv tx ty,aIC (Nat.ble 4 c) (rv fx fy),undef,undef,undef,undef,undef,undef,undef,undef,undef,undef,undef,undef,undef,undef,undef,undef],defers:=[] }
def BFM:Mul:=⟨24,[2,7,10,15],[16,17,18,19],[20,21,22,23],[true,true,false,true,true,true,true,false,true,true,false,true,true,true,true,false,false,false,false,false,false,false,false,false]⟩
theorem aFX (x:Sls) (s:St) (na nb:List UInt8) (w:World) (h:iJ w x s) (hf:bS s) :
  Calls Tryz.prog 159 #[sv x s,.string (bs na),.string (bs nb)] w fun e w'=>e=.returned (.bool (aCN s na nb))∧Below w.heap.size w w':=by
 have hql:x.ql≤1048576:=h.ql hf
 have hml:x.ml≤1048576:=h.ml hf
 have CT:=aA (fun wx (hb:Below w.heap.size w wx)=>show Calls Tryz.prog 163 #[sv x s] wx (fun e w'=>e=.returned (rv (dM s).1 (dM s).2)∧Below wx.heap.size wx w') from oP x s wx (h.2.2.1.below hb) hml)
 have CD:=fun nm wx (hb:Below w.heap.size w wx)=>show Calls Tryz.prog 183 #[.slice x.qa x.ql x.qc,.string (bs nm),rv (dM s).1 (dM s).2] wx (fun e w'=>e=.returned (rv (aAf s nm).1 (aAf s nm).2)∧Below wx.heap.size wx w') from aAP x.qa x.ql x.qc s.qs nm (dM s).1 (dM s).2 wx (h.1.below hb) hql (fun q hq=>(hf.1.2 q hq).1)
 have CU:=fun nm wx (hb:Below w.heap.size w wx)=>nR x s nm wx (h.below hb) hf
 have CU1:=aA (CU na)
 have CU2:=aA (CU nb)
 have CD1:=aA (CD na)
 have CD2:=aA (CD nb)
 have HA:=aA (show aCN s na nb=(tL (aL s na).1 (aL s na).2 (aAf s na).1 (aAf s na).2 (aL s nb).1 (aL s nb).2 (aAf s nb).1 (aAf s nb).2||(!tL (aL s nb).1 (aL s nb).2 (aAf s nb).1 (aAf s nb).2 (aL s na).1 (aL s na).2 (aAf s na).1 (aAf s na).2&&Op.bytesLess na nb)) from rfl)
 obtain ⟨⟨tx,ty⟩,ht⟩:∃t,dM s=t:=⟨_,rfl⟩
 obtain ⟨⟨dx,dy⟩,hd⟩:∃t,aAf s na=t:=⟨_,rfl⟩
 obtain ⟨⟨ux,uy⟩,hu⟩:∃t,aL s na=t:=⟨_,rfl⟩
 obtain ⟨⟨fx,fy⟩,hd2⟩:∃t,aAf s nb=t:=⟨_,rfl⟩
 obtain ⟨⟨vx,vy⟩,hu2⟩:∃t,aL s nb=t:=⟨_,rfl⟩
 rw [ht] at CT
 rw [ht,hd] at CD1
 rw [ht,hd2] at CD2
 rw [hu] at CU1
 rw [hu2] at CU2
 rw [hd,hu,hd2,hu2] at HA
 obtain ⟨o,ho⟩:∃o,aCN s na nb=o:=⟨_,rfl⟩
 rw [ho] at HA ⊢
 simp only at HA CD1 CD2 CU1 CU2 CT
 obtain ⟨l1,hl1⟩:∃z,tL ux uy dx dy vx vy fx fy=z:=⟨_,rfl⟩
 obtain ⟨l2,hl2⟩:∃z,tL vx vy fx fy ux uy dx dy=z:=⟨_,rfl⟩
 have CL1:=aA (fun wx=>by have:=kP ux uy dx dy vx vy fx fy wx;rw [hl1] at this;exact this)
 have CL2:=aA (fun wx=>by have:=kP vx vy fx fy ux uy dx dy wx;rw [hl2] at this;exact this)
 rw [hl1,hl2] at HA
 clear h hf CD CU ht hd hu hd2 hu2 ho hl1 hl2
 obtain ⟨qa,ql,qc,aa,al,ac,ma,ml,mc,ca,cl,cc⟩:=x
 obtain ⟨qs,clock,epoch,next,serial,apps,ms,cs⟩:=s
 simp only at CT CD1 CD2 CU1 CU2 hql hml
 have HB0:=aA (yA (Below.refl _ w) (.cells (svc ⟨qa,ql,qc,aa,al,ac,ma,ml,mc,ca,cl,cc⟩ ⟨qs,clock,epoch,next,serial,apps,ms,cs⟩) 34))
 have P0:=aA (yD w (svc ⟨qa,ql,qc,aa,al,ac,ma,ml,mc,ca,cl,cc⟩ ⟨qs,clock,epoch,next,serial,apps,ms,cs⟩) 34)
 go_enter Tryz.func159,Tryz.ntmps159
 go_wp2_with fail
 refine (uH CT _ (uH HB0)).mono ?_
 rintro e w0 ⟨rfl,hb⟩
 have HB1:=aA (yA (yB (uH HB0) hb) (.cells #[.int .i64 tx,.int .i64 ty] 36))
 have P1:=aA (((uH P0).below hb).al (.cells #[.int .i64 tx,.int .i64 ty] 36))
 have T1:=aA (aJ w0 36 tx ty)
 clear hb HB0 P0 CT
 obtain ⟨gt,hgt⟩:∃g,w0.heap.size=g:=⟨_,rfl⟩
 rw [hgt] at T1
 go_wp2_with fail
 try rw [hgt]
 obtain ⟨w1,hw1⟩:∃W,w0.alloc (.cells #[.int .i64 tx,.int .i64 ty] 36)=W:=⟨_,rfl⟩
 rw [hw1] at HB1 P1 T1 ⊢
 clear hgt hw1
 obtain ⟨q0,q1,q2,q3,q4,q5,q6,q7⟩:_∧_∧_∧_∧_∧_∧_∧_:=⟨(uH P1).at 0,(uH P1).at 1,(uH P1).at 2,(uH P1).at 3,(uH P1).at 4,(uH P1).at 5,(uH P1).at 6,(uH P1).at 7⟩
 simp at q0 q1 q2 q3 q4 q5 q6 q7
 have R:∀wx,Kp w1 wx→wx.cell? ⟨w.heap.size,0,none⟩=some (.slice qa ql qc)∧wx.cell? ⟨w.heap.size,1,none⟩=some (.int .i64 clock)∧wx.cell? ⟨w.heap.size,2,none⟩=some (.int .i64 epoch)∧wx.cell? ⟨w.heap.size,3,none⟩=some (.int .i64 next)∧wx.cell? ⟨w.heap.size,4,none⟩=some (.int .i64 serial)∧wx.cell? ⟨w.heap.size,5,none⟩=some (.slice aa al ac)∧wx.cell? ⟨w.heap.size,6,none⟩=some (.slice ma ml mc)∧wx.cell? ⟨w.heap.size,7,none⟩=some (.slice ca cl cc)∧wx.cell? ⟨gt,0,none⟩=some (.int .i64 tx)∧wx.cell? ⟨gt,1,none⟩=some (.int .i64 ty):=fun wx h=>
  ⟨h.cell q0,h.cell q1,h.cell q2,h.cell q3,h.cell q4,h.cell q5,h.cell q6,h.cell q7,h.cell (uH T1).c0,h.cell (uH T1).c1⟩
 have A0:=aA (Kp.new w1)
 have HS:=aA (cB w1)
 clear P1 T1 q0 q1 q2 q3 q4 q5 q6 q7
 go_cut [8,9,10,11] from 14 to 29 (fun v8 v9 v10 v11 wx=>∃g8 g9 g10 g11,v8=.pointer (some ⟨g8,0,none⟩)∧v9=.pointer (some ⟨g9,0,none⟩)∧v10=.pointer (some ⟨g10,0,none⟩)∧v11=.pointer (some ⟨g11,0,none⟩)∧Var wx 36 g8 ux uy∧Var wx 36 g9 dx dy∧Var wx 36 g10 vx vy∧Var wx 36 g11 fx fy∧w1.heap.size≤g8∧w1.heap.size≤g9∧w1.heap.size≤g10∧w1.heap.size≤g11∧Kp w1 wx)
 case first=>
  refine wp_region_held_drew (S:=fun wx=>Kp w1 wx) (by kernel_rfl) ((uH HS).drew (uH A0)) (fun S0=>?_)
  refine aB 0 14 _ rfl rfl S0 ?_
  try simp only [Act.put,sA,sB,sC]
  refine aB 1 15 _ rfl rfl S0 ?_
  try simp only [Act.put,sA,sB,sC]
  refine aB 3 17 _ rfl rfl S0 ?_
  try simp only [Act.put,sA,sB,sC]
  refine aB 4 18 _ rfl rfl S0 ?_
  try simp only [Act.put,sA,sB,sC]
  refine aB 5 19 _ rfl rfl S0 ?_
  try simp only [Act.put,sA,sB,sC]
  refine aB 6 20 _ rfl rfl S0 ?_
  try simp only [Act.put,sA,sB,sC]
  refine aB 8 22 _ rfl rfl S0 ?_
  try simp only [Act.put,sA,sB,sC]
  refine aB 9 23 _ rfl rfl S0 ?_
  try simp only [Act.put,sA,sB,sC]
  refine aB 11 25 _ rfl rfl S0 ?_
  try simp only [Act.put,sA,sB,sC]
  refine aB 12 26 _ rfl rfl S0 ?_
  try simp only [Act.put,sA,sB,sC]
  refine aB 13 27 _ rfl rfl S0 ?_
  try simp only [Act.put,sA,sB,sC]
  refine aB 14 28 _ rfl rfl S0 ?_
  try simp only [Act.put,sA,sB,sC]
  refine aFi (n':=4+4+4) (l':=BFM.lst 0 [false,false,false,false] 0) (a':=BFr w w1 na nb ux uy dx dy vx vy fx fy tx ty gt qa ql qc aa al ac ma ml mc ca cl cc qs clock epoch next serial apps ms cs 0 [false,false,false,false] [0,0,0,0]) rfl (by kernel_rfl) rfl ?_
  refine aBI (w1:=w1) BFM (BFr w w1 na nb ux uy dx dy vx vy fx fy tx ty gt qa ql qc aa al ac ma ml mc ca cl cc qs clock epoch next serial apps ms cs) [(ux,uy),(dx,dy),(vx,vy),(fx,fy)] rfl (by as_aux_lemma=>kernel_rfl) ?call ?al ?st ?fin _ S0
  case call=>
   intro c f us wz K hc hf hu kp hK
   obtain ⟨f0,f1,f2,f3,rfl⟩:=aFD hf
   obtain ⟨g8,g9,g10,g11,rfl⟩:=aFD hu
   have hc4:c<4:=hc
   match c,hc4,hK with
   | 0,_,hK=>
    show Mul.step _ _ _ 2 _ _ _
    refine ⟨_,rfl,?_⟩
    simp only [BFr,List.getD_cons_zero,List.getD_cons_succ]
    go_simp
    refine (uH CU1 _ (yB (uH HB1) kp)).mono ?_
    rintro e w2 ⟨rfl,hb⟩
    go_wp2_with fail
    first | exact hb | exact hK _ hb
   | 1,_,hK=>
    show Mul.step _ _ _ 7 _ _ _
    refine ⟨_,rfl,?_⟩
    simp only [BFr,List.getD_cons_zero,List.getD_cons_succ]
    go_simp
    refine (uH CD1 _ (yB (uH HB1) kp)).mono ?_
    rintro e w2 ⟨rfl,hb⟩
    go_wp2_with fail
    first | exact hb | exact hK _ hb
   | 2,_,hK=>
    show Mul.step _ _ _ 10 _ _ _
    refine ⟨_,rfl,?_⟩
    simp only [BFr,List.getD_cons_zero,List.getD_cons_succ]
    go_simp
    refine (uH CU2 _ (yB (uH HB1) kp)).mono ?_
    rintro e w2 ⟨rfl,hb⟩
    go_wp2_with fail
    first | exact hb | exact hK _ hb
   | 3,_,hK=>
    show Mul.step _ _ _ 15 _ _ _
    refine ⟨_,rfl,?_⟩
    simp only [BFr,List.getD_cons_zero,List.getD_cons_succ]
    go_simp
    refine (uH CD2 _ (yB (uH HB1) kp)).mono ?_
    rintro e w2 ⟨rfl,hb⟩
    go_wp2_with fail
    first | exact hb | exact hK _ hb
  case al=>
   intro j c f us wz K hc hf hu hj hK
   obtain ⟨f0,f1,f2,f3,rfl⟩:=aFD hf
   obtain ⟨g8,g9,g10,g11,rfl⟩:=aFD hu
   match j,hj,hK with
   | 0,hj,hK=>
    show Mul.step _ _ _ 16 _ _ _
    refine ⟨_,rfl,?_⟩
    simp only [BFr,List.getD_cons_zero,List.getD_cons_succ]
    go_simp
    go_wp2_with fail
    exact hK
   | 1,hj,hK=>
    show Mul.step _ _ _ 17 _ _ _
    refine ⟨_,rfl,?_⟩
    simp only [BFr,List.getD_cons_zero,List.getD_cons_succ]
    go_simp
    go_wp2_with fail
    exact hK
   | 2,hj,hK=>
    show Mul.step _ _ _ 18 _ _ _
    refine ⟨_,rfl,?_⟩
    simp only [BFr,List.getD_cons_zero,List.getD_cons_succ]
    go_simp
    go_wp2_with fail
    exact hK
   | 3,hj,hK=>
    show Mul.step _ _ _ 19 _ _ _
    refine ⟨_,rfl,?_⟩
    simp only [BFr,List.getD_cons_zero,List.getD_cons_succ]
    go_simp
    go_wp2_with fail
    exact hK
   | j+4,hj,_=>simp at hj
  case st=>
   intro s us wz K hs hu hv hK
   obtain ⟨g8,g9,g10,g11,rfl⟩:=aFD hu
   have hs4:s<4:=hs
   match s,hs4,hv,hK with
   | 0,_,hv,hK=>
    replace hv:Var wz 36 g8 0 0:=hv
    have y0:=hv.c0
    have y1:=hv.c1
    have y2:=hv.f 0
    have y3:=hv.f 1
    show Mul.step _ _ _ 20 { tmps:=#[sv ⟨qa,ql,qc,aa,al,ac,ma,ml,mc,ca,cl,cc⟩ ⟨qs,clock,epoch,next,serial,apps,ms,cs⟩,.string (bs na),.string (bs nb),.pointer (some ⟨w.heap.size,0,none⟩),undef,undef,.bool false,.pointer (some ⟨gt,0,none⟩),.pointer (some ⟨g8,0,none⟩),.pointer (some ⟨g9,0,none⟩),.pointer (some ⟨g10,0,none⟩),.pointer (some ⟨g11,0,none⟩),.agg #[.slice qa ql qc,.int .i64 clock,.int .i64 epoch,.int .i64 next,.int .i64 serial,.slice aa al ac,.slice ma ml mc,.slice ca cl cc],rv tx ty,.agg #[.slice qa ql qc,.int .i64 clock,.int .i64 epoch,.int .i64 next,.int .i64 serial,.slice aa al ac,.slice ma ml mc,.slice ca cl cc],.string (bs na),rv ux uy,.pointer (some ⟨w.heap.size,0,none⟩),.slice qa ql qc,.string (bs na),rv tx ty,rv dx dy,.agg #[.slice qa ql qc,.int .i64 clock,.int .i64 epoch,.int .i64 next,.int .i64 serial,.slice aa al ac,.slice ma ml mc,.slice ca cl cc],.string (bs nb),rv vx vy,.pointer (some ⟨w.heap.size,0,none⟩),.slice qa ql qc,.string (bs nb),rv tx ty,rv fx fy,undef,undef,undef,undef,undef,undef,undef,undef,undef,undef,undef,undef,undef,undef,undef,undef],defers:=[] } _ _
    refine ⟨_,rfl,?_⟩
    simp only [BFr,List.getD_cons_zero,List.getD_cons_succ]
    go_simp
    go_wp2_with fail
    exact hK
   | 1,_,hv,hK=>
    replace hv:Var wz 36 g9 0 0:=hv
    have y0:=hv.c0
    have y1:=hv.c1
    have y2:=hv.f 0
    have y3:=hv.f 1
    show Mul.step _ _ _ 21 { tmps:=#[sv ⟨qa,ql,qc,aa,al,ac,ma,ml,mc,ca,cl,cc⟩ ⟨qs,clock,epoch,next,serial,apps,ms,cs⟩,.string (bs na),.string (bs nb),.pointer (some ⟨w.heap.size,0,none⟩),undef,undef,.bool false,.pointer (some ⟨gt,0,none⟩),.pointer (some ⟨g8,0,none⟩),.pointer (some ⟨g9,0,none⟩),.pointer (some ⟨g10,0,none⟩),.pointer (some ⟨g11,0,none⟩),.agg #[.slice qa ql qc,.int .i64 clock,.int .i64 epoch,.int .i64 next,.int .i64 serial,.slice aa al ac,.slice ma ml mc,.slice ca cl cc],rv tx ty,.agg #[.slice qa ql qc,.int .i64 clock,.int .i64 epoch,.int .i64 next,.int .i64 serial,.slice aa al ac,.slice ma ml mc,.slice ca cl cc],.string (bs na),rv ux uy,.pointer (some ⟨w.heap.size,0,none⟩),.slice qa ql qc,.string (bs na),rv tx ty,rv dx dy,.agg #[.slice qa ql qc,.int .i64 clock,.int .i64 epoch,.int .i64 next,.int .i64 serial,.slice aa al ac,.slice ma ml mc,.slice ca cl cc],.string (bs nb),rv vx vy,.pointer (some ⟨w.heap.size,0,none⟩),.slice qa ql qc,.string (bs nb),rv tx ty,rv fx fy,undef,undef,undef,undef,undef,undef,undef,undef,undef,undef,undef,undef,undef,undef,undef,undef],defers:=[] } _ _
    refine ⟨_,rfl,?_⟩
    simp only [BFr,List.getD_cons_zero,List.getD_cons_succ]
    go_simp
    go_wp2_with fail
    exact hK
   | 2,_,hv,hK=>
    replace hv:Var wz 36 g10 0 0:=hv
    have y0:=hv.c0
    have y1:=hv.c1
    have y2:=hv.f 0
    have y3:=hv.f 1
    show Mul.step _ _ _ 22 { tmps:=#[sv ⟨qa,ql,qc,aa,al,ac,ma,ml,mc,ca,cl,cc⟩ ⟨qs,clock,epoch,next,serial,apps,ms,cs⟩,.string (bs na),.string (bs nb),.pointer (some ⟨w.heap.size,0,none⟩),undef,undef,.bool false,.pointer (some ⟨gt,0,none⟩),.pointer (some ⟨g8,0,none⟩),.pointer (some ⟨g9,0,none⟩),.pointer (some ⟨g10,0,none⟩),.pointer (some ⟨g11,0,none⟩),.agg #[.slice qa ql qc,.int .i64 clock,.int .i64 epoch,.int .i64 next,.int .i64 serial,.slice aa al ac,.slice ma ml mc,.slice ca cl cc],rv tx ty,.agg #[.slice qa ql qc,.int .i64 clock,.int .i64 epoch,.int .i64 next,.int .i64 serial,.slice aa al ac,.slice ma ml mc,.slice ca cl cc],.string (bs na),rv ux uy,.pointer (some ⟨w.heap.size,0,none⟩),.slice qa ql qc,.string (bs na),rv tx ty,rv dx dy,.agg #[.slice qa ql qc,.int .i64 clock,.int .i64 epoch,.int .i64 next,.int .i64 serial,.slice aa al ac,.slice ma ml mc,.slice ca cl cc],.string (bs nb),rv vx vy,.pointer (some ⟨w.heap.size,0,none⟩),.slice qa ql qc,.string (bs nb),rv tx ty,rv fx fy,undef,undef,undef,undef,undef,undef,undef,undef,undef,undef,undef,undef,undef,undef,undef,undef],defers:=[] } _ _
    refine ⟨_,rfl,?_⟩
    simp only [BFr,List.getD_cons_zero,List.getD_cons_succ]
    go_simp
    go_wp2_with fail
    exact hK
   | 3,_,hv,hK=>
    replace hv:Var wz 36 g11 0 0:=hv
    have y0:=hv.c0
    have y1:=hv.c1
    have y2:=hv.f 0
    have y3:=hv.f 1
    show Mul.step _ _ _ 23 { tmps:=#[sv ⟨qa,ql,qc,aa,al,ac,ma,ml,mc,ca,cl,cc⟩ ⟨qs,clock,epoch,next,serial,apps,ms,cs⟩,.string (bs na),.string (bs nb),.pointer (some ⟨w.heap.size,0,none⟩),undef,undef,.bool false,.pointer (some ⟨gt,0,none⟩),.pointer (some ⟨g8,0,none⟩),.pointer (some ⟨g9,0,none⟩),.pointer (some ⟨g10,0,none⟩),.pointer (some ⟨g11,0,none⟩),.agg #[.slice qa ql qc,.int .i64 clock,.int .i64 epoch,.int .i64 next,.int .i64 serial,.slice aa al ac,.slice ma ml mc,.slice ca cl cc],rv tx ty,.agg #[.slice qa ql qc,.int .i64 clock,.int .i64 epoch,.int .i64 next,.int .i64 serial,.slice aa al ac,.slice ma ml mc,.slice ca cl cc],.string (bs na),rv ux uy,.pointer (some ⟨w.heap.size,0,none⟩),.slice qa ql qc,.string (bs na),rv tx ty,rv dx dy,.agg #[.slice qa ql qc,.int .i64 clock,.int .i64 epoch,.int .i64 next,.int .i64 serial,.slice aa al ac,.slice ma ml mc,.slice ca cl cc],.string (bs nb),rv vx vy,.pointer (some ⟨w.heap.size,0,none⟩),.slice qa ql qc,.string (bs nb),rv tx ty,rv fx fy,undef,undef,undef,undef,undef,undef,undef,undef,undef,undef,undef,undef,undef,undef,undef,undef],defers:=[] } _ _
    refine ⟨_,rfl,?_⟩
    simp only [BFr,List.getD_cons_zero,List.getD_cons_succ]
    go_simp
    go_wp2_with fail
    exact hK
  case fin=>
   intro us wz hu hV kp
   obtain ⟨g8,g9,g10,g11,rfl⟩:=aFD hu
   have v8:VB w1 wz g8 ux uy:=hV 0 (by decide)
   have v9:VB w1 wz g9 dx dy:=hV 1 (by decide)
   have v10:VB w1 wz g10 vx vy:=hV 2 (by decide)
   have v11:VB w1 wz g11 fx fy:=hV 3 (by decide)
   go_wp2_with fail
   go_meet
   exact ⟨g8,g9,g10,g11,rfl,rfl,rfl,rfl,v8.2,v9.2,v10.2,v11.2,v8.1,v9.1,v10.1,v11.1,kp⟩
 case rest=>
  obtain ⟨g8,g9,g10,g11,rfl,rfl,rfl,rfl,v8,v9,v10,v11,_,_,_,_,hA⟩:=hcut
  obtain ⟨w4,rfl⟩:∃w4,w4=wc:=⟨wc,rfl⟩
  have V8:=aA v8
  have V9:=aA v9
  have V10:=aA v10
  have V11:=aA v11
  have HB4:=aA (yB (uH HB1) hA)
  have a0:=v8.c0;have a1:=v8.c1;have b0:=v9.c0;have b1:=v9.c1;have c0:=v10.c0;have c1:=v10.c1;have d0:=v11.c0;have d1:=v11.c1
  clear v8 v9 v10 v11 hA R A0 HS HB1 CU1 CU2 CD1 CD2
  go_wp2_with fail
  refine (uH CL1 _).mono ?_
  rintro e w5 ⟨rfl,hb⟩
  have HB5:=aA (yB (uH HB4) hb)
  have X8:=(uH V8).below hb
  have X9:=(uH V9).below hb
  have X10:=(uH V10).below hb
  have X11:=(uH V11).below hb
  clear a0 a1 b0 b1 c0 c1 d0 d1 hb V8 V9 V10 V11 CL1 HB4
  have a0:=X8.c0;have a1:=X8.c1;have b0:=X9.c0;have b1:=X9.c1;have c0:=X10.c0;have c1:=X10.c1;have d0:=X11.c0;have d1:=X11.c1
  cases l1
  case true=>
   go_wp2
   go_ret
   exact ⟨yF (by rw [uH HA];rfl),uH HB5⟩
  clear X8 X9 X10 X11
  go_wp2_with fail
  refine (uH CL2 _).mono ?_
  rintro e w6 ⟨rfl,hb⟩
  have HB6:=aA (yB (uH HB5) hb)
  clear a0 a1 b0 b1 c0 c1 d0 d1 hb CL2 HB5
  cases l2
  case true=>
   go_wp2
   go_ret
   exact ⟨yF (by rw [uH HA];rfl),uH HB6⟩
  obtain ⟨bl,hbl⟩:∃z,Op.bytesLess (bs na).toList (bs nb).toList=z:=⟨_,rfl⟩
  have HBL:=aA (show Op.bytesLess na nb=bl by rw [←hbl];simp [bs])
  go_wp2
  go_ret
  exact ⟨yF (by rw [uH HA,uH HBL];rfl),uH HB6⟩
def aKe (w1:World) (g n0 cap j:Nat) (NC1 NC2:List Value) (nm:List UInt8) (x0 x1 x2 x4 x7 x8 x9 x10 x11 x12 x13 x14 x15 x16 x17 x18 x19 x20 x21 x22 x23 x24 x25 x26 x27 x28 x29 x30 x31 x32 x33 x34 x35 x36 x37 x38 x39 x40 x41 x45 x47 x48 x52 x53:Value) (n:Nat) (lz:Array Bool) (az:Act) (wz:World):Prop:=(n=6∧lz=#[false,true,true,true,false,true,false,false,true,true,true,false,false]∧az = { tmps:=#[x0,x1,x2,.slice (some ⟨g,0,none⟩) n0 cap,x4,.string (bs nm),.int .i64 (j:Int),x7,x8,x9,x10,x11,x12,x13,x14,x15,x16,x17,x18,x19,x20,x21,x22,x23,x24,x25,x26,x27,x28,x29,x30,x31,x32,x33,x34,x35,x36,x37,x38,x39,x40,x41,.slice (some ⟨g,0,none⟩) n0 cap,.int .i64 (j:Int),.slice (some ⟨g,0,none⟩) j cap,x45,.string (bs nm),x47,x48,.slice (some ⟨g,0,none⟩) n0 cap,.int .i64 (j:Int),.slice (some (hiA g cap j 1)) (n0 - j) (cap - j),x52,x53],defers:=[] }∧Kp w1 wz)
def aKd (w1:World) (g n0 cap j:Nat) (NC1 NC2:List Value) (nm:List UInt8) (x0 x1 x2 x4 x7 x8 x9 x10 x11 x12 x13 x14 x15 x16 x17 x18 x19 x20 x21 x22 x23 x24 x25 x26 x27 x28 x29 x30 x31 x32 x33 x34 x35 x36 x37 x38 x39 x40 x41 x45 x47 x48 x52 x53:Value) (n:Nat) (lz:Array Bool) (az:Act) (wz:World):Prop:=(∃gb:Nat,n=5∧lz=#[false,true,true,true,false,true,true,false,true,true,true,false,false]∧az = { tmps:=#[x0,x1,x2,.slice (some ⟨g,0,none⟩) n0 cap,x4,.string (bs nm),.int .i64 (j:Int),x7,x8,x9,x10,x11,x12,x13,x14,x15,x16,x17,x18,x19,x20,x21,x22,x23,x24,x25,x26,x27,x28,x29,x30,x31,x32,x33,x34,x35,x36,x37,x38,x39,x40,x41,.slice (some ⟨g,0,none⟩) n0 cap,.int .i64 (j:Int),.slice (some ⟨g,0,none⟩) j cap,x45,.string (bs nm),.slice (some ⟨gb,0,none⟩) 1 1,x48,.slice (some ⟨g,0,none⟩) n0 cap,.int .i64 (j:Int),.slice (some (hiA g cap j 1)) (n0 - j) (cap - j),x52,x53],defers:=[] }∧aCT 9 w1 wz gb #[Value.string (bs nm)]∧Kp w1 wz)
def aKc (w1:World) (g n0 cap j:Nat) (NC1 NC2:List Value) (nm:List UInt8) (x0 x1 x2 x4 x7 x8 x9 x10 x11 x12 x13 x14 x15 x16 x17 x18 x19 x20 x21 x22 x23 x24 x25 x26 x27 x28 x29 x30 x31 x32 x33 x34 x35 x36 x37 x38 x39 x40 x41 x45 x47 x48 x52 x53:Value) (n:Nat) (lz:Array Bool) (az:Act) (wz:World):Prop:=(∃g0:Nat,n=5∧lz=#[true,true,true,true,false,true,false,false,true,true,true,false,false]∧az = { tmps:=#[x0,x1,x2,.slice (some ⟨g,0,none⟩) n0 cap,x4,.string (bs nm),.int .i64 (j:Int),x7,x8,x9,x10,x11,x12,x13,x14,x15,x16,x17,x18,x19,x20,x21,x22,x23,x24,x25,x26,x27,x28,x29,x30,x31,x32,x33,x34,x35,x36,x37,x38,x39,x40,.slice (some ⟨g0,0,none⟩) 0 0,.slice (some ⟨g,0,none⟩) n0 cap,.int .i64 (j:Int),.slice (some ⟨g,0,none⟩) j cap,x45,.string (bs nm),x47,x48,.slice (some ⟨g,0,none⟩) n0 cap,.int .i64 (j:Int),.slice (some (hiA g cap j 1)) (n0 - j) (cap - j),x52,x53],defers:=[] }∧uF 9 1 w1.heap.size wz (.slice (some ⟨g0,0,none⟩) 0 0) 0 []∧Kp w1 wz)
def aKb (w1:World) (g n0 cap j:Nat) (NC1 NC2:List Value) (nm:List UInt8) (x0 x1 x2 x4 x7 x8 x9 x10 x11 x12 x13 x14 x15 x16 x17 x18 x19 x20 x21 x22 x23 x24 x25 x26 x27 x28 x29 x30 x31 x32 x33 x34 x35 x36 x37 x38 x39 x40 x41 x45 x47 x48 x52 x53:Value) (n:Nat) (lz:Array Bool) (az:Act) (wz:World):Prop:=(∃g0:Nat,∃gb:Nat,n=4∧lz=#[true,true,true,true,false,true,true,false,true,true,true,false,false]∧az = { tmps:=#[x0,x1,x2,.slice (some ⟨g,0,none⟩) n0 cap,x4,.string (bs nm),.int .i64 (j:Int),x7,x8,x9,x10,x11,x12,x13,x14,x15,x16,x17,x18,x19,x20,x21,x22,x23,x24,x25,x26,x27,x28,x29,x30,x31,x32,x33,x34,x35,x36,x37,x38,x39,x40,.slice (some ⟨g0,0,none⟩) 0 0,.slice (some ⟨g,0,none⟩) n0 cap,.int .i64 (j:Int),.slice (some ⟨g,0,none⟩) j cap,x45,.string (bs nm),.slice (some ⟨gb,0,none⟩) 1 1,x48,.slice (some ⟨g,0,none⟩) n0 cap,.int .i64 (j:Int),.slice (some (hiA g cap j 1)) (n0 - j) (cap - j),x52,x53],defers:=[] }∧uF 9 1 w1.heap.size wz (.slice (some ⟨g0,0,none⟩) 0 0) 0 []∧aCT 9 w1 wz gb #[Value.string (bs nm)]∧gb≠g0∧Kp w1 wz)
def aKa (w1:World) (g n0 cap j:Nat) (NC1 NC2:List Value) (nm:List UInt8) (x0 x1 x2 x4 x7 x8 x9 x10 x11 x12 x13 x14 x15 x16 x17 x18 x19 x20 x21 x22 x23 x24 x25 x26 x27 x28 x29 x30 x31 x32 x33 x34 x35 x36 x37 x38 x39 x40 x41 x45 x47 x48 x52 x53:Value) (n:Nat) (lz:Array Bool) (az:Act) (wz:World):Prop:=(∃g0:Nat,∃v1:Value,n=4∧lz=#[true,true,true,true,true,true,false,false,true,true,true,false,false]∧az = { tmps:=#[x0,x1,x2,.slice (some ⟨g,0,none⟩) n0 cap,x4,.string (bs nm),.int .i64 (j:Int),x7,x8,x9,x10,x11,x12,x13,x14,x15,x16,x17,x18,x19,x20,x21,x22,x23,x24,x25,x26,x27,x28,x29,x30,x31,x32,x33,x34,x35,x36,x37,x38,x39,x40,.slice (some ⟨g0,0,none⟩) 0 0,.slice (some ⟨g,0,none⟩) n0 cap,.int .i64 (j:Int),.slice (some ⟨g,0,none⟩) j cap,v1,.string (bs nm),x47,x48,.slice (some ⟨g,0,none⟩) n0 cap,.int .i64 (j:Int),.slice (some (hiA g cap j 1)) (n0 - j) (cap - j),x52,x53],defers:=[] }∧uF 9 1 w1.heap.size wz v1 j NC1∧Kp w1 wz)
def aK9 (w1:World) (g n0 cap j:Nat) (NC1 NC2:List Value) (nm:List UInt8) (x0 x1 x2 x4 x7 x8 x9 x10 x11 x12 x13 x14 x15 x16 x17 x18 x19 x20 x21 x22 x23 x24 x25 x26 x27 x28 x29 x30 x31 x32 x33 x34 x35 x36 x37 x38 x39 x40 x41 x45 x47 x48 x52 x53:Value) (n:Nat) (lz:Array Bool) (az:Act) (wz:World):Prop:=(∃g0:Nat,∃v1:Value,∃gb:Nat,n=3∧lz=#[true,true,true,true,true,true,true,false,true,true,true,false,false]∧az = { tmps:=#[x0,x1,x2,.slice (some ⟨g,0,none⟩) n0 cap,x4,.string (bs nm),.int .i64 (j:Int),x7,x8,x9,x10,x11,x12,x13,x14,x15,x16,x17,x18,x19,x20,x21,x22,x23,x24,x25,x26,x27,x28,x29,x30,x31,x32,x33,x34,x35,x36,x37,x38,x39,x40,.slice (some ⟨g0,0,none⟩) 0 0,.slice (some ⟨g,0,none⟩) n0 cap,.int .i64 (j:Int),.slice (some ⟨g,0,none⟩) j cap,v1,.string (bs nm),.slice (some ⟨gb,0,none⟩) 1 1,x48,.slice (some ⟨g,0,none⟩) n0 cap,.int .i64 (j:Int),.slice (some (hiA g cap j 1)) (n0 - j) (cap - j),x52,x53],defers:=[] }∧uF 9 1 w1.heap.size wz v1 j NC1∧aCT 9 w1 wz gb #[Value.string (bs nm)]∧Kp w1 wz)
def aK8 (w1:World) (g n0 cap j:Nat) (NC1 NC2:List Value) (nm:List UInt8) (x0 x1 x2 x4 x7 x8 x9 x10 x11 x12 x13 x14 x15 x16 x17 x18 x19 x20 x21 x22 x23 x24 x25 x26 x27 x28 x29 x30 x31 x32 x33 x34 x35 x36 x37 x38 x39 x40 x41 x45 x47 x48 x52 x53:Value) (n:Nat) (lz:Array Bool) (az:Act) (wz:World):Prop:=(∃g0:Nat,∃v1:Value,∃gb:Nat,∃v2:Value,n=2∧lz=#[true,true,true,true,true,true,true,true,true,true,true,false,false]∧az = { tmps:=#[x0,x1,x2,.slice (some ⟨g,0,none⟩) n0 cap,x4,.string (bs nm),.int .i64 (j:Int),x7,x8,x9,x10,x11,x12,x13,x14,x15,x16,x17,x18,x19,x20,x21,x22,x23,x24,x25,x26,x27,x28,x29,x30,x31,x32,x33,x34,x35,x36,x37,x38,x39,x40,.slice (some ⟨g0,0,none⟩) 0 0,.slice (some ⟨g,0,none⟩) n0 cap,.int .i64 (j:Int),.slice (some ⟨g,0,none⟩) j cap,v1,.string (bs nm),.slice (some ⟨gb,0,none⟩) 1 1,v2,.slice (some ⟨g,0,none⟩) n0 cap,.int .i64 (j:Int),.slice (some (hiA g cap j 1)) (n0 - j) (cap - j),x52,x53],defers:=[] }∧uF 9 1 w1.heap.size wz v2 (j+1) (NC1++#[Value.string (bs nm)].toList)∧Kp w1 wz)
def aK7 (w1:World) (g n0 cap j:Nat) (NC1 NC2:List Value) (nm:List UInt8) (x0 x1 x2 x4 x7 x8 x9 x10 x11 x12 x13 x14 x15 x16 x17 x18 x19 x20 x21 x22 x23 x24 x25 x26 x27 x28 x29 x30 x31 x32 x33 x34 x35 x36 x37 x38 x39 x40 x41 x45 x47 x48 x52 x53:Value) (n:Nat) (lz:Array Bool) (az:Act) (wz:World):Prop:=(∃g0:Nat,∃v1:Value,∃gb:Nat,∃v2:Value,∃v3:Value,n=1∧lz=#[true,true,true,true,true,true,true,true,true,true,true,true,false]∧az = { tmps:=#[x0,x1,x2,.slice (some ⟨g,0,none⟩) n0 cap,x4,.string (bs nm),.int .i64 (j:Int),x7,x8,x9,x10,x11,x12,x13,x14,x15,x16,x17,x18,x19,x20,x21,x22,x23,x24,x25,x26,x27,x28,x29,x30,x31,x32,x33,x34,x35,x36,x37,x38,x39,x40,.slice (some ⟨g0,0,none⟩) 0 0,.slice (some ⟨g,0,none⟩) n0 cap,.int .i64 (j:Int),.slice (some ⟨g,0,none⟩) j cap,v1,.string (bs nm),.slice (some ⟨gb,0,none⟩) 1 1,v2,.slice (some ⟨g,0,none⟩) n0 cap,.int .i64 (j:Int),.slice (some (hiA g cap j 1)) (n0 - j) (cap - j),v3,x53],defers:=[] }∧uF 9 1 w1.heap.size wz v3 (j+1+(n0 - j)) (NC1++#[Value.string (bs nm)].toList++NC2)∧Kp w1 wz)
def aK6 (w1:World) (g n0 cap j:Nat) (NC1 NC2:List Value) (nm:List UInt8) (x0 x1 x2 x4 x7 x8 x9 x10 x11 x12 x13 x14 x15 x16 x17 x18 x19 x20 x21 x22 x23 x24 x25 x26 x27 x28 x29 x30 x31 x32 x33 x34 x35 x36 x37 x38 x39 x40 x41 x45 x47 x48 x52 x53:Value) (n:Nat) (lz:Array Bool) (az:Act) (wz:World):Prop:=(∃g0:Nat,∃v1:Value,∃gb:Nat,∃v2:Value,∃v3:Value,n=0∧lz=#[true,true,true,true,true,true,true,true,true,true,true,true,true]∧az = { tmps:=#[x0,x1,x2,v3,x4,.string (bs nm),.int .i64 (j:Int),x7,x8,x9,x10,x11,x12,x13,x14,x15,x16,x17,x18,x19,x20,x21,x22,x23,x24,x25,x26,x27,x28,x29,x30,x31,x32,x33,x34,x35,x36,x37,x38,x39,x40,.slice (some ⟨g0,0,none⟩) 0 0,.slice (some ⟨g,0,none⟩) n0 cap,.int .i64 (j:Int),.slice (some ⟨g,0,none⟩) j cap,v1,.string (bs nm),.slice (some ⟨gb,0,none⟩) 1 1,v2,.slice (some ⟨g,0,none⟩) n0 cap,.int .i64 (j:Int),.slice (some (hiA g cap j 1)) (n0 - j) (cap - j),v3,x53],defers:=[] }∧uF 9 1 w1.heap.size wz v3 (j+1+(n0 - j)) (NC1++#[Value.string (bs nm)].toList++NC2)∧Kp w1 wz)
def QOT (w1:World) (g n0 cap j:Nat) (NC1 NC2:List Value) (nm:List UInt8) (x0 x1 x2 x4 x7 x8 x9 x10 x11 x12 x13 x14 x15 x16 x17 x18 x19 x20 x21 x22 x23 x24 x25 x26 x27 x28 x29 x30 x31 x32 x33 x34 x35 x36 x37 x38 x39 x40 x41 x45 x47 x48 x52 x53:Value) (n:Nat) (lz:Array Bool) (az:Act) (wz:World):Prop:=aKe w1 g n0 cap j NC1 NC2 nm x0 x1 x2 x4 x7 x8 x9 x10 x11 x12 x13 x14 x15 x16 x17 x18 x19 x20 x21 x22 x23 x24 x25 x26 x27 x28 x29 x30 x31 x32 x33 x34 x35 x36 x37 x38 x39 x40 x41 x45 x47 x48 x52 x53 n lz az wz∨aKd w1 g n0 cap j NC1 NC2 nm x0 x1 x2 x4 x7 x8 x9 x10 x11 x12 x13 x14 x15 x16 x17 x18 x19 x20 x21 x22 x23 x24 x25 x26 x27 x28 x29 x30 x31 x32 x33 x34 x35 x36 x37 x38 x39 x40 x41 x45 x47 x48 x52 x53 n lz az wz∨aKc w1 g n0 cap j NC1 NC2 nm x0 x1 x2 x4 x7 x8 x9 x10 x11 x12 x13 x14 x15 x16 x17 x18 x19 x20 x21 x22 x23 x24 x25 x26 x27 x28 x29 x30 x31 x32 x33 x34 x35 x36 x37 x38 x39 x40 x41 x45 x47 x48 x52 x53 n lz az wz∨aKb w1 g n0 cap j NC1 NC2 nm x0 x1 x2 x4 x7 x8 x9 x10 x11 x12 x13 x14 x15 x16 x17 x18 x19 x20 x21 x22 x23 x24 x25 x26 x27 x28 x29 x30 x31 x32 x33 x34 x35 x36 x37 x38 x39 x40 x41 x45 x47 x48 x52 x53 n lz az wz∨aKa w1 g n0 cap j NC1 NC2 nm x0 x1 x2 x4 x7 x8 x9 x10 x11 x12 x13 x14 x15 x16 x17 x18 x19 x20 x21 x22 x23 x24 x25 x26 x27 x28 x29 x30 x31 x32 x33 x34 x35 x36 x37 x38 x39 x40 x41 x45 x47 x48 x52 x53 n lz az wz∨aK9 w1 g n0 cap j NC1 NC2 nm x0 x1 x2 x4 x7 x8 x9 x10 x11 x12 x13 x14 x15 x16 x17 x18 x19 x20 x21 x22 x23 x24 x25 x26 x27 x28 x29 x30 x31 x32 x33 x34 x35 x36 x37 x38 x39 x40 x41 x45 x47 x48 x52 x53 n lz az wz∨aK8 w1 g n0 cap j NC1 NC2 nm x0 x1 x2 x4 x7 x8 x9 x10 x11 x12 x13 x14 x15 x16 x17 x18 x19 x20 x21 x22 x23 x24 x25 x26 x27 x28 x29 x30 x31 x32 x33 x34 x35 x36 x37 x38 x39 x40 x41 x45 x47 x48 x52 x53 n lz az wz∨aK7 w1 g n0 cap j NC1 NC2 nm x0 x1 x2 x4 x7 x8 x9 x10 x11 x12 x13 x14 x15 x16 x17 x18 x19 x20 x21 x22 x23 x24 x25 x26 x27 x28 x29 x30 x31 x32 x33 x34 x35 x36 x37 x38 x39 x40 x41 x45 x47 x48 x52 x53 n lz az wz∨aK6 w1 g n0 cap j NC1 NC2 nm x0 x1 x2 x4 x7 x8 x9 x10 x11 x12 x13 x14 x15 x16 x17 x18 x19 x20 x21 x22 x23 x24 x25 x26 x27 x28 x29 x30 x31 x32 x33 x34 x35 x36 x37 x38 x39 x40 x41 x45 x47 x48 x52 x53 n lz az wz
theorem oU (x:Sls) (s:St) (w:World) (h:iJ w x s) (hf:bS s) :
  Calls Tryz.prog 130 #[sv x s] w fun e w'=>∃v,e=.returned v∧bI w.heap.size w' v (fU s)∧Below w.heap.size w w':=by
 obtain ⟨i0,hi,hz0,hz1,hz2⟩:=info_parts Tryz.infoS
 have hql:x.ql≤1048576:=h.ql hf
 have CB:=aA (fun na nb wx (hb:Below w.heap.size w wx)=>aFX x s na nb wx (h.below hb) hf)
 have CL:=aA (fun nm wx (hb:Below w.heap.size w wx)=>rV x.qa x.ql x.qc s.qs nm wx (h.1.below hb) hql (fun q hq=>(hf.1.2 q hq).1))
 have HLQ:=aA (show s.qs.length=x.ql from h.1.1.symm)
 have HRQ:=aA h.1
 have HNF:=aA (fun k (hk:k<s.qs.length)=>aCs s hk)
 have HNE:=aA (fun k (hk:s.qs.length≤k)=>aEp s hk)
 have HN0:=aA (show rY s 0=[] from rfl)
 clear h hf
 obtain ⟨sV,hsV⟩:∃p,fU s=p:=⟨_,rfl⟩
 obtain ⟨sF,hsF⟩:∃p,rY s=p:=⟨_,rfl⟩
 obtain ⟨lf,hlf⟩:∃p,aDy s.qs=p:=⟨_,rfl⟩
 obtain ⟨bf,hbf⟩:∃p,aCN s=p:=⟨_,rfl⟩
 rw [hsF,hsV] at HNE
 rw [hsF,hlf,hbf] at HNF
 rw [hsF] at HN0
 rw [hsV]
 rw [hlf] at CL
 rw [hbf] at CB
 clear hsV hsF hlf hbf
 obtain ⟨qa,ql,qc,aa,al,ac,ma,ml,mc,ca,cl,cc⟩:=x
 obtain ⟨qs,clock,epoch,next,serial,apps,ms,cs⟩:=s
 simp only at CB CL hql HLQ HRQ HNF HNE
 have HB1:=aA (yA (yA (Below.refl _ w) (.cells (svc ⟨qa,ql,qc,aa,al,ac,ma,ml,mc,ca,cl,cc⟩ ⟨qs,clock,epoch,next,serial,apps,ms,cs⟩) 34)) (.cells #[] 9))
 have P1:=aA ((yD w (svc ⟨qa,ql,qc,aa,al,ac,ma,ml,mc,ca,cl,cc⟩ ⟨qs,clock,epoch,next,serial,apps,ms,cs⟩) 34).al (.cells #[] 9))
 have S1:=aA (show SS ((w.alloc (.cells (svc ⟨qa,ql,qc,aa,al,ac,ma,ml,mc,ca,cl,cc⟩ ⟨qs,clock,epoch,next,serial,apps,ms,cs⟩) 34)).alloc (.cells #[] 9)) (w.heap.size+1) 0 [] from by have:=yJ (w.alloc (.cells (svc ⟨qa,ql,qc,aa,al,ac,ma,ml,mc,ca,cl,cc⟩ ⟨qs,clock,epoch,next,serial,apps,ms,cs⟩) 34));rw [yE] at this;exact this)
 obtain ⟨w1,hw1⟩:∃W,(w.alloc (.cells (svc ⟨qa,ql,qc,aa,al,ac,ma,ml,mc,ca,cl,cc⟩ ⟨qs,clock,epoch,next,serial,apps,ms,cs⟩) 34)).alloc (.cells #[] 9)=W:=⟨_,rfl⟩
 rw [hw1] at HB1 P1 S1
 have HW1:=aA hw1
 clear hw1
 go_enter Tryz.func130,Tryz.ntmps130
 go_wp2
 rw [uH HW1]
 go_loopw [3,4,5,6] (fun v i _ _ wr=>∃(k g cap:Nat) (o:List (List UInt8)),k≤ql∧i=.int .i64 k∧v=.slice (some ⟨g,0,none⟩) o.length cap∧o.length≤k∧w.heap.size<g∧Hid (o=sF k)∧Hid (SS wr g cap (o.map bs))∧Hid (Below w1.heap.size w1 wr)) (fun _ i _ _ _=>ql - (intOf i).toNat)
 case atStart=>exact ⟨0,w.heap.size+1,0,[],Nat.zero_le _,rfl,rfl,Nat.le_refl _,by omega,aA (uH HN0).symm,S1,aA (Below.refl _ _)⟩
 case round=>
  obtain ⟨k,g,cap,o,hk,rfl,rfl,hol,hgg,HO,HW,HB⟩:=hrel
  have HB2:=aA (yB (uH HB1) (uH HB))
  have P2:=aA ((uH P1).below (uH HB))
  obtain ⟨q0,q1,q2,q3,q4,q5,q6,q7⟩:_∧_∧_∧_∧_∧_∧_∧_:=⟨(uH P2).at 0,(uH P2).at 1,(uH P2).at 2,(uH P2).at 3,(uH P2).at 4,(uH P2).at 5,(uH P2).at 6,(uH P2).at 7⟩
  simp at q0 q1 q2 q3 q4 q5 q6 q7
  by_cases hlt:k<ql
  ·have HR2:=aA ((uH HRQ).below (uH HB2))
   obtain ⟨b,off,rfl,hq⟩:=(uH HR2).at hlt
   have hkl:k<qs.length:=by have:=uH HLQ;omega
   have hc0:=(hq hkl).1
   have hnf:=uH HNF k hkl
   obtain ⟨nm,hnm⟩:∃nm,qs[k].name=nm:=⟨_,rfl⟩
   rw [hnm] at hc0 hnf
   obtain ⟨le,hle⟩:∃t,lf nm=t:=⟨_,rfl⟩
   rw [hle] at hnf
   have HNK:=aA hnf
   have CL1:=aA (fun wx hb=>by have:=uH CL nm wx hb;rw [hle] at this;exact this)
   try simp only at CL1
   clear hnm hle hnf hq hkl HR2
   go_wp2_with fail
   refine (uH CL1 _ (uH HB2)).mono ?_
   rintro e w5 ⟨rfl,hb⟩
   have HW5:=aA ((uH HW).below hb (uH HW).lt)
   have HL5:=aA (yB (uH HB) hb)
   have P5:=aA ((uH P2).below hb)
   clear hb HW HB HB2 P2 CL1 q0 q1 q2 q3 q4 q5 q6 q7 hc0
   cases le
   case false=>
    go_wp2
    go_roundw
    case rel=>exact ⟨k+1,g,cap,o,by omega,by go_num,rfl,by omega,hgg,aA (by rw [uH HNK,if_neg (by simp)];exact uH HO),HW5,HL5⟩
    case measure=>simp [intOf];omega
   case true=>
    have HP:=aA (show OrdM.ins bf nm o=sF (k+1) by rw [uH HNK,if_pos rfl,←uH HO])
    go_wp2
    go_loopw [6] (fun i wr2=>∃j:Nat,j≤o.length∧i=.int .i64 j∧Hid (j+mD bf nm (o.drop j)=mD bf nm o)∧Hid (Below w5.heap.size w5 wr2)) (fun i _=>o.length - (intOf i).toNat)
    case atStart=>exact ⟨0,Nat.zero_le _,rfl,aA (by simp),aA (Below.refl _ _)⟩
    case round=>
     obtain ⟨j,hj,rfl,HJ,HK6⟩:=hrel
     obtain ⟨w6,rfl⟩:∃w6,w6=wr:=⟨wr,rfl⟩
     have HW6:=aA ((uH HW5).below (uH HK6) (uH HW5).lt)
     have HL6:=aA (yB (uH HL5) (uH HK6))
     have P6:=aA ((uH P5).below (uH HK6))
     have HB6a:=aA (yB (uH HB1) (uH HL6))
     by_cases hjl:j<o.length
     ·have hcj:=(uH HW6).text hjl
      have hps:=aCn bf nm hjl
      obtain ⟨y,hy⟩:∃y,o[j]=y:=⟨_,rfl⟩
      rw [hy] at hcj hps
      obtain ⟨bl,hbl⟩:∃b,bf y nm=b:=⟨_,rfl⟩
      rw [hbl] at hps
      have HPS2:=aA hps
      have CB1:=aA (fun wx hb=>by have:=uH CB y nm wx hb;rw [hbl] at this;exact this)
      try simp only at CB1
      have R:∀wx,Kp w6 wx→wx.cell? ⟨w.heap.size,0,none⟩=some (.slice (some ⟨b,off,none⟩) ql qc)∧wx.cell? ⟨w.heap.size,1,none⟩=some (.int .i64 clock)∧wx.cell? ⟨w.heap.size,2,none⟩=some (.int .i64 epoch)∧wx.cell? ⟨w.heap.size,3,none⟩=some (.int .i64 next)∧wx.cell? ⟨w.heap.size,4,none⟩=some (.int .i64 serial)∧wx.cell? ⟨w.heap.size,5,none⟩=some (.slice aa al ac)∧wx.cell? ⟨w.heap.size,6,none⟩=some (.slice ma ml mc)∧wx.cell? ⟨w.heap.size,7,none⟩=some (.slice ca cl cc)∧wx.cell? ⟨g,j,none⟩=some (.string (bs y)):=fun wx h=>by
       have a0:=(uH P6).at 0;have a1:=(uH P6).at 1;have a2:=(uH P6).at 2;have a3:=(uH P6).at 3;have a4:=(uH P6).at 4;have a5:=(uH P6).at 5;have a6:=(uH P6).at 6;have a7:=(uH P6).at 7
       simp at a0 a1 a2 a3 a4 a5 a6 a7
       exact ⟨h.cell a0,h.cell a1,h.cell a2,h.cell a3,h.cell a4,h.cell a5,h.cell a6,h.cell a7,h.cell hcj⟩
      have hjz:(j:Int)<(o.length:Int):=by omega
      have A6:=aA (Kp.new w6)
      clear hps hy hbl hcj
      go_wp2_with fail
      go_region_held3 (fun wx=>Kp w6 wx)
       (first | (with_reducible assumption) | exact (uH A6) | exact Below.drew (uH A6) | exact Below.drew (by assumption))
       (first
       | (go_at_call 159;refine (uH CB1 _ ?_).mono ?_;(exact yB (uH HB6a) (show Kp w6 _ by assumption));rintro e w7 ⟨rfl,hb⟩;have SA:Kp w6 w7:=yB (show Kp w6 _ by assumption) hb))
      all_goals
       have HK7:=aA (yB (uH HK6) SA)
       have HW7:=aA ((uH HW6).below SA (uH HW6).lt)
       have HL7:=aA (yB (uH HL6) SA)
       clear SA R A6 CB1 HW6 HL6 P6 HB6a HK6
       cases bl
       ·have HAT:=aA (show mD bf nm o=j by have:=uH HPS2;have:=uH HJ;simp at *;omega)
        clear HJ HPS2 HK7
        go_wp2_with fail
        have hlo:=aGy g o.length cap j (by have:=(uH HW7).block;obtain ⟨_,_,h,_⟩:=this;rw [List.length_map] at h;omega)
        have hhi:=aGz g o.length cap j hj
        obtain ⟨NC1,hc1⟩:∃c,((o.map bs).take j).map Value.string=c:=⟨_,rfl⟩
        obtain ⟨NC2,hc2⟩:∃c,((o.map bs).drop j).map Value.string=c:=⟨_,rfl⟩
        have HLO:=aA (show ∀wx:World,Kp w7 wx→∀i u,NC1[i]? = some u→wx.cell? (Addr.add ⟨g,0,none⟩ i)=some u from fun wx hb i u hu=>(uH HW7).lo hb j i u (by rw [hc1];exact hu))
        have HHI:=aA (show ∀wx:World,Kp w7 wx→∀i u,NC2[i]? = some u→wx.cell? (Addr.add (hiA g cap j 1) i)=some u from fun wx hb i u hu=>(uH HW7).hi hb j i u (by rw [hc2];exact hu))
        have HL1:=aA (show NC1.length=j*1 by rw [←hc1];simp;omega)
        have HL2:=aA (show NC2.length=(o.length - j)*1 by rw [←hc2];simp)
        have HO1:=aA (show ∀u ∈ NC1,u.oneCell'=true by rw [←hc1];exact lT _)
        have HO2:=aA (show ∀u ∈ NC2,u.oneCell'=true by rw [←hc2];exact lT _)
        have HOX:=aA (show ∀u ∈ #[Value.string (bs nm)].toList,u.oneCell'=true from fun u hu=>by simp at hu;subst hu;rfl)
        have HC1:=aA hc1.symm
        have HC2:=aA hc2.symm
        have A0:=aA (Kp.new w7)
        have HS:=aA (cB w7)
        have HB6:=aA (yB (uH HB1) (uH HL7))
        clear hc1 hc2
        refine wp_region_held_drew (S:=fun wx=>Kp w7 wx) (by kernel_rfl) ((uH HS).drew (uH A0)) (fun S0=>?_)
        refine aB 1 42 _ rfl rfl S0 ?_
        try simp only [Act.put,sA,sB,sC]
        refine aB 2 43 _ rfl rfl S0 ?_
        try simp only [Act.put,sA,sB,sC]
        refine aE2 (i:=3) (d:=some 44) (v:=.slice (some ⟨g,0,none⟩) j cap) rfl rfl (by kernel_rfl) (by kernel_rfl) (by kernel_rfl) (fun _ _ _ h=>h) (Or.inl ⟨by rfl,fun wz hz=>by (go_simp;try with_reducible rfl)⟩) S0 ?_
        try simp only [Act.put,sA,sB,sC]
        refine aB 5 46 _ rfl rfl S0 ?_
        try simp only [Act.put,sA,sB,sC]
        refine aB 8 49 _ rfl rfl S0 ?_
        try simp only [Act.put,sA,sB,sC]
        refine aB 9 50 _ rfl rfl S0 ?_
        try simp only [Act.put,sA,sB,sC]
        refine aE2 (i:=10) (d:=some 51) (v:=.slice (some (hiA g cap j 1)) (o.length - j) (cap - j)) rfl rfl (by kernel_rfl) (by kernel_rfl) (by kernel_rfl) (fun _ _ _ h=>h) (Or.inl ⟨by rfl,fun wz hz=>by (go_simp;try with_reducible rfl)⟩) S0 ?_
        try simp only [Act.put,sA,sB,sC]
        refine kM (QOT w7 g o.length cap j NC1 NC2 nm _ _ _ _ _ _ _ _ _ _ _ _ _ _ _ _ _ _ _ _ _ _ _ _ _ _ _ _ _ _ _ _ _ _ _ _ _ _ _ _ _ _ _ _) ?step ?fin 6 _ _ _ (.inl (⟨rfl,by kernel_rfl,rfl,S0⟩))
        case fin=>
         intro lz az wz hI
         rcases hI with h | h | h | h | h | h | h | h | h
         ·obtain ⟨hn,_⟩:=h
          cases hn
         ·obtain ⟨_,hn,_⟩:=h
          cases hn
         ·obtain ⟨_,hn,_⟩:=h
          cases hn
         ·obtain ⟨_,_,hn,_⟩:=h
          cases hn
         ·obtain ⟨_,_,hn,_⟩:=h
          cases hn
         ·obtain ⟨_,_,_,hn,_⟩:=h
          cases hn
         ·obtain ⟨_,_,_,_,hn,_⟩:=h
          cases hn
         ·obtain ⟨_,_,_,_,_,hn,_⟩:=h
          cases hn
         ·obtain ⟨g0,v1,gb,v2,v3,-,rfl,rfl,hr,kp⟩:=h
          refine ⟨by kernel_rfl,?_⟩
          obtain ⟨g2,cap2,rfl,hg2,hown,hc2⟩:=hr.open
          have HN2:=aA (show OrdM.ins bf nm o=o.take j++nm::o.drop j by rw [vS,uH HAT])
          have hlen2:(o.take j++nm::o.drop j).length=j+1+(o.length - j):=by simp;omega
          have HW9:=aA (show SS wz g2 cap2 ((o.take j++nm::o.drop j).map bs) by
           unfold SS
           rw [List.length_map,hlen2]
           have e:((o.take j++nm::o.drop j).map bs).map Value.string=NC1++[Value.string (bs nm)]++NC2:=by rw [uH HC1,uH HC2];simp
           rw [e]
           exact hown)
          have HL9:=aA (yB (uH HL7) kp)
          have hg3:w.heap.size<g2:=by have:=(uH HB6).size;have:=(uH HW7).lt;omega
          clear hown hr kp
          go_wp2
          go_roundw
          case rel=>exact ⟨k+1,g2,cap2,o.take j++nm::o.drop j,by omega,by go_num,by rw [hlen2],by rw [hlen2];omega,hg3,aA (by rw [←uH HP,uH HN2]),HW9,HL9⟩
          case measure=>simp [intOf];omega
        case step=>
         intro n lz az wz hI
         rcases hI with h | h | h | h | h | h | h | h | h
         ·obtain ⟨hn,rfl,rfl,kp⟩:=h
          obtain rfl:n=5:=by omega
          refine aS (rs:=[0,6]) (by kernel_rfl) (by simp) ?_
          refine aD.cons rfl (fun K hK=>?_) ?_
          ·go_simp
           go_wp2_with fail
           exact hK.out _ _ (yA kp _) (.inr (.inr (.inl (⟨wz.heap.size,rfl,rfl,rfl,lX kp,yA kp _⟩))))
          refine aD.cons rfl (fun K hK=>?_) ?_
          ·go_simp
           go_wp2_with fail
           exact hK.out _ _ (yA kp _) (.inr (.inl (⟨wz.heap.size,rfl,rfl,rfl,iX kp _,yA kp _⟩)))
          exact aD.nil
         ·obtain ⟨gb,hn,rfl,rfl,hbx,kp⟩:=h
          obtain rfl:n=4:=by omega
          refine aS (rs:=[0]) (by kernel_rfl) (by simp) ?_
          refine aD.cons rfl (fun K hK=>?_) ?_
          ·go_simp
           go_wp2_with fail
           exact hK.out _ _ (yA kp _) (.inr (.inr (.inr (.inl (⟨wz.heap.size,gb,rfl,rfl,rfl,lX kp,hbx.al _,Nat.ne_of_lt hbx.lt,yA kp _⟩)))))
          exact aD.nil
         ·obtain ⟨g0,hn,rfl,rfl,hr,kp⟩:=h
          obtain rfl:n=4:=by omega
          refine aS (rs:=[4,6]) (by kernel_rfl) (by simp) ?_
          refine aD.cons rfl (fun K hK=>?_) ?_
          ·refine gI (w1:=w7) rfl (.tmp 41) (.tmp 44) 175 rfl 9 i0 (.string ByteArray.empty) 1 16 Tryz.underlying175 hi hz0 hz1 hz2 rfl (by decide) (.slice (some ⟨g0,0,none⟩) 0 0) 0 [] rfl hr kp ⟨g,0,none⟩ j cap NC1 rfl (uH HL1) (fun i u hu=>uH HLO _ kp i u hu) (uH HO1) (by unfold maxLen;omega) (by omega) ?_
           intro v1 wz2 hr2 kp2 hsame
           try simp only [Act.put,sA,sB,sC]
           exact hK.out _ _ kp2 (.inr (.inr (.inr (.inr (.inl (⟨g0,v1,rfl,by kernel_rfl,rfl,qP hr2 (by omega) (List.nil_append _),kp2⟩))))))
          refine aD.cons rfl (fun K hK=>?_) ?_
          ·go_simp
           go_wp2_with fail
           exact hK.out _ _ (yA kp _) (.inr (.inr (.inr (.inl (⟨g0,wz.heap.size,rfl,rfl,rfl,hr.al _,iX kp _,(Nat.ne_of_gt (by obtain ⟨q,q2,q3,q4,q5,q6⟩:=hr.open;cases q3;exact (World.ownsRow.lt q5 g0 rfl).2)),yA kp _⟩)))))
          exact aD.nil
         ·obtain ⟨g0,gb,hn,rfl,rfl,hr,hbx,hne,kp⟩:=h
          obtain rfl:n=3:=by omega
          refine aS (rs:=[4]) (by kernel_rfl) (by simp) ?_
          refine aD.cons rfl (fun K hK=>?_) ?_
          ·refine gI (w1:=w7) rfl (.tmp 41) (.tmp 44) 175 rfl 9 i0 (.string ByteArray.empty) 1 16 Tryz.underlying175 hi hz0 hz1 hz2 rfl (by decide) (.slice (some ⟨g0,0,none⟩) 0 0) 0 [] rfl hr kp ⟨g,0,none⟩ j cap NC1 rfl (uH HL1) (fun i u hu=>uH HLO _ kp i u hu) (uH HO1) (by unfold maxLen;omega) (by omega) ?_
           intro v1 wz2 hr2 kp2 hsame
           try simp only [Act.put,sA,sB,sC]
           exact hK.out _ _ kp2 (.inr (.inr (.inr (.inr (.inr (.inl (⟨g0,v1,gb,rfl,by kernel_rfl,rfl,qP hr2 (by omega) (List.nil_append _),hbx.same (hsame gb hbx.lt (by simp [Value.ownBlock];omega)),kp2⟩)))))))
          exact aD.nil
         ·obtain ⟨g0,v1,hn,rfl,rfl,hr,kp⟩:=h
          obtain rfl:n=3:=by omega
          refine aS (rs:=[6]) (by kernel_rfl) (by simp) ?_
          refine aD.cons rfl (fun K hK=>?_) ?_
          ·go_simp
           go_wp2_with fail
           exact hK.out _ _ (yA kp _) (.inr (.inr (.inr (.inr (.inr (.inl (⟨g0,v1,wz.heap.size,rfl,rfl,rfl,hr.al _,iX kp _,yA kp _⟩)))))))
          exact aD.nil
         ·obtain ⟨g0,v1,gb,hn,rfl,rfl,hr,hbx,kp⟩:=h
          obtain rfl:n=2:=by omega
          refine aS (rs:=[7]) (by kernel_rfl) (by simp) ?_
          refine aD.cons rfl (fun K hK=>?_) ?_
          ·refine gI (w1:=w7) rfl (.tmp 45) (.tmp 47) 175 rfl 9 i0 (.string ByteArray.empty) 1 16 Tryz.underlying175 hi hz0 hz1 hz2 rfl (by decide) v1 j NC1 rfl hr kp ⟨gb,0,none⟩ 1 1 #[Value.string (bs nm)].toList rfl (by rfl) hbx.news (uH HOX) (by unfold maxLen;omega) (by omega) ?_
           intro v2 wz2 hr2 kp2 hsame
           try simp only [Act.put,sA,sB,sC]
           exact hK.out _ _ kp2 (.inr (.inr (.inr (.inr (.inr (.inr (.inl (⟨g0,v1,gb,v2,rfl,by kernel_rfl,rfl,hr2,kp2⟩))))))))
          exact aD.nil
         ·obtain ⟨g0,v1,gb,v2,hn,rfl,rfl,hr,kp⟩:=h
          obtain rfl:n=1:=by omega
          refine aS (rs:=[11]) (by kernel_rfl) (by simp) ?_
          refine aD.cons rfl (fun K hK=>?_) ?_
          ·refine gI (w1:=w7) rfl (.tmp 48) (.tmp 51) 175 rfl 9 i0 (.string ByteArray.empty) 1 16 Tryz.underlying175 hi hz0 hz1 hz2 rfl (by decide) v2 (j+1) (NC1++#[Value.string (bs nm)].toList) rfl hr kp (hiA g cap j 1) (o.length - j) (cap - j) NC2 rfl (uH HL2) (fun i u hu=>uH HHI _ kp i u hu) (uH HO2) (by unfold maxLen;omega) (by omega) ?_
           intro v3 wz2 hr2 kp2 hsame
           try simp only [Act.put,sA,sB,sC]
           exact hK.out _ _ kp2 (.inr (.inr (.inr (.inr (.inr (.inr (.inr (.inl (⟨g0,v1,gb,v2,v3,rfl,by kernel_rfl,rfl,hr2,kp2⟩)))))))))
          exact aD.nil
         ·obtain ⟨g0,v1,gb,v2,v3,hn,rfl,rfl,hr,kp⟩:=h
          obtain rfl:n=0:=by omega
          refine aS (rs:=[12]) (by kernel_rfl) (by simp) ?_
          refine aD.cons rfl (fun K hK=>?_) ?_
          ·go_simp
           go_wp2_with fail
           exact hK.out _ _ kp (.inr (.inr (.inr (.inr (.inr (.inr (.inr (.inr (⟨g0,v1,gb,v2,v3,rfl,rfl,rfl,hr,kp⟩)))))))))
          exact aD.nil
         ·obtain ⟨_,_,_,_,_,hn,_⟩:=h
          cases hn
       ·go_wp2
        go_roundw
        case rel=>exact ⟨j+1,by omega,by go_num,aA (by have:=uH HPS2;have:=uH HJ;simp at *;omega),HK7⟩
        case measure=>simp [intOf];omega
     ·have HAT:=aA (show mD bf nm o=j by have:=aEi bf nm (l:=o) (k:=j) (by omega);have:=uH HJ;omega)
      have hjn:¬(j:Int)<(o.length:Int):=by omega
      clear HJ
      go_wp2_with fail
      refine wp_region_held_drew (S:=fun wx=>Kp w6 wx) (by kernel_rfl) ((cB w6).drew (Kp.new w6)) (fun S0=>?_)
      refine aB 0 26 _ rfl rfl S0 ?_
      try simp only [Act.put,sA,sB,sC]
      refine aB 1 27 _ rfl rfl S0 ?_
      try simp only [Act.put,sA,sB,sC]
      refine aB 2 28 _ rfl rfl S0 ?_
      try simp only [Act.put,sA,sB,sC]
      refine aB 3 29 _ rfl rfl S0 ?_
      try simp only [Act.put,sA,sB,sC]
      refine aB 4 30 _ rfl rfl S0 ?_
      try simp only [Act.put,sA,sB,sC]
      refine aC 5 31 rfl rfl S0 ?_
      try simp only [Act.put,sA,sB,sC]
      refine aC 6 32 rfl rfl S0 ?_
      try simp only [Act.put,sA,sB,sC]
      refine aC 7 33 rfl rfl S0 ?_
      try simp only [Act.put,sA,sB,sC]
      refine aC 8 34 rfl rfl S0 ?_
      try simp only [Act.put,sA,sB,sC]
      refine aC 9 35 rfl rfl S0 ?_
      try simp only [Act.put,sA,sB,sC]
      refine aC 10 36 rfl rfl S0 ?_
      try simp only [Act.put,sA,sB,sC]
      refine aC 11 37 rfl rfl S0 ?_
      try simp only [Act.put,sA,sB,sC]
      refine aB 12 38 _ rfl rfl S0 ?_
      try simp only [Act.put,sA,sB,sC]
      refine wpAnyH_done (by kernel_rfl) ?_ _
      have HW7:=aA ((uH HW6).below (Below.refl _ _).drew (uH HW6).lt)
      have HL7:=aA (uH HL6).drew
      obtain ⟨w7,hw7⟩:∃w7,w6.drew=w7:=⟨_,rfl⟩
      rw [hw7] at HW7 HL7
      rw [hw7]
      clear hw7 HW6 HL6 P6 HB6a HK6
      go_wp2_with fail
      have hlo:=aGy g o.length cap j (by have:=(uH HW7).block;obtain ⟨_,_,h,_⟩:=this;rw [List.length_map] at h;omega)
      have hhi:=aGz g o.length cap j hj
      obtain ⟨NC1,hc1⟩:∃c,((o.map bs).take j).map Value.string=c:=⟨_,rfl⟩
      obtain ⟨NC2,hc2⟩:∃c,((o.map bs).drop j).map Value.string=c:=⟨_,rfl⟩
      have HLO:=aA (show ∀wx:World,Kp w7 wx→∀i u,NC1[i]? = some u→wx.cell? (Addr.add ⟨g,0,none⟩ i)=some u from fun wx hb i u hu=>(uH HW7).lo hb j i u (by rw [hc1];exact hu))
      have HHI:=aA (show ∀wx:World,Kp w7 wx→∀i u,NC2[i]? = some u→wx.cell? (Addr.add (hiA g cap j 1) i)=some u from fun wx hb i u hu=>(uH HW7).hi hb j i u (by rw [hc2];exact hu))
      have HL1:=aA (show NC1.length=j*1 by rw [←hc1];simp;omega)
      have HL2:=aA (show NC2.length=(o.length - j)*1 by rw [←hc2];simp)
      have HO1:=aA (show ∀u ∈ NC1,u.oneCell'=true by rw [←hc1];exact lT _)
      have HO2:=aA (show ∀u ∈ NC2,u.oneCell'=true by rw [←hc2];exact lT _)
      have HOX:=aA (show ∀u ∈ #[Value.string (bs nm)].toList,u.oneCell'=true from fun u hu=>by simp at hu;subst hu;rfl)
      have HC1:=aA hc1.symm
      have HC2:=aA hc2.symm
      have A0:=aA (Kp.new w7)
      have HS:=aA (cB w7)
      have HB6:=aA (yB (uH HB1) (uH HL7))
      clear hc1 hc2
      refine wp_region_held_drew (S:=fun wx=>Kp w7 wx) (by kernel_rfl) ((uH HS).drew (uH A0)) (fun S0=>?_)
      refine aB 1 42 _ rfl rfl S0 ?_
      try simp only [Act.put,sA,sB,sC]
      refine aB 2 43 _ rfl rfl S0 ?_
      try simp only [Act.put,sA,sB,sC]
      refine aE2 (i:=3) (d:=some 44) (v:=.slice (some ⟨g,0,none⟩) j cap) rfl rfl (by kernel_rfl) (by kernel_rfl) (by kernel_rfl) (fun _ _ _ h=>h) (Or.inl ⟨by rfl,fun wz hz=>by (go_simp;try with_reducible rfl)⟩) S0 ?_
      try simp only [Act.put,sA,sB,sC]
      refine aB 5 46 _ rfl rfl S0 ?_
      try simp only [Act.put,sA,sB,sC]
      refine aB 8 49 _ rfl rfl S0 ?_
      try simp only [Act.put,sA,sB,sC]
      refine aB 9 50 _ rfl rfl S0 ?_
      try simp only [Act.put,sA,sB,sC]
      refine aE2 (i:=10) (d:=some 51) (v:=.slice (some (hiA g cap j 1)) (o.length - j) (cap - j)) rfl rfl (by kernel_rfl) (by kernel_rfl) (by kernel_rfl) (fun _ _ _ h=>h) (Or.inl ⟨by rfl,fun wz hz=>by (go_simp;try with_reducible rfl)⟩) S0 ?_
      try simp only [Act.put,sA,sB,sC]
      refine kM (QOT w7 g o.length cap j NC1 NC2 nm _ _ _ _ _ _ _ _ _ _ _ _ _ _ _ _ _ _ _ _ _ _ _ _ _ _ _ _ _ _ _ _ _ _ _ _ _ _ _ _ _ _ _ _) ?step ?fin 6 _ _ _ (.inl (⟨rfl,by kernel_rfl,rfl,S0⟩))
      case fin=>
       intro lz az wz hI
       rcases hI with h | h | h | h | h | h | h | h | h
       ·obtain ⟨hn,_⟩:=h
        cases hn
       ·obtain ⟨_,hn,_⟩:=h
        cases hn
       ·obtain ⟨_,hn,_⟩:=h
        cases hn
       ·obtain ⟨_,_,hn,_⟩:=h
        cases hn
       ·obtain ⟨_,_,hn,_⟩:=h
        cases hn
       ·obtain ⟨_,_,_,hn,_⟩:=h
        cases hn
       ·obtain ⟨_,_,_,_,hn,_⟩:=h
        cases hn
       ·obtain ⟨_,_,_,_,_,hn,_⟩:=h
        cases hn
       ·obtain ⟨g0,v1,gb,v2,v3,-,rfl,rfl,hr,kp⟩:=h
        refine ⟨by kernel_rfl,?_⟩
        obtain ⟨g2,cap2,rfl,hg2,hown,hc2⟩:=hr.open
        have HN2:=aA (show OrdM.ins bf nm o=o.take j++nm::o.drop j by rw [vS,uH HAT])
        have hlen2:(o.take j++nm::o.drop j).length=j+1+(o.length - j):=by simp;omega
        have HW9:=aA (show SS wz g2 cap2 ((o.take j++nm::o.drop j).map bs) by
         unfold SS
         rw [List.length_map,hlen2]
         have e:((o.take j++nm::o.drop j).map bs).map Value.string=NC1++[Value.string (bs nm)]++NC2:=by rw [uH HC1,uH HC2];simp
         rw [e]
         exact hown)
        have HL9:=aA (yB (uH HL7) kp)
        have hg3:w.heap.size<g2:=by have:=(uH HB6).size;have:=(uH HW7).lt;omega
        clear hown hr kp
        go_wp2
        go_roundw
        case rel=>exact ⟨k+1,g2,cap2,o.take j++nm::o.drop j,by omega,by go_num,by rw [hlen2],by rw [hlen2];omega,hg3,aA (by rw [←uH HP,uH HN2]),HW9,HL9⟩
        case measure=>simp [intOf];omega
      case step=>
       intro n lz az wz hI
       rcases hI with h | h | h | h | h | h | h | h | h
       ·obtain ⟨hn,rfl,rfl,kp⟩:=h
        obtain rfl:n=5:=by omega
        refine aS (rs:=[0,6]) (by kernel_rfl) (by simp) ?_
        refine aD.cons rfl (fun K hK=>?_) ?_
        ·go_simp
         go_wp2_with fail
         exact hK.out _ _ (yA kp _) (.inr (.inr (.inl (⟨wz.heap.size,rfl,rfl,rfl,lX kp,yA kp _⟩))))
        refine aD.cons rfl (fun K hK=>?_) ?_
        ·go_simp
         go_wp2_with fail
         exact hK.out _ _ (yA kp _) (.inr (.inl (⟨wz.heap.size,rfl,rfl,rfl,iX kp _,yA kp _⟩)))
        exact aD.nil
       ·obtain ⟨gb,hn,rfl,rfl,hbx,kp⟩:=h
        obtain rfl:n=4:=by omega
        refine aS (rs:=[0]) (by kernel_rfl) (by simp) ?_
        refine aD.cons rfl (fun K hK=>?_) ?_
        ·go_simp
         go_wp2_with fail
         exact hK.out _ _ (yA kp _) (.inr (.inr (.inr (.inl (⟨wz.heap.size,gb,rfl,rfl,rfl,lX kp,hbx.al _,Nat.ne_of_lt hbx.lt,yA kp _⟩)))))
        exact aD.nil
       ·obtain ⟨g0,hn,rfl,rfl,hr,kp⟩:=h
        obtain rfl:n=4:=by omega
        refine aS (rs:=[4,6]) (by kernel_rfl) (by simp) ?_
        refine aD.cons rfl (fun K hK=>?_) ?_
        ·refine gI (w1:=w7) rfl (.tmp 41) (.tmp 44) 175 rfl 9 i0 (.string ByteArray.empty) 1 16 Tryz.underlying175 hi hz0 hz1 hz2 rfl (by decide) (.slice (some ⟨g0,0,none⟩) 0 0) 0 [] rfl hr kp ⟨g,0,none⟩ j cap NC1 rfl (uH HL1) (fun i u hu=>uH HLO _ kp i u hu) (uH HO1) (by unfold maxLen;omega) (by omega) ?_
         intro v1 wz2 hr2 kp2 hsame
         try simp only [Act.put,sA,sB,sC]
         exact hK.out _ _ kp2 (.inr (.inr (.inr (.inr (.inl (⟨g0,v1,rfl,by kernel_rfl,rfl,qP hr2 (by omega) (List.nil_append _),kp2⟩))))))
        refine aD.cons rfl (fun K hK=>?_) ?_
        ·go_simp
         go_wp2_with fail
         exact hK.out _ _ (yA kp _) (.inr (.inr (.inr (.inl (⟨g0,wz.heap.size,rfl,rfl,rfl,hr.al _,iX kp _,(Nat.ne_of_gt (by obtain ⟨q,q2,q3,q4,q5,q6⟩:=hr.open;cases q3;exact (World.ownsRow.lt q5 g0 rfl).2)),yA kp _⟩)))))
        exact aD.nil
       ·obtain ⟨g0,gb,hn,rfl,rfl,hr,hbx,hne,kp⟩:=h
        obtain rfl:n=3:=by omega
        refine aS (rs:=[4]) (by kernel_rfl) (by simp) ?_
        refine aD.cons rfl (fun K hK=>?_) ?_
        ·refine gI (w1:=w7) rfl (.tmp 41) (.tmp 44) 175 rfl 9 i0 (.string ByteArray.empty) 1 16 Tryz.underlying175 hi hz0 hz1 hz2 rfl (by decide) (.slice (some ⟨g0,0,none⟩) 0 0) 0 [] rfl hr kp ⟨g,0,none⟩ j cap NC1 rfl (uH HL1) (fun i u hu=>uH HLO _ kp i u hu) (uH HO1) (by unfold maxLen;omega) (by omega) ?_
         intro v1 wz2 hr2 kp2 hsame
         try simp only [Act.put,sA,sB,sC]
         exact hK.out _ _ kp2 (.inr (.inr (.inr (.inr (.inr (.inl (⟨g0,v1,gb,rfl,by kernel_rfl,rfl,qP hr2 (by omega) (List.nil_append _),hbx.same (hsame gb hbx.lt (by simp [Value.ownBlock];omega)),kp2⟩)))))))
        exact aD.nil
       ·obtain ⟨g0,v1,hn,rfl,rfl,hr,kp⟩:=h
        obtain rfl:n=3:=by omega
        refine aS (rs:=[6]) (by kernel_rfl) (by simp) ?_
        refine aD.cons rfl (fun K hK=>?_) ?_
        ·go_simp
         go_wp2_with fail
         exact hK.out _ _ (yA kp _) (.inr (.inr (.inr (.inr (.inr (.inl (⟨g0,v1,wz.heap.size,rfl,rfl,rfl,hr.al _,iX kp _,yA kp _⟩)))))))
        exact aD.nil
       ·obtain ⟨g0,v1,gb,hn,rfl,rfl,hr,hbx,kp⟩:=h
        obtain rfl:n=2:=by omega
        refine aS (rs:=[7]) (by kernel_rfl) (by simp) ?_
        refine aD.cons rfl (fun K hK=>?_) ?_
        ·refine gI (w1:=w7) rfl (.tmp 45) (.tmp 47) 175 rfl 9 i0 (.string ByteArray.empty) 1 16 Tryz.underlying175 hi hz0 hz1 hz2 rfl (by decide) v1 j NC1 rfl hr kp ⟨gb,0,none⟩ 1 1 #[Value.string (bs nm)].toList rfl (by rfl) hbx.news (uH HOX) (by unfold maxLen;omega) (by omega) ?_
         intro v2 wz2 hr2 kp2 hsame
         try simp only [Act.put,sA,sB,sC]
         exact hK.out _ _ kp2 (.inr (.inr (.inr (.inr (.inr (.inr (.inl (⟨g0,v1,gb,v2,rfl,by kernel_rfl,rfl,hr2,kp2⟩))))))))
        exact aD.nil
       ·obtain ⟨g0,v1,gb,v2,hn,rfl,rfl,hr,kp⟩:=h
        obtain rfl:n=1:=by omega
        refine aS (rs:=[11]) (by kernel_rfl) (by simp) ?_
        refine aD.cons rfl (fun K hK=>?_) ?_
        ·refine gI (w1:=w7) rfl (.tmp 48) (.tmp 51) 175 rfl 9 i0 (.string ByteArray.empty) 1 16 Tryz.underlying175 hi hz0 hz1 hz2 rfl (by decide) v2 (j+1) (NC1++#[Value.string (bs nm)].toList) rfl hr kp (hiA g cap j 1) (o.length - j) (cap - j) NC2 rfl (uH HL2) (fun i u hu=>uH HHI _ kp i u hu) (uH HO2) (by unfold maxLen;omega) (by omega) ?_
         intro v3 wz2 hr2 kp2 hsame
         try simp only [Act.put,sA,sB,sC]
         exact hK.out _ _ kp2 (.inr (.inr (.inr (.inr (.inr (.inr (.inr (.inl (⟨g0,v1,gb,v2,v3,rfl,by kernel_rfl,rfl,hr2,kp2⟩)))))))))
        exact aD.nil
       ·obtain ⟨g0,v1,gb,v2,v3,hn,rfl,rfl,hr,kp⟩:=h
        obtain rfl:n=0:=by omega
        refine aS (rs:=[12]) (by kernel_rfl) (by simp) ?_
        refine aD.cons rfl (fun K hK=>?_) ?_
        ·go_simp
         go_wp2_with fail
         exact hK.out _ _ kp (.inr (.inr (.inr (.inr (.inr (.inr (.inr (.inr (⟨g0,v1,gb,v2,v3,rfl,rfl,rfl,hr,kp⟩)))))))))
        exact aD.nil
       ·obtain ⟨_,_,_,_,_,hn,_⟩:=h
        cases hn
  ·have hkk:k=ql:=by omega
   subst hkk
   have HE:=aA (uH HNE k (by have:=uH HLQ;omega))
   have hgg2:w.heap.size≤g:=by omega
   go_wp2
   go_ret
   refine ⟨_,rfl,?_,uH HB2⟩
   rw [←uH HE,←uH HO]
   exact ((uH HW).own).base hgg2
end
end Go.Proofs.YtdhibeclkdepiaaGreat
