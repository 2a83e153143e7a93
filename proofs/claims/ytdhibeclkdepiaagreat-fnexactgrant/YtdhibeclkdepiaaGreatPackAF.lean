/-
  Texts in one: BefS, StvO.
-/
import Derived.Test.YtdhibeclkdepiaaGreatPackAE
import Derived.Sort.Walk0
set_option maxRecDepth 100000
set_option maxHeartbeats 16000000
set_option linter.unusedVariables false
set_option linter.unusedSimpArgs false
namespace Go.Proofs.YtdhibeclkdepiaaGreat
section
open Go.RowKit Go.Maps
def BFr (w w1:World) (na nb:List UInt8) (ux uy dx dy vx vy fx fy tx ty:Int) (gt:Nat) (qa:Option Addr) (ql qc:Nat) (aa:Option Addr) (al ac:Nat) (ma:Option Addr) (ml mc:Nat) (ca:Option Addr) (cl cc:Nat) (qs:List Q) (clock epoch next serial:Int) (apps:List Appl) (ms:List Mac) (cs:List Con) (c:Nat) (fs:List Bool) (us:List Nat):Act:={ tmps:=#[sv ⟨qa,ql,qc,aa,al,ac,ma,ml,mc,ca,cl,cc⟩ ⟨qs,clock,epoch,next,serial,apps,ms,cs⟩,.string (bs na),.string (bs nb),.pointer (some ⟨w.heap.size,0,none⟩),undef,undef,.bool false,.pointer (some ⟨gt,0,none⟩),mkPtr (fs.getD 0 false) (us.getD 0 0),mkPtr (fs.getD 1 false) (us.getD 1 0),mkPtr (fs.getD 2 false) (us.getD 2 0),mkPtr (fs.getD 3 false) (us.getD 3 0),.agg #[.slice qa ql qc,.int .i64 clock,.int .i64 epoch,.int .i64 next,.int .i64 serial,.slice aa al ac,.slice ma ml mc,.slice ca cl cc],rv tx ty,.agg #[.slice qa ql qc,.int .i64 clock,.int .i64 epoch,.int .i64 next,.int .i64 serial,.slice aa al ac,.slice ma ml mc,.slice ca cl cc],.string (bs na),mkRes (Nat.ble 1 c) (rv ux uy),.pointer (some ⟨w.heap.size,0,none⟩),.slice qa ql qc,.string (bs na),rv tx ty,mkRes (Nat.ble 2 c) (rv dx dy),.agg #[.slice qa ql qc,.int .i64 clock,.int .i64 epoch,.int .i64 next,.int .i64 serial,.slice aa al ac,.slice ma ml mc,.slice ca cl cc],.string (bs nb),mkRes (Nat.ble 3 c) (rv vx vy),.pointer (some ⟨w.heap.size,0,none⟩),.slice qa ql qc,.string (bs nb),rv tx ty,mkRes (Nat.ble 4 c) (rv fx fy),undef,undef,undef,undef,undef,undef,undef,undef,undef,undef,undef,undef,undef,undef,undef,undef],defers:=[] }
def BFM:Mul:=⟨24,[2,7,10,15],[16,17,18,19],[20,21,22,23],[true,true,false,true,true,true,true,false,true,true,false,true,true,true,true,false,false,false,false,false,false,false,false,false]⟩
theorem before_any (x:Sls) (s:St) (na nb:List UInt8) (w:World) (h:SRow w x s) (hf:FitSt s) :
  Calls Tryz.prog 159 #[sv x s,.string (bs na),.string (bs nb)] w fun e w'=>e=.returned (.bool (befN s na nb))∧Below w.heap.size w w':=by
 have hql:x.ql≤1048576:=h.ql hf
 have hml:x.ml≤1048576:=h.ml hf
 have CT:=hide (fun wx (hb:Below w.heap.size w wx)=>show Calls Tryz.prog 163 #[sv x s] wx (fun e w'=>e=.returned (rv (totalV s).1 (totalV s).2)∧Below wx.heap.size wx w') from specTotal_any x s wx (h.2.2.1.below hb) hml)
 have CD:=fun nm wx (hb:Below w.heap.size w wx)=>show Calls Tryz.prog 183 #[.slice x.qa x.ql x.qc,.string (bs nm),rv (totalV s).1 (totalV s).2] wx (fun e w'=>e=.returned (rv (dueV s nm).1 (dueV s nm).2)∧Below wx.heap.size wx w') from specDueOf_any x.qa x.ql x.qc s.qs nm (totalV s).1 (totalV s).2 wx (h.1.below hb) hql (fun q hq=>(hf.1.2 q hq).1)
 have CU:=fun nm wx (hb:Below w.heap.size w wx)=>specUsedBy_any x s nm wx (h.below hb) hf
 have CU1:=hide (CU na)
 have CU2:=hide (CU nb)
 have CD1:=hide (CD na)
 have CD2:=hide (CD nb)
 have HA:=hide (show befN s na nb=(lessR (usedByV s na).1 (usedByV s na).2 (dueV s na).1 (dueV s na).2 (usedByV s nb).1 (usedByV s nb).2 (dueV s nb).1 (dueV s nb).2||(!lessR (usedByV s nb).1 (usedByV s nb).2 (dueV s nb).1 (dueV s nb).2 (usedByV s na).1 (usedByV s na).2 (dueV s na).1 (dueV s na).2&&Op.bytesLess na nb)) from rfl)
 obtain ⟨⟨tx,ty⟩,ht⟩:∃t,totalV s=t:=⟨_,rfl⟩
 obtain ⟨⟨dx,dy⟩,hd⟩:∃t,dueV s na=t:=⟨_,rfl⟩
 obtain ⟨⟨ux,uy⟩,hu⟩:∃t,usedByV s na=t:=⟨_,rfl⟩
 obtain ⟨⟨fx,fy⟩,hd2⟩:∃t,dueV s nb=t:=⟨_,rfl⟩
 obtain ⟨⟨vx,vy⟩,hu2⟩:∃t,usedByV s nb=t:=⟨_,rfl⟩
 rw [ht] at CT
 rw [ht,hd] at CD1
 rw [ht,hd2] at CD2
 rw [hu] at CU1
 rw [hu2] at CU2
 rw [hd,hu,hd2,hu2] at HA
 obtain ⟨o,ho⟩:∃o,befN s na nb=o:=⟨_,rfl⟩
 rw [ho] at HA ⊢
 simp only at HA CD1 CD2 CU1 CU2 CT
 obtain ⟨l1,hl1⟩:∃z,lessR ux uy dx dy vx vy fx fy=z:=⟨_,rfl⟩
 obtain ⟨l2,hl2⟩:∃z,lessR vx vy fx fy ux uy dx dy=z:=⟨_,rfl⟩
 have CL1:=hide (fun wx=>by have:=specLessRatio_any ux uy dx dy vx vy fx fy wx;rw [hl1] at this;exact this)
 have CL2:=hide (fun wx=>by have:=specLessRatio_any vx vy fx fy ux uy dx dy wx;rw [hl2] at this;exact this)
 rw [hl1,hl2] at HA
 clear h hf CD CU ht hd hu hd2 hu2 ho hl1 hl2
 obtain ⟨qa,ql,qc,aa,al,ac,ma,ml,mc,ca,cl,cc⟩:=x
 obtain ⟨qs,clock,epoch,next,serial,apps,ms,cs⟩:=s
 simp only at CT CD1 CD2 CU1 CU2 hql hml
 have HB0:=hide (yA (Below.refl _ w) (.cells (svc ⟨qa,ql,qc,aa,al,ac,ma,ml,mc,ca,cl,cc⟩ ⟨qs,clock,epoch,next,serial,apps,ms,cs⟩) 34))
 have P0:=hide (yD w (svc ⟨qa,ql,qc,aa,al,ac,ma,ml,mc,ca,cl,cc⟩ ⟨qs,clock,epoch,next,serial,apps,ms,cs⟩) 34)
 go_enter Tryz.func159,Tryz.ntmps159
 go_wp2_with fail
 refine (uH CT _ (uH HB0)).mono ?_
 rintro e w0 ⟨rfl,hb⟩
 have HB1:=hide (yA (yB (uH HB0) hb) (.cells #[.int .i64 tx,.int .i64 ty] 36))
 have P1:=hide (((uH P0).below hb).al (.cells #[.int .i64 tx,.int .i64 ty] 36))
 have T1:=hide (var_new w0 36 tx ty)
 clear hb HB0 P0 CT
 obtain ⟨gt,hgt⟩:∃g,w0.heap.size=g:=⟨_,rfl⟩
 rw [hgt] at T1
 go_wp2_with fail
 try rw [hgt]
 obtain ⟨w1,hw1⟩:∃W,w0.alloc (.cells #[.int .i64 tx,.int .i64 ty] 36)=W:=⟨_,rfl⟩
 rw [hw1] at HB1 P1 T1 ⊢
 clear hgt hw1
 obtain ⟨q0,q1,q2,q3,q4,q5,q6,q7⟩:_∧_∧_∧_∧_∧_∧_∧_:=⟨(uH P1).at 0,(uH P1).at 1,(uH P1).at 2,(uH P1).at 3,(uH P1).at 4,(uH P1).at 5,(uH P1).at 6,(uH P1).at 7⟩
 simp at q0 q1 q2 q3 q4 q5 q6 q7
 have R:∀wx,Kp w1 wx→wx.cell? ⟨w.heap.size,0,none⟩=some (.slice qa ql qc)∧wx.cell? ⟨w.heap.size,1,none⟩=some (.int .i64 clock)∧wx.cell? ⟨w.heap.size,2,none⟩=some (.int .i64 epoch)∧wx.cell? ⟨w.heap.size,3,none⟩=some (.int .i64 next)∧wx.cell? ⟨w.heap.size,4,none⟩=some (.int .i64 serial)∧wx.cell? ⟨w.heap.size,5,none⟩=some (.slice aa al ac)∧wx.cell? ⟨w.heap.size,6,none⟩=some (.slice ma ml mc)∧wx.cell? ⟨w.heap.size,7,none⟩=some (.slice ca cl cc)∧wx.cell? ⟨gt,0,none⟩=some (.int .i64 tx)∧wx.cell? ⟨gt,1,none⟩=some (.int .i64 ty):=fun wx h=>
  ⟨h.cell q0,h.cell q1,h.cell q2,h.cell q3,h.cell q4,h.cell q5,h.cell q6,h.cell q7,h.cell (uH T1).c0,h.cell (uH T1).c1⟩
 have A0:=hide (Kp.new w1)
 have HS:=hide (kp_holds w1)
 clear P1 T1 q0 q1 q2 q3 q4 q5 q6 q7
 go_cut [8,9,10,11] from 14 to 29 (fun v8 v9 v10 v11 wx=>∃g8 g9 g10 g11,v8=.pointer (some ⟨g8,0,none⟩)∧v9=.pointer (some ⟨g9,0,none⟩)∧v10=.pointer (some ⟨g10,0,none⟩)∧v11=.pointer (some ⟨g11,0,none⟩)∧Var wx 36 g8 ux uy∧Var wx 36 g9 dx dy∧Var wx 36 g10 vx vy∧Var wx 36 g11 fx fy∧w1.heap.size≤g8∧w1.heap.size≤g9∧w1.heap.size≤g10∧w1.heap.size≤g11∧Kp w1 wx)
 case first=>
  refine wp_region_held_drew (S:=fun wx=>Kp w1 wx) (by kernel_rfl) ((uH HS).drew (uH A0)) (fun S0=>?_)
  refine takeD (i:=0) (d:=some 14) (v:=_) rfl rfl (by kernel_rfl) (by kernel_rfl) (by kernel_rfl) (fun _ _ _ h=>h) (Or.inl ⟨by rfl,fun wz hz=>by (go_simp;try with_reducible rfl)⟩) S0 ?_
  try simp only [Act.put,sA,sB,sC]
  refine takeD (i:=1) (d:=some 15) (v:=_) rfl rfl (by kernel_rfl) (by kernel_rfl) (by kernel_rfl) (fun _ _ _ h=>h) (Or.inl ⟨by rfl,fun wz hz=>by (go_simp;try with_reducible rfl)⟩) S0 ?_
  try simp only [Act.put,sA,sB,sC]
  refine takeD (i:=3) (d:=some 17) (v:=_) rfl rfl (by kernel_rfl) (by kernel_rfl) (by kernel_rfl) (fun _ _ _ h=>h) (Or.inl ⟨by rfl,fun wz hz=>by (go_simp;try with_reducible rfl)⟩) S0 ?_
  try simp only [Act.put,sA,sB,sC]
  refine takeD (i:=4) (d:=some 18) (v:=_) rfl rfl (by kernel_rfl) (by kernel_rfl) (by kernel_rfl) (fun _ _ _ h=>h) (Or.inl ⟨by rfl,fun wz hz=>by (go_simp;try with_reducible rfl)⟩) S0 ?_
  try simp only [Act.put,sA,sB,sC]
  refine takeD (i:=5) (d:=some 19) (v:=_) rfl rfl (by kernel_rfl) (by kernel_rfl) (by kernel_rfl) (fun _ _ _ h=>h) (Or.inl ⟨by rfl,fun wz hz=>by (go_simp;try with_reducible rfl)⟩) S0 ?_
  try simp only [Act.put,sA,sB,sC]
  refine takeD (i:=6) (d:=some 20) (v:=_) rfl rfl (by kernel_rfl) (by kernel_rfl) (by kernel_rfl) (fun _ _ _ h=>h) (Or.inl ⟨by rfl,fun wz hz=>by (go_simp;try with_reducible rfl)⟩) S0 ?_
  try simp only [Act.put,sA,sB,sC]
  refine takeD (i:=8) (d:=some 22) (v:=_) rfl rfl (by kernel_rfl) (by kernel_rfl) (by kernel_rfl) (fun _ _ _ h=>h) (Or.inl ⟨by rfl,fun wz hz=>by (go_simp;try with_reducible rfl)⟩) S0 ?_
  try simp only [Act.put,sA,sB,sC]
  refine takeD (i:=9) (d:=some 23) (v:=_) rfl rfl (by kernel_rfl) (by kernel_rfl) (by kernel_rfl) (fun _ _ _ h=>h) (Or.inl ⟨by rfl,fun wz hz=>by (go_simp;try with_reducible rfl)⟩) S0 ?_
  try simp only [Act.put,sA,sB,sC]
  refine takeD (i:=11) (d:=some 25) (v:=_) rfl rfl (by kernel_rfl) (by kernel_rfl) (by kernel_rfl) (fun _ _ _ h=>h) (Or.inl ⟨by rfl,fun wz hz=>by (go_simp;try with_reducible rfl)⟩) S0 ?_
  try simp only [Act.put,sA,sB,sC]
  refine takeD (i:=12) (d:=some 26) (v:=_) rfl rfl (by kernel_rfl) (by kernel_rfl) (by kernel_rfl) (fun _ _ _ h=>h) (Or.inl ⟨by rfl,fun wz hz=>by (go_simp;try with_reducible rfl)⟩) S0 ?_
  try simp only [Act.put,sA,sB,sC]
  refine takeD (i:=13) (d:=some 27) (v:=_) rfl rfl (by kernel_rfl) (by kernel_rfl) (by kernel_rfl) (fun _ _ _ h=>h) (Or.inl ⟨by rfl,fun wz hz=>by (go_simp;try with_reducible rfl)⟩) S0 ?_
  try simp only [Act.put,sA,sB,sC]
  refine takeD (i:=14) (d:=some 28) (v:=_) rfl rfl (by kernel_rfl) (by kernel_rfl) (by kernel_rfl) (fun _ _ _ h=>h) (Or.inl ⟨by rfl,fun wz hz=>by (go_simp;try with_reducible rfl)⟩) S0 ?_
  try simp only [Act.put,sA,sB,sC]
  refine wpAnyH_is (n':=4+4+4) (l':=BFM.lst 0 [false,false,false,false] 0) (a':=BFr w w1 na nb ux uy dx dy vx vy fx fy tx ty gt qa ql qc aa al ac ma ml mc ca cl cc qs clock epoch next serial apps ms cs 0 [false,false,false,false] [0,0,0,0]) rfl (by kernel_rfl) rfl ?_
  refine region_multi (w1:=w1) BFM (BFr w w1 na nb ux uy dx dy vx vy fx fy tx ty gt qa ql qc aa al ac ma ml mc ca cl cc qs clock epoch next serial apps ms cs) [(ux,uy),(dx,dy),(vx,vy),(fx,fy)] rfl (by as_aux_lemma=>kernel_rfl) ?call ?al ?st ?fin _ S0
  case call=>
   intro c f us wz K hc hf hu kp hK
   obtain ⟨f0,f1,f2,f3,rfl⟩:=list4 hf
   obtain ⟨g8,g9,g10,g11,rfl⟩:=list4 hu
   have hc4:c<4:=hc
   match c,hc4,hK with
   | 0,_,hK=>
    show Mul.step _ _ _ 2 _ _ _
    refine ⟨_,rfl,?_⟩
    simp only [BFr,List.getD_cons_zero,List.getD_cons_succ]
    go_simp
    refine (uH CU1 _ (yB (uH HB1) kp)).mono ?_
    rintro e w2 ⟨rfl,hb⟩
    go_wp2_with fail
    first | exact hb | exact hK _ hb
   | 1,_,hK=>
    show Mul.step _ _ _ 7 _ _ _
    refine ⟨_,rfl,?_⟩
    simp only [BFr,List.getD_cons_zero,List.getD_cons_succ]
    go_simp
    refine (uH CD1 _ (yB (uH HB1) kp)).mono ?_
    rintro e w2 ⟨rfl,hb⟩
    go_wp2_with fail
    first | exact hb | exact hK _ hb
   | 2,_,hK=>
    show Mul.step _ _ _ 10 _ _ _
    refine ⟨_,rfl,?_⟩
    simp only [BFr,List.getD_cons_zero,List.getD_cons_succ]
    go_simp
    refine (uH CU2 _ (yB (uH HB1) kp)).mono ?_
    rintro e w2 ⟨rfl,hb⟩
    go_wp2_with fail
    first | exact hb | exact hK _ hb
   | 3,_,hK=>
    show Mul.step _ _ _ 15 _ _ _
    refine ⟨_,rfl,?_⟩
    simp only [BFr,List.getD_cons_zero,List.getD_cons_succ]
    go_simp
    refine (uH CD2 _ (yB (uH HB1) kp)).mono ?_
    rintro e w2 ⟨rfl,hb⟩
    go_wp2_with fail
    first | exact hb | exact hK _ hb
  case al=>
   intro j c f us wz K hc hf hu hj hK
   obtain ⟨f0,f1,f2,f3,rfl⟩:=list4 hf
   obtain ⟨g8,g9,g10,g11,rfl⟩:=list4 hu
   match j,hj,hK with
   | 0,hj,hK=>
    show Mul.step _ _ _ 16 _ _ _
    refine ⟨_,rfl,?_⟩
    simp only [BFr,List.getD_cons_zero,List.getD_cons_succ]
    go_simp
    go_wp2_with fail
    exact hK
   | 1,hj,hK=>
    show Mul.step _ _ _ 17 _ _ _
    refine ⟨_,rfl,?_⟩
    simp only [BFr,List.getD_cons_zero,List.getD_cons_succ]
    go_simp
    go_wp2_with fail
    exact hK
   | 2,hj,hK=>
    show Mul.step _ _ _ 18 _ _ _
    refine ⟨_,rfl,?_⟩
    simp only [BFr,List.getD_cons_zero,List.getD_cons_succ]
    go_simp
    go_wp2_with fail
    exact hK
   | 3,hj,hK=>
    show Mul.step _ _ _ 19 _ _ _
    refine ⟨_,rfl,?_⟩
    simp only [BFr,List.getD_cons_zero,List.getD_cons_succ]
    go_simp
    go_wp2_with fail
    exact hK
   | j+4,hj,_=>simp at hj
  case st=>
   intro s us wz K hs hu hv hK
   obtain ⟨g8,g9,g10,g11,rfl⟩:=list4 hu
   have hs4:s<4:=hs
   match s,hs4,hv,hK with
   | 0,_,hv,hK=>
    replace hv:Var wz 36 g8 0 0:=hv
    have y0:=hv.c0
    have y1:=hv.c1
    have y2:=hv.f 0
    have y3:=hv.f 1
    show Mul.step _ _ _ 20 { tmps:=#[sv ⟨qa,ql,qc,aa,al,ac,ma,ml,mc,ca,cl,cc⟩ ⟨qs,clock,epoch,next,serial,apps,ms,cs⟩,.string (bs na),.string (bs nb),.pointer (some ⟨w.heap.size,0,none⟩),undef,undef,.bool false,.pointer (some ⟨gt,0,none⟩),.pointer (some ⟨g8,0,none⟩),.pointer (some ⟨g9,0,none⟩),.pointer (some ⟨g10,0,none⟩),.pointer (some ⟨g11,0,none⟩),.agg #[.slice qa ql qc,.int .i64 clock,.int .i64 epoch,.int .i64 next,.int .i64 serial,.slice aa al ac,.slice ma ml mc,.slice ca cl cc],rv tx ty,.agg #[.slice qa ql qc,.int .i64 clock,.int .i64 epoch,.int .i64 next,.int .i64 serial,.slice aa al ac,.slice ma ml mc,.slice ca cl cc],.string (bs na),rv ux uy,.pointer (some ⟨w.heap.size,0,none⟩),.slice qa ql qc,.string (bs na),rv tx ty,rv dx dy,.agg #[.slice qa ql qc,.int .i64 clock,.int .i64 epoch,.int .i64 next,.int .i64 serial,.slice aa al ac,.slice ma ml mc,.slice ca cl cc],.string (bs nb),rv vx vy,.pointer (some ⟨w.heap.size,0,none⟩),.slice qa ql qc,.string (bs nb),rv tx ty,rv fx fy,undef,undef,undef,undef,undef,undef,undef,undef,undef,undef,undef,undef,undef,undef,undef,undef],defers:=[] } _ _
    refine ⟨_,rfl,?_⟩
    simp only [BFr,List.getD_cons_zero,List.getD_cons_succ]
    go_simp
    go_wp2_with fail
    exact hK
   | 1,_,hv,hK=>
    replace hv:Var wz 36 g9 0 0:=hv
    have y0:=hv.c0
    have y1:=hv.c1
    have y2:=hv.f 0
    have y3:=hv.f 1
    show Mul.step _ _ _ 21 { tmps:=#[sv ⟨qa,ql,qc,aa,al,ac,ma,ml,mc,ca,cl,cc⟩ ⟨qs,clock,epoch,next,serial,apps,ms,cs⟩,.string (bs na),.string (bs nb),.pointer (some ⟨w.heap.size,0,none⟩),undef,undef,.bool false,.pointer (some ⟨gt,0,none⟩),.pointer (some ⟨g8,0,none⟩),.pointer (some ⟨g9,0,none⟩),.pointer (some ⟨g10,0,none⟩),.pointer (some ⟨g11,0,none⟩),.agg #[.slice qa ql qc,.int .i64 clock,.int .i64 epoch,.int .i64 next,.int .i64 serial,.slice aa al ac,.slice ma ml mc,.slice ca cl cc],rv tx ty,.agg #[.slice qa ql qc,.int .i64 clock,.int .i64 epoch,.int .i64 next,.int .i64 serial,.slice aa al ac,.slice ma ml mc,.slice ca cl cc],.string (bs na),rv ux uy,.pointer (some ⟨w.heap.size,0,none⟩),.slice qa ql qc,.string (bs na),rv tx ty,rv dx dy,.agg #[.slice qa ql qc,.int .i64 clock,.int .i64 epoch,.int .i64 next,.int .i64 serial,.slice aa al ac,.slice ma ml mc,.slice ca cl cc],.string (bs nb),rv vx vy,.pointer (some ⟨w.heap.size,0,none⟩),.slice qa ql qc,.string (bs nb),rv tx ty,rv fx fy,undef,undef,undef,undef,undef,undef,undef,undef,undef,undef,undef,undef,undef,undef,undef,undef],defers:=[] } _ _
    refine ⟨_,rfl,?_⟩
    simp only [BFr,List.getD_cons_zero,List.getD_cons_succ]
    go_simp
    go_wp2_with fail
    exact hK
   | 2,_,hv,hK=>
    replace hv:Var wz 36 g10 0 0:=hv
    have y0:=hv.c0
    have y1:=hv.c1
    have y2:=hv.f 0
    have y3:=hv.f 1
    show Mul.step _ _ _ 22 { tmps:=#[sv ⟨qa,ql,qc,aa,al,ac,ma,ml,mc,ca,cl,cc⟩ ⟨qs,clock,epoch,next,serial,apps,ms,cs⟩,.string (bs na),.string (bs nb),.pointer (some ⟨w.heap.size,0,none⟩),undef,undef,.bool false,.pointer (some ⟨gt,0,none⟩),.pointer (some ⟨g8,0,none⟩),.pointer (some ⟨g9,0,none⟩),.pointer (some ⟨g10,0,none⟩),.pointer (some ⟨g11,0,none⟩),.agg #[.slice qa ql qc,.int .i64 clock,.int .i64 epoch,.int .i64 next,.int .i64 serial,.slice aa al ac,.slice ma ml mc,.slice ca cl cc],rv tx ty,.agg #[.slice qa ql qc,.int .i64 clock,.int .i64 epoch,.int .i64 next,.int .i64 serial,.slice aa al ac,.slice ma ml mc,.slice ca cl cc],.string (bs na),rv ux uy,.pointer (some ⟨w.heap.size,0,none⟩),.slice qa ql qc,.string (bs na),rv tx ty,rv dx dy,.agg #[.slice qa ql qc,.int .i64 clock,.int .i64 epoch,.int .i64 next,.int .i64 serial,.slice aa al ac,.slice ma ml mc,.slice ca cl cc],.string (bs nb),rv vx vy,.pointer (some ⟨w.heap.size,0,none⟩),.slice qa ql qc,.string (bs nb),rv tx ty,rv fx fy,undef,undef,undef,undef,undef,undef,undef,undef,undef,undef,undef,undef,undef,undef,undef,undef],defers:=[] } _ _
    refine ⟨_,rfl,?_⟩
    simp only [BFr,List.getD_cons_zero,List.getD_cons_succ]
    go_simp
    go_wp2_with fail
    exact hK
   | 3,_,hv,hK=>
    replace hv:Var wz 36 g11 0 0:=hv
    have y0:=hv.c0
    have y1:=hv.c1
    have y2:=hv.f 0
    have y3:=hv.f 1
    show Mul.step _ _ _ 23 { tmps:=#[sv ⟨qa,ql,qc,aa,al,ac,ma,ml,mc,ca,cl,cc⟩ ⟨qs,clock,epoch,next,serial,apps,ms,cs⟩,.string (bs na),.string (bs nb),.pointer (some ⟨w.heap.size,0,none⟩),undef,undef,.bool false,.pointer (some ⟨gt,0,none⟩),.pointer (some ⟨g8,0,none⟩),.pointer (some ⟨g9,0,none⟩),.pointer (some ⟨g10,0,none⟩),.pointer (some ⟨g11,0,none⟩),.agg #[.slice qa ql qc,.int .i64 clock,.int .i64 epoch,.int .i64 next,.int .i64 serial,.slice aa al ac,.slice ma ml mc,.slice ca cl cc],rv tx ty,.agg #[.slice qa ql qc,.int .i64 clock,.int .i64 epoch,.int .i64 next,.int .i64 serial,.slice aa al ac,.slice ma ml mc,.slice ca cl cc],.string (bs na),rv ux uy,.pointer (some ⟨w.heap.size,0,none⟩),.slice qa ql qc,.string (bs na),rv tx ty,rv dx dy,.agg #[.slice qa ql qc,.int .i64 clock,.int .i64 epoch,.int .i64 next,.int .i64 serial,.slice aa al ac,.slice ma ml mc,.slice ca cl cc],.string (bs nb),rv vx vy,.pointer (some ⟨w.heap.size,0,none⟩),.slice qa ql qc,.string (bs nb),rv tx ty,rv fx fy,undef,undef,undef,undef,undef,undef,undef,undef,undef,undef,undef,undef,undef,undef,undef,undef],defers:=[] } _ _
    refine ⟨_,rfl,?_⟩
    simp only [BFr,List.getD_cons_zero,List.getD_cons_succ]
    go_simp
    go_wp2_with fail
    exact hK
  case fin=>
   intro us wz hu hV kp
   obtain ⟨g8,g9,g10,g11,rfl⟩:=list4 hu
   have v8:VB w1 wz g8 ux uy:=hV 0 (by decide)
   have v9:VB w1 wz g9 dx dy:=hV 1 (by decide)
   have v10:VB w1 wz g10 vx vy:=hV 2 (by decide)
   have v11:VB w1 wz g11 fx fy:=hV 3 (by decide)
   go_wp2_with fail
   go_meet
   exact ⟨g8,g9,g10,g11,rfl,rfl,rfl,rfl,v8.2,v9.2,v10.2,v11.2,v8.1,v9.1,v10.1,v11.1,kp⟩
 case rest=>
  obtain ⟨g8,g9,g10,g11,rfl,rfl,rfl,rfl,v8,v9,v10,v11,_,_,_,_,hA⟩:=hcut
  obtain ⟨w4,rfl⟩:∃w4,w4=wc:=⟨wc,rfl⟩
  have V8:=hide v8
  have V9:=hide v9
  have V10:=hide v10
  have V11:=hide v11
  have HB4:=hide (yB (uH HB1) hA)
  have a0:=v8.c0;have a1:=v8.c1;have b0:=v9.c0;have b1:=v9.c1;have c0:=v10.c0;have c1:=v10.c1;have d0:=v11.c0;have d1:=v11.c1
  clear v8 v9 v10 v11 hA R A0 HS HB1 CU1 CU2 CD1 CD2
  go_wp2_with fail
  refine (uH CL1 _).mono ?_
  rintro e w5 ⟨rfl,hb⟩
  have HB5:=hide (yB (uH HB4) hb)
  have X8:=(uH V8).below hb
  have X9:=(uH V9).below hb
  have X10:=(uH V10).below hb
  have X11:=(uH V11).below hb
  clear a0 a1 b0 b1 c0 c1 d0 d1 hb V8 V9 V10 V11 CL1 HB4
  have a0:=X8.c0;have a1:=X8.c1;have b0:=X9.c0;have b1:=X9.c1;have c0:=X10.c0;have c1:=X10.c1;have d0:=X11.c0;have d1:=X11.c1
  cases l1
  case true=>
   go_wp2
   go_ret
   exact ⟨yF (by rw [uH HA];rfl),uH HB5⟩
  clear X8 X9 X10 X11
  go_wp2_with fail
  refine (uH CL2 _).mono ?_
  rintro e w6 ⟨rfl,hb⟩
  have HB6:=hide (yB (uH HB5) hb)
  clear a0 a1 b0 b1 c0 c1 d0 d1 hb CL2 HB5
  cases l2
  case true=>
   go_wp2
   go_ret
   exact ⟨yF (by rw [uH HA];rfl),uH HB6⟩
  obtain ⟨bl,hbl⟩:∃z,Op.bytesLess (bs na).toList (bs nb).toList=z:=⟨_,rfl⟩
  have HBL:=hide (show Op.bytesLess na nb=bl by rw [←hbl];simp [bs])
  go_wp2
  go_ret
  exact ⟨yF (by rw [uH HA,uH HBL];rfl),uH HB6⟩
end
section
open Go.RowKit
def place1 (p:List UInt8→List UInt8→Bool) (x:List UInt8):List (List UInt8)→Nat
 | []=>0
 | y::t=>if p y x=true then place1 p x t+1 else 0
theorem ins_place (p:List UInt8→List UInt8→Bool) (x:List UInt8):∀l,OrdM.ins p x l=l.take (place1 p x l)++x::l.drop (place1 p x l)
 | []=>rfl
 | y::t=>by
  unfold OrdM.ins place1
  by_cases h:p y x=true
  ·rw [if_pos h,if_pos h,List.take_succ_cons,List.drop_succ_cons,ins_place p x t];rfl
  ·rw [if_neg h,if_neg h];rfl
theorem place1_step (p:List UInt8→List UInt8→Bool) (x:List UInt8) {l:List (List UInt8)} {k:Nat} (h:k<l.length):k+place1 p x (l.drop k)=if p l[k] x=true then (k+1)+place1 p x (l.drop (k+1)) else k:=by
 rw [List.drop_eq_getElem_cons h,place1]
 split<;>omega
theorem place1_end (p:List UInt8→List UInt8→Bool) (x:List UInt8) {l:List (List UInt8)} {k:Nat} (h:l.length≤k):k+place1 p x (l.drop k)=k:=by
 rw [List.drop_of_length_le h];rfl
end
end Go.Proofs.YtdhibeclkdepiaaGreat
