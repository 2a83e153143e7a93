/-
  What a leaf lacks, by the model: Lack; a walk over the dump.
-/
import Derived.Test.YtngkddhcmfbjnaaGreatSackK
set_option maxRecDepth 100000
set_option maxHeartbeats 16000000
set_option linter.unusedVariables false
set_option linter.unusedSimpArgs false
namespace Go.Proofs.YtngkddhcmfbjnaaGreat
section
open Go.RowKit Go.Maps
def LFS (w w1:World) (nm:List UInt8) (ux uy tx ty dx dy nx ny:Int) (qa:Option Addr) (ql qc:Nat) (aa:Option Addr) (al ac:Nat) (ma:Option Addr) (ml mc:Nat) (ca:Option Addr) (cl cc:Nat) (qs:List Q) (cv ez nv sj:Int) (aj:List bN) (ms:List Mac) (cs:List Con) (c:Nat) (fs:List Bool) (us:List Nat):Act:={ tmps:=#[sv ⟨qa,ql,qc,aa,al,ac,ma,ml,mc,ca,cl,cc⟩ ⟨qs,cv,ez,nv,sj,aj,ms,cs⟩,.string (bs nm),.pointer (some ⟨w.heap.size,0,none⟩),undef,.pointer (some ⟨w.heap.size+1,0,none⟩),zZ (fs.getD 0 false) (us.getD 0 0),zZ (fs.getD 1 false) (us.getD 1 0),zZ (fs.getD 2 false) (us.getD 2 0),undef,.pointer (some ⟨w.heap.size,0,none⟩),.slice qa ql qc,.string (bs nm),.bool true,.bool false,undef,.agg #[.slice qa ql qc,.int .i64 cv,.int .i64 ez,.int .i64 nv,.int .i64 sj,.slice aa al ac,.slice ma ml mc,.slice ca cl cc],.string (bs nm),vM (Nat.ble 1 c) (rv ux uy),.pointer (some ⟨w.heap.size,0,none⟩),.slice qa ql qc,.string (bs nm),.agg #[.slice qa ql qc,.int .i64 cv,.int .i64 ez,.int .i64 nv,.int .i64 sj,.slice aa al ac,.slice ma ml mc,.slice ca cl cc],vM (Nat.ble 2 c) (rv tx ty),vM (Nat.ble 3 c) (rv dx dy),.agg #[.slice qa ql qc,.int .i64 cv,.int .i64 ez,.int .i64 nv,.int .i64 sj,.slice aa al ac,.slice ma ml mc,.slice ca cl cc],.string (bs nm),vM (Nat.ble 4 c) (rv nx ny),undef,undef,undef,undef,undef,undef,undef,undef,undef,undef,undef,undef,undef,undef,undef,undef,undef,undef,undef,undef,undef,undef,undef,undef,undef,undef,undef,undef,undef,undef],defers:=[] }
def LMS:Mul:=⟨18,[2,7,8,11],[12,13,14],[15,16,17],[true,true,false,true,true,true,true,false,false,true,true,false,false,false,false,false,false,false]⟩
theorem uB (x:Sls) (s:St) (nm:List UInt8) (w:World) (h:gU w x s) (hf:dI s) :
  cP 13 #[sv x s,.string (bs nm)] w fun e w'=>e=.returned (rv (sG s nm).1 (sG s nm).2)∧Bw w w':=by
 have GJ:x.ql≤1048576:=h.ql hf
 have GN:x.ml≤1048576:=h.ml hf
 have CL:=aA (fun wx (hb:Bw w wx)=>fP x.qa x.ql x.qc s.qs nm wx (h.1.below hb) GJ (fun q hq=>(hf.1.2 q hq).1))
 have CT:=aA (fun wx (hb:Bw w wx)=>j4 x s wx (h.2.2.1.below hb) GN)
 have CD:=aA (fun wx (hb:Bw w wx)=>show cP 44 #[.slice x.qa x.ql x.qc,.string (bs nm),rv (bC s).1 (bC s).2] wx (fun e w'=>e=.returned (rv (iO s nm).1 (iO s nm).2)∧Bw wx w') from j5 x.qa x.ql x.qc s.qs nm (bC s).1 (bC s).2 wx (h.1.below hb) GJ (fun q hq=>(hf.1.2 q hq).1))
 have CU:=aA (fun wx (hb:Bw w wx)=>jL x s nm wx (h.below hb) hf)
 have CW:=aA (fun wx (hb:Bw w wx)=>aC4 x s nm wx (h.below hb) hf)
 have HU:=aA (wK s nm)
 have HD:=aA (aCj s nm)
 have HW:=aA (aGK s nm)
 obtain ⟨lf,hlf⟩:∃b,oI s.qs nm=b:=⟨_,rfl⟩
 obtain ⟨⟨tx,ty⟩,ht⟩:∃t,bC s=t:=⟨_,rfl⟩
 obtain ⟨⟨dx,dy⟩,hd⟩:∃t,iO s nm=t:=⟨_,rfl⟩
 obtain ⟨⟨ux,uy⟩,hu⟩:∃t,aL s nm=t:=⟨_,rfl⟩
 obtain ⟨⟨nx,ny⟩,hn⟩:∃t,vK s nm=t:=⟨_,rfl⟩
 have HO:sG s nm=if lf=true then (nI dx ux nx,nI dy uy ny) else (0,0):=by simp only [sG,hlf,hu,hd,hn]
 rw [show (iL (aT s.ms)).1=tx from congrArg Prod.fst ht,show (iL (aT s.ms)).2.1=ty from congrArg Prod.snd ht] at CT
 rw [hlf] at CL
 rw [ht,hd] at CD
 rw [hu] at CU HU
 rw [hd] at HD
 rw [hn] at CW HW
 obtain ⟨⟨zx,zy⟩,hz⟩:∃z,(if lf=true then (nI dx ux nx,nI dy uy ny) else (0,0))=z:=⟨_,rfl⟩
 rw [HO,hz]
 have HZ:=aA hz
 clear hz
 simp only at CD CU CW HU HD HW
 obtain ⟨u0,u1,u2,u3⟩:=aO (uH HU)
 obtain ⟨d0,d1,d2,d3⟩:=aO (uH HD)
 obtain ⟨n0,n1,n2,n3⟩:=aO (uH HW)
 clear h hf hlf ht hd hu hn HO HU HD HW
 obtain ⟨qa,ql,qc,aa,al,ac,ma,ml,mc,ca,cl,cc⟩:=x
 obtain ⟨qs,cv,ez,nv,sj,aj,ms,cs⟩:=s
 simp only at CL CT CD CU CW GJ GN
 have HB0:=aA (bZ w (svc ⟨qa,ql,qc,aa,al,ac,ma,ml,mc,ca,cl,cc⟩ ⟨qs,cv,ez,nv,sj,aj,ms,cs⟩))
 have V0:=aA (gY w (svc ⟨qa,ql,qc,aa,al,ac,ma,ml,mc,ca,cl,cc⟩ ⟨qs,cv,ez,nv,sj,aj,ms,cs⟩))
 have P0:=aA ((eB w (svc ⟨qa,ql,qc,aa,al,ac,ma,ml,mc,ca,cl,cc⟩ ⟨qs,cv,ez,nv,sj,aj,ms,cs⟩)).al (.cells #[.int .i64 0,.int .i64 0] 37))
 go_enter Tryz.func13,Tryz.ntmps13
 go_wp2_with fail
 refine (uH CL _ (uH HB0)).mono ?_
 rintro e w1 ⟨rfl,hb⟩
 have HB1:=aA (yB (uH HB0) hb)
 have V1:=aA ((uH V0).below hb)
 have P1:=aA ((uH P0).below hb)
 clear hb HB0 V0 P0 CL
 cases lf
 case false=>
  have hz:=uH HZ
  simp at hz
  obtain ⟨rfl,rfl⟩:=hz
  have k0:=(uH V1).c0
  have k1:=(uH V1).c1
  have k2:=(uH V1).f 0
  have k3:=(uH V1).f 1
  have k4:=(uH V1).s0 (.int .i64 0)
  have k5:=(uH V1).s1 (.int .i64 0) (.int .i64 0)
  go_wp2
  refine bodyPost_ret (v:=rv 0 0) (by simp [results,Tryz.results13,go_sem,k4,k5]) rfl ⟨rfl,?_⟩
  repeat (first | exact uH HB1 | refine yA ?_ _ | refine Below.drew ?_ | refine yC ?_ _ _ _ (by omega))
 have hz:=uH HZ
 rw [if_pos rfl] at hz
 simp only [Prod.mk.injEq] at hz
 have Ww:=aA hz.1
 have Wv:=aA hz.2
 clear hz HZ
 obtain ⟨q0,q1,q2,q3,q4,q5,q6,q7⟩:_∧_∧_∧_∧_∧_∧_∧_:=⟨(uH P1).at 0,(uH P1).at 1,(uH P1).at 2,(uH P1).at 3,(uH P1).at 4,(uH P1).at 5,(uH P1).at 6,(uH P1).at 7⟩
 simp at q0 q1 q2 q3 q4 q5 q6 q7
 have R:∀wx,Kp w1 wx→wx.cell? ⟨w.heap.size,0,none⟩=some (.slice qa ql qc)∧wx.cell? ⟨w.heap.size,1,none⟩=some (.int .i64 cv)∧wx.cell? ⟨w.heap.size,2,none⟩=some (.int .i64 ez)∧wx.cell? ⟨w.heap.size,3,none⟩=some (.int .i64 nv)∧wx.cell? ⟨w.heap.size,4,none⟩=some (.int .i64 sj)∧wx.cell? ⟨w.heap.size,5,none⟩=some (.slice aa al ac)∧wx.cell? ⟨w.heap.size,6,none⟩=some (.slice ma ml mc)∧wx.cell? ⟨w.heap.size,7,none⟩=some (.slice ca cl cc):=fun wx h=>
  ⟨h.cell q0,h.cell q1,h.cell q2,h.cell q3,h.cell q4,h.cell q5,h.cell q6,h.cell q7⟩
 have A0:=aA (Kp.new w1)
 have HS:=aA (aK w1)
 clear P1 q0 q1 q2 q3 q4 q5 q6 q7
 go_wp2_with fail
 go_cut [5,6,7] from 15 to 26 (fun v5 v6 v7 wx=>∃g5 g6 g7,v5=.pointer (some ⟨g5,0,none⟩)∧v6=.pointer (some ⟨g6,0,none⟩)∧v7=.pointer (some ⟨g7,0,none⟩)∧Var wx 37 g5 ux uy∧Var wx 37 g6 dx dy∧Var wx 37 g7 nx ny∧w1.heap.size≤g5∧w1.heap.size≤g6∧w1.heap.size≤g7∧Kp w1 wx)
 case first=>
  refine wp_region_held_drew (S:=fun wx=>Kp w1 wx) (by kernel_rfl) ((uH HS).drew (uH A0)) (fun S0=>?_)
  refine tW 0 15 _ S0 ?_
  simp only [zW]
  refine tW 1 16 _ S0 ?_
  simp only [zW]
  refine tW 3 18 _ S0 ?_
  simp only [zW]
  refine tW 4 19 _ S0 ?_
  simp only [zW]
  refine tW 5 20 _ S0 ?_
  simp only [zW]
  refine tW 6 21 _ S0 ?_
  simp only [zW]
  refine tW 9 24 _ S0 ?_
  simp only [zW]
  refine tW 10 25 _ S0 ?_
  simp only [zW]
  refine mR (n':=4+3+3) (l':=LMS.lst 0 [false,false,false] 0) (a':=LFS w w1 nm ux uy tx ty dx dy nx ny qa ql qc aa al ac ma ml mc ca cl cc qs cv ez nv sj aj ms cs 0 [false,false,false] [0,0,0]) rfl (by kernel_rfl) rfl ?_
  refine jO (w1:=w1) LMS (LFS w w1 nm ux uy tx ty dx dy nx ny qa ql qc aa al ac ma ml mc ca cl cc qs cv ez nv sj aj ms cs) [(ux,uy),(dx,dy),(nx,ny)] rfl (by as_aux_lemma=>kernel_rfl) ?call ?al ?st ?fin _ S0
  case call=>
   intro c f us wz K hc hf hu kp hK
   obtain ⟨f0,f1,f2,rfl⟩:=vN hf
   obtain ⟨g5,g6,g7,rfl⟩:=vN hu
   have hc4:c<4:=hc
   rcases (show c=0∨c=1∨c=2∨c=3 by omega) with rfl | rfl | rfl | rfl
   show Mul.step _ _ _ 2 _ _ _
   have CC:=CU
   rotate_left
   show Mul.step _ _ _ 7 _ _ _
   have CC:=CT
   rotate_left
   show Mul.step _ _ _ 8 _ _ _
   have CC:=CD
   rotate_left
   show Mul.step _ _ _ 11 _ _ _
   have CC:=CW
   rotate_left
   all_goals
    refine ⟨_,rfl,?_⟩
    simp only [LFS,List.getD_cons_zero,List.getD_cons_succ]
    go_simp
    refine (uH CC _ (yB (uH HB1) kp)).mono ?_
    rintro e w2 ⟨rfl,hb⟩
    go_wp2_with fail
    first | exact hb | exact hK _ hb
  case al=>
   intro j c f us wz K hc hf hu hj hK
   obtain ⟨f0,f1,f2,rfl⟩:=vN hf
   obtain ⟨g5,g6,g7,rfl⟩:=vN hu
   have NS:j<3:=by rcases Nat.lt_or_ge j 3 with h | h;exact h;(obtain ⟨q,rfl⟩:=Nat.exists_eq_add_of_le h;simp [Nat.add_comm] at hj)
   rcases (show j=0∨j=1∨j=2 by omega) with rfl | rfl | rfl
   show Mul.step _ _ _ 12 _ _ _
   rotate_left
   show Mul.step _ _ _ 13 _ _ _
   rotate_left
   show Mul.step _ _ _ 14 _ _ _
   rotate_left
   all_goals
    refine ⟨_,rfl,?_⟩
    simp only [LFS,List.getD_cons_zero,List.getD_cons_succ]
    go_simp
    go_wp2_with fail
    exact hK
  case st=>
   intro s us wz K hs hu hv hK
   obtain ⟨g5,g6,g7,rfl⟩:=vN hu
   have hs4:s<3:=hs
   rcases (show s=0∨s=1∨s=2 by omega) with rfl | rfl | rfl
   replace hv:Var wz 37 g5 0 0:=hv
   show Mul.step _ _ _ 15 _ _ _
   rotate_left
   replace hv:Var wz 37 g6 0 0:=hv
   show Mul.step _ _ _ 16 _ _ _
   rotate_left
   replace hv:Var wz 37 g7 0 0:=hv
   show Mul.step _ _ _ 17 _ _ _
   rotate_left
   all_goals
    have y0:=hv.c0
    have y1:=hv.c1
    have y2:=hv.f 0
    have y3:=hv.f 1
    show Mul.step _ _ _ _ { tmps:=#[sv ⟨qa,ql,qc,aa,al,ac,ma,ml,mc,ca,cl,cc⟩ ⟨qs,cv,ez,nv,sj,aj,ms,cs⟩,.string (bs nm),.pointer (some ⟨w.heap.size,0,none⟩),undef,.pointer (some ⟨w.heap.size+1,0,none⟩),.pointer (some ⟨g5,0,none⟩),.pointer (some ⟨g6,0,none⟩),.pointer (some ⟨g7,0,none⟩),undef,.pointer (some ⟨w.heap.size,0,none⟩),.slice qa ql qc,.string (bs nm),.bool true,.bool false,undef,.agg #[.slice qa ql qc,.int .i64 cv,.int .i64 ez,.int .i64 nv,.int .i64 sj,.slice aa al ac,.slice ma ml mc,.slice ca cl cc],.string (bs nm),rv ux uy,.pointer (some ⟨w.heap.size,0,none⟩),.slice qa ql qc,.string (bs nm),.agg #[.slice qa ql qc,.int .i64 cv,.int .i64 ez,.int .i64 nv,.int .i64 sj,.slice aa al ac,.slice ma ml mc,.slice ca cl cc],rv tx ty,rv dx dy,.agg #[.slice qa ql qc,.int .i64 cv,.int .i64 ez,.int .i64 nv,.int .i64 sj,.slice aa al ac,.slice ma ml mc,.slice ca cl cc],.string (bs nm),rv nx ny,undef,undef,undef,undef,undef,undef,undef,undef,undef,undef,undef,undef,undef,undef,undef,undef,undef,undef,undef,undef,undef,undef,undef,undef,undef,undef,undef,undef,undef,undef],defers:=[] } _ _
    refine ⟨_,rfl,?_⟩
    simp only [LFS,List.getD_cons_zero,List.getD_cons_succ]
    go_simp
    go_wp2_with fail
    exact hK
  case fin=>
   intro us wz hu hV kp
   obtain ⟨g5,g6,g7,rfl⟩:=vN hu
   have v5:VB w1 wz g5 ux uy:=hV 0 (by decide)
   have v6:VB w1 wz g6 dx dy:=hV 1 (by decide)
   have v7:VB w1 wz g7 nx ny:=hV 2 (by decide)
   go_wp2_with fail
   go_meet
   exact ⟨g5,g6,g7,rfl,rfl,rfl,v5.2,v6.2,v7.2,v5.1,v6.1,v7.1,kp⟩
 case rest=>
  obtain ⟨g5,g6,g7,rfl,rfl,rfl,hv5,hv6,hv7,hg5,Wj,YY,hA⟩:=hcut
  obtain ⟨w4,rfl⟩:∃w4,w4=wc:=⟨wc,rfl⟩
  have VR:∀a b:Int,Var (w4.alloc (.cells #[.int .i64 a,.int .i64 b] 37)) 37 (w.heap.size+1) 0 0:=fun a b=>((uH V1).below hA).al _
  have y50:∀a b:Int,(w4.alloc (.cells #[.int .i64 a,.int .i64 b] 37)).cell? ⟨g5,0,none⟩=some (.int .i64 ux):=fun a b=>(hv5.al _).c0
  have y51:∀a b:Int,(w4.alloc (.cells #[.int .i64 a,.int .i64 b] 37)).cell? ⟨g5,1,none⟩=some (.int .i64 uy):=fun a b=>(hv5.al _).c1
  have y60:∀a b:Int,(w4.alloc (.cells #[.int .i64 a,.int .i64 b] 37)).cell? ⟨g6,0,none⟩=some (.int .i64 dx):=fun a b=>(hv6.al _).c0
  have y61:∀a b:Int,(w4.alloc (.cells #[.int .i64 a,.int .i64 b] 37)).cell? ⟨g6,1,none⟩=some (.int .i64 dy):=fun a b=>(hv6.al _).c1
  have y70:∀a b:Int,(w4.alloc (.cells #[.int .i64 a,.int .i64 b] 37)).cell? ⟨g7,0,none⟩=some (.int .i64 nx):=fun a b=>(hv7.al _).c0
  have y71:∀a b:Int,(w4.alloc (.cells #[.int .i64 a,.int .i64 b] 37)).cell? ⟨g7,1,none⟩=some (.int .i64 ny):=fun a b=>(hv7.al _).c1
  have r0:∀a b:Int,(w4.alloc (.cells #[.int .i64 a,.int .i64 b] 37)).cell? ⟨w.heap.size+1,0,none⟩=some (.int .i64 0):=fun a b=>(VR a b).c0
  have r1:∀a b:Int,(w4.alloc (.cells #[.int .i64 a,.int .i64 b] 37)).cell? ⟨w.heap.size+1,1,none⟩=some (.int .i64 0):=fun a b=>(VR a b).c1
  have r2:∀a b:Int,(w4.alloc (.cells #[.int .i64 a,.int .i64 b] 37)).frozen? ⟨w.heap.size+1,0,none⟩=false:=fun a b=>(VR a b).f 0
  have r3:∀a b:Int,(w4.alloc (.cells #[.int .i64 a,.int .i64 b] 37)).frozen? ⟨w.heap.size+1,1,none⟩=false:=fun a b=>(VR a b).f 1
  have k4:=(VR zx zy).s0 (.int .i64 zx)
  have k5:=(VR zx zy).s1 (.int .i64 zx) (.int .i64 zy)
  have GR:=aA (show Bw w (w4.alloc (.cells #[.int .i64 zx,.int .i64 zy] 37)) from yA (yB (uH HB1) hA) _)
  have L1:=aA (fun wx=>kW (dx - ux) nx wx)
  have L2:=aA (fun wx=>kW (dy - uy) ny wx)
  clear hv5 hv6 hv7 hA VR R A0 HS
  by_cases hx:ux<dx
  ·by_cases hy:uy<dy
   ·
    rw [←qL hx,uH Ww] at L1
    rw [←qL hy,uH Wv] at L2
    go_wp2_with fail
    refine (uH L1 _).mono ?_
    rintro e wq ⟨rfl,rfl⟩
    go_wp2_with fail
    refine (uH L2 _).mono ?_
    rintro e wq ⟨rfl,rfl⟩
    go_wp2
    refine bodyPost_ret (v:=rv zx zy) (by simp [results,Tryz.results13,go_sem,k4,k5]) rfl ⟨rfl,?_⟩
    repeat (first | exact uH GR | refine yA ?_ _ | refine Below.drew ?_ | refine yC ?_ _ _ _ (by omega))
   ·
    rw [←qL hx,uH Ww] at L1
    obtain rfl:zy=0:=by rw [←uH Wv];exact qM (by omega) n2
    go_wp2_with fail
    refine (uH L1 _).mono ?_
    rintro e wq ⟨rfl,rfl⟩
    go_wp2
    refine bodyPost_ret (v:=rv zx 0) (by simp [results,Tryz.results13,go_sem,k4,k5]) rfl ⟨rfl,?_⟩
    repeat (first | exact uH GR | refine yA ?_ _ | refine Below.drew ?_ | refine yC ?_ _ _ _ (by omega))
  ·by_cases hy:uy<dy
   ·
    obtain rfl:zx=0:=by rw [←uH Ww];exact qM (by omega) n0
    rw [←qL hy,uH Wv] at L2
    go_wp2_with fail
    refine (uH L2 _).mono ?_
    rintro e wq ⟨rfl,rfl⟩
    go_wp2
    refine bodyPost_ret (v:=rv 0 zy) (by simp [results,Tryz.results13,go_sem,k4,k5]) rfl ⟨rfl,?_⟩
    repeat (first | exact uH GR | refine yA ?_ _ | refine Below.drew ?_ | refine yC ?_ _ _ _ (by omega))
   ·
    obtain rfl:zx=0:=by rw [←uH Ww];exact qM (by omega) n0
    obtain rfl:zy=0:=by rw [←uH Wv];exact qM (by omega) n2
    go_wp2
    refine bodyPost_ret (v:=rv 0 0) (by simp [results,Tryz.results13,go_sem,k4,k5]) rfl ⟨rfl,?_⟩
    repeat (first | exact uH GR | refine yA ?_ _ | refine Below.drew ?_ | refine yC ?_ _ _ _ (by omega))
end
end Go.Proofs.YtngkddhcmfbjnaaGreat
