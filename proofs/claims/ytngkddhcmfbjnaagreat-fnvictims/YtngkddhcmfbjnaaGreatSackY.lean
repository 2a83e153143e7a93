/-
  Texts in one: OfQD, StdS, OrdV, OverI.
-/
import Derived.Test.YtngkddhcmfbjnaaGreatSackW
import Derived.Test.YtngkddhcmfbjnaaGreatSackO
import Derived.Test.YtngkddhcmfbjnaaGreatSackV
set_option maxRecDepth 100000
set_option maxHeartbeats 16000000
set_option linter.unusedVariables false
set_option linter.unusedSimpArgs false
namespace Go.Proofs.YtngkddhcmfbjnaaGreat
section
open Go.RowKit
theorem aHX (w:World) (q:Q) :
  cP 95 #[qv q] w fun e w'=>e=.returned (.int .i64 (dV false q))∧Bw w w':=by
 go_enter Tryz.func95,Tryz.ntmps95
 go_wp2
 go_ret
 exact ⟨rfl,yA (yH _ _) _⟩
theorem kF (ao:Option Addr) (len cap:Nat) (l:List Q) (nm:List UInt8) (a b:Int) (w:World) (h:gJ w ao len l) (hl:len≤1048576) (hn:∀q ∈ l,q.name.length≤1048576) (hc:len≤cap) :
  cP 40 #[.slice ao len cap,.string (bs nm),rv a b] w fun e w'=>e=.returned (rv (ofR l nm a b false).1 (ofR l nm a b false).2)∧Bw w w':=by
 have KQ:∀(fn:Fn) (first cap:Array Value) (w:World),(Instr.makeFunc fn first cap).run Tryz.prog w=.ok (.func fn first cap) w:=fun _ _ _ _=>rfl
 have HB0:=aA (yA (yA (yH _ w) (.cells #[.int .i64 a,.int .i64 b] 37)) (.cells #[.int .i64 0,.int .i64 0] 37))
 have GI:=aA (jK w 37 37 a b 0 0)
 have C:=aA (aFU 95 (enters_of Tryz.func95 (by kernel_rfl) rfl) false (fun wx q=>aHX wx q) ao len cap l nm a b _ (h.below (uH HB0)) hl hn hc)
 obtain ⟨⟨x,y⟩,hxy⟩:∃p,ofR l nm a b false=p:=⟨_,rfl⟩
 rw [hxy] at C ⊢
 clear hxy h hn
 go_enter Tryz.func40,Tryz.ntmps40
 go_wp2_with fail
 refine (uH C).mono ?_
 rintro e w1 ⟨rfl,hb⟩
 have V2:=(uH GI).below hb
 have k0:=V2.c0
 have k1:=V2.c1
 have k2:=V2.f 0
 have k3:=V2.f 1
 have k4:=V2.s0 (.int .i64 x)
 have k5:=V2.s1 (.int .i64 x) (.int .i64 y)
 have HB:=aA (yB (uH HB0) hb)
 clear hb V2 GI HB0 C
 go_wp2
 refine bodyPost_ret (v:=rv x y) (by simp [results,Tryz.results40,go_sem,k4,k5]) rfl ⟨rfl,?_⟩
 repeat (first | exact uH HB | refine yA ?_ _ | refine Below.drew ?_ | refine yC ?_ _ _ _ (by omega))
end
section
open Go.RowKit Go.Maps
def aAw (s:St) (nm:List UInt8):SE:=(nm,(aL s nm).1,(aL s nm).2,(iO s nm).1,(iO s nm).2)
def SB (w:World) (c:Array Value) (wx:World):Prop:=Blk wx w.heap.size c 29∧Bw w wx
theorem SB.call {w wx wy:World} {c:Array Value} (h:SB w c wx) (hb:Bw wx wy):SB w c wy:=⟨h.1.below hb,yB h.2 hb⟩
theorem zT (x:Sls) (s:St) (nm:List UInt8) (w:World) (h:gU w x s) (hf:dI s) (hc:x.ql≤x.qc) (hw:aAF s) :
  cP 140 #[sv x s,.string (bs nm)] w fun e w'=>e=.returned (stv (aAw s nm))∧Bw w w':=by
 have GJ:x.ql≤1048576:=h.ql hf
 have GN:x.ml≤1048576:=h.ml hf
 have CT:=aA (fun wx (hb:Bw w wx)=>show cP 41 #[sv x s] wx (fun e w'=>e=.returned (rv (bC s).1 (bC s).2)∧Bw wx w') from kE x s wx (h.2.2.1.below hb) GN)
 have CD:=aA (fun wx (hb:Bw w wx)=>show cP 40 #[.slice x.qa x.ql x.qc,.string (bs nm),rv (bC s).1 (bC s).2] wx (fun e w'=>e=.returned (rv (iO s nm).1 (iO s nm).2)∧Bw wx w') from kF x.qa x.ql x.qc s.qs nm (bC s).1 (bC s).2 wx (h.1.below hb) GJ (fun q hq=>(hf.1.2 q hq).1) hc)
 have CU:=aA (fun wx (hb:Bw w wx)=>jN x s nm wx (h.below hb) hf hc hw)
 obtain ⟨⟨tx,ty⟩,ht⟩:∃t,bC s=t:=⟨_,rfl⟩
 obtain ⟨⟨dx,dy⟩,hd⟩:∃t,iO s nm=t:=⟨_,rfl⟩
 obtain ⟨⟨ux,uy⟩,hu⟩:∃t,aL s nm=t:=⟨_,rfl⟩
 have HO:aAw s nm=(nm,ux,uy,dx,dy):=by rw [aAw,hd,hu]
 rw [HO]
 rw [ht] at CT
 rw [ht,hd] at CD
 rw [hu] at CU
 clear h hf hc hw ht hd hu HO
 obtain ⟨qa,ql,qc,aa,al,ac,ma,ml,mc,ca,cl,cc⟩:=x
 obtain ⟨qs,cv,ez,nv,sj,aj,ms,cs⟩:=s
 simp only at CT CD CU GJ GN
 have hb0:=(yA (yA (yH _ w) (.cells (svc ⟨qa,ql,qc,aa,al,ac,ma,ml,mc,ca,cl,cc⟩ ⟨qs,cv,ez,nv,sj,aj,ms,cs⟩) 29)) (.cells #[.string ⟨#[]⟩,.int .i64 0,.int .i64 0,.int .i64 0,.int .i64 0] 164)).drew
 have SS0:=aA (show SB w (svc ⟨qa,ql,qc,aa,al,ac,ma,ml,mc,ca,cl,cc⟩ ⟨qs,cv,ez,nv,sj,aj,ms,cs⟩) _ from ⟨((yD w (svc ⟨qa,ql,qc,aa,al,ac,ma,ml,mc,ca,cl,cc⟩ ⟨qs,cv,ez,nv,sj,aj,ms,cs⟩) 29).al (.cells #[.string ⟨#[]⟩,.int .i64 0,.int .i64 0,.int .i64 0,.int .i64 0] 164)).drew,hb0⟩)
 have V0:=aA (show Blk ((w.alloc (.cells (svc ⟨qa,ql,qc,aa,al,ac,ma,ml,mc,ca,cl,cc⟩ ⟨qs,cv,ez,nv,sj,aj,ms,cs⟩) 29)).alloc (.cells #[.string ⟨#[]⟩,.int .i64 0,.int .i64 0,.int .i64 0,.int .i64 0] 164)).drew (w.heap.size+1) #[.string ⟨#[]⟩,.int .i64 0,.int .i64 0,.int .i64 0,.int .i64 0] 164 from by have:=yD (w.alloc (.cells (svc ⟨qa,ql,qc,aa,al,ac,ma,ml,mc,ca,cl,cc⟩ ⟨qs,cv,ez,nv,sj,aj,ms,cs⟩) 29)) #[.string ⟨#[]⟩,.int .i64 0,.int .i64 0,.int .i64 0,.int .i64 0] 164;rw [yE] at this;exact this.drew)
 have R:∀wx,SB w (svc ⟨qa,ql,qc,aa,al,ac,ma,ml,mc,ca,cl,cc⟩ ⟨qs,cv,ez,nv,sj,aj,ms,cs⟩) wx→wx.cell? ⟨w.heap.size,0,none⟩=some (.slice qa ql qc)∧wx.cell? ⟨w.heap.size,1,none⟩=some (.int .i64 cv)∧wx.cell? ⟨w.heap.size,2,none⟩=some (.int .i64 ez)∧wx.cell? ⟨w.heap.size,3,none⟩=some (.int .i64 nv)∧wx.cell? ⟨w.heap.size,4,none⟩=some (.int .i64 sj)∧wx.cell? ⟨w.heap.size,5,none⟩=some (.slice aa al ac)∧wx.cell? ⟨w.heap.size,6,none⟩=some (.slice ma ml mc)∧wx.cell? ⟨w.heap.size,7,none⟩=some (.slice ca cl cc):=fun wx h=>by
  have a0:=h.1.at 0;have a1:=h.1.at 1;have a2:=h.1.at 2;have a3:=h.1.at 3;have a4:=h.1.at 4;have a5:=h.1.at 5;have a6:=h.1.at 6;have a7:=h.1.at 7
  simp at a0 a1 a2 a3 a4 a5 a6 a7
  exact ⟨a0,a1,a2,a3,a4,a5,a6,a7⟩
 clear hb0
 go_enter Tryz.func140,Tryz.ntmps140
 go_wp2_with fail
 refine wp_region_held_drew (S:=SB w (svc ⟨qa,ql,qc,aa,al,ac,ma,ml,mc,ca,cl,cc⟩ ⟨qs,cv,ez,nv,sj,aj,ms,cs⟩)) (by kernel_rfl) (uH SS0) (fun S0=>?_)
 refine tW 0 5 _ S0 ?_
 simp only [zW]
 refine tW 1 6 _ S0 ?_
 simp only [zW]
 refine tW 2 7 _ S0 ?_
 simp only [zW]
 refine tW 4 9 _ S0 ?_
 simp only [zW]
 refine tW 5 10 _ S0 ?_
 simp only [zW]
 refine tW 6 11 _ S0 ?_
 simp only [zW]
 refine tW 7 12 _ S0 ?_
 simp only [zW]
 refine yRq 3 rfl (fun K hK=>?_)
 go_simp
 refine (uH CU _ S0.2).mono ?_
 rintro e w1 ⟨rfl,hb⟩
 have S1:=SB.call S0 hb
 have V1:=aA ((uH V0).below hb)
 clear hb V0
 go_wp2_with fail
 refine hK.out _ _ S1 (fun S0=>?_)
 clear hK K S1
 try simp only [zW]
 refine yRq 8 rfl (fun K hK=>?_)
 go_simp
 refine (uH CT _ S0.2).mono ?_
 rintro e w2 ⟨rfl,hb⟩
 have S1:=SB.call S0 hb
 have V2:=aA ((uH V1).below hb)
 clear hb V1
 go_wp2_with fail
 refine hK.out _ _ S1 (fun S0=>?_)
 clear hK K S1
 try simp only [zW]
 refine yRq 9 rfl (fun K hK=>?_)
 go_simp
 refine (uH CD _ S0.2).mono ?_
 rintro e w3 ⟨rfl,hb⟩
 have S1:=SB.call S0 hb
 have V3:=aA ((uH V2).below hb)
 clear hb V2
 go_wp2_with fail
 refine hK.out _ _ S1 (fun S0=>?_)
 clear hK K S1
 try simp only [zW]
 refine tW 10 15 _ S0 ?_
 simp only [zW]
 refine tW 11 16 _ S0 ?_
 simp only [zW]
 refine yRq 12 rfl (fun K hK=>?_)
 have bw:=uH V3
 obtain ⟨c0,c1,c2,c3,c4⟩:=zp bw
 have f0:=bw.f 0;have f1:=bw.f 1;have f2:=bw.f 2;have f3:=bw.f 3;have f4:=bw.f 4
 have bz:=((((bw.set 0 (.string (bs nm))).set 1 (.int .i64 ux)).set 2 (.int .i64 uy)).set 3 (.int .i64 dx)).set 4 (.int .i64 dy)
 obtain ⟨z0,z1,z2,z3,z4⟩:=zp bz
 have hn:w.heap.size≠w.heap.size+1:=by omega
 have S1:SB w (svc ⟨qa,ql,qc,aa,al,ac,ma,ml,mc,ca,cl,cc⟩ ⟨qs,cv,ez,nv,sj,aj,ms,cs⟩) (((((w3.setCell ⟨w.heap.size+1,0,none⟩ (.string (bs nm))).setCell ⟨w.heap.size+1,1,none⟩ (.int .i64 ux)).setCell ⟨w.heap.size+1,2,none⟩ (.int .i64 uy)).setCell ⟨w.heap.size+1,3,none⟩ (.int .i64 dx)).setCell ⟨w.heap.size+1,4,none⟩ (.int .i64 dy)):=⟨((((S0.1.other _ _ _ hn).other _ _ _ hn).other _ _ _ hn).other _ _ _ hn).other _ _ _ hn,yC (yC (yC (yC (yC S0.2 _ _ _ (by omega)) _ _ _ (by omega)) _ _ _ (by omega)) _ _ _ (by omega)) _ _ _ (by omega)⟩
 clear bw bz V3
 go_simp
 go_wp2_with fail
 refine hK.out _ _ S1 (fun S0=>?_)
 clear hK K
 try simp only [zW]
 refine wpAnyH_done (by kernel_rfl) ?_ _
 have HB:=aA S1.2
 clear S1 S0 R CU CT CD SS0
 go_wp2
 refine bodyPost_ret (v:=stv (nm,ux,uy,dx,dy)) (by simp [results,Tryz.results140,go_sem,z0,z1,z2,z3,z4]) rfl ⟨rfl,uH HB⟩
end
section
open Go.RowKit
variable {k:Nat}
theorem aGu {a b c d:Int} (h:less a b c d=true):less c d a b=false:=by
 unfold less at *
 by_cases b0:b=0
 ·simp [b0] at h
 ·by_cases d0:d=0
  ·simp [d0]
  ·simp only [b0,d0,if_false,yL] at h ⊢
   simp only [decide_eq_false_iff_not]
   omega
theorem aI9 (a b:Int):less a b a b=false:=by
 unfold less
 by_cases b0:b=0
 ·simp [b0]
 ·simp [b0]
theorem nY:OrdM.Weak aKb where
 irr:=fun a=>aI9 _ _
 asym:=fun a b h=>aGu h
 ntrans:=fun a b c h k=>aDa (kN ..).2 (kN ..).2 (kN ..).2 h k
theorem sQ:OrdM.Names Op.bytesLess where
 irr:=zD
 trans:=qX
 tri:=aEw
def leS (x y:SE):Prop:=gT y x=false
theorem aC1:HeapM.Order leS where
 trans:=fun x y z h k=>OrdM.ahead_ntrans nY sQ h k
 total:=fun x y=>by
  cases h:gT y x with
  | false=>exact .inl h
  | true=>exact .inr (OrdM.ahead_asym nY sQ h)
theorem aKe:∀x y,gT x y=true→leS x y:=fun x y h=>OrdM.ahead_asym nY sQ h
theorem aKd:∀x y,gT x y=false→leS y x:=fun x y h=>h
def aCu (s:St) (a b:List UInt8):Bool:=gT (aAw s a) (aAw s b)
theorem aH9 (s:St) (a b:List UInt8) (h:aCu s a b=true):aCu s b a=false:=OrdM.ahead_asym nY sQ h
theorem aDw (s:St) (a b c:List UInt8) (h:aCu s b a=false) (k:aCu s c b=false):aCu s c a=false:=OrdM.ahead_ntrans nY sQ h k
theorem aHa (s:St) (a b:List UInt8) (h:aCu s b a=false) (k:aCu s a b=false):a=b:=OrdM.ahead_anti (x:=aAw s a) (y:=aAw s b) nY sQ h k
def aJr (p:List UInt8→List UInt8→Bool) (l:List (List UInt8)) (o:List (List UInt8)):List (List UInt8):=l.foldl (fun o x=>OrdM.ins p x o) o
theorem aCa (p:List UInt8→List UInt8→Bool):∀(l o:List (List UInt8)),(aJr p l o).Perm (l++o)
 | [],o=>List.Perm.refl _
 | x::t,o=>by
  refine (aCa p t (OrdM.ins p x o)).trans ?_
  refine (List.Perm.append_left t (OrdM.ins_perm _ x o)).trans ?_
  exact List.perm_middle
theorem xY {p:List UInt8→List UInt8→Bool} (asym:∀a b,p a b=true→p b a=false) (nt:∀a b c,p b a=false→p c b=false→p c a=false):∀(l o:List (List UInt8)),HeapM.Sorted (fun a b=>p b a=false) o→HeapM.Sorted (fun a b=>p b a=false) (aJr p l o)
 | [],o,h=>h
 | x::t,o,h=>xY asym nt t _ (OrdM.ins_sorted asym nt x o h)
theorem aHI (p:List UInt8→List UInt8→Bool) (l:List (List UInt8)) (x:List UInt8):aJr p (l++[x]) []=OrdM.ins p x (aJr p l []):=by
 rw [aJr,List.foldl_append];rfl
def gM (s:St):List (List UInt8):=aJr (aCu s) (dG s.qs) []
theorem pF (s:St):(gM s).Perm (dG s.qs):=by
 have:=aCa (aCu s) (dG s.qs) []
 rw [List.append_nil] at this
 exact this
theorem aCN (s:St) (N:List (List UInt8)) (h:HeapM.Sorted (fun a b=>aCu s b a=false) N) (hp:N.Perm (dG s.qs)):N=gM s:=
 HeapM.sorted_unique (aHa s) _ _ h (xY (aH9 s) (aDw s) _ _ trivial) (hp.trans (pF s).symm)
theorem aAN (s:St):∀P:List SE,(∀x ∈ P,x=aAw s x.1)→HeapM.Sorted leS P→HeapM.Sorted (fun a b=>aCu s b a=false) (P.map Prod.fst)
 | [],_,_=>trivial
 | x::t,hx,h=>⟨fun y hy=>by
   obtain ⟨z,hz,rfl⟩:=List.mem_map.1 hy
   have h1:=h.1 z hz
   unfold leS at h1
   rw [hx x (by simp),hx z (by simp [hz])] at h1
   exact h1,aAN s t (fun z hz=>hx z (by simp [hz])) h.2⟩
theorem aD0 (s:St) (P:List SE) (h:HeapM.Sorted leS P) (hp:P.Perm ((dG s.qs).map (aAw s))):P.map Prod.fst=gM s:=by
 refine aCN s _ (aAN s P (fun x hx=>?_) h) ?_
 ·obtain ⟨n,_,rfl⟩:=List.mem_map.1 (hp.subset hx)
  rfl
 ·have:=hp.map Prod.fst
  rw [List.map_map] at this
  have e:(Prod.fst ∘ aAw s)=id:=by funext n;rfl
  rw [e,List.map_id] at this
  exact this
def uF (s:St) (k:Nat):List (List UInt8):=aJr (aCu s) (((s.qs.take k).map Q.name).filter (oI s.qs)) []
theorem aFX (s:St) (h:s.qs.length≤k):uF s k=gM s:=by
 rw [uF,List.take_of_length_le h];rfl
theorem aD1 (s:St) (h:k<s.qs.length):uF s (k+1)=if oI s.qs s.qs[k].name=true then OrdM.ins (aCu s) s.qs[k].name (uF s k) else uF s k:=by
 rw [uF,List.take_succ_eq_append_getElem h,List.map_append,List.filter_append]
 cases hb:oI s.qs s.qs[k].name with
 | true=>
  rw [if_pos rfl]
  simp only [List.map_cons,List.map_nil,List.filter_cons,hb,if_true,List.filter_nil]
  rw [aHI];rfl
 | false=>
  rw [if_neg (by simp)]
  simp only [List.map_cons,List.map_nil,List.filter_cons,hb,List.filter_nil]
  rw [if_neg (by simp),List.append_nil];rfl
theorem aJ3 (s:St) (nm:List UInt8):Wf4 (aAw s nm).2.1 (aAw s nm).2.2.1 (aAw s nm).2.2.2.1 (aAw s nm).2.2.2.2:=by
 have h1:=eF (wK s nm)
 have h2:=eF (aCj s nm)
 have w:∀x:Int,jH x→(Lit.int .i64 x).wf=true:=fun x hx=>by
  obtain ⟨a,b⟩:=hx
  have h1:(-9223372036854775808:Int)≤x:=by omega
  have h2:x≤9223372036854775807:=by omega
  simp only [Lit.wf,yK,yL]
  exact ⟨h1,h2⟩
 exact ⟨w _ h1.1,w _ h1.2,w _ h2.1,w _ h2.2⟩
end
section
open Go.RowKit Go.Maps
theorem kX (x:Sls) (s:St) (nm:List UInt8) (w:World) (h:gU w x s) (hf:dI s) (hc:x.ql≤x.qc) (hw:aAF s) :
  cP 10 #[sv x s,.string (bs nm)] w fun e w'=>e=.returned (.bool (iM s nm))∧Bw w w':=by
 have GJ:x.ql≤1048576:=h.ql hf
 have GN:x.ml≤1048576:=h.ml hf
 have CL:=aA (fun wx (hb:Bw w wx)=>uP x.qa x.ql x.qc s.qs nm wx (h.1.below hb) GJ (fun q hq=>(hf.1.2 q hq).1) hc)
 have CT:=aA (fun wx (hb:Bw w wx)=>kE x s wx (h.2.2.1.below hb) GN)
 have CD:=aA (fun wx (hb:Bw w wx)=>show cP 40 #[.slice x.qa x.ql x.qc,.string (bs nm),rv (bC s).1 (bC s).2] wx (fun e w'=>e=.returned (rv (iO s nm).1 (iO s nm).2)∧Bw wx w') from kF x.qa x.ql x.qc s.qs nm (bC s).1 (bC s).2 wx (h.1.below hb) GJ (fun q hq=>(hf.1.2 q hq).1) hc)
 have CU:=aA (fun wx (hb:Bw w wx)=>jN x s nm wx (h.below hb) hf hc hw)
 obtain ⟨lf,hlf⟩:∃b,oI s.qs nm=b:=⟨_,rfl⟩
 obtain ⟨⟨tx,ty⟩,ht⟩:∃t,bC s=t:=⟨_,rfl⟩
 obtain ⟨⟨dx,dy⟩,hd⟩:∃t,iO s nm=t:=⟨_,rfl⟩
 obtain ⟨⟨ux,uy⟩,hu⟩:∃t,aL s nm=t:=⟨_,rfl⟩
 obtain ⟨wi,Gv⟩:∃b,within ux uy dx dy=b:=⟨_,rfl⟩
 have CW:=aA (fun wx=>by have:=fH ux uy dx dy wx;rw [Gv] at this;exact this)
 have HO:iM s nm=(lf&&!wi):=by simp only [iM,hlf,hu,hd,Gv]
 rw [HO]
 rw [show (iL (aT s.ms)).1=tx from congrArg Prod.fst ht,show (iL (aT s.ms)).2.1=ty from congrArg Prod.snd ht] at CT
 rw [hlf] at CL
 rw [ht,hd] at CD
 rw [hu] at CU
 simp only at CD CU
 clear h hf hc hw hlf ht hd hu Gv HO
 obtain ⟨qa,ql,qc,aa,al,ac,ma,ml,mc,ca,cl,cc⟩:=x
 obtain ⟨qs,cv,ez,nv,sj,aj,ms,cs⟩:=s
 simp only at CL CT CD CU GJ GN
 have HB0:=aA (gG w (svc ⟨qa,ql,qc,aa,al,ac,ma,ml,mc,ca,cl,cc⟩ ⟨qs,cv,ez,nv,sj,aj,ms,cs⟩))
 have P0:=aA (eB w (svc ⟨qa,ql,qc,aa,al,ac,ma,ml,mc,ca,cl,cc⟩ ⟨qs,cv,ez,nv,sj,aj,ms,cs⟩))
 obtain ⟨q0,q1,q2,q3,q4,q5,q6,q7⟩:_∧_∧_∧_∧_∧_∧_∧_:=⟨(uH P0).at 0,(uH P0).at 1,(uH P0).at 2,(uH P0).at 3,(uH P0).at 4,(uH P0).at 5,(uH P0).at 6,(uH P0).at 7⟩
 simp at q0 q1 q2 q3 q4 q5 q6 q7
 obtain ⟨W0,hW0⟩:∃W,o5 w (svc ⟨qa,ql,qc,aa,al,ac,ma,ml,mc,ca,cl,cc⟩ ⟨qs,cv,ez,nv,sj,aj,ms,cs⟩)=W:=⟨_,rfl⟩
 rw [hW0] at HB0 q0 q1 q2 q3 q4 q5 q6 q7
 have R:∀wx,Kp W0 wx→wx.cell? ⟨w.heap.size,0,none⟩=some (.slice qa ql qc)∧wx.cell? ⟨w.heap.size,1,none⟩=some (.int .i64 cv)∧wx.cell? ⟨w.heap.size,2,none⟩=some (.int .i64 ez)∧wx.cell? ⟨w.heap.size,3,none⟩=some (.int .i64 nv)∧wx.cell? ⟨w.heap.size,4,none⟩=some (.int .i64 sj)∧wx.cell? ⟨w.heap.size,5,none⟩=some (.slice aa al ac)∧wx.cell? ⟨w.heap.size,6,none⟩=some (.slice ma ml mc)∧wx.cell? ⟨w.heap.size,7,none⟩=some (.slice ca cl cc):=fun wx h=>
  ⟨h.cell q0,h.cell q1,h.cell q2,h.cell q3,h.cell q4,h.cell q5,h.cell q6,h.cell q7⟩
 have A0:=aA (Kp.new W0)
 have HS:=aA (aK W0)
 clear q0 q1 q2 q3 q4 q5 q6 q7 P0
 go_enter Tryz.func10,Tryz.ntmps10
 go_wp2_with fail
 change Code.wp _ _ _ _ (o5 w (svc ⟨qa,ql,qc,aa,al,ac,ma,ml,mc,ca,cl,cc⟩ ⟨qs,cv,ez,nv,sj,aj,ms,cs⟩))
 rw [hW0]
 clear hW0
 cases lf
 case true=>
  go_region_held3 (fun wx=>Kp W0 wx)
   (first | (with_reducible assumption) | exact uH SA | exact (uH HS).drew (uH A0) | exact (uH HS).call (by assumption) (by assumption))
   (first
   | (go_at_call 38;refine (uH CL _ ?_).mono ?_;(exact yB (uH HB0) ((uH HS).below (by assumption)));rintro e wt ⟨rfl,hb⟩;have SA:=aA ((uH HS).call (by assumption) hb))
   | (go_at_call 39;refine (uH CU _ ?_).mono ?_;(exact yB (uH HB0) ((uH HS).below (by assumption)));rintro e wt ⟨rfl,hb⟩;have SA:=aA ((uH HS).call (by assumption) hb))
   | (go_at_call 41;refine (uH CT _ ?_).mono ?_;(exact yB (uH HB0) ((uH HS).below (by assumption)));rintro e wt ⟨rfl,hb⟩;have SA:=aA ((uH HS).call (by assumption) hb))
   | (go_at_call 40;refine (uH CD _ ?_).mono ?_;(exact yB (uH HB0) ((uH HS).below (by assumption)));rintro e wt ⟨rfl,hb⟩;have SA:=aA ((uH HS).call (by assumption) hb))
   | (go_at_call 18;refine (uH CW _).mono ?_;rintro e wt ⟨rfl,hb⟩;have SA:=aA ((uH HS).call (by assumption) hb)))
  all_goals
   have GM:=aA (yB (uH HB0) ((uH HS).below (by first | exact uH SA | assumption)))
   go_wp2
   go_ret
   exact ⟨rfl,uH GM⟩
 case false=>
  refine wp_region_held_drew (S:=fun wx=>Kp W0 wx) (by kernel_rfl) ((uH HS).drew (uH A0)) (fun S0=>?_)
  refine mP (i:=0) (d:=some 5) (v:=.pointer (some ⟨w.heap.size,0,none⟩)) rfl rfl (by kernel_rfl) (by kernel_rfl) (by kernel_rfl) (fun _ _ _ h=>h) (Or.inl ⟨by rfl,fun wz hz=>by go_simp⟩) S0 ?_
  try simp only [zW]
  refine mP (i:=1) (d:=some 6) (v:=.slice qa ql qc) rfl rfl (by kernel_rfl) (by kernel_rfl) (by kernel_rfl) (fun _ _ _ h=>h) (Or.inl ⟨by rfl,fun wz hz=>by obtain ⟨r0,_⟩:=R wz hz;go_simp⟩) S0 ?_
  try simp only [zW]
  refine mP (i:=2) (d:=some 7) (v:=.string (bs nm)) rfl rfl (by kernel_rfl) (by kernel_rfl) (by kernel_rfl) (fun _ _ _ h=>h) (Or.inl ⟨by rfl,fun wz hz=>by go_simp⟩) S0 ?_
  try simp only [zW]
  refine yRq 3 rfl (fun K hK=>?_)
  go_simp
  refine (uH CL _ (yB (uH HB0) ((uH HS).below S0))).mono ?_
  rintro e wt ⟨rfl,hb⟩
  have S1:=(uH HS).call S0 hb
  go_wp2_with fail
  refine hK.out _ _ S1 (fun S0=>?_)
  clear hK K
  refine mP (i:=4) (d:=some 9) (v:=.bool false) rfl rfl (by kernel_rfl) (by kernel_rfl) (by kernel_rfl) (fun _ _ _ h=>h) (Or.inl ⟨by rfl,fun wz hz=>by go_simp⟩) S0 ?_
  try simp only [zW]
  refine tU 5 10 S0 ?_
  simp only [zW]
  refine tU 6 11 S0 ?_
  simp only [zW]
  refine tU 7 12 S0 ?_
  simp only [zW]
  refine tU 8 13 S0 ?_
  simp only [zW]
  refine tU 9 14 S0 ?_
  simp only [zW]
  refine tU 10 15 S0 ?_
  simp only [zW]
  refine tU 11 16 S0 ?_
  simp only [zW]
  refine tU 12 17 S0 ?_
  simp only [zW]
  refine tU 13 18 S0 ?_
  simp only [zW]
  refine tU 14 19 S0 ?_
  simp only [zW]
  refine tU 15 20 S0 ?_
  simp only [zW]
  refine mP (i:=16) (d:=some 21) (v:=.bool false) rfl rfl (by kernel_rfl) (by kernel_rfl) (by kernel_rfl) (fun _ _ _ h=>h) (Or.inl ⟨by rfl,fun wz hz=>by go_simp⟩) S0 ?_
  try simp only [zW]
  refine mP (i:=17) (d:=some 4) (v:=.bool false) rfl rfl (by kernel_rfl) (by kernel_rfl) (by kernel_rfl) (fun _ _ _ h=>h) (Or.inl ⟨by rfl,fun wz hz=>by go_simp⟩) S0 ?_
  try simp only [zW]
  refine wpAnyH_done (by kernel_rfl) ?_ _
  have GM:=aA (yB (uH HB0) ((uH HS).below S0))
  go_wp2
  go_ret
  exact ⟨rfl,uH GM⟩
end
end Go.Proofs.YtngkddhcmfbjnaaGreat
