/-
  bI in one: OfQD, StdS, OrdV, GrantM, OrdI.
-/
import Derived.Test.YtdhibeclkdepiaaGreatPackAE
import Derived.Test.YtdhibeclkdepiaaGreatPackX
set_option maxRecDepth 100000
set_option maxHeartbeats 16000000
set_option linter.unusedVariables false
set_option linter.unusedSimpArgs false
namespace Go.Proofs.YtdhibeclkdepiaaGreat
section
open Go.RowKit
theorem aGw (w:World) (q:Q) :
  Calls Tryz.prog 204 #[qv q] w fun e w'=>e=.returned (.int .i64 (cK false q))∧Below w.heap.size w w':=by
 go_enter Tryz.func204,Tryz.ntmps204
 go_wp2
 go_ret
 exact ⟨rfl,yA (Below.refl _ _) _⟩
theorem aAb (ao:Option Addr) (len cap:Nat) (l:List Q) (nm:List UInt8) (a b:Int) (w:World) (h:gM w ao len l) (hl:len≤1048576) (hn:∀q ∈ l,q.name.length≤1048576) (hc:len≤cap) :
  Calls Tryz.prog 192 #[.slice ao len cap,.string (bs nm),rv a b] w fun e w'=>e=.returned (rv (ofR l nm a b false).1 (ofR l nm a b false).2)∧Below w.heap.size w w':=by
 have hmf:∀(fn:Fn) (first cap:Array Value) (w:World),(Instr.makeFunc fn first cap).run Tryz.prog w=.ok (.func fn first cap) w:=fun _ _ _ _=>rfl
 have HB0:=aA (yA (yA (Below.refl _ w) (.cells #[.int .i64 a,.int .i64 b] 36)) (.cells #[.int .i64 0,.int .i64 0] 36))
 have HV2:=aA (fJ w 36 36 a b 0 0)
 have C:=aA (yY 204 (enters_of Tryz.func204 (by kernel_rfl) rfl) false (fun wx q=>aGw wx q) ao len cap l nm a b _ (h.below (uH HB0)) hl hn hc)
 obtain ⟨⟨x,y⟩,hxy⟩:∃p,ofR l nm a b false=p:=⟨_,rfl⟩
 rw [hxy] at C ⊢
 clear hxy h hn
 go_enter Tryz.func192,Tryz.ntmps192
 go_wp2_with fail
 refine (uH C).mono ?_
 rintro e w1 ⟨rfl,hb⟩
 have V2:=(uH HV2).below hb
 have k0:=V2.c0
 have k1:=V2.c1
 have k2:=V2.f 0
 have k3:=V2.f 1
 have k4:=V2.s0 (.int .i64 x)
 have k5:=V2.s1 (.int .i64 x) (.int .i64 y)
 have HB:=aA (yB (uH HB0) hb)
 clear hb V2 HV2 HB0 C
 go_wp2
 refine bodyPost_ret (v:=rv x y) (by simp [results,Tryz.results192,go_sem,k4,k5]) rfl ⟨rfl,?_⟩
 repeat (first | exact uH HB | refine yA ?_ _ | refine Below.drew ?_ | refine yC ?_ _ _ _ (by omega))
end
section
open Go.RowKit Go.Maps
def aAK (s:St) (nm:List UInt8):SE:=(nm,(aL s nm).1,(aL s nm).2,(aAf s nm).1,(aAf s nm).2)
def SB (w:World) (c:Array Value) (wx:World):Prop:=Blk wx w.heap.size c 34∧Below w.heap.size w wx
theorem SB.call {w wx wy:World} {c:Array Value} (h:SB w c wx) (hb:Below wx.heap.size wx wy):SB w c wy:=⟨h.1.below hb,yB h.2 hb⟩
theorem wX (x:Sls) (s:St) (nm:List UInt8) (w:World) (h:iJ w x s) (hf:bS s) (hc:x.ql≤x.qc) (hw:aEP s) :
  Calls Tryz.prog 170 #[sv x s,.string (bs nm)] w fun e w'=>e=.returned (stv (aAK s nm))∧Below w.heap.size w w':=by
 have hql:x.ql≤1048576:=h.ql hf
 have hml:x.ml≤1048576:=h.ml hf
 have CT:=aA (fun wx (hb:Below w.heap.size w wx)=>show Calls Tryz.prog 174 #[sv x s] wx (fun e w'=>e=.returned (rv (dM s).1 (dM s).2)∧Below wx.heap.size wx w') from pV x s wx (h.2.2.1.below hb) hml)
 have CD:=aA (fun wx (hb:Below w.heap.size w wx)=>show Calls Tryz.prog 192 #[.slice x.qa x.ql x.qc,.string (bs nm),rv (dM s).1 (dM s).2] wx (fun e w'=>e=.returned (rv (aAf s nm).1 (aAf s nm).2)∧Below wx.heap.size wx w') from aAb x.qa x.ql x.qc s.qs nm (dM s).1 (dM s).2 wx (h.1.below hb) hql (fun q hq=>(hf.1.2 q hq).1) hc)
 have CU:=aA (fun wx (hb:Below w.heap.size w wx)=>nV x s nm wx (h.below hb) hf hc hw)
 obtain ⟨⟨tx,ty⟩,ht⟩:∃t,dM s=t:=⟨_,rfl⟩
 obtain ⟨⟨dx,dy⟩,hd⟩:∃t,aAf s nm=t:=⟨_,rfl⟩
 obtain ⟨⟨ux,uy⟩,hu⟩:∃t,aL s nm=t:=⟨_,rfl⟩
 have HO:aAK s nm=(nm,ux,uy,dx,dy):=by rw [aAK,hd,hu]
 rw [HO]
 rw [ht] at CT
 rw [ht,hd] at CD
 rw [hu] at CU
 clear h hf hc hw ht hd hu HO
 obtain ⟨qa,ql,qc,aa,al,ac,ma,ml,mc,ca,cl,cc⟩:=x
 obtain ⟨qs,clock,epoch,next,serial,apps,ms,cs⟩:=s
 simp only at CT CD CU hql hml
 have hb0:=(yA (yA (Below.refl _ w) (.cells (svc ⟨qa,ql,qc,aa,al,ac,ma,ml,mc,ca,cl,cc⟩ ⟨qs,clock,epoch,next,serial,apps,ms,cs⟩) 34)) (.cells #[.string ⟨#[]⟩,.int .i64 0,.int .i64 0,.int .i64 0,.int .i64 0] 209)).drew
 have SS0:=aA (show SB w (svc ⟨qa,ql,qc,aa,al,ac,ma,ml,mc,ca,cl,cc⟩ ⟨qs,clock,epoch,next,serial,apps,ms,cs⟩) _ from ⟨((yD w (svc ⟨qa,ql,qc,aa,al,ac,ma,ml,mc,ca,cl,cc⟩ ⟨qs,clock,epoch,next,serial,apps,ms,cs⟩) 34).al (.cells #[.string ⟨#[]⟩,.int .i64 0,.int .i64 0,.int .i64 0,.int .i64 0] 209)).drew,hb0⟩)
 have V0:=aA (show Blk ((w.alloc (.cells (svc ⟨qa,ql,qc,aa,al,ac,ma,ml,mc,ca,cl,cc⟩ ⟨qs,clock,epoch,next,serial,apps,ms,cs⟩) 34)).alloc (.cells #[.string ⟨#[]⟩,.int .i64 0,.int .i64 0,.int .i64 0,.int .i64 0] 209)).drew (w.heap.size+1) #[.string ⟨#[]⟩,.int .i64 0,.int .i64 0,.int .i64 0,.int .i64 0] 209 from by have:=yD (w.alloc (.cells (svc ⟨qa,ql,qc,aa,al,ac,ma,ml,mc,ca,cl,cc⟩ ⟨qs,clock,epoch,next,serial,apps,ms,cs⟩) 34)) #[.string ⟨#[]⟩,.int .i64 0,.int .i64 0,.int .i64 0,.int .i64 0] 209;rw [yE] at this;exact this.drew)
 have R:∀wx,SB w (svc ⟨qa,ql,qc,aa,al,ac,ma,ml,mc,ca,cl,cc⟩ ⟨qs,clock,epoch,next,serial,apps,ms,cs⟩) wx→wx.cell? ⟨w.heap.size,0,none⟩=some (.slice qa ql qc)∧wx.cell? ⟨w.heap.size,1,none⟩=some (.int .i64 clock)∧wx.cell? ⟨w.heap.size,2,none⟩=some (.int .i64 epoch)∧wx.cell? ⟨w.heap.size,3,none⟩=some (.int .i64 next)∧wx.cell? ⟨w.heap.size,4,none⟩=some (.int .i64 serial)∧wx.cell? ⟨w.heap.size,5,none⟩=some (.slice aa al ac)∧wx.cell? ⟨w.heap.size,6,none⟩=some (.slice ma ml mc)∧wx.cell? ⟨w.heap.size,7,none⟩=some (.slice ca cl cc):=fun wx h=>by
  have a0:=h.1.at 0;have a1:=h.1.at 1;have a2:=h.1.at 2;have a3:=h.1.at 3;have a4:=h.1.at 4;have a5:=h.1.at 5;have a6:=h.1.at 6;have a7:=h.1.at 7
  simp at a0 a1 a2 a3 a4 a5 a6 a7
  exact ⟨a0,a1,a2,a3,a4,a5,a6,a7⟩
 clear hb0
 go_enter Tryz.func170,Tryz.ntmps170
 go_wp2_with fail
 refine wp_region_held_drew (S:=SB w (svc ⟨qa,ql,qc,aa,al,ac,ma,ml,mc,ca,cl,cc⟩ ⟨qs,clock,epoch,next,serial,apps,ms,cs⟩)) (by kernel_rfl) (uH SS0) (fun S0=>?_)
 refine aB 0 5 _ rfl rfl S0 ?_
 try simp only [Act.put,sA,sB,sC]
 refine aB 1 6 _ rfl rfl S0 ?_
 try simp only [Act.put,sA,sB,sC]
 refine aB 2 7 _ rfl rfl S0 ?_
 try simp only [Act.put,sA,sB,sC]
 refine aB 4 9 _ rfl rfl S0 ?_
 try simp only [Act.put,sA,sB,sC]
 refine aB 5 10 _ rfl rfl S0 ?_
 try simp only [Act.put,sA,sB,sC]
 refine aB 6 11 _ rfl rfl S0 ?_
 try simp only [Act.put,sA,sB,sC]
 refine aB 7 12 _ rfl rfl S0 ?_
 try simp only [Act.put,sA,sB,sC]
 refine wpAnyH_ready (rs:=[3]) (by kernel_rfl) (by simp) (AllReadyH.cons rfl (fun K hK=>?_) AllReadyH.nil)
 go_simp
 refine (uH CU _ S0.2).mono ?_
 rintro e w1 ⟨rfl,hb⟩
 have S1:=SB.call S0 hb
 have V1:=aA ((uH V0).below hb)
 clear hb V0
 go_wp2_with fail
 refine hK.out _ _ S1 (fun S0=>?_)
 clear hK K S1
 try simp only [Act.put,sA,sB,sC]
 refine wpAnyH_ready (rs:=[8]) (by kernel_rfl) (by simp) (AllReadyH.cons rfl (fun K hK=>?_) AllReadyH.nil)
 go_simp
 refine (uH CT _ S0.2).mono ?_
 rintro e w2 ⟨rfl,hb⟩
 have S1:=SB.call S0 hb
 have V2:=aA ((uH V1).below hb)
 clear hb V1
 go_wp2_with fail
 refine hK.out _ _ S1 (fun S0=>?_)
 clear hK K S1
 try simp only [Act.put,sA,sB,sC]
 refine wpAnyH_ready (rs:=[9]) (by kernel_rfl) (by simp) (AllReadyH.cons rfl (fun K hK=>?_) AllReadyH.nil)
 go_simp
 refine (uH CD _ S0.2).mono ?_
 rintro e w3 ⟨rfl,hb⟩
 have S1:=SB.call S0 hb
 have V3:=aA ((uH V2).below hb)
 clear hb V2
 go_wp2_with fail
 refine hK.out _ _ S1 (fun S0=>?_)
 clear hK K S1
 try simp only [Act.put,sA,sB,sC]
 refine aB 10 15 _ rfl rfl S0 ?_
 try simp only [Act.put,sA,sB,sC]
 refine aB 11 16 _ rfl rfl S0 ?_
 try simp only [Act.put,sA,sB,sC]
 refine wpAnyH_ready (rs:=[12]) (by kernel_rfl) (by simp) (AllReadyH.cons rfl (fun K hK=>?_) AllReadyH.nil)
 have bw:=uH V3
 have c0:=bw.at 0;have c1:=bw.at 1;have c2:=bw.at 2;have c3:=bw.at 3;have c4:=bw.at 4
 have f0:=bw.f 0;have f1:=bw.f 1;have f2:=bw.f 2;have f3:=bw.f 3;have f4:=bw.f 4
 simp at c0 c1 c2 c3 c4
 have bz:=((((bw.set 0 (.string (bs nm))).set 1 (.int .i64 ux)).set 2 (.int .i64 uy)).set 3 (.int .i64 dx)).set 4 (.int .i64 dy)
 have z0:=bz.at 0;have z1:=bz.at 1;have z2:=bz.at 2;have z3:=bz.at 3;have z4:=bz.at 4
 simp at z0 z1 z2 z3 z4
 have hn:w.heap.size≠w.heap.size+1:=by omega
 have S1:SB w (svc ⟨qa,ql,qc,aa,al,ac,ma,ml,mc,ca,cl,cc⟩ ⟨qs,clock,epoch,next,serial,apps,ms,cs⟩) (((((w3.setCell ⟨w.heap.size+1,0,none⟩ (.string (bs nm))).setCell ⟨w.heap.size+1,1,none⟩ (.int .i64 ux)).setCell ⟨w.heap.size+1,2,none⟩ (.int .i64 uy)).setCell ⟨w.heap.size+1,3,none⟩ (.int .i64 dx)).setCell ⟨w.heap.size+1,4,none⟩ (.int .i64 dy)):=⟨((((S0.1.other _ _ _ hn).other _ _ _ hn).other _ _ _ hn).other _ _ _ hn).other _ _ _ hn,yC (yC (yC (yC (yC S0.2 _ _ _ (by omega)) _ _ _ (by omega)) _ _ _ (by omega)) _ _ _ (by omega)) _ _ _ (by omega)⟩
 clear bw bz V3
 go_simp
 go_wp2_with fail
 refine hK.out _ _ S1 (fun S0=>?_)
 clear hK K
 try simp only [Act.put,sA,sB,sC]
 refine wpAnyH_done (by kernel_rfl) ?_ _
 have HB:=aA S1.2
 clear S1 S0 R CU CT CD SS0
 go_wp2
 refine bodyPost_ret (v:=stv (nm,ux,uy,dx,dy)) (by simp [results,Tryz.results170,go_sem,z0,z1,z2,z3,z4]) rfl ⟨rfl,uH HB⟩
end
section
open Go.RowKit
theorem aGa {a b c d:Int} (h:less a b c d=true):less c d a b=false:=by
 unfold less at *
 by_cases b0:b=0
 ·simp [b0] at h
 ·by_cases d0:d=0
  ·simp [d0]
  ·simp only [b0,d0,if_false,decide_eq_true_eq] at h ⊢
   simp only [decide_eq_false_iff_not]
   omega
theorem aIH (a b:Int):less a b a b=false:=by
 unfold less
 by_cases b0:b=0
 ·simp [b0]
 ·simp [b0]
theorem nI:OrdM.Weak aJw where
 irr:=fun a=>aIH _ _
 asym:=fun a b h=>aGa h
 ntrans:=fun a b c h k=>aDC (jI ..).2 (jI ..).2 (jI ..).2 h k
theorem rE:OrdM.Names Op.bytesLess where
 irr:=aHL
 trans:=aAm
 tri:=aHK
def leS (x y:SE):Prop:=fI y x=false
theorem aBi:HeapM.Order leS where
 trans:=fun x y z h k=>OrdM.ahead_ntrans nI rE h k
 total:=fun x y=>by
  cases h:fI y x with
  | false=>exact .inl h
  | true=>exact .inr (OrdM.ahead_asym nI rE h)
theorem aJz:∀x y,fI x y=true→leS x y:=fun x y h=>OrdM.ahead_asym nI rE h
theorem aJy:∀x y,fI x y=false→leS y x:=fun x y h=>h
def aCN (s:St) (a b:List UInt8):Bool:=fI (aAK s a) (aAK s b)
theorem aHM (s:St) (a b:List UInt8) (h:aCN s a b=true):aCN s b a=false:=OrdM.ahead_asym nI rE h
theorem aD4 (s:St) (a b c:List UInt8) (h:aCN s b a=false) (k:aCN s c b=false):aCN s c a=false:=OrdM.ahead_ntrans nI rE h k
theorem aHN (s:St) (a b:List UInt8) (h:aCN s b a=false) (k:aCN s a b=false):a=b:=OrdM.ahead_anti (x:=aAK s a) (y:=aAK s b) nI rE h k
def aJQ (p:List UInt8→List UInt8→Bool) (l:List (List UInt8)) (o:List (List UInt8)):List (List UInt8):=l.foldl (fun o x=>OrdM.ins p x o) o
theorem aBr (p:List UInt8→List UInt8→Bool):∀(l o:List (List UInt8)),(aJQ p l o).Perm (l++o)
 | [],o=>List.Perm.refl _
 | x::t,o=>by
  refine (aBr p t (OrdM.ins p x o)).trans ?_
  refine (List.Perm.append_left t (OrdM.ins_perm _ x o)).trans ?_
  exact List.perm_middle
theorem vT {p:List UInt8→List UInt8→Bool} (asym:∀a b,p a b=true→p b a=false) (nt:∀a b c,p b a=false→p c b=false→p c a=false):∀(l o:List (List UInt8)),HeapM.Sorted (fun a b=>p b a=false) o→HeapM.Sorted (fun a b=>p b a=false) (aJQ p l o)
 | [],o,h=>h
 | x::t,o,h=>vT asym nt t _ (OrdM.ins_sorted asym nt x o h)
theorem aGk (p:List UInt8→List UInt8→Bool) (l:List (List UInt8)) (x:List UInt8):aJQ p (l++[x]) []=OrdM.ins p x (aJQ p l []):=by
 rw [aJQ,List.foldl_append];rfl
def fU (s:St):List (List UInt8):=aJQ (aCN s) (eH s.qs) []
theorem uX (s:St):(fU s).Perm (eH s.qs):=by
 have:=aBr (aCN s) (eH s.qs) []
 rw [List.append_nil] at this
 exact this
theorem y7 (s:St):(fU s).length≤s.qs.length:=by
 rw [(uX s).length_eq]
 exact mP _
theorem aBU (s:St) (N:List (List UInt8)) (h:HeapM.Sorted (fun a b=>aCN s b a=false) N) (hp:N.Perm (eH s.qs)):N=fU s:=
 HeapM.sorted_unique (aHN s) _ _ h (vT (aHM s) (aD4 s) _ _ trivial) (hp.trans (uX s).symm)
theorem yK (s:St):∀P:List SE,(∀x ∈ P,x=aAK s x.1)→HeapM.Sorted leS P→HeapM.Sorted (fun a b=>aCN s b a=false) (P.map Prod.fst)
 | [],_,_=>trivial
 | x::t,hx,h=>⟨fun y hy=>by
   obtain ⟨z,hz,rfl⟩:=List.mem_map.1 hy
   have h1:=h.1 z hz
   unfold leS at h1
   rw [hx x (by simp),hx z (by simp [hz])] at h1
   exact h1,yK s t (fun z hz=>hx z (by simp [hz])) h.2⟩
theorem aCr (s:St) (P:List SE) (h:HeapM.Sorted leS P) (hp:P.Perm ((eH s.qs).map (aAK s))):P.map Prod.fst=fU s:=by
 refine aBU s _ (yK s P (fun x hx=>?_) h) ?_
 ·obtain ⟨n,_,rfl⟩:=List.mem_map.1 (hp.subset hx)
  rfl
 ·have:=hp.map Prod.fst
  rw [List.map_map] at this
  have e:(Prod.fst ∘ aAK s)=id:=by funext n;rfl
  rw [e,List.map_id] at this
  exact this
def rY (s:St) (k:Nat):List (List UInt8):=aJQ (aCN s) (((s.qs.take k).map Q.name).filter (aDy s.qs)) []
theorem aEp (s:St) {k:Nat} (h:s.qs.length≤k):rY s k=fU s:=by
 rw [rY,List.take_of_length_le h];rfl
theorem aCs (s:St) {k:Nat} (h:k<s.qs.length):rY s (k+1)=if aDy s.qs s.qs[k].name=true then OrdM.ins (aCN s) s.qs[k].name (rY s k) else rY s k:=by
 rw [rY,List.take_succ_eq_append_getElem h,List.map_append,List.filter_append]
 cases hb:aDy s.qs s.qs[k].name with
 | true=>
  rw [if_pos rfl]
  simp only [List.map_cons,List.map_nil,List.filter_cons,hb,if_true,List.filter_nil]
  rw [aGk];rfl
 | false=>
  rw [if_neg (by simp)]
  simp only [List.map_cons,List.map_nil,List.filter_cons,hb,List.filter_nil]
  rw [if_neg (by simp),List.append_nil];rfl
theorem aIm (s:St) (nm:List UInt8):Wf4 (aAK s nm).2.1 (aAK s nm).2.2.1 (aAK s nm).2.2.2.1 (aAK s nm).2.2.2.2:=by
 have h1:=dL (aIj s nm)
 have h2:=dL (aKG s nm)
 have w:∀x:Int,iC x→(Lit.int .i64 x).wf=true:=fun x hx=>by
  obtain ⟨a,b⟩:=hx
  have h1:(-9223372036854775808:Int)≤x:=by omega
  have h2:x≤9223372036854775807:=by omega
  simp only [Lit.wf,Bool.and_eq_true,decide_eq_true_eq]
  exact ⟨h1,h2⟩
 exact ⟨w _ h1.1,w _ h1.2,w _ h2.1,w _ h2.2⟩
def aJ1 (s:St) (nd qu:List UInt8) (a:Ask):Bool:=nP a nd&&(within a.mem a.cpu (fC s nd).1 (fC s nd).2&&aCi s qu a.mem a.cpu)
def fQ (p:Ask→Bool):List Ask→Nat→Option Nat
 | [],_=>none
 | a::t,k=>if p a=true then some k else fQ p t (k+1)
theorem sS {p:Ask→Bool} {l:List Ask} {k:Nat} (h:k<l.length):fQ p (l.drop k) k=if p l[k]=true then some k else fQ p (l.drop (k+1)) (k+1):=by
 rw [List.drop_eq_getElem_cons h,fQ]
theorem wM {p:Ask→Bool} {l:List Ask} {k:Nat} (h:l.length≤k):fQ p (l.drop k) k=none:=by
 rw [List.drop_of_length_le h];rfl
theorem zZ {p:Ask→Bool}:∀{l:List Ask} {k j:Nat},fQ p l k=some j→k≤j∧j<k+l.length
 | [],_,_,h=>by cases h
 | a::t,k,j,h=>by
  rw [fQ] at h
  split at h
  ·cases h;simp
  ·have:=zZ h
   simp
   omega
def dR (p:Ask→Bool) (qu:List UInt8):List dB→Nat→Option (Nat×Nat)
 | [],_=>none
 | a::t,i=>if a.queue=qu then (match fQ p a.asks 0 with | some k=>some (i,k) | none=>dR p qu t (i+1)) else dR p qu t (i+1)
theorem sW {p:Ask→Bool} {qu:List UInt8} {l:List dB} {i:Nat} (h:i<l.length):dR p qu (l.drop i) i=if l[i].queue=qu then (match fQ p l[i].asks 0 with | some k=>some (i,k) | none=>dR p qu (l.drop (i+1)) (i+1)) else dR p qu (l.drop (i+1)) (i+1):=by
 rw [List.drop_eq_getElem_cons h,dR]
theorem wO {p:Ask→Bool} {qu:List UInt8} {l:List dB} {i:Nat} (h:l.length≤i):dR p qu (l.drop i) i=none:=by
 rw [List.drop_of_length_le h];rfl
def iN (s:St) (nd:List UInt8):List (List UInt8)→Option (Nat×Nat)
 | []=>none
 | q::t=>match dR (aJ1 s nd q) q s.apps 0 with | some r=>some r | none=>iN s nd t
def nM (s:St) (nd:List UInt8):Option (Nat×Nat):=iN s nd (fU s)
theorem rW {s:St} {nd:List UInt8} {l:List (List UInt8)} {i:Nat} (h:i<l.length):iN s nd (l.drop i)=match dR (aJ1 s nd l[i]) l[i] s.apps 0 with | some r=>some r | none=>iN s nd (l.drop (i+1)):=by
 rw [List.drop_eq_getElem_cons h,iN]
theorem uR {s:St} {nd:List UInt8} {l:List (List UInt8)} {i:Nat} (h:l.length≤i):iN s nd (l.drop i)=none:=by
 rw [List.drop_of_length_le h];rfl
theorem sZ {p:Ask→Bool} (hp:∀a,p a=false) (qu:List UInt8):∀(l:List dB) (i:Nat),dR p qu l i=none
 | [],_=>rfl
 | a::t,i=>by
  have hn:∀(l:List Ask) k,fQ p l k=none:=fun l=>by
   induction l with
   | nil=>intro k;rfl
   | cons a t ih=>intro k;rw [fQ,if_neg (by rw [hp];simp)];exact ih _
  rw [dR,hn,sZ hp qu t]
  split<;>rfl
end
section
open Go.RowKit Go.Maps
theorem SS.blk {w:World} {g cap:Nat} {xs:List ByteArray} (h:SS w g cap xs):∃cur,Blk w g cur 9∧xs.length≤cur.size∧cur.toList.take xs.length=xs.map Value.string:=by
 obtain ⟨cur,h1,h2,h3,h4,h5⟩:=h.block
 exact ⟨cur,h1,by omega,h5⟩
theorem bI.frame {B:Nat} {w:World} {v:Value} {ps:List (List UInt8)} (h:bI B w v ps):∃(vo:Option Addr) (vc:Nat) (F:List Fr3),v=.slice vo ps.length vc∧(∀f ∈ F,f.2.2=9∧B≤f.1∧Blk w f.1 f.2.1 f.2.2)∧∀wx:World,(∀f ∈ F,Blk wx f.1 f.2.1 f.2.2)→∀j (hj:j<ps.length),∃g,vo=some ⟨g,0,none⟩∧wx.cell? ⟨g,j,none⟩=some (.string (bs ps[j])):=by
 by_cases hp:ps=[]
 ·subst hp
  obtain ⟨a,c,rfl⟩:=jD h
  exact ⟨a,c,[],rfl,fun f hf=>absurd hf (by simp),fun wx _ j hj=>absurd hj (by simp)⟩
 ·obtain ⟨g,c,rfl,hs,hB⟩:=jC h hp
  obtain ⟨cur,b1,b2,b3⟩:=hs.blk
  refine ⟨_,c,[(g,cur,9)],rfl,fun f hf=>?_,fun wx hx j hj=>⟨g,rfl,?_⟩⟩
  ·simp at hf;subst hf;exact ⟨rfl,hB,b1⟩
  ·have hx1:=hx (g,cur,9) (by simp)
   rw [Blk.at hx1 j]
   have e:=congrArg (fun z:List Value=>z[j]?) b3
   simp only [List.length_map] at e
   rw [List.getElem?_take_of_lt hj,Array.getElem?_toList] at e
   simp only at e ⊢
   rw [e]
   simp [hj]
theorem aEF {K:List P4} {F:List Fr3} {w0 w:World} {bm bk g:Nat} {l:List SE} (h:HSt K F w0 bm bk g w l):HSt K [] w0 bm bk g w l:=by
 obtain ⟨⟨v0,h1,o1,_⟩,h3,h4,h5,h6,h7,_⟩:=h
 exact ⟨⟨v0,h1,o1,fun k hk=>absurd hk (by simp)⟩,h3,h4,h5,h6,h7,fun k hk=>absurd hk (by simp)⟩
theorem HSt.rowNe {K:List P4} {F:List Fr3} {w0 w:World} {bm bk g:Nat} {l:List SE} {v u:Value} (h:HSt K F w0 bm bk g w l) (hb:Blk w g #[v,u] 205) {k:Nat} {arr:Array Value} {te:TypeId} (hk:Blk w k arr te) (ht:te≠209):some k≠v.ownBlock:=fun e=>by
 obtain ⟨_,hown,_⟩:=h.obj hb
 rcases hown.2 with ⟨e2,_⟩ | ⟨b2,_,cur,e2,_,hc,_⟩
 ·rw [e2] at e;simp [Value.ownBlock] at e
 ·rw [e2] at e
  simp [Value.ownBlock] at e
  unfold Blk at hk
  rw [e,hc] at hk
  simp at hk
  exact ht hk.2.symm
theorem HSt.moreT {K:List P4} {F:List Fr3} {w0 w:World} {bm bk g:Nat} {l:List SE} (h:HSt K F w0 bm bk g w l) (f:Fr3) (h2:FrB bm g f w) (ht:f.2.2≠209):HSt K (f::F) w0 bm bk g w l:=by
 obtain ⟨v,b,_⟩:=h.1
 exact h.more b f h2 (h.rowNe b h2.1 ht)
theorem HSt.grow {K:List P4} {w0 w w':World} {bm bk g:Nat} {l:List SE} {r:Option Nat} (h:HSt K [] w0 bm bk g w l) (hg:w.grownBy w' r) (hr:∀k,r=some k→g<k∧∃arr te,Blk w k arr te∧te≠209):HSt K [] w0 bm bk g w' l:=by
 have hh:=h
 obtain ⟨⟨v,h1,h2,_⟩,h3,h4,h5,h6,h7,_⟩:=h
 have ne:∀k,k≤g→some k≠r:=fun k hk e=>by have:=(hr k e.symm).1;omega
 have hv:v.ownBlock=none∨v.ownBlock≠r:=by
  rcases h2.2 with ⟨e2,_⟩ | ⟨b2,_,cur,e2,_,hc,_⟩
  ·left;rw [e2];rfl
  ·right
   intro e
   rw [e2] at e
   obtain ⟨_,arr,te,hk,ht⟩:=hr b2 e.symm
   unfold Blk at hk
   rw [hc] at hk
   simp at hk
   exact ht hk.2.symm
 exact ⟨⟨v,(hg.block g h1.lt (ne g (Nat.le_refl _))).trans h1,h2.kept hg hv,fun f hf=>absurd hf (by simp)⟩,(hg.block bk h3.lt (ne bk (by omega))).trans h3,h4.grown hg (ne bm (by omega)),h5,h6,h7.grown hg h7.size (fun k e=>by have:=(hr k e).1;omega),fun f hf=>absurd hf (by simp)⟩
theorem aDF (l:List Q):(eH l).length≤20:=by
 cases h:aG l with
 | false=>rw [sD h];simp
 | true=>
  have h1:=mP l
  have:inB l.length 1 20=true:=by
   unfold aG at h
   simp only [Bool.and_eq_true] at h
   exact h.2
  simp [inB] at this
  omega
theorem aEG {K:List P4} {w0 w:World} {bm bk g:Nat} {l:List SE} (h:HSt K [] w0 bm bk g w l):∀F:List Fr3,(∀f ∈ F,FrB bm g f w∧f.2.2≠209)→HSt K F w0 bm bk g w l
 | [],_=>h
 | f::F,hf=>(aEG h F (fun k hk=>hf k (List.mem_cons_of_mem _ hk))).moreT f (hf f (List.mem_cons_self ..)).1 (hf f (List.mem_cons_self ..)).2
theorem aGR {B:Nat} {w:World} {v:Value} {o:List ByteArray} (h:w.ownsRow B 9 1 v o.length (gG o)):∃F:List Fr3,(∀f ∈ F,f.2.2=9∧B≤f.1∧Blk w f.1 f.2.1 f.2.2)∧(∀wx:World,(∀f ∈ F,Blk wx f.1 f.2.1 f.2.2)→wx.ownsRow B 9 1 v o.length (gG o))∧∀k,v.ownBlock=some k→∃f ∈ F,f.1=k:=by
 rcases h.2 with ⟨rfl,h0⟩ | ⟨g,cap,cur,rfl,hb,hc,k⟩
 ·exact ⟨[],fun f hf=>absurd hf (by simp),fun wx _=>⟨h.1,.inl ⟨rfl,h0⟩⟩,fun k hk=>by simp [Value.ownBlock] at hk⟩
 ·refine ⟨[(g,cur,9)],fun f hf=>?_,fun wx hx=>⟨h.1,.inr ⟨g,cap,cur,rfl,hb,hx (g,cur,9) (by simp),k⟩⟩,fun k' hk=>⟨_,List.mem_cons_self ..,by simpa [Value.ownBlock] using hk⟩⟩
  simp at hf;subst hf;exact ⟨rfl,hb,hc⟩
def aJi:Value→Nat
 | .slice _ n _=>n
 | _=>0
theorem aBT {w:World} {B n:Nat} {v:Value} {xs:List Value} (h:w.ownsRow B 9 1 v n xs):aJi v=n:=by
 rcases h.2 with ⟨rfl,e⟩ | ⟨_,_,_,rfl,_⟩
 ·exact e.symm
 ·rfl
theorem aKF (x:SE) (wx:World):(Instr.field 209 (stv x) 0).run Tryz.prog wx=.ok (.string (bs x.1)) wx:=by
 simp [Instr.field,go_sem,asAgg,stv]
def Tk (s:St) (P l:List SE):Prop:=HeapM.Heap leS seD l.length l∧(P++l).Perm ((eH s.qs).map (aAK s))∧HeapM.Sorted leS P∧∀p ∈ P,∀x ∈ l,leS p x
theorem Tk.pop {s:St} {P l:List SE} (h:Tk s P l) (h0:0<l.length) :
  Tk s (P++[HeapM.at' seD (HeapM.popL seD fI l) (l.length - 1)]) ((HeapM.popL seD fI l).take (l.length - 1)):=by
 obtain ⟨h1,h2,h3,h4⟩:=h
 obtain ⟨p1,p2,p3,p4⟩:=HeapM.pop_heap aBi aJz aJy l h0 h1
 have hlen:((HeapM.popL seD fI l).take (l.length - 1)).length=l.length - 1:=by
  have:=p3.length_eq
  simp at this ⊢
  omega
 have hmem:HeapM.at' seD l 0 ∈ l:=p3.subset (by simp)
 rw [p1]
 refine ⟨by rw [hlen];exact p2,?_,HeapM.sorted_snoc _ _ h3 (fun y hy=>h4 y hy _ hmem),?_⟩
 ·rw [List.append_assoc]
  refine (List.Perm.append_left P ?_).trans h2
  exact List.perm_append_comm.trans p3
 ·intro p hp x hx
  have hxl:x ∈ l:=p3.subset (by simp [hx])
  rcases List.mem_append.1 hp with hp | hp
  ·exact h4 p hp x hxl
  ·simp at hp;subst hp;exact p4 x hx
theorem pX (x:Sls) (s:St) (w:World) (h:iJ w x s) (hf:bS s) (hc:x.ql≤x.qc) (hw:aEP s) :
  Calls Tryz.prog 135 #[sv x s] w fun e w'=>∃v,e=.returned v∧bI w.heap.size w' v (fU s)∧Below w.heap.size w w':=by
 obtain ⟨i0,hi,hz0,hz1,hz2⟩:=info_parts Tryz.infoS
 have hql:x.ql≤1048576:=h.ql hf
 obtain ⟨K,hKd⟩:∃K,(eH s.qs).map (fun n=>(aAK s n).2)=K:=⟨_,rfl⟩
 have hKl:K.length≤1048576:=by rw [←hKd,List.length_map];have:=mP s.qs;have:=h.1.1;omega
 have hK:K.length≤1000000000:=by omega
 have KW:∀p ∈ K,Wf4 p.1 p.2.1 p.2.2.1 p.2.2.2:=fun p hp=>by
  rw [←hKd] at hp
  obtain ⟨n,_,rfl⟩:=List.mem_map.1 hp
  exact aIm s n
 have HKM:=aA (show ∀n ∈ eH s.qs,(aAK s n).2 ∈ K from fun n hn=>by rw [←hKd];exact List.mem_map.2 ⟨n,hn,rfl⟩)
 have CV:=aA (fun wx (hb:Below w.heap.size w wx)=>aFF x.qa x.ql x.qc s.qs wx (h.1.below hb) hql (fun q hq=>(hf.1.2 q hq).1) hc)
 have CS:=aA (fun nm wx (hb:Below w.heap.size w wx)=>wX x s nm wx (h.below hb) hf hc hw)
 have CLD:=aA (fun wx=>aGc K wx)
 have HT0:=aA (aDF s.qs)
 have HOT:=aA (aCr s)
 obtain ⟨lv,hlv⟩:∃l,eH s.qs=l:=⟨_,rfl⟩
 rw [hlv] at CV HKM HT0 HOT
 have HTK:=aA (show ∀P l,Tk s P l=(HeapM.Heap leS seD l.length l∧(P++l).Perm (lv.map (aAK s))∧HeapM.Sorted leS P∧∀p ∈ P,∀x ∈ l,leS p x) from fun P l=>by rw [Tk,hlv])
 have HPOP:=aA (fun P l (h:Tk s P l) h0=>h.pop h0)
 have hlq:lv.length≤20:=uH HT0
 clear hlv h hf hc hw hKd HT0
 obtain ⟨of,hof⟩:∃f,aAK s=f:=⟨_,rfl⟩
 obtain ⟨tk,htk⟩:∃f,Tk s=f:=⟨_,rfl⟩
 obtain ⟨oV,hoV⟩:∃f,fU s=f:=⟨_,rfl⟩
 rw [hof] at CS HKM
 rw [htk,hof] at HTK
 rw [htk] at HPOP
 rw [hof,hoV] at HOT
 rw [hoV]
 have HF1:=aA (show ∀n,(of n).1=n from fun n=>by rw [←hof];rfl)
 clear hof htk hoV
 obtain ⟨qa,ql,qc,aa,al,ac,ma,ml,mc,ca,cl,cc⟩:=x
 obtain ⟨qs,clock,epoch,next,serial,apps,ms,cs⟩:=s
 simp only at CV CS hql
 have HB0:=aA (yA (Below.refl _ w) (.cells (svc ⟨qa,ql,qc,aa,al,ac,ma,ml,mc,ca,cl,cc⟩ ⟨qs,clock,epoch,next,serial,apps,ms,cs⟩) 34))
 have P0:=aA (yD w (svc ⟨qa,ql,qc,aa,al,ac,ma,ml,mc,ca,cl,cc⟩ ⟨qs,clock,epoch,next,serial,apps,ms,cs⟩) 34)
 go_enter Tryz.func135,Tryz.ntmps135
 go_wp2_with fail
 refine (uH CLD _).mono ?_
 rintro e w1 ⟨rfl,hbk,hh,hb,hz⟩
 rw [yE] at hbk hh hz
 obtain ⟨g,hg⟩:∃g,w1.heap.size=g:=⟨_,rfl⟩
 have hgs:g=w.heap.size+3:=by omega
 have hba:=yA (Below.refl _ w1) (.cells #[.slice none 0 0,aAr (w.heap.size+1+1)] 205)
 have HB1:=aA (yB (yB (uH HB0) hb) hba)
 have P1:=aA (((uH P0).below hb).below hba)
 have G1:=aA (show Blk (w1.alloc (.cells #[.slice none 0 0,aAr (w.heap.size+1+1)] 205)) g #[.slice none 0 0,aAr (w.heap.size+1+1)] 205 from by rw [←hg];exact yD _ _ _)
 have M1:=aA (hbk.below hba)
 have H1:=aA (hh.below hba)
 clear hbk hh hb hba hz HB0 P0 CLD
 obtain ⟨q0,q1,q2,q3,q4,q5,q6,q7⟩:_∧_∧_∧_∧_∧_∧_∧_:=⟨(uH P1).at 0,(uH P1).at 1,(uH P1).at 2,(uH P1).at 3,(uH P1).at 4,(uH P1).at 5,(uH P1).at 6,(uH P1).at 7⟩
 simp at q0 q1 q2 q3 q4 q5 q6 q7
 go_wp2_with fail
 refine (uH CV _ (uH HB1)).mono ?_
 rintro e w2 ⟨v0,rfl,ht,hb⟩
 obtain ⟨vo,vc,F0,rfl,hF0,hrow⟩:=ht.frame
 have HROW:=aA hrow
 have HB2:=aA (yB (uH HB1) hb)
 have zz:w1.heap.size+1≤w2.heap.size:=by have:=hb.size;rw [yE] at this;exact this
 obtain ⟨F,hFd⟩:∃F:List Fr3,(w.heap.size,svc ⟨qa,ql,qc,aa,al,ac,ma,ml,mc,ca,cl,cc⟩ ⟨qs,clock,epoch,next,serial,apps,ms,cs⟩,34)::F0=F:=⟨_,rfl⟩
 have HFS:=aA (show ∀f ∈ F,f.2.2≠209 from fun f hf=>by
  rw [←hFd] at hf
  rcases List.mem_cons.1 hf with rfl | hf
  ·show (34:TypeId)≠209
   decide
  ·rw [(hF0 f hf).1];decide)
 have HFR:=aA (show (∀f ∈ F,FrB (w.heap.size+1) (w.heap.size+3) f w2) from fun f hf=>by
  rw [←hFd] at hf
  rcases List.mem_cons.1 hf with rfl | hf
  ·exact ⟨(uH P1).below hb,by show w.heap.size≠w.heap.size+1;omega,by show w.heap.size≠w.heap.size+3;omega⟩
  ·have:=(hF0 f hf).2.1
   rw [yE] at this
   exact ⟨(hF0 f hf).2.2,by omega,by omega⟩)
 have HBX:=aA (show ∀wx:World,(∀f ∈ F,Blk wx f.1 f.2.1 f.2.2)→Blk wx w.heap.size (svc ⟨qa,ql,qc,aa,al,ac,ma,ml,mc,ca,cl,cc⟩ ⟨qs,clock,epoch,next,serial,apps,ms,cs⟩) 34 from fun wx hx=>hx _ (by rw [←hFd];exact List.mem_cons_self ..))
 have HRW:=aA (show ∀wx:World,(∀f ∈ F,Blk wx f.1 f.2.1 f.2.2)→∀j (hj:j<lv.length),∃g,vo=some ⟨g,0,none⟩∧wx.cell? ⟨g,j,none⟩=some (.string (bs lv[j])) from fun wx hx j hj=>uH HROW wx (fun f hf=>hx f (by rw [←hFd];exact List.mem_cons_of_mem _ hf)) j hj)
 have HI0:=aA (show HI K F w (w.heap.size+1) (w.heap.size+1+1) (w.heap.size+3) w2 [] from ⟨⟨⟨.slice none 0 0,by have:=(uH G1).below hb;rw [hgs] at this;exact this,World.ownsRow_nil _ _ _ _,fun f _ e=>by simp [Value.ownBlock] at e⟩,(uH M1).below hb,(uH H1).below hb,by omega,fun x hx=>absurd hx (by simp),uH HB2,uH HFR⟩,by simp⟩)
 clear hb ht hF0 hrow hFd HROW HFR HB1 HB2 P1 G1 M1 H1 q0 q1 q2 q3 q4 q5 q6 q7 CV hg zz
 go_wp2
 go_loopw [5,14] (fun _ i wr=>∃(k:Nat) (l:List SE),k≤lv.length∧i=.int .i64 k∧l.length=k∧Hid (HI K F w (w.heap.size+1) (w.heap.size+1+1) (w.heap.size+3) wr l)∧Hid (HeapM.Heap leS seD l.length l)∧Hid (l.Perm ((lv.take k).map of))) (fun _ i _=>lv.length - (intOf i).toNat)
 case atStart=>exact ⟨0,[],Nat.zero_le _,rfl,rfl,HI0,aA (fun k h0 h1=>absurd h1 (by simp)),aA (by simp)⟩
 case round=>
  obtain ⟨k,l,hk,rfl,hlk,HH,HHP,HPM⟩:=hrel
  by_cases hlt:k<lv.length
  ·have hbl:=fun f hf=>((uH HH).1.2.2.2.2.2.2 f hf).1
   obtain ⟨gv,rfl,hcv⟩:=uH HRW wr hbl k hlt
   have P2:=uH HBX wr hbl
   obtain ⟨q0,q1,q2,q3,q4,q5,q6,q7⟩:_∧_∧_∧_∧_∧_∧_∧_:=⟨P2.at 0,P2.at 1,P2.at 2,P2.at 3,P2.at 4,P2.at 5,P2.at 6,P2.at 7⟩
   simp at q0 q1 q2 q3 q4 q5 q6 q7
   have htk:=List.take_succ_eq_append_getElem hlt
   have hmem:=uH HKM lv[k] (List.getElem_mem _)
   obtain ⟨nm,hnm⟩:∃nm,lv[k]=nm:=⟨_,rfl⟩
   rw [hnm] at hcv htk hmem
   have C1:=aA (uH CS nm wr (uH HH).1.2.2.2.2.2.1)
   obtain ⟨z,hz⟩:∃z,of nm=z:=⟨_,rfl⟩
   rw [hz] at C1 hmem
   have C2:=aA (fun wx (hx:HI K F w (w.heap.size+1) (w.heap.size+1+1) (w.heap.size+3) wx l)=>aJ5 K F hK KW w (w.heap.size+1) (w.heap.size+1+1) (w.heap.size+3) wx l z hx (uH HFS) hmem (by omega))
   have HP2:=aA (HeapM.push_heap (d:=seD) aBi aJz aJy l z (uH HHP))
   have HPT:=aA (show (l++[z]).Perm ((lv.take (k+1)).map of) by rw [htk,List.map_append,←hz];exact (uH HPM).append_right _)
   obtain ⟨l2,hl2⟩:∃l2,HeapM.upL seD fI (l.length+1) (l++[z]) l.length=l2:=⟨_,rfl⟩
   rw [hl2] at C2 HP2
   have hlen2:l2.length=k+1:=by have:=(uH HP2).2.length_eq;simp at this;omega
   obtain ⟨z1,z2,z3,z4,z5⟩:=z
   clear hnm htk hz hmem hl2 hbl P2
   go_wp2_with fail
   refine (uH C1).mono ?_
   rintro e w4 ⟨rfl,hb⟩
   have HH4:=aA (show HI K F w (w.heap.size+1) (w.heap.size+1+1) (w.heap.size+3) w4 l from ⟨(uH HH).1.below hb,(uH HH).2⟩)
   clear hb C1 q0 q1 q2 q3 q4 q5 q6 q7 hcv
   go_wp2_with fail
   refine (uH C2 _ (uH HH4)).mono ?_
   rintro e w5 ⟨rfl,hh⟩
   have HH5:=aA hh
   clear hh C2 HH4
   go_wp2
   go_roundw
   case rel=>exact ⟨k+1,l2,by omega,by go_num,hlen2,HH5,aA (by have h9:=(uH HP2).1;rw [hlk] at h9;rw [hlen2];exact h9),aA ((uH HP2).2.trans (uH HPT))⟩
   case measure=>simp [intOf];omega
  ·have hkk:k=lv.length:=by omega
   have T0:=aA (show tk [] l by rw [uH HTK];refine ⟨uH HHP,?_,trivial,fun p hp=>absurd hp (by simp)⟩;have:=uH HPM;rw [hkk,List.take_length] at this;exact this)
   have HE:=aA (show HI K [] w (w.heap.size+1) (w.heap.size+1+1) (w.heap.size+3) wr l from ⟨aEF (uH HH).1,(uH HH).2⟩)
   have hlk2:l.length≤20:=by omega
   clear HH HHP HPM hlk
   subst hkk
   have hww:w.heap.size≤(w.heap.size+4):=by omega
   go_wp2
   go_loopw [6] (fun v wr=>∃(l P:List SE) (o:List ByteArray),l.length+o.length≤20∧Hid (o=P.map (fun x=>bs x.1))∧Hid (tk P l)∧Hid (HI K [] w (w.heap.size+1) (w.heap.size+1+1) (w.heap.size+3) wr l)∧Hid (wr.ownsRow (w.heap.size+4) 9 1 v o.length (gG o))) (fun v _=>20 - aJi v)
   case atStart=>exact ⟨l,[],[],by simpa using hlk2,aA rfl,T0,HE,aA (World.ownsRow_nil _ _ _ _)⟩
   case round=>
    obtain ⟨l,P,o,hlo,HO,HT,HH,HW⟩:=hrel
    clear HE T0 hlk2
    obtain ⟨F2,hF2,hrow,hown⟩:=aGR (uH HW)
    have HI2:=aA (show HI K F2 w (w.heap.size+1) (w.heap.size+1+1) (w.heap.size+3) wr l from ⟨aEG (uH HH).1 F2 (fun f hf=>⟨⟨(hF2 f hf).2.2,by have:=(hF2 f hf).2.1;omega,by have:=(hF2 f hf).2.1;omega⟩,by rw [(hF2 f hf).1];decide⟩),(uH HH).2⟩)
    have HRW:=aA hrow
    have HOB:=aA (show ∀k,∀u:Value,u.ownBlock=some k→True from fun _ _ _=>trivial)
    have HF2:=aA (show ∀f ∈ F2,f.2.2=9∧(w.heap.size+4)≤f.1 from fun f hf=>⟨(hF2 f hf).1,(hF2 f hf).2.1⟩)
    have HFB:=aA hown
    have hsl:=aBT (uH HW)
    have HSL:=aA hsl
    clear hF2 hrow hown HH HW hsl HOB
    obtain ⟨vr,b1,_⟩:=(uH HI2).1.1
    have c0:=b1.at 0
    have c1:=b1.at 1
    simp at c0 c1
    have C1:=aA (aBC K F2 w (w.heap.size+1) (w.heap.size+1+1) (w.heap.size+3) wr l vr (aAr (w.heap.size+1+1)) (uH HI2).1 b1)
    have hmax:l.length≤1000000:=(uH HI2).2
    clear b1
    go_wp2_with fail
    refine (uH C1).mono ?_
    rintro e w4 ⟨rfl,hh⟩
    have H4:=aA (show HI K F2 w (w.heap.size+1) (w.heap.size+1+1) (w.heap.size+3) w4 l from ⟨hh,hmax⟩)
    clear hh C1 c0 c1 HI2
    by_cases h0:0<l.length
    ·have HT2:=aA (uH HPOP P l (uH HT) h0)
     have hz4:w.heap.size≤w4.heap.size:=(uH H4).1.2.2.2.2.2.1.size
     have C2:=aA (aAI K F2 hK KW w (w.heap.size+1) (w.heap.size+1+1) (w.heap.size+3) w4 l (uH H4) h0 hz4)
     obtain ⟨l2,hl2⟩:∃l2,(HeapM.popL seD fI l).take (l.length - 1)=l2:=⟨_,rfl⟩
     obtain ⟨z,hz⟩:∃z,HeapM.at' seD (HeapM.popL seD fI l) (l.length - 1)=z:=⟨_,rfl⟩
     rw [hl2,hz] at C2 HT2
     have hlen2:l2.length+1=l.length:=by
      have e1:=uH HT2
      have e0:=uH HT
      rw [uH HTK] at e1 e0
      have p1:=e1.2.1.length_eq
      have p0:=e0.2.1.length_eq
      simp at p1 p0
      omega
     obtain ⟨z1,z2,z3,z4,z5⟩:=z
     clear hl2 hz HT
     have h0z:(0:Int)<(l.length:Int):=by omega
     have hfs:=aKF (z1,z2,z3,z4,z5)
     go_wp2_with fail
     refine (uH C2).mono ?_
     rintro e w5 ⟨rfl,hh⟩
     have hrow5:=uH HRW w5 (fun f hf=>(hh.1.2.2.2.2.2.2 f hf).1)
     have H5:=aA hh
     have hz5:w.heap.size+3<w5.heap.size:=let ⟨_,b,_⟩:=hh.1.1;b.lt
     clear hh C2 H4 hz4
     go_wp2_with (at_builtin;refine wpList_append_own _ rfl _ _ 175 rfl (w.heap.size+4) 9 i0 (.string ByteArray.empty) 1 16 Tryz.underlying175 hi hz0 hz1 hz2 rfl (by decide) _ _ _ rfl (hrow5.alloc _) ⟨w5.heap.size,0,none⟩ 1 1 [.string (bs z1)] rfl rfl ?c1 ?c2 ?c3 ?c4 ?c5 ?_)
     case c1=>intro j v hj;match j,hj with | 0,hj=>simp at hj;subst hj;simp [Addr.add]
     case c2=>intro v hv;simp at hv;subst hv;rfl
     case c3=>unfold maxLen;omega
     case c4=>omega
     case c5=>simp;omega
     intro v' w7 hown' hgrow _
     have hgz:=hgrow.size
     rw [yE] at hgz
     have R7:=aA (show w7.ownsRow (w.heap.size+4) 9 1 v' (o++[bs z1]).length (gG (o++[bs z1])) by simpa [gG] using hown')
     have H7:=aA (show HI K [] w (w.heap.size+1) (w.heap.size+1+1) (w.heap.size+3) w7 l2 from ⟨((aEF (uH H5).1).below (yA (Below.refl _ _) _)).grow hgrow (fun k hk=>by
      obtain ⟨f,hf,rfl⟩:=uH HFB k hk
      exact ⟨by have:=(uH HF2 f hf).2;omega,_,_,((uH H5).1.2.2.2.2.2.2 f hf).1.al _,by rw [(uH HF2 f hf).1];decide⟩),(uH H5).2⟩)
     have HSL7:=aA (aBT (uH R7))
     clear hown' hgrow hrow5 H5
     go_wp2
     go_roundw
     case rel=>exact ⟨l2,P++[(z1,z2,z3,z4,z5)],o++[bs z1],by simp;omega,aA (by rw [uH HO,List.map_append];rfl),HT2,H7,R7⟩
     case measure=>
      have e1:=uH HSL
      have e2:=uH HSL7
      simp at e2
      simp
      omega
    ·have hl0:l.length=0:=by omega
     obtain rfl:l=[]:=List.eq_nil_of_length_eq_zero hl0
     have hrow4:=aA (uH HRW w4 (fun f hf=>((uH H4).1.2.2.2.2.2.2 f hf).1))
     have HB4:=aA (uH H4).1.2.2.2.2.2.1
     have HFIN:=aA (show P.map Prod.fst=oV by
      have e0:=uH HT
      rw [uH HTK,List.append_nil] at e0
      exact uH HOT P e0.2.2.1 e0.2.1)
     go_wp2
     go_ret
     refine ⟨_,rfl,?_,uH HB4⟩
     refine (bI.of (uH hrow4) ?_).base hww
     rw [uH HO,←uH HFIN,List.map_map]
     rfl
end
end Go.Proofs.YtdhibeclkdepiaaGreat
