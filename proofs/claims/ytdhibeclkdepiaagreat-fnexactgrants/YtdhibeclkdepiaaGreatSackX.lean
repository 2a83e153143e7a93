/-
  Texts in one: OfQD, StdS, OrdV, GrantM, OrdI, OfQM, RoomL, FaI, BefS.
-/
import Derived.Test.YtdhibeclkdepiaaGreatSackW
import Derived.Test.YtdhibeclkdepiaaGreatSackR
import Derived.WalkMore
set_option maxRecDepth 100000
set_option maxHeartbeats 16000000
set_option linter.unusedVariables false
set_option linter.unusedSimpArgs false
namespace Go.Proofs.YtdhibeclkdepiaaGreat
section
open Go.RowKit
theorem aIB (w:World) (q:Q) :
  Calls Tryz.prog 204 #[qv q] w fun e w'=>e=.returned (.int .i64 (dF false q))∧Below w.heap.size w w':=by
 go_enter Tryz.func204,Tryz.ntmps204
 go_wp2
 go_ret
 exact ⟨rfl,yA (yH _ _) _⟩
theorem aB1 (ao:Option Addr) (len cap:Nat) (l:List Q) (nm:List UInt8) (a b:Int) (w:World) (h:iG w ao len l) (hl:len≤1048576) (hn:∀q ∈ l,q.name.length≤1048576) (hc:len≤cap) :
  Calls Tryz.prog 192 #[.slice ao len cap,.string (bs nm),rv a b] w fun e w'=>e=.returned (rv (ofR l nm a b false).1 (ofR l nm a b false).2)∧Below w.heap.size w w':=by
 have hmf:∀(fn:Fn) (first cap:Array Value) (w:World),(Instr.makeFunc fn first cap).run Tryz.prog w=.ok (.func fn first cap) w:=fun _ _ _ _=>rfl
 have HB0:=aA (yA (yA (yH _ w) (.cells #[.int .i64 a,.int .i64 b] 36)) (.cells #[.int .i64 0,.int .i64 0] 36))
 have HV2:=aA (gL w 36 36 a b 0 0)
 have C:=aA (aAT 204 (enters_of Tryz.func204 (by kernel_rfl) rfl) false (fun wx q=>aIB wx q) ao len cap l nm a b _ (h.below (uH HB0)) hl hn hc)
 obtain ⟨⟨x,y⟩,hxy⟩:∃p,ofR l nm a b false=p:=⟨_,rfl⟩
 rw [hxy] at C ⊢
 clear hxy h hn
 go_enter Tryz.func192,Tryz.ntmps192
 go_wp2_with fail
 refine (uH C).mono ?_
 rintro e w1 ⟨rfl,hb⟩
 have V2:=(uH HV2).below hb
 have k0:=V2.c0
 have k1:=V2.c1
 have k2:=V2.f 0
 have k3:=V2.f 1
 have k4:=V2.s0 (.int .i64 x)
 have k5:=V2.s1 (.int .i64 x) (.int .i64 y)
 have HB:=aA (yB (uH HB0) hb)
 clear hb V2 HV2 HB0 C
 go_wp2
 refine bodyPost_ret (v:=rv x y) (by simp [results,Tryz.results192,go_sem,k4,k5]) rfl ⟨rfl,?_⟩
 repeat (first | exact uH HB | refine yA ?_ _ | refine Below.drew ?_ | refine yC ?_ _ _ _ (by omega))
end
section
open Go.RowKit Go.Maps
def aBA (s:St) (nm:List UInt8):SE:=(nm,(aN s nm).1,(aN s nm).2,(aB7 s nm).1,(aB7 s nm).2)
def SB (w:World) (c:Array Value) (wx:World):Prop:=Blk wx w.heap.size c 34∧Below w.heap.size w wx
theorem SB.call {w wx wy:World} {c:Array Value} (h:SB w c wx) (hb:Below wx.heap.size wx wy):SB w c wy:=⟨h.1.below hb,yB h.2 hb⟩
theorem y9 (x:Sls) (s:St) (nm:List UInt8) (w:World) (h:jC w x s) (hf:bD s) (hc:x.ql≤x.qc) (hw:pX s) :
  Calls Tryz.prog 170 #[sv x s,.string (bs nm)] w fun e w'=>e=.returned (stv (aBA s nm))∧Below w.heap.size w w':=by
 have hql:x.ql≤1048576:=h.ql hf
 have hml:x.ml≤1048576:=h.ml hf
 have CT:=aA (fun wx (hb:Below w.heap.size w wx)=>show Calls Tryz.prog 174 #[sv x s] wx (fun e w'=>e=.returned (rv (dY s).1 (dY s).2)∧Below wx.heap.size wx w') from qY x s wx (h.2.2.1.below hb) hml)
 have CD:=aA (fun wx (hb:Below w.heap.size w wx)=>show Calls Tryz.prog 192 #[.slice x.qa x.ql x.qc,.string (bs nm),rv (dY s).1 (dY s).2] wx (fun e w'=>e=.returned (rv (aB7 s nm).1 (aB7 s nm).2)∧Below wx.heap.size wx w') from aB1 x.qa x.ql x.qc s.qs nm (dY s).1 (dY s).2 wx (h.1.below hb) hql (fun q hq=>(hf.1.2 q hq).1) hc)
 have CU:=aA (fun wx (hb:Below w.heap.size w wx)=>o9 x s nm wx (h.below hb) hf hc hw)
 obtain ⟨⟨tx,ty⟩,ht⟩:∃t,dY s=t:=⟨_,rfl⟩
 obtain ⟨⟨dx,dy⟩,hd⟩:∃t,aB7 s nm=t:=⟨_,rfl⟩
 obtain ⟨⟨ux,uy⟩,hu⟩:∃t,aN s nm=t:=⟨_,rfl⟩
 have HO:aBA s nm=(nm,ux,uy,dx,dy):=by rw [aBA,hd,hu]
 rw [HO]
 rw [ht] at CT
 rw [ht,hd] at CD
 rw [hu] at CU
 clear h hf hc hw ht hd hu HO
 obtain ⟨qa,ql,qc,aa,al,ac,ma,ml,mc,ca,cl,cc⟩:=x
 obtain ⟨qs,clock,epoch,next,serial,apps,ms,cs⟩:=s
 simp only at CT CD CU hql hml
 have hb0:=(yA (yA (yH _ w) (.cells (svc ⟨qa,ql,qc,aa,al,ac,ma,ml,mc,ca,cl,cc⟩ ⟨qs,clock,epoch,next,serial,apps,ms,cs⟩) 34)) (.cells #[.string ⟨#[]⟩,.int .i64 0,.int .i64 0,.int .i64 0,.int .i64 0] 209)).drew
 have SS0:=aA (show SB w (svc ⟨qa,ql,qc,aa,al,ac,ma,ml,mc,ca,cl,cc⟩ ⟨qs,clock,epoch,next,serial,apps,ms,cs⟩) _ from ⟨((yD w (svc ⟨qa,ql,qc,aa,al,ac,ma,ml,mc,ca,cl,cc⟩ ⟨qs,clock,epoch,next,serial,apps,ms,cs⟩) 34).al (.cells #[.string ⟨#[]⟩,.int .i64 0,.int .i64 0,.int .i64 0,.int .i64 0] 209)).drew,hb0⟩)
 have V0:=aA (show Blk ((w.alloc (.cells (svc ⟨qa,ql,qc,aa,al,ac,ma,ml,mc,ca,cl,cc⟩ ⟨qs,clock,epoch,next,serial,apps,ms,cs⟩) 34)).alloc (.cells #[.string ⟨#[]⟩,.int .i64 0,.int .i64 0,.int .i64 0,.int .i64 0] 209)).drew (w.heap.size+1) #[.string ⟨#[]⟩,.int .i64 0,.int .i64 0,.int .i64 0,.int .i64 0] 209 from by have:=yD (w.alloc (.cells (svc ⟨qa,ql,qc,aa,al,ac,ma,ml,mc,ca,cl,cc⟩ ⟨qs,clock,epoch,next,serial,apps,ms,cs⟩) 34)) #[.string ⟨#[]⟩,.int .i64 0,.int .i64 0,.int .i64 0,.int .i64 0] 209;rw [yE] at this;exact this.drew)
 have R:∀wx,SB w (svc ⟨qa,ql,qc,aa,al,ac,ma,ml,mc,ca,cl,cc⟩ ⟨qs,clock,epoch,next,serial,apps,ms,cs⟩) wx→wx.cell? ⟨w.heap.size,0,none⟩=some (.slice qa ql qc)∧wx.cell? ⟨w.heap.size,1,none⟩=some (.int .i64 clock)∧wx.cell? ⟨w.heap.size,2,none⟩=some (.int .i64 epoch)∧wx.cell? ⟨w.heap.size,3,none⟩=some (.int .i64 next)∧wx.cell? ⟨w.heap.size,4,none⟩=some (.int .i64 serial)∧wx.cell? ⟨w.heap.size,5,none⟩=some (.slice aa al ac)∧wx.cell? ⟨w.heap.size,6,none⟩=some (.slice ma ml mc)∧wx.cell? ⟨w.heap.size,7,none⟩=some (.slice ca cl cc):=fun wx h=>by
  have a0:=h.1.at 0;have a1:=h.1.at 1;have a2:=h.1.at 2;have a3:=h.1.at 3;have a4:=h.1.at 4;have a5:=h.1.at 5;have a6:=h.1.at 6;have a7:=h.1.at 7
  simp at a0 a1 a2 a3 a4 a5 a6 a7
  exact ⟨a0,a1,a2,a3,a4,a5,a6,a7⟩
 clear hb0
 go_enter Tryz.func170,Tryz.ntmps170
 go_wp2_with fail
 refine wp_region_held_drew (S:=SB w (svc ⟨qa,ql,qc,aa,al,ac,ma,ml,mc,ca,cl,cc⟩ ⟨qs,clock,epoch,next,serial,apps,ms,cs⟩)) (by kernel_rfl) (uH SS0) (fun S0=>?_)
 refine tW 0 5 _ S0 ?_
 try simp only [zW]
 refine tW 1 6 _ S0 ?_
 try simp only [zW]
 refine tW 2 7 _ S0 ?_
 try simp only [zW]
 refine tW 4 9 _ S0 ?_
 try simp only [zW]
 refine tW 5 10 _ S0 ?_
 try simp only [zW]
 refine tW 6 11 _ S0 ?_
 try simp only [zW]
 refine tW 7 12 _ S0 ?_
 try simp only [zW]
 refine wpAnyH_ready (rs:=[3]) (by kernel_rfl) (by simp) (AllReadyH.cons rfl (fun K hK=>?_) AllReadyH.nil)
 go_simp
 refine (uH CU _ S0.2).mono ?_
 rintro e w1 ⟨rfl,hb⟩
 have S1:=SB.call S0 hb
 have V1:=aA ((uH V0).below hb)
 clear hb V0
 go_wp2_with fail
 refine hK.out _ _ S1 (fun S0=>?_)
 clear hK K S1
 try simp only [zW]
 refine wpAnyH_ready (rs:=[8]) (by kernel_rfl) (by simp) (AllReadyH.cons rfl (fun K hK=>?_) AllReadyH.nil)
 go_simp
 refine (uH CT _ S0.2).mono ?_
 rintro e w2 ⟨rfl,hb⟩
 have S1:=SB.call S0 hb
 have V2:=aA ((uH V1).below hb)
 clear hb V1
 go_wp2_with fail
 refine hK.out _ _ S1 (fun S0=>?_)
 clear hK K S1
 try simp only [zW]
 refine wpAnyH_ready (rs:=[9]) (by kernel_rfl) (by simp) (AllReadyH.cons rfl (fun K hK=>?_) AllReadyH.nil)
 go_simp
 refine (uH CD _ S0.2).mono ?_
 rintro e w3 ⟨rfl,hb⟩
 have S1:=SB.call S0 hb
 have V3:=aA ((uH V2).below hb)
 clear hb V2
 go_wp2_with fail
 refine hK.out _ _ S1 (fun S0=>?_)
 clear hK K S1
 try simp only [zW]
 refine tW 10 15 _ S0 ?_
 try simp only [zW]
 refine tW 11 16 _ S0 ?_
 try simp only [zW]
 refine wpAnyH_ready (rs:=[12]) (by kernel_rfl) (by simp) (AllReadyH.cons rfl (fun K hK=>?_) AllReadyH.nil)
 have bw:=uH V3
 obtain ⟨c0,c1,c2,c3,c4⟩:=zp bw
 have f0:=bw.f 0;have f1:=bw.f 1;have f2:=bw.f 2;have f3:=bw.f 3;have f4:=bw.f 4
 have bz:=((((bw.set 0 (.string (bs nm))).set 1 (.int .i64 ux)).set 2 (.int .i64 uy)).set 3 (.int .i64 dx)).set 4 (.int .i64 dy)
 obtain ⟨z0,z1,z2,z3,z4⟩:=zp bz
 have hn:w.heap.size≠w.heap.size+1:=by omega
 have S1:SB w (svc ⟨qa,ql,qc,aa,al,ac,ma,ml,mc,ca,cl,cc⟩ ⟨qs,clock,epoch,next,serial,apps,ms,cs⟩) (((((w3.setCell ⟨w.heap.size+1,0,none⟩ (.string (bs nm))).setCell ⟨w.heap.size+1,1,none⟩ (.int .i64 ux)).setCell ⟨w.heap.size+1,2,none⟩ (.int .i64 uy)).setCell ⟨w.heap.size+1,3,none⟩ (.int .i64 dx)).setCell ⟨w.heap.size+1,4,none⟩ (.int .i64 dy)):=⟨((((S0.1.other _ _ _ hn).other _ _ _ hn).other _ _ _ hn).other _ _ _ hn).other _ _ _ hn,yC (yC (yC (yC (yC S0.2 _ _ _ (by omega)) _ _ _ (by omega)) _ _ _ (by omega)) _ _ _ (by omega)) _ _ _ (by omega)⟩
 clear bw bz V3
 go_simp
 go_wp2_with fail
 refine hK.out _ _ S1 (fun S0=>?_)
 clear hK K
 try simp only [zW]
 refine wpAnyH_done (by kernel_rfl) ?_ _
 have HB:=aA S1.2
 clear S1 S0 R CU CT CD SS0
 go_wp2
 refine bodyPost_ret (v:=stv (nm,ux,uy,dx,dy)) (by simp [results,Tryz.results170,go_sem,z0,z1,z2,z3,z4]) rfl ⟨rfl,uH HB⟩
end
section
open Go.RowKit
theorem aHe {a b c d:Int} (h:less a b c d=true):less c d a b=false:=by
 unfold less at *
 by_cases b0:b=0
 ·simp [b0] at h
 ·by_cases d0:d=0
  ·simp [d0]
  ·simp only [b0,d0,if_false,yL] at h ⊢
   simp only [decide_eq_false_iff_not]
   omega
theorem aJR (a b:Int):less a b a b=false:=by
 unfold less
 by_cases b0:b=0
 ·simp [b0]
 ·simp [b0]
theorem oJ:OrdM.Weak aLI where
 irr:=fun a=>aJR _ _
 asym:=fun a b h=>aHe h
 ntrans:=fun a b c h k=>aEB (jY ..).2 (jY ..).2 (jY ..).2 h k
theorem sU:OrdM.Names Op.bytesLess where
 irr:=aIQ
 trans:=aBe
 tri:=aIP
def leS (x y:SE):Prop:=gK y x=false
theorem aCf:HeapM.Order leS where
 trans:=fun x y z h k=>OrdM.ahead_ntrans oJ sU h k
 total:=fun x y=>by
  cases h:gK y x with
  | false=>exact .inl h
  | true=>exact .inr (OrdM.ahead_asym oJ sU h)
theorem aLL:∀x y,gK x y=true→leS x y:=fun x y h=>OrdM.ahead_asym oJ sU h
theorem aLK:∀x y,gK x y=false→leS y x:=fun x y h=>h
def aDL (s:St) (a b:List UInt8):Bool:=gK (aBA s a) (aBA s b)
theorem aIR (s:St) (a b:List UInt8) (h:aDL s a b=true):aDL s b a=false:=OrdM.ahead_asym oJ sU h
theorem aE3 (s:St) (a b c:List UInt8) (h:aDL s b a=false) (k:aDL s c b=false):aDL s c a=false:=OrdM.ahead_ntrans oJ sU h k
theorem aIS (s:St) (a b:List UInt8) (h:aDL s b a=false) (k:aDL s a b=false):a=b:=OrdM.ahead_anti (x:=aBA s a) (y:=aBA s b) oJ sU h k
def aK3 (p:List UInt8→List UInt8→Bool) (l:List (List UInt8)) (o:List (List UInt8)):List (List UInt8):=l.foldl (fun o x=>OrdM.ins p x o) o
theorem aCo (p:List UInt8→List UInt8→Bool):∀(l o:List (List UInt8)),(aK3 p l o).Perm (l++o)
 | [],o=>List.Perm.refl _
 | x::t,o=>by
  refine (aCo p t (OrdM.ins p x o)).trans ?_
  refine (List.Perm.append_left t (OrdM.ins_perm _ x o)).trans ?_
  exact List.perm_middle
theorem xE {p:List UInt8→List UInt8→Bool} (asym:∀a b,p a b=true→p b a=false) (nt:∀a b c,p b a=false→p c b=false→p c a=false):∀(l o:List (List UInt8)),HeapM.Sorted (fun a b=>p b a=false) o→HeapM.Sorted (fun a b=>p b a=false) (aK3 p l o)
 | [],o,h=>h
 | x::t,o,h=>xE asym nt t _ (OrdM.ins_sorted asym nt x o h)
theorem aHo (p:List UInt8→List UInt8→Bool) (l:List (List UInt8)) (x:List UInt8):aK3 p (l++[x]) []=OrdM.ins p x (aK3 p l []):=by
 rw [aK3,List.foldl_append];rfl
def gT (s:St):List (List UInt8):=aK3 (aDL s) (fC s.qs) []
theorem wI (s:St):(gT s).Perm (fC s.qs):=by
 have:=aCo (aDL s) (fC s.qs) []
 rw [List.append_nil] at this
 exact this
theorem aAV (s:St):(gT s).length≤s.qs.length:=by
 rw [(wI s).length_eq]
 exact nP _
theorem aCQ (s:St) (N:List (List UInt8)) (h:HeapM.Sorted (fun a b=>aDL s b a=false) N) (hp:N.Perm (fC s.qs)):N=gT s:=
 HeapM.sorted_unique (aIS s) _ _ h (xE (aIR s) (aE3 s) _ _ trivial) (hp.trans (wI s).symm)
theorem aAD (s:St):∀P:List SE,(∀x ∈ P,x=aBA s x.1)→HeapM.Sorted leS P→HeapM.Sorted (fun a b=>aDL s b a=false) (P.map Prod.fst)
 | [],_,_=>trivial
 | x::t,hx,h=>⟨fun y hy=>by
   obtain ⟨z,hz,rfl⟩:=List.mem_map.1 hy
   have h1:=h.1 z hz
   unfold leS at h1
   rw [hx x (by simp),hx z (by simp [hz])] at h1
   exact h1,aAD s t (fun z hz=>hx z (by simp [hz])) h.2⟩
theorem aDp (s:St) (P:List SE) (h:HeapM.Sorted leS P) (hp:P.Perm ((fC s.qs).map (aBA s))):P.map Prod.fst=gT s:=by
 refine aCQ s _ (aAD s P (fun x hx=>?_) h) ?_
 ·obtain ⟨n,_,rfl⟩:=List.mem_map.1 (hp.subset hx)
  rfl
 ·have:=hp.map Prod.fst
  rw [List.map_map] at this
  have e:(Prod.fst ∘ aBA s)=id:=by funext n;rfl
  rw [e,List.map_id] at this
  exact this
def tX (s:St) (k:Nat):List (List UInt8):=aK3 (aDL s) (((s.qs.take k).map Q.name).filter (aFB s.qs)) []
theorem aFr (s:St) {k:Nat} (h:s.qs.length≤k):tX s k=gT s:=by
 rw [tX,List.take_of_length_le h];rfl
theorem aDq (s:St) {k:Nat} (h:k<s.qs.length):tX s (k+1)=if aFB s.qs s.qs[k].name=true then OrdM.ins (aDL s) s.qs[k].name (tX s k) else tX s k:=by
 rw [tX,List.take_succ_eq_append_getElem h,List.map_append,List.filter_append]
 cases hb:aFB s.qs s.qs[k].name with
 | true=>
  rw [if_pos rfl]
  simp only [List.map_cons,List.map_nil,List.filter_cons,hb,if_true,List.filter_nil]
  rw [aHo];rfl
 | false=>
  rw [if_neg (by simp)]
  simp only [List.map_cons,List.map_nil,List.filter_cons,hb,List.filter_nil]
  rw [if_neg (by simp),List.append_nil];rfl
theorem aKA (s:St) (nm:List UInt8):Wf4 (aBA s nm).2.1 (aBA s nm).2.2.1 (aBA s nm).2.2.2.1 (aBA s nm).2.2.2.2:=by
 have h1:=dW (aJx s nm)
 have h2:=dW (aLR s nm)
 have w:∀x:Int,iT x→(Lit.int .i64 x).wf=true:=fun x hx=>by
  obtain ⟨a,b⟩:=hx
  have h1:(-9223372036854775808:Int)≤x:=by omega
  have h2:x≤9223372036854775807:=by omega
  simp only [Lit.wf,yK,yL]
  exact ⟨h1,h2⟩
 exact ⟨w _ h1.1,w _ h1.2,w _ h2.1,w _ h2.2⟩
def aIf (s:St) (nd qu:List UInt8) (a:Ask):Bool:=jJ a nd&&(within a.mem a.cpu (fI s nd).1 (fI s nd).2&&aDf s qu a.mem a.cpu)
def fM (p:Ask→Bool):List Ask→Nat→Option Nat
 | [],_=>none
 | a::t,k=>if p a=true then some k else fM p t (k+1)
theorem uM {p:Ask→Bool} {l:List Ask} {k:Nat} (h:k<l.length):fM p (l.drop k) k=if p l[k]=true then some k else fM p (l.drop (k+1)) (k+1):=by
 rw [List.drop_eq_getElem_cons h,fM]
theorem yI {p:Ask→Bool} {l:List Ask} {k:Nat} (h:l.length≤k):fM p (l.drop k) k=none:=by
 rw [List.drop_of_length_le h];rfl
theorem oM {p:Ask→Bool}:∀{l:List Ask} {k j:Nat},fM p l k=some j→k≤j∧j<k+l.length
 | [],_,_,h=>by cases h
 | a::t,k,j,h=>by
  rw [fM] at h
  split at h
  ·cases h;simp
  ·have:=oM h
   simp
   omega
def dO (p:Ask→Bool) (qu:List UInt8):List bY→Nat→Option (Nat×Nat)
 | [],_=>none
 | a::t,i=>if a.queue=qu then (match fM p a.asks 0 with | some k=>some (i,k) | none=>dO p qu t (i+1)) else dO p qu t (i+1)
theorem uO {p:Ask→Bool} {qu:List UInt8} {l:List bY} {i:Nat} (h:i<l.length):dO p qu (l.drop i) i=if l[i].queue=qu then (match fM p l[i].asks 0 with | some k=>some (i,k) | none=>dO p qu (l.drop (i+1)) (i+1)) else dO p qu (l.drop (i+1)) (i+1):=by
 rw [List.drop_eq_getElem_cons h,dO]
theorem yP {p:Ask→Bool} {qu:List UInt8} {l:List bY} {i:Nat} (h:l.length≤i):dO p qu (l.drop i) i=none:=by
 rw [List.drop_of_length_le h];rfl
def iA (s:St) (nd:List UInt8):List (List UInt8)→Option (Nat×Nat)
 | []=>none
 | q::t=>match dO (aIf s nd q) q s.apps 0 with | some r=>some r | none=>iA s nd t
def nN (s:St) (nd:List UInt8):Option (Nat×Nat):=iA s nd (gT s)
theorem tT {s:St} {nd:List UInt8} {l:List (List UInt8)} {i:Nat} (h:i<l.length):iA s nd (l.drop i)=match dO (aIf s nd l[i]) l[i] s.apps 0 with | some r=>some r | none=>iA s nd (l.drop (i+1)):=by
 rw [List.drop_eq_getElem_cons h,iA]
theorem vY {s:St} {nd:List UInt8} {l:List (List UInt8)} {i:Nat} (h:l.length≤i):iA s nd (l.drop i)=none:=by
 rw [List.drop_of_length_le h];rfl
theorem uP {p:Ask→Bool} (hp:∀a,p a=false) (qu:List UInt8):∀(l:List bY) (i:Nat),dO p qu l i=none
 | [],_=>rfl
 | a::t,i=>by
  have hn:∀(l:List Ask) k,fM p l k=none:=fun l=>by
   induction l with
   | nil=>intro k;rfl
   | cons a t ih=>intro k;rw [fM,if_neg (by rw [hp];simp)];exact ih _
  rw [dO,hn,uP hp qu t]
  split<;>rfl
end
section
open Go.RowKit Go.Maps
theorem SS.blk {w:World} {g cap:Nat} {xs:List ByteArray} (h:SS w g cap xs):∃cur,Blk w g cur 9∧xs.length≤cur.size∧cur.toList.take xs.length=xs.map Value.string:=by
 obtain ⟨cur,h1,h2,h3,h4,h5⟩:=h.block
 exact ⟨cur,h1,by omega,h5⟩
theorem dA.frame {B:Nat} {w:World} {v:Value} {ps:List (List UInt8)} (h:dA B w v ps):∃(vo:Option Addr) (vc:Nat) (F:List Fr3),v=.slice vo ps.length vc∧(∀f ∈ F,f.2.2=9∧B≤f.1∧Blk w f.1 f.2.1 f.2.2)∧∀wx:World,(∀f ∈ F,Blk wx f.1 f.2.1 f.2.2)→∀j (hj:j<ps.length),∃g,vo=some ⟨g,0,none⟩∧wx.cell? ⟨g,j,none⟩=some (.string (bs ps[j])):=by
 by_cases hp:ps=[]
 ·subst hp
  obtain ⟨a,c,rfl⟩:=jT h
  exact ⟨a,c,[],rfl,fun f hf=>absurd hf (by simp),fun wx _ j hj=>absurd hj (by simp)⟩
 ·obtain ⟨g,c,rfl,hs,hB⟩:=jS h hp
  obtain ⟨cur,b1,b2,b3⟩:=hs.blk
  refine ⟨_,c,[(g,cur,9)],rfl,fun f hf=>?_,fun wx hx j hj=>⟨g,rfl,?_⟩⟩
  ·simp at hf;subst hf;exact ⟨rfl,hB,b1⟩
  ·have hx1:=hx (g,cur,9) (by simp)
   rw [Blk.at hx1 j]
   have e:=congrArg (fun z:List Value=>z[j]?) b3
   simp only [List.length_map] at e
   rw [List.getElem?_take_of_lt hj,Array.getElem?_toList] at e
   simp only at e ⊢
   rw [e]
   simp [hj]
theorem aFG {K:List P4} {F:List Fr3} {w0 w:World} {bm bk g:Nat} {l:List SE} (h:HSt K F w0 bm bk g w l):HSt K [] w0 bm bk g w l:=by
 obtain ⟨⟨v0,h1,o1,_⟩,h3,h4,h5,h6,h7,_⟩:=h
 exact ⟨⟨v0,h1,o1,fun k hk=>absurd hk (by simp)⟩,h3,h4,h5,h6,h7,fun k hk=>absurd hk (by simp)⟩
theorem HSt.rowNe {K:List P4} {F:List Fr3} {w0 w:World} {bm bk g:Nat} {l:List SE} {v u:Value} (h:HSt K F w0 bm bk g w l) (hb:Blk w g #[v,u] 205) {k:Nat} {arr:Array Value} {te:TypeId} (hk:Blk w k arr te) (ht:te≠209):some k≠v.ownBlock:=fun e=>by
 obtain ⟨_,hown,_⟩:=h.obj hb
 rcases hown.2 with ⟨e2,_⟩ | ⟨b2,_,cur,e2,_,hc,_⟩
 ·rw [e2] at e;simp [Value.ownBlock] at e
 ·rw [e2] at e
  simp [Value.ownBlock] at e
  unfold Blk at hk
  rw [e,hc] at hk
  simp at hk
  exact ht hk.2.symm
theorem HSt.moreT {K:List P4} {F:List Fr3} {w0 w:World} {bm bk g:Nat} {l:List SE} (h:HSt K F w0 bm bk g w l) (f:Fr3) (h2:FrB bm g f w) (ht:f.2.2≠209):HSt K (f::F) w0 bm bk g w l:=by
 obtain ⟨v,b,_⟩:=h.1
 exact h.more b f h2 (h.rowNe b h2.1 ht)
theorem HSt.grow {K:List P4} {w0 w w':World} {bm bk g:Nat} {l:List SE} {r:Option Nat} (h:HSt K [] w0 bm bk g w l) (hg:w.grownBy w' r) (hr:∀k,r=some k→g<k∧∃arr te,Blk w k arr te∧te≠209):HSt K [] w0 bm bk g w' l:=by
 have hh:=h
 obtain ⟨⟨v,h1,h2,_⟩,h3,h4,h5,h6,h7,_⟩:=h
 have ne:∀k,k≤g→some k≠r:=fun k hk e=>by have:=(hr k e.symm).1;omega
 have hv:v.ownBlock=none∨v.ownBlock≠r:=by
  rcases h2.2 with ⟨e2,_⟩ | ⟨b2,_,cur,e2,_,hc,_⟩
  ·left;rw [e2];rfl
  ·right
   intro e
   rw [e2] at e
   obtain ⟨_,arr,te,hk,ht⟩:=hr b2 e.symm
   unfold Blk at hk
   rw [hc] at hk
   simp at hk
   exact ht hk.2.symm
 exact ⟨⟨v,(hg.block g h1.lt (ne g (yJ _))).trans h1,h2.kept hg hv,fun f hf=>absurd hf (by simp)⟩,(hg.block bk h3.lt (ne bk (by omega))).trans h3,h4.grown hg (ne bm (by omega)),h5,h6,h7.grown hg h7.size (fun k e=>by have:=(hr k e).1;omega),fun f hf=>absurd hf (by simp)⟩
theorem aED (l:List Q):(fC l).length≤20:=by
 cases h:aF l with
 | false=>rw [uA h];simp
 | true=>
  have h1:=nP l
  have:inB l.length 1 20=true:=by
   unfold aF at h
   simp only [yK] at h
   exact h.2
  simp [inB] at this
  omega
theorem aFH {K:List P4} {w0 w:World} {bm bk g:Nat} {l:List SE} (h:HSt K [] w0 bm bk g w l):∀F:List Fr3,(∀f ∈ F,FrB bm g f w∧f.2.2≠209)→HSt K F w0 bm bk g w l
 | [],_=>h
 | f::F,hf=>(aFH h F (fun k hk=>hf k (List.mem_cons_of_mem _ hk))).moreT f (hf f (List.mem_cons_self ..)).1 (hf f (List.mem_cons_self ..)).2
theorem aHU {B:Nat} {w:World} {v:Value} {o:List ByteArray} (h:w.ownsRow B 9 1 v o.length (gY o)):∃F:List Fr3,(∀f ∈ F,f.2.2=9∧B≤f.1∧Blk w f.1 f.2.1 f.2.2)∧(∀wx:World,(∀f ∈ F,Blk wx f.1 f.2.1 f.2.2)→wx.ownsRow B 9 1 v o.length (gY o))∧∀k,v.ownBlock=some k→∃f ∈ F,f.1=k:=by
 rcases h.2 with ⟨rfl,h0⟩ | ⟨g,cap,cur,rfl,hb,hc,k⟩
 ·exact ⟨[],fun f hf=>absurd hf (by simp),fun wx _=>⟨h.1,.inl ⟨rfl,h0⟩⟩,fun k hk=>by simp [Value.ownBlock] at hk⟩
 ·refine ⟨[(g,cur,9)],fun f hf=>?_,fun wx hx=>⟨h.1,.inr ⟨g,cap,cur,rfl,hb,hx (g,cur,9) (by simp),k⟩⟩,fun k' hk=>⟨_,List.mem_cons_self ..,by simpa [Value.ownBlock] using hk⟩⟩
  simp at hf;subst hf;exact ⟨rfl,hb,hc⟩
def aKu:Value→Nat
 | .slice _ n _=>n
 | _=>0
theorem aCP {w:World} {B n:Nat} {v:Value} {xs:List Value} (h:w.ownsRow B 9 1 v n xs):aKu v=n:=by
 rcases h.2 with ⟨rfl,e⟩ | ⟨_,_,_,rfl,_⟩
 ·exact e.symm
 ·rfl
theorem aLQ (x:SE) (wx:World):(Instr.field 209 (stv x) 0).run Tryz.prog wx=.ok (.string (bs x.1)) wx:=by
 simp [Instr.field,go_sem,asAgg,stv]
def Tk (s:St) (P l:List SE):Prop:=HeapM.Heap leS seD l.length l∧(P++l).Perm ((fC s.qs).map (aBA s))∧HeapM.Sorted leS P∧∀p ∈ P,∀x ∈ l,leS p x
theorem Tk.pop {s:St} {P l:List SE} (h:Tk s P l) (h0:0<l.length) :
  Tk s (P++[HeapM.at' seD (HeapM.popL seD gK l) (l.length - 1)]) ((HeapM.popL seD gK l).take (l.length - 1)):=by
 obtain ⟨h1,h2,h3,h4⟩:=h
 obtain ⟨p1,p2,p3,p4⟩:=HeapM.pop_heap aCf aLL aLK l h0 h1
 have hlen:((HeapM.popL seD gK l).take (l.length - 1)).length=l.length - 1:=by
  have:=p3.length_eq
  simp at this ⊢
  omega
 have hmem:HeapM.at' seD l 0 ∈ l:=p3.subset (by simp)
 rw [p1]
 refine ⟨by rw [hlen];exact p2,?_,HeapM.sorted_snoc _ _ h3 (fun y hy=>h4 y hy _ hmem),?_⟩
 ·rw [List.append_assoc]
  refine (List.Perm.append_left P ?_).trans h2
  exact List.perm_append_comm.trans p3
 ·intro p hp x hx
  have hxl:x ∈ l:=p3.subset (by simp [hx])
  rcases List.mem_append.1 hp with hp | hp
  ·exact h4 p hp x hxl
  ·simp at hp;subst hp;exact p4 x hx
theorem rA (x:Sls) (s:St) (w:World) (h:jC w x s) (hf:bD s) (hc:x.ql≤x.qc) (hw:pX s) :
  Calls Tryz.prog 135 #[sv x s] w fun e w'=>∃v,e=.returned v∧dA w.heap.size w' v (gT s)∧Below w.heap.size w w':=by
 obtain ⟨i0,hi,hz0,hz1,hz2⟩:=info_parts Tryz.infoS
 have hql:x.ql≤1048576:=h.ql hf
 obtain ⟨K,hKd⟩:∃K,(fC s.qs).map (fun n=>(aBA s n).2)=K:=⟨_,rfl⟩
 have hKl:K.length≤1048576:=by rw [←hKd,List.length_map];have:=nP s.qs;have:=h.1.1;omega
 have hK:K.length≤1000000000:=by omega
 have KW:∀p ∈ K,Wf4 p.1 p.2.1 p.2.2.1 p.2.2.2:=fun p hp=>by
  rw [←hKd] at hp
  obtain ⟨n,_,rfl⟩:=List.mem_map.1 hp
  exact aKA s n
 have HKM:=aA (show ∀n ∈ fC s.qs,(aBA s n).2 ∈ K from fun n hn=>by rw [←hKd];exact List.mem_map.2 ⟨n,hn,rfl⟩)
 have CV:=aA (fun wx (hb:Below w.heap.size w wx)=>aGH x.qa x.ql x.qc s.qs wx (h.1.below hb) hql (fun q hq=>(hf.1.2 q hq).1) hc)
 have CS:=aA (fun nm wx (hb:Below w.heap.size w wx)=>y9 x s nm wx (h.below hb) hf hc hw)
 have CLD:=aA (fun wx=>aHg K wx)
 have HT0:=aA (aED s.qs)
 have HOT:=aA (aDp s)
 obtain ⟨lv,hlv⟩:∃l,fC s.qs=l:=⟨_,rfl⟩
 rw [hlv] at CV HKM HT0 HOT
 have HTK:=aA (show ∀P l,Tk s P l=(HeapM.Heap leS seD l.length l∧(P++l).Perm (lv.map (aBA s))∧HeapM.Sorted leS P∧∀p ∈ P,∀x ∈ l,leS p x) from fun P l=>by rw [Tk,hlv])
 have HPOP:=aA (fun P l (h:Tk s P l) h0=>h.pop h0)
 have hlq:lv.length≤20:=uH HT0
 clear hlv h hf hc hw hKd HT0
 obtain ⟨of,hof⟩:∃f,aBA s=f:=⟨_,rfl⟩
 obtain ⟨tk,htk⟩:∃f,Tk s=f:=⟨_,rfl⟩
 obtain ⟨oV,hoV⟩:∃f,gT s=f:=⟨_,rfl⟩
 rw [hof] at CS HKM
 rw [htk,hof] at HTK
 rw [htk] at HPOP
 rw [hof,hoV] at HOT
 rw [hoV]
 have HF1:=aA (show ∀n,(of n).1=n from fun n=>by rw [←hof];rfl)
 clear hof htk hoV
 obtain ⟨qa,ql,qc,aa,al,ac,ma,ml,mc,ca,cl,cc⟩:=x
 obtain ⟨qs,clock,epoch,next,serial,apps,ms,cs⟩:=s
 simp only at CV CS hql
 have HB0:=aA (yA (yH _ w) (.cells (svc ⟨qa,ql,qc,aa,al,ac,ma,ml,mc,ca,cl,cc⟩ ⟨qs,clock,epoch,next,serial,apps,ms,cs⟩) 34))
 have P0:=aA (yD w (svc ⟨qa,ql,qc,aa,al,ac,ma,ml,mc,ca,cl,cc⟩ ⟨qs,clock,epoch,next,serial,apps,ms,cs⟩) 34)
 go_enter Tryz.func135,Tryz.ntmps135
 go_wp2_with fail
 refine (uH CLD _).mono ?_
 rintro e w1 ⟨rfl,hbk,hh,hb,hz⟩
 rw [yE] at hbk hh hz
 obtain ⟨g,hg⟩:∃g,w1.heap.size=g:=⟨_,rfl⟩
 have hgs:g=w.heap.size+3:=by omega
 have hba:=yA (yH _ w1) (.cells #[.slice none 0 0,aBl (w.heap.size+1+1)] 205)
 have HB1:=aA (yB (yB (uH HB0) hb) hba)
 have P1:=aA (((uH P0).below hb).below hba)
 have G1:=aA (show Blk (w1.alloc (.cells #[.slice none 0 0,aBl (w.heap.size+1+1)] 205)) g #[.slice none 0 0,aBl (w.heap.size+1+1)] 205 from by rw [←hg];exact yD _ _ _)
 have M1:=aA (hbk.below hba)
 have H1:=aA (hh.below hba)
 clear hbk hh hb hba hz HB0 P0 CLD
 obtain ⟨q0,q1,q2,q3,q4,q5,q6,q7⟩:_∧_∧_∧_∧_∧_∧_∧_:=⟨(uH P1).at 0,(uH P1).at 1,(uH P1).at 2,(uH P1).at 3,(uH P1).at 4,(uH P1).at 5,(uH P1).at 6,(uH P1).at 7⟩
 simp at q0 q1 q2 q3 q4 q5 q6 q7
 go_wp2_with fail
 refine (uH CV _ (uH HB1)).mono ?_
 rintro e w2 ⟨v0,rfl,ht,hb⟩
 obtain ⟨vo,vc,F0,rfl,hF0,hrow⟩:=ht.frame
 have HROW:=aA hrow
 have HB2:=aA (yB (uH HB1) hb)
 have zz:w1.heap.size+1≤w2.heap.size:=by have:=hb.size;rw [yE] at this;exact this
 obtain ⟨F,hFd⟩:∃F:List Fr3,(w.heap.size,svc ⟨qa,ql,qc,aa,al,ac,ma,ml,mc,ca,cl,cc⟩ ⟨qs,clock,epoch,next,serial,apps,ms,cs⟩,34)::F0=F:=⟨_,rfl⟩
 have HFS:=aA (show ∀f ∈ F,f.2.2≠209 from fun f hf=>by
  rw [←hFd] at hf
  rcases List.mem_cons.1 hf with rfl | hf
  ·show (34:TypeId)≠209
   decide
  ·rw [(hF0 f hf).1];decide)
 have HFR:=aA (show (∀f ∈ F,FrB (w.heap.size+1) (w.heap.size+3) f w2) from fun f hf=>by
  rw [←hFd] at hf
  rcases List.mem_cons.1 hf with rfl | hf
  ·exact ⟨(uH P1).below hb,by show w.heap.size≠w.heap.size+1;omega,by show w.heap.size≠w.heap.size+3;omega⟩
  ·have:=(hF0 f hf).2.1
   rw [yE] at this
   exact ⟨(hF0 f hf).2.2,by omega,by omega⟩)
 have HBX:=aA (show ∀wx:World,(∀f ∈ F,Blk wx f.1 f.2.1 f.2.2)→Blk wx w.heap.size (svc ⟨qa,ql,qc,aa,al,ac,ma,ml,mc,ca,cl,cc⟩ ⟨qs,clock,epoch,next,serial,apps,ms,cs⟩) 34 from fun wx hx=>hx _ (by rw [←hFd];exact List.mem_cons_self ..))
 have HRW:=aA (show ∀wx:World,(∀f ∈ F,Blk wx f.1 f.2.1 f.2.2)→∀j (hj:j<lv.length),∃g,vo=some ⟨g,0,none⟩∧wx.cell? ⟨g,j,none⟩=some (.string (bs lv[j])) from fun wx hx j hj=>uH HROW wx (fun f hf=>hx f (by rw [←hFd];exact List.mem_cons_of_mem _ hf)) j hj)
 have HI0:=aA (show HI K F w (w.heap.size+1) (w.heap.size+1+1) (w.heap.size+3) w2 [] from ⟨⟨⟨.slice none 0 0,by have:=(uH G1).below hb;rw [hgs] at this;exact this,World.ownsRow_nil _ _ _ _,fun f _ e=>by simp [Value.ownBlock] at e⟩,(uH M1).below hb,(uH H1).below hb,by omega,fun x hx=>absurd hx (by simp),uH HB2,uH HFR⟩,by simp⟩)
 clear hb ht hF0 hrow hFd HROW HFR HB1 HB2 P1 G1 M1 H1 q0 q1 q2 q3 q4 q5 q6 q7 CV hg zz
 go_wp2
 go_loopw [5,14] (fun _ i wr=>∃(k:Nat) (l:List SE),k≤lv.length∧i=.int .i64 k∧l.length=k∧Hid (HI K F w (w.heap.size+1) (w.heap.size+1+1) (w.heap.size+3) wr l)∧Hid (HeapM.Heap leS seD l.length l)∧Hid (l.Perm ((lv.take k).map of))) (fun _ i _=>lv.length - (intOf i).toNat)
 case atStart=>exact ⟨0,[],Nat.zero_le _,rfl,rfl,HI0,aA (fun k h0 h1=>absurd h1 (by simp)),aA (by simp)⟩
 case round=>
  obtain ⟨k,l,hk,rfl,hlk,HH,HHP,HPM⟩:=hrel
  by_cases hlt:k<lv.length
  ·have hbl:=fun f hf=>((uH HH).1.2.2.2.2.2.2 f hf).1
   obtain ⟨gv,rfl,hcv⟩:=uH HRW wr hbl k hlt
   have P2:=uH HBX wr hbl
   obtain ⟨q0,q1,q2,q3,q4,q5,q6,q7⟩:_∧_∧_∧_∧_∧_∧_∧_:=⟨P2.at 0,P2.at 1,P2.at 2,P2.at 3,P2.at 4,P2.at 5,P2.at 6,P2.at 7⟩
   simp at q0 q1 q2 q3 q4 q5 q6 q7
   have htk:=List.take_succ_eq_append_getElem hlt
   have hmem:=uH HKM lv[k] (yM _)
   obtain ⟨nm,hnm⟩:∃nm,lv[k]=nm:=⟨_,rfl⟩
   rw [hnm] at hcv htk hmem
   have C1:=aA (uH CS nm wr (uH HH).1.2.2.2.2.2.1)
   obtain ⟨z,hz⟩:∃z,of nm=z:=⟨_,rfl⟩
   rw [hz] at C1 hmem
   have C2:=aA (fun wx (hx:HI K F w (w.heap.size+1) (w.heap.size+1+1) (w.heap.size+3) wx l)=>aKh K F hK KW w (w.heap.size+1) (w.heap.size+1+1) (w.heap.size+3) wx l z hx (uH HFS) hmem (by omega))
   have HP2:=aA (HeapM.push_heap (d:=seD) aCf aLL aLK l z (uH HHP))
   have HPT:=aA (show (l++[z]).Perm ((lv.take (k+1)).map of) by rw [htk,List.map_append,←hz];exact (uH HPM).append_right _)
   obtain ⟨l2,hl2⟩:∃l2,HeapM.upL seD gK (l.length+1) (l++[z]) l.length=l2:=⟨_,rfl⟩
   rw [hl2] at C2 HP2
   have hlen2:l2.length=k+1:=by have:=(uH HP2).2.length_eq;simp at this;omega
   obtain ⟨z1,z2,z3,z4,z5⟩:=z
   clear hnm htk hz hmem hl2 hbl P2
   go_wp2_with fail
   refine (uH C1).mono ?_
   rintro e w4 ⟨rfl,hb⟩
   have HH4:=aA (show HI K F w (w.heap.size+1) (w.heap.size+1+1) (w.heap.size+3) w4 l from ⟨(uH HH).1.below hb,(uH HH).2⟩)
   clear hb C1 q0 q1 q2 q3 q4 q5 q6 q7 hcv
   go_wp2_with fail
   refine (uH C2 _ (uH HH4)).mono ?_
   rintro e w5 ⟨rfl,hh⟩
   have HH5:=aA hh
   clear hh C2 HH4
   go_wp2
   go_roundw
   case rel=>exact ⟨k+1,l2,by omega,by go_num,hlen2,HH5,aA (by have h9:=(uH HP2).1;rw [hlk] at h9;rw [hlen2];exact h9),aA ((uH HP2).2.trans (uH HPT))⟩
   case measure=>simp [intOf];omega
  ·have hkk:k=lv.length:=by omega
   have T0:=aA (show tk [] l by rw [uH HTK];refine ⟨uH HHP,?_,trivial,fun p hp=>absurd hp (by simp)⟩;have:=uH HPM;rw [hkk,List.take_length] at this;exact this)
   have HE:=aA (show HI K [] w (w.heap.size+1) (w.heap.size+1+1) (w.heap.size+3) wr l from ⟨aFG (uH HH).1,(uH HH).2⟩)
   have hlk2:l.length≤20:=by omega
   clear HH HHP HPM hlk
   subst hkk
   have hww:w.heap.size≤(w.heap.size+4):=by omega
   go_wp2
   go_loopw [6] (fun v wr=>∃(l P:List SE) (o:List ByteArray),l.length+o.length≤20∧Hid (o=P.map (fun x=>bs x.1))∧Hid (tk P l)∧Hid (HI K [] w (w.heap.size+1) (w.heap.size+1+1) (w.heap.size+3) wr l)∧Hid (wr.ownsRow (w.heap.size+4) 9 1 v o.length (gY o))) (fun v _=>20 - aKu v)
   case atStart=>exact ⟨l,[],[],by simpa using hlk2,aA rfl,T0,HE,aA (World.ownsRow_nil _ _ _ _)⟩
   case round=>
    obtain ⟨l,P,o,hlo,HO,HT,HH,HW⟩:=hrel
    clear HE T0 hlk2
    obtain ⟨F2,hF2,hrow,hown⟩:=aHU (uH HW)
    have HI2:=aA (show HI K F2 w (w.heap.size+1) (w.heap.size+1+1) (w.heap.size+3) wr l from ⟨aFH (uH HH).1 F2 (fun f hf=>⟨⟨(hF2 f hf).2.2,by have:=(hF2 f hf).2.1;omega,by have:=(hF2 f hf).2.1;omega⟩,by rw [(hF2 f hf).1];decide⟩),(uH HH).2⟩)
    have HRW:=aA hrow
    have HOB:=aA (show ∀k,∀u:Value,u.ownBlock=some k→True from fun _ _ _=>trivial)
    have HF2:=aA (show ∀f ∈ F2,f.2.2=9∧(w.heap.size+4)≤f.1 from fun f hf=>⟨(hF2 f hf).1,(hF2 f hf).2.1⟩)
    have HFB:=aA hown
    have hsl:=aCP (uH HW)
    have HSL:=aA hsl
    clear hF2 hrow hown HH HW hsl HOB
    obtain ⟨vr,b1,_⟩:=(uH HI2).1.1
    have c0:=b1.at 0
    have c1:=b1.at 1
    simp at c0 c1
    have C1:=aA (aBw K F2 w (w.heap.size+1) (w.heap.size+1+1) (w.heap.size+3) wr l vr (aBl (w.heap.size+1+1)) (uH HI2).1 b1)
    have hmax:l.length≤1000000:=(uH HI2).2
    clear b1
    go_wp2_with fail
    refine (uH C1).mono ?_
    rintro e w4 ⟨rfl,hh⟩
    have H4:=aA (show HI K F2 w (w.heap.size+1) (w.heap.size+1+1) (w.heap.size+3) w4 l from ⟨hh,hmax⟩)
    clear hh C1 c0 c1 HI2
    by_cases h0:0<l.length
    ·have HT2:=aA (uH HPOP P l (uH HT) h0)
     have hz4:w.heap.size≤w4.heap.size:=(uH H4).1.2.2.2.2.2.1.size
     have C2:=aA (aAy K F2 hK KW w (w.heap.size+1) (w.heap.size+1+1) (w.heap.size+3) w4 l (uH H4) h0 hz4)
     obtain ⟨l2,hl2⟩:∃l2,(HeapM.popL seD gK l).take (l.length - 1)=l2:=⟨_,rfl⟩
     obtain ⟨z,hz⟩:∃z,HeapM.at' seD (HeapM.popL seD gK l) (l.length - 1)=z:=⟨_,rfl⟩
     rw [hl2,hz] at C2 HT2
     have hlen2:l2.length+1=l.length:=by
      have e1:=uH HT2
      have e0:=uH HT
      rw [uH HTK] at e1 e0
      have p1:=e1.2.1.length_eq
      have p0:=e0.2.1.length_eq
      simp at p1 p0
      omega
     obtain ⟨z1,z2,z3,z4,z5⟩:=z
     clear hl2 hz HT
     have h0z:(0:Int)<(l.length:Int):=by omega
     have hfs:=aLQ (z1,z2,z3,z4,z5)
     go_wp2_with fail
     refine (uH C2).mono ?_
     rintro e w5 ⟨rfl,hh⟩
     have hrow5:=uH HRW w5 (fun f hf=>(hh.1.2.2.2.2.2.2 f hf).1)
     have H5:=aA hh
     have hz5:w.heap.size+3<w5.heap.size:=let ⟨_,b,_⟩:=hh.1.1;b.lt
     clear hh C2 H4 hz4
     go_wp2_with (at_builtin;refine wpList_append_own _ rfl _ _ 175 rfl (w.heap.size+4) 9 i0 (.string ByteArray.empty) 1 16 Tryz.underlying175 hi hz0 hz1 hz2 rfl (by decide) _ _ _ rfl (hrow5.alloc _) ⟨w5.heap.size,0,none⟩ 1 1 [.string (bs z1)] rfl rfl ?c1 ?c2 ?c3 ?c4 ?c5 ?_)
     case c1=>intro j v hj;match j,hj with | 0,hj=>simp at hj;subst hj;simp [Addr.add]
     case c2=>intro v hv;simp at hv;subst hv;rfl
     case c3=>unfold maxLen;omega
     case c4=>omega
     case c5=>simp;omega
     intro v' w7 hown' hgrow _
     have hgz:=hgrow.size
     rw [yE] at hgz
     have R7:=aA (show w7.ownsRow (w.heap.size+4) 9 1 v' (o++[bs z1]).length (gY (o++[bs z1])) by simpa [gY] using hown')
     have H7:=aA (show HI K [] w (w.heap.size+1) (w.heap.size+1+1) (w.heap.size+3) w7 l2 from ⟨((aFG (uH H5).1).below (yA (yH _ _) _)).grow hgrow (fun k hk=>by
      obtain ⟨f,hf,rfl⟩:=uH HFB k hk
      exact ⟨by have:=(uH HF2 f hf).2;omega,_,_,((uH H5).1.2.2.2.2.2.2 f hf).1.al _,by rw [(uH HF2 f hf).1];decide⟩),(uH H5).2⟩)
     have HSL7:=aA (aCP (uH R7))
     clear hown' hgrow hrow5 H5
     go_wp2
     go_roundw
     case rel=>exact ⟨l2,P++[(z1,z2,z3,z4,z5)],o++[bs z1],by simp;omega,aA (by rw [uH HO,List.map_append];rfl),HT2,H7,R7⟩
     case measure=>
      have e1:=uH HSL
      have e2:=uH HSL7
      simp at e2
      simp
      omega
    ·have hl0:l.length=0:=by omega
     obtain rfl:l=[]:=List.eq_nil_of_length_eq_zero hl0
     have hrow4:=aA (uH HRW w4 (fun f hf=>((uH H4).1.2.2.2.2.2.2 f hf).1))
     have HB4:=aA (uH H4).1.2.2.2.2.2.1
     have HFIN:=aA (show P.map Prod.fst=oV by
      have e0:=uH HT
      rw [uH HTK,List.append_nil] at e0
      exact uH HOT P e0.2.2.1 e0.2.1)
     go_wp2
     go_ret
     refine ⟨_,rfl,?_,uH HB4⟩
     refine (dA.of (uH hrow4) ?_).base hww
     rw [uH HO,←uH HFIN,List.map_map]
     rfl
end
section
open Go.RowKit
theorem aFy (w:World) (q:Q) :
  Calls Tryz.prog 196 #[qv q] w fun e w'=>e=.returned (.int .i64 (dF true q))∧Below w.heap.size w w':=by
 go_enter Tryz.func196,Tryz.ntmps196
 go_wp2
 go_ret
 exact ⟨rfl,yA (yH _ _) _⟩
theorem zR (ao:Option Addr) (len cap:Nat) (l:List Q) (nm:List UInt8) (a b:Int) (w:World) (h:iG w ao len l) (hl:len≤1048576) (hn:∀q ∈ l,q.name.length≤1048576) (hc:len≤cap) :
  Calls Tryz.prog 175 #[.slice ao len cap,.string (bs nm),rv a b] w fun e w'=>e=.returned (rv (ofR l nm a b true).1 (ofR l nm a b true).2)∧Below w.heap.size w w':=by
 have hmf:∀(fn:Fn) (first cap:Array Value) (w:World),(Instr.makeFunc fn first cap).run Tryz.prog w=.ok (.func fn first cap) w:=fun _ _ _ _=>rfl
 have HB0:=aA (yA (yA (yH _ w) (.cells #[.int .i64 a,.int .i64 b] 36)) (.cells #[.int .i64 0,.int .i64 0] 36))
 have HV2:=aA (gL w 36 36 a b 0 0)
 have C:=aA (aAT 196 (enters_of Tryz.func196 (by kernel_rfl) rfl) true (fun wx q=>aFy wx q) ao len cap l nm a b _ (h.below (uH HB0)) hl hn hc)
 obtain ⟨⟨x,y⟩,hxy⟩:∃p,ofR l nm a b true=p:=⟨_,rfl⟩
 rw [hxy] at C ⊢
 clear hxy h hn
 go_enter Tryz.func175,Tryz.ntmps175
 go_wp2_with fail
 refine (uH C).mono ?_
 rintro e w1 ⟨rfl,hb⟩
 have V2:=(uH HV2).below hb
 have k0:=V2.c0
 have k1:=V2.c1
 have k2:=V2.f 0
 have k3:=V2.f 1
 have k4:=V2.s0 (.int .i64 x)
 have k5:=V2.s1 (.int .i64 x) (.int .i64 y)
 have HB:=aA (yB (uH HB0) hb)
 clear hb V2 HV2 HB0 C
 go_wp2
 refine bodyPost_ret (v:=rv x y) (by simp [results,Tryz.results175,go_sem,k4,k5]) rfl ⟨rfl,?_⟩
 repeat (first | exact uH HB | refine yA ?_ _ | refine Below.drew ?_ | refine yC ?_ _ _ _ (by omega))
end
section
open Go.RowKit Go.Maps
theorem aDu (x y:Int) (wx:World):(Builtin.min_ #[3,3] 3 #[.int .i64 x,.int .i64 y]).run Tryz.prog wx=.ok (.int .i64 (min x y)) wx:=by
  have:(if y<x then y else x)=min x y:=by omega
  simp [go_sem]
theorem aGr {B:Nat} {w:World} {v:Value} {ps:List (List UInt8)} (h:dA B w v ps):∃ao cap,v=.slice ao ps.length cap∧∀j (hj:j<ps.length),∃g,ao=some ⟨g,0,none⟩∧w.cell? ⟨g,j,none⟩=some (.string (bs ps[j])):=by
  by_cases hp:ps=[]
  · subst hp
    obtain ⟨a,cap,rfl⟩:=jT h
    exact ⟨a,cap,rfl,fun j hj=>by simp at hj⟩
  · obtain ⟨g,cap,rfl,hs,_⟩:=jS h hp
    exact ⟨_,cap,rfl,fun j hj=>⟨g,rfl,hs.text hj⟩⟩
theorem aFm (s:St) (nm:List UInt8):(path s.qs nm).length≤1048576:=by
  cases ho:aF s.qs with
  | false=>simp [path,ho]
  | true=>
    have h2:=(r9.1 (by have:=kQ s.qs;rw [ho] at this;simp at this;exact this.1)).2.2
    have:=aBI s.qs nm
    omega
theorem aCB (x:Sls) (s:St) (nm:List UInt8) (w:World) (h:jC w x s) (hf:bD s) (hc:x.ql≤x.qc) (hw:pX s) :
    Calls Tryz.prog 136 #[sv x s,.string (bs nm)] w fun e w'=>e=.returned (.tuple #[rv (bH s (path s.qs nm) 1000000000 1000000000).1 (bH s (path s.qs nm) 1000000000 1000000000).2.1,.bool ((bH s (path s.qs nm) 1000000000 1000000000).2.2&&decide (0<(path s.qs nm).length))])∧Below w.heap.size w w':=by
  have hql:x.ql≤1048576:=h.ql hf
  have hml:x.ml≤1048576:=h.ml hf
  have CPath:=aA (fun wx (hb:Below w.heap.size w wx)=>aCp x.qa x.ql x.qc s.qs nm wx (h.1.below hb) hql (fun q hq=>(hf.1.2 q hq).1) hc)
  have CT:=aA (fun wx (hb:Below w.heap.size w wx)=>qY x s wx (h.2.2.1.below hb) hml)
  have CM:=aA (fun wx (hb:Below w.heap.size w wx) (n:List UInt8)=>show Calls Tryz.prog 175 #[.slice x.qa x.ql x.qc,.string (bs n),rv (dY s).1 (dY s).2] wx (fun e w'=>e=.returned (rv (iZ s n).1 (iZ s n).2)∧Below wx.heap.size wx w') from zR x.qa x.ql x.qc s.qs n (dY s).1 (dY s).2 wx (h.1.below hb) hql (fun q hq=>(hf.1.2 q hq).1) hc)
  have CU:=aA (fun wx (hb:Below w.heap.size w wx) (n:List UInt8)=>o9 x s n wx (h.below hb) hf hc hw)
  have HPL:=aA (aFm s nm)
  obtain ⟨⟨tx,ty⟩,ht⟩:∃t,dY s=t:=⟨_,rfl⟩
  rw [show (gX (aY s.ms)).1=tx from congrArg Prod.fst ht,show (gX (aY s.ms)).2.1=ty from congrArg Prod.snd ht] at CT
  rw [ht] at CM
  obtain ⟨ps,hps⟩:∃p,path s.qs nm=p:=⟨_,rfl⟩
  rw [hps] at CPath HPL ⊢
  obtain ⟨⟨zx,zy,zo⟩,hz⟩:∃z,bH s ps 1000000000 1000000000=z:=⟨_,rfl⟩
  have HZ:=aA (show bH s (ps.drop 0) 1000000000 1000000000=(zx,zy,zo) from hz)
  rw [hz]
  have HST:=aA (fun k (hk:k<ps.length) (a b:Int)=>aBT (s:=s) hk a b)
  have HEN:=aA (fun k (hk:ps.length≤k) (a b:Int)=>aCe (s:=s) hk a b)
  obtain ⟨lf,hlf⟩:∃f,bH s=f:=⟨_,rfl⟩
  rw [hlf] at HZ HST HEN
  obtain ⟨mf,hmf⟩:∃f,iZ s=f:=⟨_,rfl⟩
  rw [hmf] at CM HST
  obtain ⟨uf,huf⟩:∃f,aN s=f:=⟨_,rfl⟩
  rw [huf] at CU HST
  clear h hf hc hw ht hps hz hlf hmf huf
  obtain ⟨qa,ql,qc,aa,al,ac,ma,ml,mc,ca,cl,cc⟩:=x
  obtain ⟨qs,clock,epoch,next,serial,apps,ms,cs⟩:=s
  simp only at CM CU CT CPath hql hml
  have HB0:=aA (cK w (svc ⟨qa,ql,qc,aa,al,ac,ma,ml,mc,ca,cl,cc⟩ ⟨qs,clock,epoch,next,serial,apps,ms,cs⟩))
  have V0:=aA (iF w (svc ⟨qa,ql,qc,aa,al,ac,ma,ml,mc,ca,cl,cc⟩ ⟨qs,clock,epoch,next,serial,apps,ms,cs⟩))
  have P0:=aA ((fD w (svc ⟨qa,ql,qc,aa,al,ac,ma,ml,mc,ca,cl,cc⟩ ⟨qs,clock,epoch,next,serial,apps,ms,cs⟩)).al (.cells #[.int .i64 0,.int .i64 0] 36))
  go_enter Tryz.func136,Tryz.ntmps136
  go_wp2_with fail
  refine (uH CPath _ (uH HB0)).mono ?_
  rintro e w1 ⟨v,rfl,htx,hb⟩
  have HB1:=aA (yB (uH HB0) hb)
  have V1:=aA ((uH V0).below hb)
  have P1:=aA ((uH P0).below hb)
  have HTX:=aA htx
  obtain ⟨q0,q1,q2,q3,q4,q5,q6,q7⟩:_∧_∧_∧_∧_∧_∧_∧_:=⟨(uH P1).at 0,(uH P1).at 1,(uH P1).at 2,(uH P1).at 3,(uH P1).at 4,(uH P1).at 5,(uH P1).at 6,(uH P1).at 7⟩
  simp at q0 q1 q2 q3 q4 q5 q6 q7
  clear hb HB0 V0 P0 CPath htx
  go_wp2_with fail
  refine (uH CT _ (uH HB1)).mono ?_
  rintro e w2 ⟨rfl,hb⟩
  have hB2:=yA (yB (uH HB1) hb) (.cells #[.int .i64 tx,.int .i64 ty] 36)
  have hV2:=((uH V1).below hb).al (.cells #[.int .i64 tx,.int .i64 ty] 36)
  have hP2:=((uH P1).below hb).al (.cells #[.int .i64 tx,.int .i64 ty] 36)
  have hX2:=((uH HTX).below hb).below (yA (yH _ _) (.cells #[.int .i64 tx,.int .i64 ty] 36))
  have hT2:=aH w2 36 tx ty
  have hs2:=yE w2 (.cells #[.int .i64 tx,.int .i64 ty] 36)
  obtain ⟨W2,hW2⟩:∃W,w2.alloc (.cells #[.int .i64 tx,.int .i64 ty] 36)=W:=⟨_,rfl⟩
  rw [hW2] at hB2 hV2 hP2 hX2 hT2 hs2
  have HB2:=aA hB2
  have V2:=aA hV2
  have P2:=aA hP2
  have T2:=aA hT2
  have HS2:=aA hs2
  have HW2:=aA hW2
  obtain ⟨po,pc,rfl,hcell⟩:=aGr hX2
  have HC:=aA hcell
  have HV3:=aA (aH W2 36 1000000000 1000000000)
  have HB3:=aA (yA (yH _ W2) (.cells #[.int .i64 1000000000,.int .i64 1000000000] 36))
  clear hb q0 q1 q2 q3 q4 q5 q6 q7 V1 P1 HTX HB1 CT hB2 hV2 hP2 hX2 hT2 hs2 hcell
  obtain ⟨n,hn⟩:∃n,ps.length=n:=⟨_,rfl⟩
  rw [hn] at HPL ⊢
  have HN:=aA hn
  have hn2:n≤1048576:=uH HPL
  clear hn HPL
  go_wp2
  go_loopw [22] (fun i wr=>∃(k:Nat) (a b:Int),k≤n∧i=.int .i64 k∧Hid (lf (ps.drop k) a b=(zx,zy,zo))∧Hid (Var wr 36 W2.heap.size a b)∧Hid (Kp W2 wr)) (fun i _=>n - (intOf i).toNat)
  case atStart=>exact ⟨0,1000000000,1000000000,Nat.zero_le _,rfl,HZ,HV3,HB3⟩
  case round=>
    obtain ⟨k,a,b,hk,rfl,HQ,HVr,HK⟩:=hrel
    have kq:=uH HK
    obtain ⟨q0,q1,q2,q3,q4,q5,q6,q7⟩:_∧_∧_∧_∧_∧_∧_∧_:=⟨kq.cell ((uH P2).at 0),kq.cell ((uH P2).at 1),kq.cell ((uH P2).at 2),kq.cell ((uH P2).at 3),kq.cell ((uH P2).at 4),kq.cell ((uH P2).at 5),kq.cell ((uH P2).at 6),kq.cell ((uH P2).at 7)⟩
    have t0:=kq.cell (uH T2).c0
    have t1:=kq.cell (uH T2).c1
    have HBr:=aA (yB (uH HB2) kq)
    have hvl:=(uH V2).lt
    clear kq HV3 HB3
    by_cases hlt:k<n
    · have hkl:k<ps.length:=by have:=uH HN;omega
      obtain ⟨pg,rfl,hc0⟩:=uH HC k hkl
      have c0:=(uH HK).cell hc0
      have hst:=uH HST k hkl a b
      rw [uH HQ] at hst
      obtain ⟨nx,hs⟩:∃s,ps[k]=s:=⟨_,rfl⟩
      rw [hs] at c0 hst
      have CUk:=aA (fun wx hb=>uH CU wx hb nx)
      have CMk:=aA (fun wx hb=>uH CM wx hb nx)
      obtain ⟨⟨ux,uy⟩,hu⟩:∃u,uf nx=u:=⟨_,rfl⟩
      obtain ⟨⟨mx,my⟩,hm⟩:∃u,mf nx=u:=⟨_,rfl⟩
      rw [hu] at CUk hst
      rw [hm] at CMk hst
      simp only at CUk CMk hst
      have HSTk:=aA hst
      have k0:(0:Int)≤k:=by omega
      have k1:(k:Int)<n:=by omega
      have CA:=aA (fun wx=>pO mx my ux uy wx)
      obtain ⟨x',y',ok,hv⟩:∃x' y' ok,jQ (-1) mx my ux uy=rv x' y'∧aI (-1) mx my ux uy=ok∧(ok=true→x'=mx + -1*ux∧y'=my + -1*uy):=by
        cases hb:aI (-1) mx my ux uy
        · exact ⟨0,0,_,kL hb,rfl,by simp⟩
        · exact ⟨_,_,_,kW hb,rfl,fun _=>⟨rfl,rfl⟩⟩
      have HVV:=aA hv.2.2
      rw [hv.1,hv.2.1] at CA
      rw [hv.2.1] at HSTk
      have R:∀wx,Kp wr wx→wx.cell? ⟨w.heap.size,0,none⟩=some (.slice qa ql qc)∧wx.cell? ⟨w.heap.size,1,none⟩=some (.int .i64 clock)∧wx.cell? ⟨w.heap.size,2,none⟩=some (.int .i64 epoch)∧wx.cell? ⟨w.heap.size,3,none⟩=some (.int .i64 next)∧wx.cell? ⟨w.heap.size,4,none⟩=some (.int .i64 serial)∧wx.cell? ⟨w.heap.size,5,none⟩=some (.slice aa al ac)∧wx.cell? ⟨w.heap.size,6,none⟩=some (.slice ma ml mc)∧wx.cell? ⟨w.heap.size,7,none⟩=some (.slice ca cl cc)∧wx.cell? ⟨w2.heap.size,0,none⟩=some (.int .i64 tx)∧wx.cell? ⟨w2.heap.size,1,none⟩=some (.int .i64 ty):=fun wx h=>
        ⟨h.cell q0,h.cell q1,h.cell q2,h.cell q3,h.cell q4,h.cell q5,h.cell q6,h.cell q7,h.cell t0,h.cell t1⟩
      have A0:=aA (Kp.new wr)
      have HS:=aA (dE wr)
      have hwr:=(uH HVr).lt
      clear hc0 hkl hs hu hm hv hst
      go_wp2_with fail
      go_cut [11,12] from 26 to 37 (fun v7 v8 wx=>∃g,v7=.pointer (some ⟨g,0,none⟩)∧v8=.bool ok∧Kp wr wx∧Var wx 36 g x' y')
      case first=>
        go_region_held3 (fun wx=>Kp wr wx)
          (first | (with_reducible assumption) | exact uH SA | exact (uH HS).drew (uH A0) | exact (uH HS).al (uH SA) _ | exact (uH HS).al (by assumption) _ | exact (uH HS).al ((uH HS).drew (uH A0)) _ | exact (uH HS).call (by assumption) (by assumption) | exact (uH HS).set2 (uH SA) _ _ _ (by first | omega | (simp<;>omega)) | exact (uH HS).set2 (by assumption) _ _ _ (by first | omega | (simp<;>omega)))
          (first
          | (go_at_call 176;refine (uH CUk _ ?_).mono ?_;(exact yB (uH HBr) ((uH HS).below (by assumption)));rintro e wt ⟨rfl,hb⟩;have SA:=aA ((uH HS).call (by assumption) hb);have sz:=(uH HS).size (uH SA)
             first
               | (have V5:=(aH _ 36 0 0).below hb;(try simp at V5);have c50:=V5.c0;have c51:=V5.c1;have f50:=V5.f 0;have f51:=V5.f 1;have V5:=aA V5)
               | (have V5:=(aH _ 36 0 0).drew.below hb;(try simp at V5);have c50:=V5.c0;have c51:=V5.c1;have f50:=V5.f 0;have f51:=V5.f 1;have V5:=aA V5)
               | (have V5:=aA ((uH V5).below hb);have c50:=(uH V5).c0;have c51:=(uH V5).c1;have f50:=(uH V5).f 0;have f51:=(uH V5).f 1)
               | skip)
          | (go_at_call 175;refine (uH CMk _ ?_).mono ?_;(exact yB (uH HBr) ((uH HS).below (by assumption)));rintro e wt ⟨rfl,hb⟩;have SA:=aA ((uH HS).call (by assumption) hb);have sz:=(uH HS).size (uH SA)
             first
               | (have V5:=(aH _ 36 0 0).below hb;(try simp at V5);have c50:=V5.c0;have c51:=V5.c1;have f50:=V5.f 0;have f51:=V5.f 1;have V5:=aA V5)
               | (have V5:=(aH _ 36 0 0).drew.below hb;(try simp at V5);have c50:=V5.c0;have c51:=V5.c1;have f50:=V5.f 0;have f51:=V5.f 1;have V5:=aA V5)
               | (have V5:=aA ((uH V5).below hb);have c50:=(uH V5).c0;have c51:=(uH V5).c1;have f50:=(uH V5).f 0;have f51:=(uH V5).f 1)
               | skip)
          | (go_at_call 123;refine (uH CA _).mono ?_;rintro e wt ⟨rfl,hb⟩;have SA:=aA ((uH HS).call (by assumption) hb);have sz:=(uH HS).size (uH SA)
             first
               | (have V5:=(aH _ 36 0 0).below hb;(try simp at V5);have c50:=V5.c0;have c51:=V5.c1;have f50:=V5.f 0;have f51:=V5.f 1;have V5:=aA V5)
               | (have V5:=(aH _ 36 0 0).drew.below hb;(try simp at V5);have c50:=V5.c0;have c51:=V5.c1;have f50:=V5.f 0;have f51:=V5.f 1;have V5:=aA V5)
               | (have V5:=aA ((uH V5).below hb);have c50:=(uH V5).c0;have c51:=(uH V5).c1;have f50:=(uH V5).f 0;have f51:=(uH V5).f 1)
               | skip))
        all_goals
          go_wp2_with fail
          go_meet
          exact ⟨_,rfl,rfl,by first | assumption | exact uH SA | exact (uH HS).al (uH SA) _,by first | exact aH _ _ _ _ | exact (uH V5).set _ _⟩
      case rest=>
        obtain ⟨g,rfl,rfl,hA,hV⟩:=hcut
        obtain ⟨w4,rfl⟩:∃w4,w4=wc:=⟨wc,rfl⟩
        have HK4:=aA (show Kp W2 w4 from yB (uH HK) hA)
        have HB4:=aA (yB (uH HBr) hA)
        have V4:=aA ((uH HVr).below hA)
        have VR4:=aA ((uH V2).below (uH HK4))
        have s0:=hV.c0
        have s1:=hV.c1
        have l0:=(uH V4).c0
        have l1:=(uH V4).c1
        have lf0:=(uH V4).f 0
        have lf1:=(uH V4).f 1
        clear hA hV A0 HS R CA CUk CMk q0 q1 q2 q3 q4 q5 q6 q7 t0 t1 c0
        cases ok with
        | true=>
          obtain ⟨rfl,rfl⟩:=uH HVV rfl
          rw [if_pos rfl] at HSTk
          have hm0:=aDu a (mx + -1*ux)
          have hm1:=aDu b (my + -1*uy)
          obtain ⟨sx,hsx⟩:∃t,mx + -1*ux=t:=⟨_,rfl⟩
          obtain ⟨sy,hsy⟩:∃t,my + -1*uy=t:=⟨_,rfl⟩
          rw [hsx] at s0 hm0 HSTk
          rw [hsy] at s1 hm1 HSTk
          clear hsx hsy HVV
          obtain ⟨na,hna⟩:∃t,min a sx=t:=⟨_,rfl⟩
          obtain ⟨nb,hnb⟩:∃t,min b sy=t:=⟨_,rfl⟩
          rw [hna] at hm0 HSTk
          rw [hnb] at hm1 HSTk
          clear hna hnb
          go_wp2
          go_roundw
          case rel=>exact ⟨k+1,na,nb,by omega,by go_num,aA (uH HSTk).symm,aA ((uH V4).set _ _),aA (yC (yC (uH HK4) _ _ _ (yJ _)) _ _ _ (yJ _))⟩
          case measure=>simp [intOf];omega
        | false=>
          rw [if_neg (by simp)] at HSTk
          have hz:=uH HSTk
          simp only [Prod.mk.injEq] at hz
          obtain ⟨rfl,rfl,rfl⟩:=hz
          have u0:=(uH VR4).c0
          have u1:=(uH VR4).c1
          have uf0:=(uH VR4).f 0
          have uf1:=(uH VR4).f 1
          have k4:=(uH VR4).s0 (.int .i64 0)
          have k5:=(uH VR4).s1 (.int .i64 0) (.int .i64 0)
          clear HVV l0 l1 lf0 lf1 s0 s1
          go_wp2
          refine bodyPost_ret (v:=.tuple #[rv 0 0,.bool false]) (by simp [results,Tryz.results136,go_sem,k4,k5]) rfl ⟨rfl,?_⟩
          repeat (first | exact uH HB4 | refine yA ?_ _ | refine yC ?_ _ _ _ (by omega))
    · have hz:=uH HEN k (by have:=uH HN;omega) a b
      rw [uH HQ] at hz
      simp only [Prod.mk.injEq] at hz
      obtain ⟨rfl,rfl,rfl⟩:=hz
      have VR4:=aA ((uH V2).below (uH HK))
      have l0:=(uH HVr).c0
      have l1:=(uH HVr).c1
      have u0:=(uH VR4).c0
      have u1:=(uH VR4).c1
      have uf0:=(uH VR4).f 0
      have uf1:=(uH VR4).f 1
      have k4:=(uH VR4).s0 (.int .i64 zx)
      have k5:=(uH VR4).s1 (.int .i64 zx) (.int .i64 zy)
      clear q0 q1 q2 q3 q4 q5 q6 q7 t0 t1
      go_wp2
      refine bodyPost_ret (v:=.tuple #[rv zx zy,.bool (decide (0<n))]) (by simp [results,Tryz.results136,go_sem,k4,k5]) rfl ⟨by simp [uH HN],?_⟩
      repeat (first | exact uH HBr | refine yA ?_ _ | refine yC ?_ _ _ _ (by omega))
def plR:Option (Nat×Nat)→Int×Int×Bool
 | some r=>((r.1:Int),(r.2:Int),true)
 | none=>(0,0,false)
theorem aCx (x:Sls) (s:St) (nd:List UInt8) (w:World) (h:jC w x s) (hf:bD s) (hc:x.ql≤x.qc) (hw:pX s) (hnd:nd.length≤1048576) :
  Calls Tryz.prog 106 #[sv x s,.string (bs nd)] w fun e w'=>e=.returned (.tuple #[rv (plR (nN s nd)).1 (plR (nN s nd)).2.1,.bool (plR (nN s nd)).2.2])∧Below w.heap.size w w':=by
 have hal:x.al≤1048576:=h.al hf
 have CF:=aA (fun wx (hb:Below w.heap.size w wx)=>zT x s nd wx (h.below hb) hf hnd)
 have CO:=aA (fun wx (hb:Below w.heap.size w wx)=>rA x s wx (h.below hb) hf hc hw)
 have CR:=aA (fun nm wx (hb:Below w.heap.size w wx)=>aCB x s nm wx (h.below hb) hf hc hw)
 have HR:=aA h.2.1
 have HL:=aA h.2.1.1
 have HFA:=aA hf.2.1
 have HOL:=aA (show (gT s).length≤1048576 from by have:=aAV s;have:=h.1.1;have:=h.ql hf;omega)
 have HQS:=aA (fun i (hi:i<(gT s).length)=>tT (s:=s) (nd:=nd) hi)
 have HQE:=aA (fun i (hi:(gT s).length≤i)=>vY (s:=s) (nd:=nd) hi)
 have HCN:=aA (show ∀qu a,aIf s nd qu a=(jJ a nd&&(within a.mem a.cpu (fI s nd).1 (fI s nd).2&&((bH s (path s.qs qu) 1000000000 1000000000).2.2&&decide (0<(path s.qs qu).length)&&within a.mem a.cpu (bH s (path s.qs qu) 1000000000 1000000000).1 (bH s (path s.qs qu) 1000000000 1000000000).2.1))) from fun qu a=>by rw [aIf,aKE])
 obtain ⟨pr,hpr⟩:∃p,nN s nd=p:=⟨_,rfl⟩
 have HP0:=aA (show iA s nd ((gT s).drop 0)=pr from hpr)
 rw [hpr]
 obtain ⟨⟨fx,fy⟩,hfr⟩:∃p,fI s nd=p:=⟨_,rfl⟩
 obtain ⟨ord,hord⟩:∃p,gT s=p:=⟨_,rfl⟩
 obtain ⟨cn,hcn⟩:∃p,aIf s nd=p:=⟨_,rfl⟩
 obtain ⟨qf,hqf⟩:∃p,iA s nd=p:=⟨_,rfl⟩
 obtain ⟨lf,hlf⟩:∃f:List UInt8→Int×Int×Bool,(fun q=>((bH s (path s.qs q) 1000000000 1000000000).1,(bH s (path s.qs q) 1000000000 1000000000).2.1,(bH s (path s.qs q) 1000000000 1000000000).2.2&&decide (0<(path s.qs q).length)))=f:=⟨_,rfl⟩
 have CR2:=aA (show ∀nm wx (hb:Below w.heap.size w wx),Calls Tryz.prog 136 #[sv x s,.string (bs nm)] wx fun e w'=>e=.returned (.tuple #[rv (lf nm).1 (lf nm).2.1,.bool (lf nm).2.2])∧Below wx.heap.size wx w' from fun nm wx hb=>by rw [←hlf];exact uH CR nm wx hb)
 have HCN2:=aA (show ∀qu a,cn qu a=(jJ a nd&&(within a.mem a.cpu fx fy&&((lf qu).2.2&&within a.mem a.cpu (lf qu).1 (lf qu).2.1))) from fun qu a=>by rw [←hcn,uH HCN,hfr,←hlf])
 rw [hfr] at CF
 rw [hord] at CO HOL HQS HQE HP0
 rw [hcn,hqf] at HQS
 rw [hqf] at HQE HP0
 clear h hf hc hw hpr hfr hord hcn hqf hlf CR HCN
 obtain ⟨qa,ql,qc,aa,al,ac,ma,ml,mc,ca,cl,cc⟩:=x
 obtain ⟨qs,clock,epoch,next,serial,apps,ms,cs⟩:=s
 simp only at CF CO CR2 HR HL HFA HQS hal
 have hol:ord.length≤1048576:=uH HOL
 have HB0:=aA (yA (yA (yH _ w) (.cells (svc ⟨qa,ql,qc,aa,al,ac,ma,ml,mc,ca,cl,cc⟩ ⟨qs,clock,epoch,next,serial,apps,ms,cs⟩) 34)) (.cells #[.int .i64 0,.int .i64 0] 115))
 have P0:=aA ((yD w (svc ⟨qa,ql,qc,aa,al,ac,ma,ml,mc,ca,cl,cc⟩ ⟨qs,clock,epoch,next,serial,apps,ms,cs⟩) 34).al (.cells #[.int .i64 0,.int .i64 0] 115))
 have R0:=aA (show Var _ 115 (w.heap.size+1) 0 0 by have:=aH (w.alloc (.cells (svc ⟨qa,ql,qc,aa,al,ac,ma,ml,mc,ca,cl,cc⟩ ⟨qs,clock,epoch,next,serial,apps,ms,cs⟩) 34)) 115 0 0;rw [yE] at this;exact this)
 obtain ⟨q0,q1,q2,q3,q4,q5,q6,q7⟩:=zq (uH P0)
 go_enter Tryz.func106,Tryz.ntmps106
 go_wp2_with fail
 go_step3
 go_wp2_with fail
 refine (uH CF _ (uH HB0)).mono ?_
 rintro e w1 ⟨rfl,hb⟩
 clear q0 q1 q2 q3 q4 q5 q6 q7
 have hba:=yA (yA (yH _ w1) (.cells #[.int .i64 fx,.int .i64 fy] 36)) (.cells #[.int .i64 0,.int .i64 0] 115)
 have HB1:=aA (yB (yB (uH HB0) hb) hba)
 have P1:=aA (((uH P0).below hb).below hba)
 have R1:=aA (((uH R0).below hb).below hba)
 have F1:=aA ((aH w1 36 fx fy).al (.cells #[.int .i64 0,.int .i64 0] 115))
 have T1:=aA (show Var ((w1.alloc (.cells #[.int .i64 fx,.int .i64 fy] 36)).alloc (.cells #[.int .i64 0,.int .i64 0] 115)) 115 (w1.heap.size+1) 0 0 by have:=aH (w1.alloc (.cells #[.int .i64 fx,.int .i64 fy] 36)) 115 0 0;rw [yE] at this;exact this)
 have hgw:w.heap.size+1<w1.heap.size:=((uH R0).below hb).lt
 obtain ⟨gf,hgf⟩:∃g,w1.heap.size=g:=⟨_,rfl⟩
 rw [hgf] at F1 T1 hgw
 clear hb hba HB0 P0 R0 CF
 obtain ⟨q0,q1,q2,q3,q4,q5,q6,q7⟩:=zq (uH P1)
 go_wp2_with fail
 try rw [hgf]
 go_step3
 go_wp2_with fail
 try rw [hgf]
 refine (uH CO _ (uH HB1)).mono ?_
 rintro e w2 ⟨v0,rfl,ht,hb⟩
 obtain ⟨vo,vc,rfl,hrow⟩:=ht.open
 have HROW:=aA hrow
 have HB2:=aA (yB (uH HB1) hb)
 have P2:=aA ((uH P1).below hb)
 have R2:=aA ((uH R1).below hb)
 have F2:=aA ((uH F1).below hb)
 have T2:=aA ((uH T1).below hb)
 clear hb ht hrow HB1 P1 R1 F1 T1 CO q0 q1 q2 q3 q4 q5 q6 q7 hgf
 go_wp2
 go_loopw [8,10,11,12,13,14,15,16,24] (fun fo _ _ _ _ _ _ _ i wr=>∃q:Nat,fo=.bool false∧q≤ord.length∧i=.int .i64 q∧Hid (qf (ord.drop q)=pr)∧Hid (Below w2.heap.size w2 wr)) (fun _ _ _ _ _ _ _ _ i _=>ord.length - (intOf i).toNat)
 case atStart=>exact ⟨0,rfl,Nat.zero_le _,rfl,HP0,aA (yH _ _)⟩
 case round=>
  obtain ⟨q,rfl,hq,rfl,HQ,HK⟩:=hrel
  obtain ⟨wq,rfl⟩:∃wo:World,wo=wr:=⟨_,rfl⟩
  have HBq:=aA (yB (uH HB2) (uH HK))
  have Pq:=aA ((uH P2).below (uH HK))
  clear HP0
  by_cases hlt:q<ord.length
  ·obtain ⟨gv,rfl,hcv0⟩:=uH HROW q hlt
   have hcv:=((uH HK).cell (p:=⟨gv,q,none⟩) (yG hcv0)).trans hcv0
   have hst:=uH HQS q hlt
   obtain ⟨qn,hqn⟩:∃n,ord[q]=n:=⟨_,rfl⟩
   rw [hqn] at hcv hst
   rw [uH HQ] at hst
   obtain ⟨rr,hrr⟩:∃r,dO (cn qn) qn apps 0=r:=⟨_,rfl⟩
   rw [hrr] at hst
   have HRR:=aA hrr
   have HSQ:=aA hst
   have CR1:=aA (uH CR2 qn)
   have HCV1:=aA (uH HCN2 qn)
   obtain ⟨⟨lx,ly,ok⟩,hlk⟩:∃t,lf qn=t:=⟨_,rfl⟩
   rw [hlk] at CR1 HCV1
   simp only at CR1 HCV1
   obtain ⟨q0,q1,q2,q3,q4,q5,q6,q7⟩:=zq (uH Pq)
   clear hcv0 hst hqn hrr hlk HQ
   go_wp2_with fail
   refine (uH CR1 _ (uH HBq)).mono ?_
   rintro e w3 ⟨rfl,hb⟩
   have hb3:=yB (yH _ wq) (yA hb (.cells #[.int .i64 lx,.int .i64 ly] 36))
   have HK3:=aA (yB (uH HK) hb3)
   clear q0 q1 q2 q3 q4 q5 q6 q7 hcv CR1
   cases ok
   case false=>
    have HN:=aA (show qf (ord.drop (q+1))=pr by
     have h1:=uH HRR
     rw [uP (fun a=>by rw [uH HCV1];simp)] at h1
     have h2:=uH HSQ
     rw [←h1] at h2
     exact h2.symm)
    clear hb hb3
    go_wp2
    go_roundw
    case rel=>exact ⟨q+1,rfl,by omega,by go_num,HN,HK3⟩
    case measure=>simp [intOf];omega
   case true=>
    have V3:=aA (aH w3 36 lx ly)
    have P3:=aA ((uH Pq).below hb3)
    obtain ⟨g3,hg3⟩:∃g,w3.heap.size=g:=⟨_,rfl⟩
    rw [hg3] at V3
    obtain ⟨W3,hW3⟩:∃W,w3.alloc (.cells #[.int .i64 lx,.int .i64 ly] 36)=W:=⟨_,rfl⟩
    rw [hW3] at HK3 V3 P3
    have HW3:=aA hW3
    obtain ⟨q0,q1,q2,q3,q4,q5,q6,q7⟩:=zq (uH P3)
    clear hb hb3 hW3 Pq HBq HK
    rw [←uH HW3] at q0 q1 q2 q3 q4 q5 q6 q7
    go_wp2
    try rw [hg3]
    rw [uH HW3]
    clear q0 q1 q2 q3 q4 q5 q6 q7 hg3
    go_loopw [8,13,14,15,16,39] (fun fo _ _ _ _ i wr=>∃i':Nat,fo=.bool false∧i'≤al∧i=.int .i64 i'∧Hid (dO (cn qn) qn (apps.drop i') i'=rr)∧Hid (Below W3.heap.size W3 wr)) (fun _ _ _ _ _ i _=>al - (intOf i).toNat)
    case atStart=>exact ⟨0,rfl,Nat.zero_le _,rfl,aA (uH HRR),aA (yH _ _)⟩
    case round=>
     obtain ⟨i,rfl,hi,rfl,HI,HKi⟩:=hrel
     obtain ⟨wi,rfl⟩:∃wo:World,wo=wr:=⟨_,rfl⟩
     have HK4:=aA (yB (uH HK3) (uH HKi))
     have HB4:=aA (yB (uH HB2) (uH HK4))
     by_cases hil:i<al
     ·obtain ⟨bb,off,rfl,hqa⟩:=(uH HR).at hil
      have hkl:i<apps.length:=by have:=uH HL;omega
      have hst:=uO (p:=cn qn) (qu:=qn) hkl
      have hfa:=(uH HFA).2 _ (yM hkl)
      obtain ⟨xo,xl,xc,c0,c1,c2,hrow,_⟩:=hqa hkl
      replace c0:=Kp.cell (uH HB4) c0
      replace c1:=Kp.cell (uH HB4) c1
      replace c2:=Kp.cell (uH HB4) c2
      obtain ⟨⟨id,qu,asks⟩,hs⟩:∃s,apps[i]=s:=⟨_,rfl⟩
      rw [hs] at c0 c1 hst hrow hfa
      simp only at c0 c1 hst hrow
      rw [uH HI] at hst
      have hxl:xl≤1048576:=by have h1:=hrow.1;have h2:=hfa.2.1;simp only at h2;omega
      have HA:=aA hrow
      have HAL:=aA hrow.1
      have i0:(0:Int)≤i:=by omega
      have i1:(i:Int)<al:=by omega
      clear hqa hs hkl hrow hfa HI
      by_cases hqn:qu=qn
      case neg=>
       have hqe:=nS qu qn
       rw [decide_eq_false hqn] at hqe
       rw [if_neg hqn] at hst
       have HST:=aA hst
       clear hst
       go_wp2
       go_roundw
       case rel=>exact ⟨i+1,rfl,by omega,by go_num,aA (uH HST).symm,aA (yA (uH HKi) _)⟩
       case measure=>simp [intOf];omega
      subst hqn
      have hqe:=nS qu qu
      rw [decide_eq_true rfl] at hqe
      rw [if_pos rfl] at hst
      obtain ⟨ak,hak⟩:∃a,fM (cn qu) asks 0=a:=⟨_,rfl⟩
      rw [hak] at hst
      have HSA:=aA hst
      have HAK:=aA hak
      have HK5:=aA (yA (uH HKi) (.cells #[.int .i64 id,.string (bs qu),.slice xo xl xc] 74))
      clear hst hak
      go_wp2
      go_loopw [8,15,16,51] (fun fo _ _ i wr=>∃k:Nat,fo=.bool false∧k≤xl∧i=.int .i64 k∧Hid (fM (cn qu) (asks.drop k) k=ak)∧Hid (Below W3.heap.size W3 wr)) (fun _ _ _ i _=>xl - (intOf i).toNat)
      case atStart=>exact ⟨0,rfl,Nat.zero_le _,rfl,aA (uH HAK),HK5⟩
      case round=>
       obtain ⟨k,rfl,hk,rfl,HKA,HKk⟩:=hrel
       have HK6:=aA (yB (uH HK3) (uH HKk))
       have HB6:=aA (yB (uH HB2) (uH HK6))
       clear HK5 HAK c0 c1 c2
       by_cases hkl:k<xl
       ·obtain ⟨ab,aoff,rfl,ha⟩:=((uH HA).below (uH HB6)).at hkl
        have hjk:k<asks.length:=by have:=uH HAL;omega
        have hst:=uM (p:=cn qu) hjk
        obtain ⟨d0,d1,d2,d3,d4⟩:=ha hjk
        obtain ⟨a,hs⟩:∃s,asks[k]=s:=⟨_,rfl⟩
        rw [hs] at d0 d1 d2 d3 d4 hst
        rw [uH HKA] at hst
        have HST:=aA hst
        have HCV:=aA (uH HCV1 a)
        have CS1:=aA (fun wx=>qZ a nd wx)
        have CW1:=aA (fun wx=>o8 a.mem a.cpu fx fy wx)
        have CW2:=aA (fun wx=>o8 a.mem a.cpu lx ly wx)
        obtain ⟨su,hsu⟩:∃b,jJ a nd=b:=⟨_,rfl⟩
        obtain ⟨b1,hb1⟩:∃b,within a.mem a.cpu fx fy=b:=⟨_,rfl⟩
        obtain ⟨b2,hb2⟩:∃b,within a.mem a.cpu lx ly=b:=⟨_,rfl⟩
        rw [hsu] at CS1
        rw [hb1] at CW1
        rw [hb2] at CW2
        rw [hsu,hb1,hb2] at HCV
        have j0:(0:Int)≤k:=by omega
        have j1:(k:Int)<xl:=by omega
        clear ha hs hjk hst HKA hsu hb1 hb2
        obtain ⟨me,cp,ct,nx,mi⟩:=a
        simp only at d0 d1 d2 d3 d4 CS1 CW1 CW2
        have hba:=yA (yH _ wr) (.cells #[.int .i64 me,.int .i64 cp,.int .i64 ct,.string (bs nx),.int .i64 mi] 77)
        have HK7:=aA (yB (uH HKk) hba)
        have A7:=aA (yD wr #[.int .i64 me,.int .i64 cp,.int .i64 ct,.string (bs nx),.int .i64 mi] 77)
        clear hba
        go_wp2_with fail
        refine (uH CS1 _).mono ?_
        rintro e w8 ⟨rfl,hb⟩
        have HK8:=aA (yB (uH HK7) hb)
        have A8:=aA ((uH A7).below hb)
        clear hb HK7 A7 CS1 d0 d1 d2 d3 d4
        cases su
        case false=>
         go_wp2
         go_roundw
         case rel=>exact ⟨k+1,rfl,by omega,by go_num,aA (by have:=uH HST;rw [if_neg (by rw [uH HCV];simp)] at this;exact this.symm),HK8⟩
         case measure=>simp [intOf];omega
        case true=>
         have e0:=(uH A8).at 0;have e1:=(uH A8).at 1
         simp at e0 e1
         have fv:=(uH F2).below (yB (uH HK3) (uH HK8))
         have f0:=fv.c0;have f1:=fv.c1
         clear fv
         go_wp2_with fail
         refine (uH CW1 _).mono ?_
         rintro e w9 ⟨rfl,hb⟩
         have HK9:=aA (yB (uH HK8) hb)
         have A9:=aA ((uH A8).below hb)
         clear hb HK8 A8 CW1 e0 e1 f0 f1
         cases b1
         case false=>
          go_wp2
          go_roundw
          case rel=>exact ⟨k+1,rfl,by omega,by go_num,aA (by have:=uH HST;rw [if_neg (by rw [uH HCV];simp)] at this;exact this.symm),HK9⟩
          case measure=>simp [intOf];omega
         case true=>
          have e0:=(uH A9).at 0;have e1:=(uH A9).at 1
          simp at e0 e1
          have rv3:=(uH V3).below (uH HK9)
          have r0:=rv3.c0;have r1:=rv3.c1
          clear rv3
          go_wp2_with fail
          refine (uH CW2 _).mono ?_
          rintro e w10 ⟨rfl,hb⟩
          have HK10:=aA (yB (uH HK9) hb)
          clear hb HK9 A9 CW2 e0 e1 r0 r1
          cases b2
          case false=>
           go_wp2
           go_roundw
           case rel=>exact ⟨k+1,rfl,by omega,by go_num,aA (by have:=uH HST;rw [if_neg (by rw [uH HCV];simp)] at this;exact this.symm),HK10⟩
           case measure=>simp [intOf];omega
          case true=>
           have HE:=aA (show pr=some (i,k) by
            have h1:=uH HST
            rw [if_pos (by rw [uH HCV];rfl)] at h1
            have h2:=uH HSA
            rw [h1] at h2
            have h3:=uH HSQ
            rw [h2] at h3
            exact h3)
           have HKX:=aA (yB (uH HK3) (uH HK10))
           have T9:=(uH T2).below (uH HKX)
           have R9:=(uH R2).below (uH HKX)
           have ne1:w.heap.size+1≠gf+1:=by omega
           have T10:=T9.set (i:Int) (k:Int)
           have R10:=(R9.other (gf+1) 0 (.int .i64 (i:Int)) ne1).other (gf+1) 1 (.int .i64 (k:Int)) ne1
           have R11:=R10.set (i:Int) (k:Int)
           have a0:=T9.c0;have a1:=T9.c1;have a2:=T9.f 0;have a3:=T9.f 1
           have t0:=T10.c0;have t1:=T10.c1
           have r0:=R10.c0;have r1:=R10.c1;have r2:=R10.f 0;have r3:=R10.f 1
           have z0:=R11.c0;have z1:=R11.c1
           have HBX:=aA (yC (yC (yC (yC (yB (uH HB2) (uH HKX)) (gf+1) 0 (.int .i64 (i:Int)) (by omega)) (gf+1) 1 (.int .i64 (k:Int)) (by omega)) (w.heap.size+1) 0 (.int .i64 (i:Int)) (by omega)) (w.heap.size+1) 1 (.int .i64 (k:Int)) (by omega))
           clear T9 T10 R9 R10 R11
           go_wp2
           try rw [Exit.noGoto_ret]
           refine bodyPost_ret (v:=.tuple #[rv (i:Int) (k:Int),.bool true]) (by simp [results,Tryz.results106,go_sem,z0,z1]) rfl ⟨by rw [uH HE];rfl,uH HBX⟩
       ·have hke:asks.length≤k:=by have:=uH HAL;omega
        have HN:=aA (show dO (cn qu) qu (apps.drop (i+1)) (i+1)=rr by
         have h1:=uH HKA
         rw [yI hke] at h1
         have h2:=uH HSA
         rw [←h1] at h2
         exact h2.symm)
        have j1:¬(k:Int)<xl:=by omega
        clear HKA
        go_wp2
        go_roundw
        case rel=>exact ⟨i+1,rfl,by omega,by go_num,HN,HKk⟩
        case measure=>simp [intOf];omega
     ·have hie:apps.length≤i:=by have:=uH HL;omega
      have HN:=aA (show qf (ord.drop (q+1))=pr by
       have h1:=uH HI
       rw [yP hie] at h1
       have h2:=uH HSQ
       rw [←h1] at h2
       exact h2.symm)
      have j1:¬(i:Int)<al:=by omega
      clear HI
      go_wp2
      go_roundw
      case rel=>exact ⟨q+1,rfl,by omega,by go_num,HN,HK4⟩
      case measure=>simp [intOf];omega
  ·have HE:=aA (show pr=none by rw [←uH HQ];exact uH HQE q (by omega))
   have T9:=(uH T2).below (uH HK)
   have R9:=(uH R2).below (uH HK)
   have R11:=R9.set 0 0
   have t0:=T9.c0;have t1:=T9.c1
   have r0:=R9.c0;have r1:=R9.c1;have r2:=R9.f 0;have r3:=R9.f 1
   have z0:=R11.c0;have z1:=R11.c1
   have HBX:=aA (yC (yC (uH HBq) (w.heap.size+1) 0 (.int .i64 0) (by omega)) (w.heap.size+1) 1 (.int .i64 0) (by omega))
   have j1:¬(q:Int)<(ord.length:Int):=by omega
   clear T9 R9 R11 HQ
   go_wp2
   try rw [Exit.noGoto_ret]
   refine bodyPost_ret (v:=.tuple #[rv 0 0,.bool false]) (by simp [results,Tryz.results106,go_sem,z0,z1]) rfl ⟨by rw [uH HE];rfl,uH HBX⟩
def BFr (w w1:World) (na nb:List UInt8) (ux uy dx dy vx vy fx fy tx ty:Int) (gt:Nat) (qa:Option Addr) (ql qc:Nat) (aa:Option Addr) (al ac:Nat) (ma:Option Addr) (ml mc:Nat) (ca:Option Addr) (cl cc:Nat) (qs:List Q) (clock epoch next serial:Int) (apps:List bY) (ms:List Mac) (cs:List Con) (c:Nat) (fs:List Bool) (us:List Nat):Act:={ tmps:=#[sv ⟨qa,ql,qc,aa,al,ac,ma,ml,mc,ca,cl,cc⟩ ⟨qs,clock,epoch,next,serial,apps,ms,cs⟩,.string (bs na),.string (bs nb),.pointer (some ⟨w.heap.size,0,none⟩),undef,undef,.bool false,.pointer (some ⟨gt,0,none⟩),aJN (fs.getD 0 false) (us.getD 0 0),aJN (fs.getD 1 false) (us.getD 1 0),aJN (fs.getD 2 false) (us.getD 2 0),aJN (fs.getD 3 false) (us.getD 3 0),.agg #[.slice qa ql qc,.int .i64 clock,.int .i64 epoch,.int .i64 next,.int .i64 serial,.slice aa al ac,.slice ma ml mc,.slice ca cl cc],rv tx ty,.agg #[.slice qa ql qc,.int .i64 clock,.int .i64 epoch,.int .i64 next,.int .i64 serial,.slice aa al ac,.slice ma ml mc,.slice ca cl cc],.string (bs na),aJM (Nat.ble 1 c) (rv ux uy),.pointer (some ⟨w.heap.size,0,none⟩),.slice qa ql qc,.string (bs na),rv tx ty,aJM (Nat.ble 2 c) (rv dx dy),.agg #[.slice qa ql qc,.int .i64 clock,.int .i64 epoch,.int .i64 next,.int .i64 serial,.slice aa al ac,.slice ma ml mc,.slice ca cl cc],.string (bs nb),aJM (Nat.ble 3 c) (rv vx vy),.pointer (some ⟨w.heap.size,0,none⟩),.slice qa ql qc,.string (bs nb),rv tx ty,aJM (Nat.ble 4 c) (rv fx fy),undef,undef,undef,undef,undef,undef,undef,undef,undef,undef,undef,undef,undef,undef,undef,undef],defers:=[] }
def BFM:Mul:=⟨24,[2,7,10,15],[16,17,18,19],[20,21,22,23],[true,true,false,true,true,true,true,false,true,true,false,true,true,true,true,false,false,false,false,false,false,false,false,false]⟩
theorem aG0 (x:Sls) (s:St) (na nb:List UInt8) (w:World) (h:jC w x s) (hf:bD s) :
  Calls Tryz.prog 159 #[sv x s,.string (bs na),.string (bs nb)] w fun e w'=>e=.returned (.bool (aDL s na nb))∧Below w.heap.size w w':=by
 have hql:x.ql≤1048576:=h.ql hf
 have hml:x.ml≤1048576:=h.ml hf
 have CT:=aA (fun wx (hb:Below w.heap.size w wx)=>show Calls Tryz.prog 163 #[sv x s] wx (fun e w'=>e=.returned (rv (dY s).1 (dY s).2)∧Below wx.heap.size wx w') from qD x s wx (h.2.2.1.below hb) hml)
 have CD:=fun nm wx (hb:Below w.heap.size w wx)=>show Calls Tryz.prog 183 #[.slice x.qa x.ql x.qc,.string (bs nm),rv (dY s).1 (dY s).2] wx (fun e w'=>e=.returned (rv (aB7 s nm).1 (aB7 s nm).2)∧Below wx.heap.size wx w') from aBD x.qa x.ql x.qc s.qs nm (dY s).1 (dY s).2 wx (h.1.below hb) hql (fun q hq=>(hf.1.2 q hq).1)
 have CU:=fun nm wx (hb:Below w.heap.size w wx)=>oU x s nm wx (h.below hb) hf
 have CU1:=aA (CU na)
 have CU2:=aA (CU nb)
 have CD1:=aA (CD na)
 have CD2:=aA (CD nb)
 have HA:=aA (show aDL s na nb=(uV (aN s na).1 (aN s na).2 (aB7 s na).1 (aB7 s na).2 (aN s nb).1 (aN s nb).2 (aB7 s nb).1 (aB7 s nb).2||(!uV (aN s nb).1 (aN s nb).2 (aB7 s nb).1 (aB7 s nb).2 (aN s na).1 (aN s na).2 (aB7 s na).1 (aB7 s na).2&&Op.bytesLess na nb)) from rfl)
 obtain ⟨⟨tx,ty⟩,ht⟩:∃t,dY s=t:=⟨_,rfl⟩
 obtain ⟨⟨dx,dy⟩,hd⟩:∃t,aB7 s na=t:=⟨_,rfl⟩
 obtain ⟨⟨ux,uy⟩,hu⟩:∃t,aN s na=t:=⟨_,rfl⟩
 obtain ⟨⟨fx,fy⟩,hd2⟩:∃t,aB7 s nb=t:=⟨_,rfl⟩
 obtain ⟨⟨vx,vy⟩,hu2⟩:∃t,aN s nb=t:=⟨_,rfl⟩
 rw [ht] at CT
 rw [ht,hd] at CD1
 rw [ht,hd2] at CD2
 rw [hu] at CU1
 rw [hu2] at CU2
 rw [hd,hu,hd2,hu2] at HA
 obtain ⟨o,ho⟩:∃o,aDL s na nb=o:=⟨_,rfl⟩
 rw [ho] at HA ⊢
 simp only at HA CD1 CD2 CU1 CU2 CT
 obtain ⟨l1,hl1⟩:∃z,uV ux uy dx dy vx vy fx fy=z:=⟨_,rfl⟩
 obtain ⟨l2,hl2⟩:∃z,uV vx vy fx fy ux uy dx dy=z:=⟨_,rfl⟩
 have CL1:=aA (fun wx=>by have:=lK ux uy dx dy vx vy fx fy wx;rw [hl1] at this;exact this)
 have CL2:=aA (fun wx=>by have:=lK vx vy fx fy ux uy dx dy wx;rw [hl2] at this;exact this)
 rw [hl1,hl2] at HA
 clear h hf CD CU ht hd hu hd2 hu2 ho hl1 hl2
 obtain ⟨qa,ql,qc,aa,al,ac,ma,ml,mc,ca,cl,cc⟩:=x
 obtain ⟨qs,clock,epoch,next,serial,apps,ms,cs⟩:=s
 simp only at CT CD1 CD2 CU1 CU2 hql hml
 have HB0:=aA (yA (yH _ w) (.cells (svc ⟨qa,ql,qc,aa,al,ac,ma,ml,mc,ca,cl,cc⟩ ⟨qs,clock,epoch,next,serial,apps,ms,cs⟩) 34))
 have P0:=aA (yD w (svc ⟨qa,ql,qc,aa,al,ac,ma,ml,mc,ca,cl,cc⟩ ⟨qs,clock,epoch,next,serial,apps,ms,cs⟩) 34)
 go_enter Tryz.func159,Tryz.ntmps159
 go_wp2_with fail
 refine (uH CT _ (uH HB0)).mono ?_
 rintro e w0 ⟨rfl,hb⟩
 have HB1:=aA (yA (yB (uH HB0) hb) (.cells #[.int .i64 tx,.int .i64 ty] 36))
 have P1:=aA (((uH P0).below hb).al (.cells #[.int .i64 tx,.int .i64 ty] 36))
 have T1:=aA (aH w0 36 tx ty)
 clear hb HB0 P0 CT
 obtain ⟨gt,hgt⟩:∃g,w0.heap.size=g:=⟨_,rfl⟩
 rw [hgt] at T1
 go_wp2_with fail
 try rw [hgt]
 obtain ⟨w1,hw1⟩:∃W,w0.alloc (.cells #[.int .i64 tx,.int .i64 ty] 36)=W:=⟨_,rfl⟩
 rw [hw1] at HB1 P1 T1 ⊢
 clear hgt hw1
 obtain ⟨q0,q1,q2,q3,q4,q5,q6,q7⟩:_∧_∧_∧_∧_∧_∧_∧_:=⟨(uH P1).at 0,(uH P1).at 1,(uH P1).at 2,(uH P1).at 3,(uH P1).at 4,(uH P1).at 5,(uH P1).at 6,(uH P1).at 7⟩
 simp at q0 q1 q2 q3 q4 q5 q6 q7
 have R:∀wx,Kp w1 wx→wx.cell? ⟨w.heap.size,0,none⟩=some (.slice qa ql qc)∧wx.cell? ⟨w.heap.size,1,none⟩=some (.int .i64 clock)∧wx.cell? ⟨w.heap.size,2,none⟩=some (.int .i64 epoch)∧wx.cell? ⟨w.heap.size,3,none⟩=some (.int .i64 next)∧wx.cell? ⟨w.heap.size,4,none⟩=some (.int .i64 serial)∧wx.cell? ⟨w.heap.size,5,none⟩=some (.slice aa al ac)∧wx.cell? ⟨w.heap.size,6,none⟩=some (.slice ma ml mc)∧wx.cell? ⟨w.heap.size,7,none⟩=some (.slice ca cl cc)∧wx.cell? ⟨gt,0,none⟩=some (.int .i64 tx)∧wx.cell? ⟨gt,1,none⟩=some (.int .i64 ty):=fun wx h=>
  ⟨h.cell q0,h.cell q1,h.cell q2,h.cell q3,h.cell q4,h.cell q5,h.cell q6,h.cell q7,h.cell (uH T1).c0,h.cell (uH T1).c1⟩
 have A0:=aA (Kp.new w1)
 have HS:=aA (dE w1)
 clear P1 T1 q0 q1 q2 q3 q4 q5 q6 q7
 go_cut [8,9,10,11] from 14 to 29 (fun v8 v9 v10 v11 wx=>∃g8 g9 g10 g11,v8=.pointer (some ⟨g8,0,none⟩)∧v9=.pointer (some ⟨g9,0,none⟩)∧v10=.pointer (some ⟨g10,0,none⟩)∧v11=.pointer (some ⟨g11,0,none⟩)∧Var wx 36 g8 ux uy∧Var wx 36 g9 dx dy∧Var wx 36 g10 vx vy∧Var wx 36 g11 fx fy∧w1.heap.size≤g8∧w1.heap.size≤g9∧w1.heap.size≤g10∧w1.heap.size≤g11∧Kp w1 wx)
 case first=>
  refine wp_region_held_drew (S:=fun wx=>Kp w1 wx) (by kernel_rfl) ((uH HS).drew (uH A0)) (fun S0=>?_)
  refine tW 0 14 _ S0 ?_
  try simp only [zW]
  refine tW 1 15 _ S0 ?_
  try simp only [zW]
  refine tW 3 17 _ S0 ?_
  try simp only [zW]
  refine tW 4 18 _ S0 ?_
  try simp only [zW]
  refine tW 5 19 _ S0 ?_
  try simp only [zW]
  refine tW 6 20 _ S0 ?_
  try simp only [zW]
  refine tW 8 22 _ S0 ?_
  try simp only [zW]
  refine tW 9 23 _ S0 ?_
  try simp only [zW]
  refine tW 11 25 _ S0 ?_
  try simp only [zW]
  refine tW 12 26 _ S0 ?_
  try simp only [zW]
  refine tW 13 27 _ S0 ?_
  try simp only [zW]
  refine tW 14 28 _ S0 ?_
  try simp only [zW]
  refine aGl (n':=4+4+4) (l':=BFM.lst 0 [false,false,false,false] 0) (a':=BFr w w1 na nb ux uy dx dy vx vy fx fy tx ty gt qa ql qc aa al ac ma ml mc ca cl cc qs clock epoch next serial apps ms cs 0 [false,false,false,false] [0,0,0,0]) rfl (by kernel_rfl) rfl ?_
  refine aCC (w1:=w1) BFM (BFr w w1 na nb ux uy dx dy vx vy fx fy tx ty gt qa ql qc aa al ac ma ml mc ca cl cc qs clock epoch next serial apps ms cs) [(ux,uy),(dx,dy),(vx,vy),(fx,fy)] rfl (by as_aux_lemma=>kernel_rfl) ?call ?al ?st ?fin _ S0
  case call=>
   intro c f us wz K hc hf hu kp hK
   obtain ⟨f0,f1,f2,f3,rfl⟩:=aGF hf
   obtain ⟨g8,g9,g10,g11,rfl⟩:=aGF hu
   have hc4:c<4:=hc
   match c,hc4,hK with
   | 0,_,hK=>
    show Mul.step _ _ _ 2 _ _ _
    refine ⟨_,rfl,?_⟩
    simp only [BFr,List.getD_cons_zero,List.getD_cons_succ]
    go_simp
    refine (uH CU1 _ (yB (uH HB1) kp)).mono ?_
    rintro e w2 ⟨rfl,hb⟩
    go_wp2_with fail
    first | exact hb | exact hK _ hb
   | 1,_,hK=>
    show Mul.step _ _ _ 7 _ _ _
    refine ⟨_,rfl,?_⟩
    simp only [BFr,List.getD_cons_zero,List.getD_cons_succ]
    go_simp
    refine (uH CD1 _ (yB (uH HB1) kp)).mono ?_
    rintro e w2 ⟨rfl,hb⟩
    go_wp2_with fail
    first | exact hb | exact hK _ hb
   | 2,_,hK=>
    show Mul.step _ _ _ 10 _ _ _
    refine ⟨_,rfl,?_⟩
    simp only [BFr,List.getD_cons_zero,List.getD_cons_succ]
    go_simp
    refine (uH CU2 _ (yB (uH HB1) kp)).mono ?_
    rintro e w2 ⟨rfl,hb⟩
    go_wp2_with fail
    first | exact hb | exact hK _ hb
   | 3,_,hK=>
    show Mul.step _ _ _ 15 _ _ _
    refine ⟨_,rfl,?_⟩
    simp only [BFr,List.getD_cons_zero,List.getD_cons_succ]
    go_simp
    refine (uH CD2 _ (yB (uH HB1) kp)).mono ?_
    rintro e w2 ⟨rfl,hb⟩
    go_wp2_with fail
    first | exact hb | exact hK _ hb
  case al=>
   intro j c f us wz K hc hf hu hj hK
   obtain ⟨f0,f1,f2,f3,rfl⟩:=aGF hf
   obtain ⟨g8,g9,g10,g11,rfl⟩:=aGF hu
   match j,hj,hK with
   | 0,hj,hK=>
    show Mul.step _ _ _ 16 _ _ _
    refine ⟨_,rfl,?_⟩
    simp only [BFr,List.getD_cons_zero,List.getD_cons_succ]
    go_simp
    go_wp2_with fail
    exact hK
   | 1,hj,hK=>
    show Mul.step _ _ _ 17 _ _ _
    refine ⟨_,rfl,?_⟩
    simp only [BFr,List.getD_cons_zero,List.getD_cons_succ]
    go_simp
    go_wp2_with fail
    exact hK
   | 2,hj,hK=>
    show Mul.step _ _ _ 18 _ _ _
    refine ⟨_,rfl,?_⟩
    simp only [BFr,List.getD_cons_zero,List.getD_cons_succ]
    go_simp
    go_wp2_with fail
    exact hK
   | 3,hj,hK=>
    show Mul.step _ _ _ 19 _ _ _
    refine ⟨_,rfl,?_⟩
    simp only [BFr,List.getD_cons_zero,List.getD_cons_succ]
    go_simp
    go_wp2_with fail
    exact hK
   | j+4,hj,_=>simp at hj
  case st=>
   intro s us wz K hs hu hv hK
   obtain ⟨g8,g9,g10,g11,rfl⟩:=aGF hu
   have hs4:s<4:=hs
   match s,hs4,hv,hK with
   | 0,_,hv,hK=>
    replace hv:Var wz 36 g8 0 0:=hv
    have y0:=hv.c0
    have y1:=hv.c1
    have y2:=hv.f 0
    have y3:=hv.f 1
    show Mul.step _ _ _ 20 { tmps:=#[sv ⟨qa,ql,qc,aa,al,ac,ma,ml,mc,ca,cl,cc⟩ ⟨qs,clock,epoch,next,serial,apps,ms,cs⟩,.string (bs na),.string (bs nb),.pointer (some ⟨w.heap.size,0,none⟩),undef,undef,.bool false,.pointer (some ⟨gt,0,none⟩),.pointer (some ⟨g8,0,none⟩),.pointer (some ⟨g9,0,none⟩),.pointer (some ⟨g10,0,none⟩),.pointer (some ⟨g11,0,none⟩),.agg #[.slice qa ql qc,.int .i64 clock,.int .i64 epoch,.int .i64 next,.int .i64 serial,.slice aa al ac,.slice ma ml mc,.slice ca cl cc],rv tx ty,.agg #[.slice qa ql qc,.int .i64 clock,.int .i64 epoch,.int .i64 next,.int .i64 serial,.slice aa al ac,.slice ma ml mc,.slice ca cl cc],.string (bs na),rv ux uy,.pointer (some ⟨w.heap.size,0,none⟩),.slice qa ql qc,.string (bs na),rv tx ty,rv dx dy,.agg #[.slice qa ql qc,.int .i64 clock,.int .i64 epoch,.int .i64 next,.int .i64 serial,.slice aa al ac,.slice ma ml mc,.slice ca cl cc],.string (bs nb),rv vx vy,.pointer (some ⟨w.heap.size,0,none⟩),.slice qa ql qc,.string (bs nb),rv tx ty,rv fx fy,undef,undef,undef,undef,undef,undef,undef,undef,undef,undef,undef,undef,undef,undef,undef,undef],defers:=[] } _ _
    refine ⟨_,rfl,?_⟩
    simp only [BFr,List.getD_cons_zero,List.getD_cons_succ]
    go_simp
    go_wp2_with fail
    exact hK
   | 1,_,hv,hK=>
    replace hv:Var wz 36 g9 0 0:=hv
    have y0:=hv.c0
    have y1:=hv.c1
    have y2:=hv.f 0
    have y3:=hv.f 1
    show Mul.step _ _ _ 21 { tmps:=#[sv ⟨qa,ql,qc,aa,al,ac,ma,ml,mc,ca,cl,cc⟩ ⟨qs,clock,epoch,next,serial,apps,ms,cs⟩,.string (bs na),.string (bs nb),.pointer (some ⟨w.heap.size,0,none⟩),undef,undef,.bool false,.pointer (some ⟨gt,0,none⟩),.pointer (some ⟨g8,0,none⟩),.pointer (some ⟨g9,0,none⟩),.pointer (some ⟨g10,0,none⟩),.pointer (some ⟨g11,0,none⟩),.agg #[.slice qa ql qc,.int .i64 clock,.int .i64 epoch,.int .i64 next,.int .i64 serial,.slice aa al ac,.slice ma ml mc,.slice ca cl cc],rv tx ty,.agg #[.slice qa ql qc,.int .i64 clock,.int .i64 epoch,.int .i64 next,.int .i64 serial,.slice aa al ac,.slice ma ml mc,.slice ca cl cc],.string (bs na),rv ux uy,.pointer (some ⟨w.heap.size,0,none⟩),.slice qa ql qc,.string (bs na),rv tx ty,rv dx dy,.agg #[.slice qa ql qc,.int .i64 clock,.int .i64 epoch,.int .i64 next,.int .i64 serial,.slice aa al ac,.slice ma ml mc,.slice ca cl cc],.string (bs nb),rv vx vy,.pointer (some ⟨w.heap.size,0,none⟩),.slice qa ql qc,.string (bs nb),rv tx ty,rv fx fy,undef,undef,undef,undef,undef,undef,undef,undef,undef,undef,undef,undef,undef,undef,undef,undef],defers:=[] } _ _
    refine ⟨_,rfl,?_⟩
    simp only [BFr,List.getD_cons_zero,List.getD_cons_succ]
    go_simp
    go_wp2_with fail
    exact hK
   | 2,_,hv,hK=>
    replace hv:Var wz 36 g10 0 0:=hv
    have y0:=hv.c0
    have y1:=hv.c1
    have y2:=hv.f 0
    have y3:=hv.f 1
    show Mul.step _ _ _ 22 { tmps:=#[sv ⟨qa,ql,qc,aa,al,ac,ma,ml,mc,ca,cl,cc⟩ ⟨qs,clock,epoch,next,serial,apps,ms,cs⟩,.string (bs na),.string (bs nb),.pointer (some ⟨w.heap.size,0,none⟩),undef,undef,.bool false,.pointer (some ⟨gt,0,none⟩),.pointer (some ⟨g8,0,none⟩),.pointer (some ⟨g9,0,none⟩),.pointer (some ⟨g10,0,none⟩),.pointer (some ⟨g11,0,none⟩),.agg #[.slice qa ql qc,.int .i64 clock,.int .i64 epoch,.int .i64 next,.int .i64 serial,.slice aa al ac,.slice ma ml mc,.slice ca cl cc],rv tx ty,.agg #[.slice qa ql qc,.int .i64 clock,.int .i64 epoch,.int .i64 next,.int .i64 serial,.slice aa al ac,.slice ma ml mc,.slice ca cl cc],.string (bs na),rv ux uy,.pointer (some ⟨w.heap.size,0,none⟩),.slice qa ql qc,.string (bs na),rv tx ty,rv dx dy,.agg #[.slice qa ql qc,.int .i64 clock,.int .i64 epoch,.int .i64 next,.int .i64 serial,.slice aa al ac,.slice ma ml mc,.slice ca cl cc],.string (bs nb),rv vx vy,.pointer (some ⟨w.heap.size,0,none⟩),.slice qa ql qc,.string (bs nb),rv tx ty,rv fx fy,undef,undef,undef,undef,undef,undef,undef,undef,undef,undef,undef,undef,undef,undef,undef,undef],defers:=[] } _ _
    refine ⟨_,rfl,?_⟩
    simp only [BFr,List.getD_cons_zero,List.getD_cons_succ]
    go_simp
    go_wp2_with fail
    exact hK
   | 3,_,hv,hK=>
    replace hv:Var wz 36 g11 0 0:=hv
    have y0:=hv.c0
    have y1:=hv.c1
    have y2:=hv.f 0
    have y3:=hv.f 1
    show Mul.step _ _ _ 23 { tmps:=#[sv ⟨qa,ql,qc,aa,al,ac,ma,ml,mc,ca,cl,cc⟩ ⟨qs,clock,epoch,next,serial,apps,ms,cs⟩,.string (bs na),.string (bs nb),.pointer (some ⟨w.heap.size,0,none⟩),undef,undef,.bool false,.pointer (some ⟨gt,0,none⟩),.pointer (some ⟨g8,0,none⟩),.pointer (some ⟨g9,0,none⟩),.pointer (some ⟨g10,0,none⟩),.pointer (some ⟨g11,0,none⟩),.agg #[.slice qa ql qc,.int .i64 clock,.int .i64 epoch,.int .i64 next,.int .i64 serial,.slice aa al ac,.slice ma ml mc,.slice ca cl cc],rv tx ty,.agg #[.slice qa ql qc,.int .i64 clock,.int .i64 epoch,.int .i64 next,.int .i64 serial,.slice aa al ac,.slice ma ml mc,.slice ca cl cc],.string (bs na),rv ux uy,.pointer (some ⟨w.heap.size,0,none⟩),.slice qa ql qc,.string (bs na),rv tx ty,rv dx dy,.agg #[.slice qa ql qc,.int .i64 clock,.int .i64 epoch,.int .i64 next,.int .i64 serial,.slice aa al ac,.slice ma ml mc,.slice ca cl cc],.string (bs nb),rv vx vy,.pointer (some ⟨w.heap.size,0,none⟩),.slice qa ql qc,.string (bs nb),rv tx ty,rv fx fy,undef,undef,undef,undef,undef,undef,undef,undef,undef,undef,undef,undef,undef,undef,undef,undef],defers:=[] } _ _
    refine ⟨_,rfl,?_⟩
    simp only [BFr,List.getD_cons_zero,List.getD_cons_succ]
    go_simp
    go_wp2_with fail
    exact hK
  case fin=>
   intro us wz hu hV kp
   obtain ⟨g8,g9,g10,g11,rfl⟩:=aGF hu
   have v8:VB w1 wz g8 ux uy:=hV 0 (by decide)
   have v9:VB w1 wz g9 dx dy:=hV 1 (by decide)
   have v10:VB w1 wz g10 vx vy:=hV 2 (by decide)
   have v11:VB w1 wz g11 fx fy:=hV 3 (by decide)
   go_wp2_with fail
   go_meet
   exact ⟨g8,g9,g10,g11,rfl,rfl,rfl,rfl,v8.2,v9.2,v10.2,v11.2,v8.1,v9.1,v10.1,v11.1,kp⟩
 case rest=>
  obtain ⟨g8,g9,g10,g11,rfl,rfl,rfl,rfl,v8,v9,v10,v11,_,_,_,_,hA⟩:=hcut
  obtain ⟨w4,rfl⟩:∃w4,w4=wc:=⟨wc,rfl⟩
  have V8:=aA v8
  have V9:=aA v9
  have V10:=aA v10
  have V11:=aA v11
  have HB4:=aA (yB (uH HB1) hA)
  have a0:=v8.c0;have a1:=v8.c1;have b0:=v9.c0;have b1:=v9.c1;have c0:=v10.c0;have c1:=v10.c1;have d0:=v11.c0;have d1:=v11.c1
  clear v8 v9 v10 v11 hA R A0 HS HB1 CU1 CU2 CD1 CD2
  go_wp2_with fail
  refine (uH CL1 _).mono ?_
  rintro e w5 ⟨rfl,hb⟩
  have HB5:=aA (yB (uH HB4) hb)
  have X8:=(uH V8).below hb
  have X9:=(uH V9).below hb
  have X10:=(uH V10).below hb
  have X11:=(uH V11).below hb
  clear a0 a1 b0 b1 c0 c1 d0 d1 hb V8 V9 V10 V11 CL1 HB4
  have a0:=X8.c0;have a1:=X8.c1;have b0:=X9.c0;have b1:=X9.c1;have c0:=X10.c0;have c1:=X10.c1;have d0:=X11.c0;have d1:=X11.c1
  cases l1
  case true=>
   go_wp2
   go_ret
   exact ⟨yF (by rw [uH HA];rfl),uH HB5⟩
  clear X8 X9 X10 X11
  go_wp2_with fail
  refine (uH CL2 _).mono ?_
  rintro e w6 ⟨rfl,hb⟩
  have HB6:=aA (yB (uH HB5) hb)
  clear a0 a1 b0 b1 c0 c1 d0 d1 hb CL2 HB5
  cases l2
  case true=>
   go_wp2
   go_ret
   exact ⟨yF (by rw [uH HA];rfl),uH HB6⟩
  obtain ⟨bl,hbl⟩:∃z,Op.bytesLess (bs na).toList (bs nb).toList=z:=⟨_,rfl⟩
  have HBL:=aA (show Op.bytesLess na nb=bl by rw [←hbl];simp [bs])
  go_wp2
  go_ret
  exact ⟨yF (by rw [uH HA,uH HBL];rfl),uH HB6⟩
end
end Go.Proofs.YtdhibeclkdepiaaGreat
