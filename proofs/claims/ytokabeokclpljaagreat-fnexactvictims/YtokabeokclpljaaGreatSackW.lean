/-
  Texts in one: StdS, OrdV, OrdI, BefS.
-/
import Derived.Test.YtokabeokclpljaaGreatSackV
set_option maxRecDepth 100000
set_option maxHeartbeats 16000000
set_option linter.unusedVariables false
set_option linter.unusedSimpArgs false
namespace Go.Proofs.YtokabeokclpljaaGreat
section
open Go.RowKit Go.Maps
def stOf (s:St) (nm:List UInt8):SE:=(nm,(usedByV s nm).1,(usedByV s nm).2,(dueV s nm).1,(dueV s nm).2)
def SB (w:World) (c:Array Value) (wx:World):Prop:=Blk wx w.heap.size c 36∧Below w.heap.size w wx
theorem SB.call {w wx wy:World} {c:Array Value} (h:SB w c wx) (hb:Below wx.heap.size wx wy):SB w c wy:=⟨h.1.below hb,yB h.2 hb⟩
theorem standingOf_any (x:Sls) (s:St) (nm:List UInt8) (w:World) (h:SRow w x s) (hf:FitSt s) (hc:x.ql≤x.qc) (hw:WfSt s) :
  Calls Tryz.prog 142 #[sv x s,.string (bs nm)] w fun e w'=>e=.returned (stv (stOf s nm))∧Below w.heap.size w w':=by
 have hql:x.ql≤1048576:=h.ql hf
 have hml:x.ml≤1048576:=h.ml hf
 have CT:=hide (fun wx (hb:Below w.heap.size w wx)=>show Calls Tryz.prog 83 #[sv x s] wx (fun e w'=>e=.returned (rv (totalV s).1 (totalV s).2)∧Below wx.heap.size wx w') from implTotal_any x s wx (h.2.2.1.below hb) hml)
 have CD:=hide (fun wx (hb:Below w.heap.size w wx)=>show Calls Tryz.prog 82 #[.slice x.qa x.ql x.qc,.string (bs nm),rv (totalV s).1 (totalV s).2] wx (fun e w'=>e=.returned (rv (dueV s nm).1 (dueV s nm).2)∧Below wx.heap.size wx w') from implDueOf_any x.qa x.ql x.qc s.qs nm (totalV s).1 (totalV s).2 wx (h.1.below hb) hql (fun q hq=>(hf.1.2 q hq).1) hc)
 have CU:=hide (fun wx (hb:Below w.heap.size w wx)=>implUsedBy_any x s nm wx (h.below hb) hf hc hw)
 obtain ⟨⟨tx,ty⟩,ht⟩:∃t,totalV s=t:=⟨_,rfl⟩
 obtain ⟨⟨dx,dy⟩,hd⟩:∃t,dueV s nm=t:=⟨_,rfl⟩
 obtain ⟨⟨ux,uy⟩,hu⟩:∃t,usedByV s nm=t:=⟨_,rfl⟩
 have HO:stOf s nm=(nm,ux,uy,dx,dy):=by rw [stOf,hd,hu]
 rw [HO]
 rw [ht] at CT
 rw [ht,hd] at CD
 rw [hu] at CU
 clear h hf hc hw ht hd hu HO
 obtain ⟨qa,ql,qc,aa,al,ac,ma,ml,mc,ca,cl,cc⟩:=x
 obtain ⟨qs,clock,epoch,next,serial,apps,ms,cs⟩:=s
 simp only at CT CD CU hql hml
 have hb0:=(yA (yA (yH _ w) (.cells (svc ⟨qa,ql,qc,aa,al,ac,ma,ml,mc,ca,cl,cc⟩ ⟨qs,clock,epoch,next,serial,apps,ms,cs⟩) 36)) (.cells #[.string ⟨#[]⟩,.int .i64 0,.int .i64 0,.int .i64 0,.int .i64 0] 183)).drew
 have SS0:=hide (show SB w (svc ⟨qa,ql,qc,aa,al,ac,ma,ml,mc,ca,cl,cc⟩ ⟨qs,clock,epoch,next,serial,apps,ms,cs⟩) _ from ⟨((yD w (svc ⟨qa,ql,qc,aa,al,ac,ma,ml,mc,ca,cl,cc⟩ ⟨qs,clock,epoch,next,serial,apps,ms,cs⟩) 36).al (.cells #[.string ⟨#[]⟩,.int .i64 0,.int .i64 0,.int .i64 0,.int .i64 0] 183)).drew,hb0⟩)
 have V0:=hide (show Blk ((w.alloc (.cells (svc ⟨qa,ql,qc,aa,al,ac,ma,ml,mc,ca,cl,cc⟩ ⟨qs,clock,epoch,next,serial,apps,ms,cs⟩) 36)).alloc (.cells #[.string ⟨#[]⟩,.int .i64 0,.int .i64 0,.int .i64 0,.int .i64 0] 183)).drew (w.heap.size+1) #[.string ⟨#[]⟩,.int .i64 0,.int .i64 0,.int .i64 0,.int .i64 0] 183 from by have:=yD (w.alloc (.cells (svc ⟨qa,ql,qc,aa,al,ac,ma,ml,mc,ca,cl,cc⟩ ⟨qs,clock,epoch,next,serial,apps,ms,cs⟩) 36)) #[.string ⟨#[]⟩,.int .i64 0,.int .i64 0,.int .i64 0,.int .i64 0] 183;rw [yE] at this;exact this.drew)
 have R:∀wx,SB w (svc ⟨qa,ql,qc,aa,al,ac,ma,ml,mc,ca,cl,cc⟩ ⟨qs,clock,epoch,next,serial,apps,ms,cs⟩) wx→wx.cell? ⟨w.heap.size,0,none⟩=some (.slice qa ql qc)∧wx.cell? ⟨w.heap.size,1,none⟩=some (.int .i64 clock)∧wx.cell? ⟨w.heap.size,2,none⟩=some (.int .i64 epoch)∧wx.cell? ⟨w.heap.size,3,none⟩=some (.int .i64 next)∧wx.cell? ⟨w.heap.size,4,none⟩=some (.int .i64 serial)∧wx.cell? ⟨w.heap.size,5,none⟩=some (.slice aa al ac)∧wx.cell? ⟨w.heap.size,6,none⟩=some (.slice ma ml mc)∧wx.cell? ⟨w.heap.size,7,none⟩=some (.slice ca cl cc):=fun wx h=>by
  have a0:=h.1.at 0;have a1:=h.1.at 1;have a2:=h.1.at 2;have a3:=h.1.at 3;have a4:=h.1.at 4;have a5:=h.1.at 5;have a6:=h.1.at 6;have a7:=h.1.at 7
  simp at a0 a1 a2 a3 a4 a5 a6 a7
  exact ⟨a0,a1,a2,a3,a4,a5,a6,a7⟩
 clear hb0
 go_enter Tryz.func142,Tryz.ntmps142
 go_wp2_with fail
 refine wp_region_held_drew (S:=SB w (svc ⟨qa,ql,qc,aa,al,ac,ma,ml,mc,ca,cl,cc⟩ ⟨qs,clock,epoch,next,serial,apps,ms,cs⟩)) (by kernel_rfl) (uH SS0) (fun S0=>?_)
 refine tW 0 5 _ S0 ?_
 try simp only [zW]
 refine tW 1 6 _ S0 ?_
 try simp only [zW]
 refine tW 2 7 _ S0 ?_
 try simp only [zW]
 refine tW 4 9 _ S0 ?_
 try simp only [zW]
 refine tW 5 10 _ S0 ?_
 try simp only [zW]
 refine tW 6 11 _ S0 ?_
 try simp only [zW]
 refine tW 7 12 _ S0 ?_
 try simp only [zW]
 refine wpAnyH_ready (rs:=[3]) (by kernel_rfl) (by simp) (AllReadyH.cons rfl (fun K hK=>?_) AllReadyH.nil)
 go_simp
 refine (uH CU _ S0.2).mono ?_
 rintro e w1 ⟨rfl,hb⟩
 have S1:=SB.call S0 hb
 have V1:=hide ((uH V0).below hb)
 clear hb V0
 go_wp2_with fail
 refine hK.out _ _ S1 (fun S0=>?_)
 clear hK K S1
 try simp only [zW]
 refine wpAnyH_ready (rs:=[8]) (by kernel_rfl) (by simp) (AllReadyH.cons rfl (fun K hK=>?_) AllReadyH.nil)
 go_simp
 refine (uH CT _ S0.2).mono ?_
 rintro e w2 ⟨rfl,hb⟩
 have S1:=SB.call S0 hb
 have V2:=hide ((uH V1).below hb)
 clear hb V1
 go_wp2_with fail
 refine hK.out _ _ S1 (fun S0=>?_)
 clear hK K S1
 try simp only [zW]
 refine wpAnyH_ready (rs:=[9]) (by kernel_rfl) (by simp) (AllReadyH.cons rfl (fun K hK=>?_) AllReadyH.nil)
 go_simp
 refine (uH CD _ S0.2).mono ?_
 rintro e w3 ⟨rfl,hb⟩
 have S1:=SB.call S0 hb
 have V3:=hide ((uH V2).below hb)
 clear hb V2
 go_wp2_with fail
 refine hK.out _ _ S1 (fun S0=>?_)
 clear hK K S1
 try simp only [zW]
 refine tW 10 15 _ S0 ?_
 try simp only [zW]
 refine tW 11 16 _ S0 ?_
 try simp only [zW]
 refine wpAnyH_ready (rs:=[12]) (by kernel_rfl) (by simp) (AllReadyH.cons rfl (fun K hK=>?_) AllReadyH.nil)
 have bw:=uH V3
 obtain ⟨c0,c1,c2,c3,c4⟩:=zp bw
 have f0:=bw.f 0;have f1:=bw.f 1;have f2:=bw.f 2;have f3:=bw.f 3;have f4:=bw.f 4
 have bz:=((((bw.set 0 (.string (bs nm))).set 1 (.int .i64 ux)).set 2 (.int .i64 uy)).set 3 (.int .i64 dx)).set 4 (.int .i64 dy)
 obtain ⟨z0,z1,z2,z3,z4⟩:=zp bz
 have hn:w.heap.size≠w.heap.size+1:=by omega
 have S1:SB w (svc ⟨qa,ql,qc,aa,al,ac,ma,ml,mc,ca,cl,cc⟩ ⟨qs,clock,epoch,next,serial,apps,ms,cs⟩) (((((w3.setCell ⟨w.heap.size+1,0,none⟩ (.string (bs nm))).setCell ⟨w.heap.size+1,1,none⟩ (.int .i64 ux)).setCell ⟨w.heap.size+1,2,none⟩ (.int .i64 uy)).setCell ⟨w.heap.size+1,3,none⟩ (.int .i64 dx)).setCell ⟨w.heap.size+1,4,none⟩ (.int .i64 dy)):=⟨((((S0.1.other _ _ _ hn).other _ _ _ hn).other _ _ _ hn).other _ _ _ hn).other _ _ _ hn,yC (yC (yC (yC (yC S0.2 _ _ _ (by omega)) _ _ _ (by omega)) _ _ _ (by omega)) _ _ _ (by omega)) _ _ _ (by omega)⟩
 clear bw bz V3
 go_simp
 go_wp2_with fail
 refine hK.out _ _ S1 (fun S0=>?_)
 clear hK K
 try simp only [zW]
 refine wpAnyH_done (by kernel_rfl) ?_ _
 have HB:=hide S1.2
 clear S1 S0 R CU CT CD SS0
 go_wp2
 refine bodyPost_ret (v:=stv (nm,ux,uy,dx,dy)) (by simp [results,Tryz.results142,go_sem,z0,z1,z2,z3,z4]) rfl ⟨rfl,uH HB⟩
end
section
open Go.RowKit
theorem less_asym {a b c d:Int} (h:less a b c d=true):less c d a b=false:=by
 unfold less at *
 by_cases b0:b=0
 ·simp [b0] at h
 ·by_cases d0:d=0
  ·simp [d0]
  ·simp only [b0,d0,if_false,yL] at h ⊢
   simp only [decide_eq_false_iff_not]
   omega
theorem less_irr (a b:Int):less a b a b=false:=by
 unfold less
 by_cases b0:b=0
 ·simp [b0]
 ·simp [b0]
theorem lessWeak:OrdM.Weak lessP where
 irr:=fun a=>less_irr _ _
 asym:=fun a b h=>less_asym h
 ntrans:=fun a b c h k=>less_ntrans (ratio_small ..).2 (ratio_small ..).2 (ratio_small ..).2 h k
theorem blNames:OrdM.Names Op.bytesLess where
 irr:=bl_irr
 trans:=bl_trans
 tri:=bl_tri
def leS (x y:SE):Prop:=aheadS y x=false
theorem leS_order:HeapM.Order leS where
 trans:=fun x y z h k=>OrdM.ahead_ntrans lessWeak blNames h k
 total:=fun x y=>by
  cases h:aheadS y x with
  | false=>exact .inl h
  | true=>exact .inr (OrdM.ahead_asym lessWeak blNames h)
theorem leS_1:∀x y,aheadS x y=true→leS x y:=fun x y h=>OrdM.ahead_asym lessWeak blNames h
theorem leS_2:∀x y,aheadS x y=false→leS y x:=fun x y h=>h
def befN (s:St) (a b:List UInt8):Bool:=aheadS (stOf s a) (stOf s b)
theorem befN_asym (s:St) (a b:List UInt8) (h:befN s a b=true):befN s b a=false:=OrdM.ahead_asym lessWeak blNames h
theorem befN_ntrans (s:St) (a b c:List UInt8) (h:befN s b a=false) (k:befN s c b=false):befN s c a=false:=OrdM.ahead_ntrans lessWeak blNames h k
theorem befN_anti (s:St) (a b:List UInt8) (h:befN s b a=false) (k:befN s a b=false):a=b:=OrdM.ahead_anti (x:=stOf s a) (y:=stOf s b) lessWeak blNames h k
def insP (p:List UInt8→List UInt8→Bool) (l:List (List UInt8)) (o:List (List UInt8)):List (List UInt8):=l.foldl (fun o x=>OrdM.ins p x o) o
theorem insP_perm (p:List UInt8→List UInt8→Bool):∀(l o:List (List UInt8)),(insP p l o).Perm (l++o)
 | [],o=>List.Perm.refl _
 | x::t,o=>by
  refine (insP_perm p t (OrdM.ins p x o)).trans ?_
  refine (List.Perm.append_left t (OrdM.ins_perm _ x o)).trans ?_
  exact List.perm_middle
theorem insP_sorted {p:List UInt8→List UInt8→Bool} (asym:∀a b,p a b=true→p b a=false) (nt:∀a b c,p b a=false→p c b=false→p c a=false):∀(l o:List (List UInt8)),HeapM.Sorted (fun a b=>p b a=false) o→HeapM.Sorted (fun a b=>p b a=false) (insP p l o)
 | [],o,h=>h
 | x::t,o,h=>insP_sorted asym nt t _ (OrdM.ins_sorted asym nt x o h)
theorem insP_snoc (p:List UInt8→List UInt8→Bool) (l:List (List UInt8)) (x:List UInt8):insP p (l++[x]) []=OrdM.ins p x (insP p l []):=by
 rw [insP,List.foldl_append];rfl
def orderV (s:St):List (List UInt8):=insP (befN s) (leavesOf s.qs) []
theorem orderV_perm (s:St):(orderV s).Perm (leavesOf s.qs):=by
 have:=insP_perm (befN s) (leavesOf s.qs) []
 rw [List.append_nil] at this
 exact this
theorem order_unique (s:St) (N:List (List UInt8)) (h:HeapM.Sorted (fun a b=>befN s b a=false) N) (hp:N.Perm (leavesOf s.qs)):N=orderV s:=
 HeapM.sorted_unique (befN_anti s) _ _ h (insP_sorted (befN_asym s) (befN_ntrans s) _ _ trivial) (hp.trans (orderV_perm s).symm)
theorem sorted_fst (s:St):∀P:List SE,(∀x ∈ P,x=stOf s x.1)→HeapM.Sorted leS P→HeapM.Sorted (fun a b=>befN s b a=false) (P.map Prod.fst)
 | [],_,_=>trivial
 | x::t,hx,h=>⟨fun y hy=>by
   obtain ⟨z,hz,rfl⟩:=List.mem_map.1 hy
   have h1:=h.1 z hz
   unfold leS at h1
   rw [hx x (by simp),hx z (by simp [hz])] at h1
   exact h1,sorted_fst s t (fun z hz=>hx z (by simp [hz])) h.2⟩
theorem order_taken (s:St) (P:List SE) (h:HeapM.Sorted leS P) (hp:P.Perm ((leavesOf s.qs).map (stOf s))):P.map Prod.fst=orderV s:=by
 refine order_unique s _ (sorted_fst s P (fun x hx=>?_) h) ?_
 ·obtain ⟨n,_,rfl⟩:=List.mem_map.1 (hp.subset hx)
  rfl
 ·have:=hp.map Prod.fst
  rw [List.map_map] at this
  have e:(Prod.fst ∘ stOf s)=id:=by funext n;rfl
  rw [e,List.map_id] at this
  exact this
def orderF (s:St) (k:Nat):List (List UInt8):=insP (befN s) (((s.qs.take k).map Q.name).filter (leaf s.qs)) []
theorem orderF_end (s:St) {k:Nat} (h:s.qs.length≤k):orderF s k=orderV s:=by
 rw [orderF,List.take_of_length_le h];rfl
theorem orderF_step (s:St) {k:Nat} (h:k<s.qs.length):orderF s (k+1)=if leaf s.qs s.qs[k].name=true then OrdM.ins (befN s) s.qs[k].name (orderF s k) else orderF s k:=by
 rw [orderF,List.take_succ_eq_append_getElem h,List.map_append,List.filter_append]
 cases hb:leaf s.qs s.qs[k].name with
 | true=>
  rw [if_pos rfl]
  simp only [List.map_cons,List.map_nil,List.filter_cons,hb,if_true,List.filter_nil]
  rw [insP_snoc];rfl
 | false=>
  rw [if_neg (by simp)]
  simp only [List.map_cons,List.map_nil,List.filter_cons,hb,List.filter_nil]
  rw [if_neg (by simp),List.append_nil];rfl
theorem stOf_wf (s:St) (nm:List UInt8):Wf4 (stOf s nm).2.1 (stOf s nm).2.2.1 (stOf s nm).2.2.2.1 (stOf s nm).2.2.2.2:=by
 have h1:=resOk_small (used_ok s nm)
 have h2:=resOk_small (due_ok s nm)
 have w:∀x:Int,Small x→(Lit.int .i64 x).wf=true:=fun x hx=>by
  obtain ⟨a,b⟩:=hx
  have h1:(-9223372036854775808:Int)≤x:=by omega
  have h2:x≤9223372036854775807:=by omega
  simp only [Lit.wf,yK,yL]
  exact ⟨h1,h2⟩
 exact ⟨w _ h1.1,w _ h1.2,w _ h2.1,w _ h2.2⟩
end
section
open Go.RowKit Go.Maps
theorem SS.blk {w:World} {g cap:Nat} {xs:List ByteArray} (h:SS w g cap xs):∃cur,Blk w g cur 9∧xs.length≤cur.size∧cur.toList.take xs.length=xs.map Value.string:=by
 obtain ⟨cur,h1,h2,h3,h4,h5⟩:=h.block
 exact ⟨cur,h1,by omega,h5⟩
theorem Texts.frame {B:Nat} {w:World} {v:Value} {ps:List (List UInt8)} (h:Texts B w v ps):∃(vo:Option Addr) (vc:Nat) (F:List Fr3),v=.slice vo ps.length vc∧(∀f ∈ F,f.2.2=9∧B≤f.1∧Blk w f.1 f.2.1 f.2.2)∧∀wx:World,(∀f ∈ F,Blk wx f.1 f.2.1 f.2.2)→∀j (hj:j<ps.length),∃g,vo=some ⟨g,0,none⟩∧wx.cell? ⟨g,j,none⟩=some (.string (bs ps[j])):=by
 by_cases hp:ps=[]
 ·subst hp
  obtain ⟨a,c,rfl⟩:=texts_none h
  exact ⟨a,c,[],rfl,fun f hf=>absurd hf (by simp),fun wx _ j hj=>absurd hj (by simp)⟩
 ·obtain ⟨g,c,rfl,hs,hB⟩:=texts_some h hp
  obtain ⟨cur,b1,b2,b3⟩:=hs.blk
  refine ⟨_,c,[(g,cur,9)],rfl,fun f hf=>?_,fun wx hx j hj=>⟨g,rfl,?_⟩⟩
  ·simp at hf;subst hf;exact ⟨rfl,hB,b1⟩
  ·have hx1:=hx (g,cur,9) (by simp)
   rw [Blk.at hx1 j]
   have e:=congrArg (fun z:List Value=>z[j]?) b3
   simp only [List.length_map] at e
   rw [List.getElem?_take_of_lt hj,Array.getElem?_toList] at e
   simp only at e ⊢
   rw [e]
   simp [hj]
theorem hst_none {K:List P4} {F:List Fr3} {w0 w:World} {bm bk g:Nat} {l:List SE} (h:HSt K F w0 bm bk g w l):HSt K [] w0 bm bk g w l:=by
 obtain ⟨⟨v0,h1,o1,_⟩,h3,h4,h5,h6,h7,_⟩:=h
 exact ⟨⟨v0,h1,o1,fun k hk=>absurd hk (by simp)⟩,h3,h4,h5,h6,h7,fun k hk=>absurd hk (by simp)⟩
theorem HSt.rowNe {K:List P4} {F:List Fr3} {w0 w:World} {bm bk g:Nat} {l:List SE} {v u:Value} (h:HSt K F w0 bm bk g w l) (hb:Blk w g #[v,u] 180) {k:Nat} {arr:Array Value} {te:TypeId} (hk:Blk w k arr te) (ht:te≠183):some k≠v.ownBlock:=fun e=>by
 obtain ⟨_,hown,_⟩:=h.obj hb
 rcases hown.2 with ⟨e2,_⟩ | ⟨b2,_,cur,e2,_,hc,_⟩
 ·rw [e2] at e;simp [Value.ownBlock] at e
 ·rw [e2] at e
  simp [Value.ownBlock] at e
  unfold Blk at hk
  rw [e,hc] at hk
  simp at hk
  exact ht hk.2.symm
theorem HSt.moreT {K:List P4} {F:List Fr3} {w0 w:World} {bm bk g:Nat} {l:List SE} (h:HSt K F w0 bm bk g w l) (f:Fr3) (h2:FrB bm g f w) (ht:f.2.2≠183):HSt K (f::F) w0 bm bk g w l:=by
 obtain ⟨v,b,_⟩:=h.1
 exact h.more b f h2 (h.rowNe b h2.1 ht)
theorem HSt.grow {K:List P4} {w0 w w':World} {bm bk g:Nat} {l:List SE} {r:Option Nat} (h:HSt K [] w0 bm bk g w l) (hg:w.grownBy w' r) (hr:∀k,r=some k→g<k∧∃arr te,Blk w k arr te∧te≠183):HSt K [] w0 bm bk g w' l:=by
 have hh:=h
 obtain ⟨⟨v,h1,h2,_⟩,h3,h4,h5,h6,h7,_⟩:=h
 have ne:∀k,k≤g→some k≠r:=fun k hk e=>by have:=(hr k e.symm).1;omega
 have hv:v.ownBlock=none∨v.ownBlock≠r:=by
  rcases h2.2 with ⟨e2,_⟩ | ⟨b2,_,cur,e2,_,hc,_⟩
  ·left;rw [e2];rfl
  ·right
   intro e
   rw [e2] at e
   obtain ⟨_,arr,te,hk,ht⟩:=hr b2 e.symm
   unfold Blk at hk
   rw [hc] at hk
   simp at hk
   exact ht hk.2.symm
 exact ⟨⟨v,(hg.block g h1.lt (ne g (yJ _))).trans h1,h2.kept hg hv,fun f hf=>absurd hf (by simp)⟩,(hg.block bk h3.lt (ne bk (by omega))).trans h3,h4.grown hg (ne bm (by omega)),h5,h6,h7.grown hg h7.size (fun k e=>by have:=(hr k e).1;omega),fun f hf=>absurd hf (by simp)⟩
theorem leavesOf_20 (l:List Q):(leavesOf l).length≤20:=by
 cases h:queuesOk l with
 | false=>rw [leavesOf_bad h];simp
 | true=>
  have h1:=leavesOf_len l
  have:inB l.length 1 20=true:=by
   unfold queuesOk at h
   simp only [yK] at h
   exact h.2
  simp [inB] at this
  omega
theorem hst_more {K:List P4} {w0 w:World} {bm bk g:Nat} {l:List SE} (h:HSt K [] w0 bm bk g w l):∀F:List Fr3,(∀f ∈ F,FrB bm g f w∧f.2.2≠183)→HSt K F w0 bm bk g w l
 | [],_=>h
 | f::F,hf=>(hst_more h F (fun k hk=>hf k (List.mem_cons_of_mem _ hk))).moreT f (hf f (List.mem_cons_self ..)).1 (hf f (List.mem_cons_self ..)).2
theorem own_frame {B:Nat} {w:World} {v:Value} {o:List ByteArray} (h:w.ownsRow B 9 1 v o.length (scells o)):∃F:List Fr3,(∀f ∈ F,f.2.2=9∧B≤f.1∧Blk w f.1 f.2.1 f.2.2)∧(∀wx:World,(∀f ∈ F,Blk wx f.1 f.2.1 f.2.2)→wx.ownsRow B 9 1 v o.length (scells o))∧∀k,v.ownBlock=some k→∃f ∈ F,f.1=k:=by
 rcases h.2 with ⟨rfl,h0⟩ | ⟨g,cap,cur,rfl,hb,hc,k⟩
 ·exact ⟨[],fun f hf=>absurd hf (by simp),fun wx _=>⟨h.1,.inl ⟨rfl,h0⟩⟩,fun k hk=>by simp [Value.ownBlock] at hk⟩
 ·refine ⟨[(g,cur,9)],fun f hf=>?_,fun wx hx=>⟨h.1,.inr ⟨g,cap,cur,rfl,hb,hx (g,cur,9) (by simp),k⟩⟩,fun k' hk=>⟨_,List.mem_cons_self ..,by simpa [Value.ownBlock] using hk⟩⟩
  simp at hf;subst hf;exact ⟨rfl,hb,hc⟩
def slLen:Value→Nat
 | .slice _ n _=>n
 | _=>0
theorem own_slLen {w:World} {B n:Nat} {v:Value} {xs:List Value} (h:w.ownsRow B 9 1 v n xs):slLen v=n:=by
 rcases h.2 with ⟨rfl,e⟩ | ⟨_,_,_,rfl,_⟩
 ·exact e.symm
 ·rfl
theorem fieldS (x:SE) (wx:World):(Instr.field 183 (stv x) 0).run Tryz.prog wx=.ok (.string (bs x.1)) wx:=by
 simp [Instr.field,go_sem,asAgg,stv]
def Tk (s:St) (P l:List SE):Prop:=HeapM.Heap leS seD l.length l∧(P++l).Perm ((leavesOf s.qs).map (stOf s))∧HeapM.Sorted leS P∧∀p ∈ P,∀x ∈ l,leS p x
theorem Tk.pop {s:St} {P l:List SE} (h:Tk s P l) (h0:0<l.length) :
  Tk s (P++[HeapM.at' seD (HeapM.popL seD aheadS l) (l.length - 1)]) ((HeapM.popL seD aheadS l).take (l.length - 1)):=by
 obtain ⟨h1,h2,h3,h4⟩:=h
 obtain ⟨p1,p2,p3,p4⟩:=HeapM.pop_heap leS_order leS_1 leS_2 l h0 h1
 have hlen:((HeapM.popL seD aheadS l).take (l.length - 1)).length=l.length - 1:=by
  have:=p3.length_eq
  simp at this ⊢
  omega
 have hmem:HeapM.at' seD l 0 ∈ l:=p3.subset (by simp)
 rw [p1]
 refine ⟨by rw [hlen];exact p2,?_,HeapM.sorted_snoc _ _ h3 (fun y hy=>h4 y hy _ hmem),?_⟩
 ·rw [List.append_assoc]
  refine (List.Perm.append_left P ?_).trans h2
  exact List.perm_append_comm.trans p3
 ·intro p hp x hx
  have hxl:x ∈ l:=p3.subset (by simp [hx])
  rcases List.mem_append.1 hp with hp | hp
  ·exact h4 p hp x hxl
  ·simp at hp;subst hp;exact p4 x hx
theorem implQueueOrder_any (x:Sls) (s:St) (w:World) (h:SRow w x s) (hf:FitSt s) (hc:x.ql≤x.qc) (hw:WfSt s) :
  Calls Tryz.prog 91 #[sv x s] w fun e w'=>∃v,e=.returned v∧Texts w.heap.size w' v (orderV s)∧Below w.heap.size w w':=by
 obtain ⟨i0,hi,hz0,hz1,hz2⟩:=info_parts Tryz.infoS
 have hql:x.ql≤1048576:=h.ql hf
 obtain ⟨K,hKd⟩:∃K,(leavesOf s.qs).map (fun n=>(stOf s n).2)=K:=⟨_,rfl⟩
 have hKl:K.length≤1048576:=by rw [←hKd,List.length_map];have:=leavesOf_len s.qs;have:=h.1.1;omega
 have hK:K.length≤1000000000:=by omega
 have KW:∀p ∈ K,Wf4 p.1 p.2.1 p.2.2.1 p.2.2.2:=fun p hp=>by
  rw [←hKd] at hp
  obtain ⟨n,_,rfl⟩:=List.mem_map.1 hp
  exact stOf_wf s n
 have HKM:=hide (show ∀n ∈ leavesOf s.qs,(stOf s n).2 ∈ K from fun n hn=>by rw [←hKd];exact List.mem_map.2 ⟨n,hn,rfl⟩)
 have CV:=hide (fun wx (hb:Below w.heap.size w wx)=>leaves_any x.qa x.ql x.qc s.qs wx (h.1.below hb) hql (fun q hq=>(hf.1.2 q hq).1) hc)
 have CS:=hide (fun nm wx (hb:Below w.heap.size w wx)=>standingOf_any x s nm wx (h.below hb) hf hc hw)
 have CLD:=hide (fun wx=>least_any K wx)
 have HT0:=hide (leavesOf_20 s.qs)
 have HOT:=hide (order_taken s)
 obtain ⟨lv,hlv⟩:∃l,leavesOf s.qs=l:=⟨_,rfl⟩
 rw [hlv] at CV HKM HT0 HOT
 have HTK:=hide (show ∀P l,Tk s P l=(HeapM.Heap leS seD l.length l∧(P++l).Perm (lv.map (stOf s))∧HeapM.Sorted leS P∧∀p ∈ P,∀x ∈ l,leS p x) from fun P l=>by rw [Tk,hlv])
 have HPOP:=hide (fun P l (h:Tk s P l) h0=>h.pop h0)
 have hlq:lv.length≤20:=uH HT0
 clear hlv h hf hc hw hKd HT0
 obtain ⟨of,hof⟩:∃f,stOf s=f:=⟨_,rfl⟩
 obtain ⟨tk,htk⟩:∃f,Tk s=f:=⟨_,rfl⟩
 obtain ⟨oV,hoV⟩:∃f,orderV s=f:=⟨_,rfl⟩
 rw [hof] at CS HKM
 rw [htk,hof] at HTK
 rw [htk] at HPOP
 rw [hof,hoV] at HOT
 rw [hoV]
 have HF1:=hide (show ∀n,(of n).1=n from fun n=>by rw [←hof];rfl)
 clear hof htk hoV
 obtain ⟨qa,ql,qc,aa,al,ac,ma,ml,mc,ca,cl,cc⟩:=x
 obtain ⟨qs,clock,epoch,next,serial,apps,ms,cs⟩:=s
 simp only at CV CS hql
 have HB0:=hide (yA (yH _ w) (.cells (svc ⟨qa,ql,qc,aa,al,ac,ma,ml,mc,ca,cl,cc⟩ ⟨qs,clock,epoch,next,serial,apps,ms,cs⟩) 36))
 have P0:=hide (yD w (svc ⟨qa,ql,qc,aa,al,ac,ma,ml,mc,ca,cl,cc⟩ ⟨qs,clock,epoch,next,serial,apps,ms,cs⟩) 36)
 go_enter Tryz.func91,Tryz.ntmps91
 go_wp2_with fail
 refine (uH CLD _).mono ?_
 rintro e w1 ⟨rfl,hbk,hh,hb,hz⟩
 rw [yE] at hbk hh hz
 obtain ⟨g,hg⟩:∃g,w1.heap.size=g:=⟨_,rfl⟩
 have hgs:g=w.heap.size+3:=by omega
 have hba:=yA (yH _ w1) (.cells #[.slice none 0 0,cloV (w.heap.size+1+1)] 180)
 have HB1:=hide (yB (yB (uH HB0) hb) hba)
 have P1:=hide (((uH P0).below hb).below hba)
 have G1:=hide (show Blk (w1.alloc (.cells #[.slice none 0 0,cloV (w.heap.size+1+1)] 180)) g #[.slice none 0 0,cloV (w.heap.size+1+1)] 180 from by rw [←hg];exact yD _ _ _)
 have M1:=hide (hbk.below hba)
 have H1:=hide (hh.below hba)
 clear hbk hh hb hba hz HB0 P0 CLD
 obtain ⟨q0,q1,q2,q3,q4,q5,q6,q7⟩:_∧_∧_∧_∧_∧_∧_∧_:=⟨(uH P1).at 0,(uH P1).at 1,(uH P1).at 2,(uH P1).at 3,(uH P1).at 4,(uH P1).at 5,(uH P1).at 6,(uH P1).at 7⟩
 simp at q0 q1 q2 q3 q4 q5 q6 q7
 go_wp2_with fail
 refine (uH CV _ (uH HB1)).mono ?_
 rintro e w2 ⟨v0,rfl,ht,hb⟩
 obtain ⟨vo,vc,F0,rfl,hF0,hrow⟩:=ht.frame
 have HROW:=hide hrow
 have HB2:=hide (yB (uH HB1) hb)
 have zz:w1.heap.size+1≤w2.heap.size:=by have:=hb.size;rw [yE] at this;exact this
 obtain ⟨F,hFd⟩:∃F:List Fr3,(w.heap.size,svc ⟨qa,ql,qc,aa,al,ac,ma,ml,mc,ca,cl,cc⟩ ⟨qs,clock,epoch,next,serial,apps,ms,cs⟩,36)::F0=F:=⟨_,rfl⟩
 have HFS:=hide (show ∀f ∈ F,f.2.2≠183 from fun f hf=>by
  rw [←hFd] at hf
  rcases List.mem_cons.1 hf with rfl | hf
  ·show (36:TypeId)≠183
   decide
  ·rw [(hF0 f hf).1];decide)
 have HFR:=hide (show (∀f ∈ F,FrB (w.heap.size+1) (w.heap.size+3) f w2) from fun f hf=>by
  rw [←hFd] at hf
  rcases List.mem_cons.1 hf with rfl | hf
  ·exact ⟨(uH P1).below hb,by show w.heap.size≠w.heap.size+1;omega,by show w.heap.size≠w.heap.size+3;omega⟩
  ·have:=(hF0 f hf).2.1
   rw [yE] at this
   exact ⟨(hF0 f hf).2.2,by omega,by omega⟩)
 have HBX:=hide (show ∀wx:World,(∀f ∈ F,Blk wx f.1 f.2.1 f.2.2)→Blk wx w.heap.size (svc ⟨qa,ql,qc,aa,al,ac,ma,ml,mc,ca,cl,cc⟩ ⟨qs,clock,epoch,next,serial,apps,ms,cs⟩) 36 from fun wx hx=>hx _ (by rw [←hFd];exact List.mem_cons_self ..))
 have HRW:=hide (show ∀wx:World,(∀f ∈ F,Blk wx f.1 f.2.1 f.2.2)→∀j (hj:j<lv.length),∃g,vo=some ⟨g,0,none⟩∧wx.cell? ⟨g,j,none⟩=some (.string (bs lv[j])) from fun wx hx j hj=>uH HROW wx (fun f hf=>hx f (by rw [←hFd];exact List.mem_cons_of_mem _ hf)) j hj)
 have HI0:=hide (show HI K F w (w.heap.size+1) (w.heap.size+1+1) (w.heap.size+3) w2 [] from ⟨⟨⟨.slice none 0 0,by have:=(uH G1).below hb;rw [hgs] at this;exact this,World.ownsRow_nil _ _ _ _,fun f _ e=>by simp [Value.ownBlock] at e⟩,(uH M1).below hb,(uH H1).below hb,by omega,fun x hx=>absurd hx (by simp),uH HB2,uH HFR⟩,by simp⟩)
 clear hb ht hF0 hrow hFd HROW HFR HB1 HB2 P1 G1 M1 H1 q0 q1 q2 q3 q4 q5 q6 q7 CV hg zz
 go_wp2
 go_loopw [5,14] (fun _ i wr=>∃(k:Nat) (l:List SE),k≤lv.length∧i=.int .i64 k∧l.length=k∧Hid (HI K F w (w.heap.size+1) (w.heap.size+1+1) (w.heap.size+3) wr l)∧Hid (HeapM.Heap leS seD l.length l)∧Hid (l.Perm ((lv.take k).map of))) (fun _ i _=>lv.length - (intOf i).toNat)
 case atStart=>exact ⟨0,[],Nat.zero_le _,rfl,rfl,HI0,hide (fun k h0 h1=>absurd h1 (by simp)),hide (by simp)⟩
 case round=>
  obtain ⟨k,l,hk,rfl,hlk,HH,HHP,HPM⟩:=hrel
  by_cases hlt:k<lv.length
  ·have hbl:=fun f hf=>((uH HH).1.2.2.2.2.2.2 f hf).1
   obtain ⟨gv,rfl,hcv⟩:=uH HRW wr hbl k hlt
   have P2:=uH HBX wr hbl
   obtain ⟨q0,q1,q2,q3,q4,q5,q6,q7⟩:_∧_∧_∧_∧_∧_∧_∧_:=⟨P2.at 0,P2.at 1,P2.at 2,P2.at 3,P2.at 4,P2.at 5,P2.at 6,P2.at 7⟩
   simp at q0 q1 q2 q3 q4 q5 q6 q7
   have htk:=List.take_succ_eq_append_getElem hlt
   have hmem:=uH HKM lv[k] (yM _)
   obtain ⟨nm,hnm⟩:∃nm,lv[k]=nm:=⟨_,rfl⟩
   rw [hnm] at hcv htk hmem
   have C1:=hide (uH CS nm wr (uH HH).1.2.2.2.2.2.1)
   obtain ⟨z,hz⟩:∃z,of nm=z:=⟨_,rfl⟩
   rw [hz] at C1 hmem
   have C2:=hide (fun wx (hx:HI K F w (w.heap.size+1) (w.heap.size+1+1) (w.heap.size+3) wx l)=>add_any K F hK KW w (w.heap.size+1) (w.heap.size+1+1) (w.heap.size+3) wx l z hx (uH HFS) hmem (by omega))
   have HP2:=hide (HeapM.push_heap (d:=seD) leS_order leS_1 leS_2 l z (uH HHP))
   have HPT:=hide (show (l++[z]).Perm ((lv.take (k+1)).map of) by rw [htk,List.map_append,←hz];exact (uH HPM).append_right _)
   obtain ⟨l2,hl2⟩:∃l2,HeapM.upL seD aheadS (l.length+1) (l++[z]) l.length=l2:=⟨_,rfl⟩
   rw [hl2] at C2 HP2
   have hlen2:l2.length=k+1:=by have:=(uH HP2).2.length_eq;simp at this;omega
   obtain ⟨z1,z2,z3,z4,z5⟩:=z
   clear hnm htk hz hmem hl2 hbl P2
   go_wp2_with fail
   refine (uH C1).mono ?_
   rintro e w4 ⟨rfl,hb⟩
   have HH4:=hide (show HI K F w (w.heap.size+1) (w.heap.size+1+1) (w.heap.size+3) w4 l from ⟨(uH HH).1.below hb,(uH HH).2⟩)
   clear hb C1 q0 q1 q2 q3 q4 q5 q6 q7 hcv
   go_wp2_with fail
   refine (uH C2 _ (uH HH4)).mono ?_
   rintro e w5 ⟨rfl,hh⟩
   have HH5:=hide hh
   clear hh C2 HH4
   go_wp2
   go_roundw
   case rel=>exact ⟨k+1,l2,by omega,by go_num,hlen2,HH5,hide (by have h9:=(uH HP2).1;rw [hlk] at h9;rw [hlen2];exact h9),hide ((uH HP2).2.trans (uH HPT))⟩
   case measure=>simp [intOf];omega
  ·have hkk:k=lv.length:=by omega
   have T0:=hide (show tk [] l by rw [uH HTK];refine ⟨uH HHP,?_,trivial,fun p hp=>absurd hp (by simp)⟩;have:=uH HPM;rw [hkk,List.take_length] at this;exact this)
   have HE:=hide (show HI K [] w (w.heap.size+1) (w.heap.size+1+1) (w.heap.size+3) wr l from ⟨hst_none (uH HH).1,(uH HH).2⟩)
   have hlk2:l.length≤20:=by omega
   clear HH HHP HPM hlk
   subst hkk
   have hww:w.heap.size≤(w.heap.size+4):=by omega
   go_wp2
   go_loopw [6] (fun v wr=>∃(l P:List SE) (o:List ByteArray),l.length+o.length≤20∧Hid (o=P.map (fun x=>bs x.1))∧Hid (tk P l)∧Hid (HI K [] w (w.heap.size+1) (w.heap.size+1+1) (w.heap.size+3) wr l)∧Hid (wr.ownsRow (w.heap.size+4) 9 1 v o.length (scells o))) (fun v _=>20 - slLen v)
   case atStart=>exact ⟨l,[],[],by simpa using hlk2,hide rfl,T0,HE,hide (World.ownsRow_nil _ _ _ _)⟩
   case round=>
    obtain ⟨l,P,o,hlo,HO,HT,HH,HW⟩:=hrel
    clear HE T0 hlk2
    obtain ⟨F2,hF2,hrow,hown⟩:=own_frame (uH HW)
    have HI2:=hide (show HI K F2 w (w.heap.size+1) (w.heap.size+1+1) (w.heap.size+3) wr l from ⟨hst_more (uH HH).1 F2 (fun f hf=>⟨⟨(hF2 f hf).2.2,by have:=(hF2 f hf).2.1;omega,by have:=(hF2 f hf).2.1;omega⟩,by rw [(hF2 f hf).1];decide⟩),(uH HH).2⟩)
    have HRW:=hide hrow
    have HOB:=hide (show ∀k,∀u:Value,u.ownBlock=some k→True from fun _ _ _=>trivial)
    have HF2:=hide (show ∀f ∈ F2,f.2.2=9∧(w.heap.size+4)≤f.1 from fun f hf=>⟨(hF2 f hf).1,(hF2 f hf).2.1⟩)
    have HFB:=hide hown
    have hsl:=own_slLen (uH HW)
    have HSL:=hide hsl
    clear hF2 hrow hown HH HW hsl HOB
    obtain ⟨vr,b1,_⟩:=(uH HI2).1.1
    have c0:=b1.at 0
    have c1:=b1.at 1
    simp at c0 c1
    have C1:=hide (stLen_any K F2 w (w.heap.size+1) (w.heap.size+1+1) (w.heap.size+3) wr l vr (cloV (w.heap.size+1+1)) (uH HI2).1 b1)
    have hmax:l.length≤1000000:=(uH HI2).2
    clear b1
    go_wp2_with fail
    refine (uH C1).mono ?_
    rintro e w4 ⟨rfl,hh⟩
    have H4:=hide (show HI K F2 w (w.heap.size+1) (w.heap.size+1+1) (w.heap.size+3) w4 l from ⟨hh,hmax⟩)
    clear hh C1 c0 c1 HI2
    by_cases h0:0<l.length
    ·have HT2:=hide (uH HPOP P l (uH HT) h0)
     have hz4:w.heap.size≤w4.heap.size:=(uH H4).1.2.2.2.2.2.1.size
     have C2:=hide (takeFirst_any K F2 hK KW w (w.heap.size+1) (w.heap.size+1+1) (w.heap.size+3) w4 l (uH H4) h0 hz4)
     obtain ⟨l2,hl2⟩:∃l2,(HeapM.popL seD aheadS l).take (l.length - 1)=l2:=⟨_,rfl⟩
     obtain ⟨z,hz⟩:∃z,HeapM.at' seD (HeapM.popL seD aheadS l) (l.length - 1)=z:=⟨_,rfl⟩
     rw [hl2,hz] at C2 HT2
     have hlen2:l2.length+1=l.length:=by
      have e1:=uH HT2
      have e0:=uH HT
      rw [uH HTK] at e1 e0
      have p1:=e1.2.1.length_eq
      have p0:=e0.2.1.length_eq
      simp at p1 p0
      omega
     obtain ⟨z1,z2,z3,z4,z5⟩:=z
     clear hl2 hz HT
     have h0z:(0:Int)<(l.length:Int):=by omega
     have hfs:=fieldS (z1,z2,z3,z4,z5)
     go_wp2_with fail
     refine (uH C2).mono ?_
     rintro e w5 ⟨rfl,hh⟩
     have hrow5:=uH HRW w5 (fun f hf=>(hh.1.2.2.2.2.2.2 f hf).1)
     have H5:=hide hh
     have hz5:w.heap.size+3<w5.heap.size:=let ⟨_,b,_⟩:=hh.1.1;b.lt
     clear hh C2 H4 hz4
     go_wp2_with (at_builtin;refine wpList_append_own _ rfl _ _ 49 rfl (w.heap.size+4) 9 i0 (.string ByteArray.empty) 1 16 Tryz.underlying49 hi hz0 hz1 hz2 rfl (by decide) _ _ _ rfl (hrow5.alloc _) ⟨w5.heap.size,0,none⟩ 1 1 [.string (bs z1)] rfl rfl ?c1 ?c2 ?c3 ?c4 ?c5 ?_)
     case c1=>intro j v hj;match j,hj with | 0,hj=>simp at hj;subst hj;simp [Addr.add]
     case c2=>intro v hv;simp at hv;subst hv;rfl
     case c3=>unfold maxLen;omega
     case c4=>omega
     case c5=>simp;omega
     intro v' w7 hown' hgrow _
     have hgz:=hgrow.size
     rw [yE] at hgz
     have R7:=hide (show w7.ownsRow (w.heap.size+4) 9 1 v' (o++[bs z1]).length (scells (o++[bs z1])) by simpa [scells] using hown')
     have H7:=hide (show HI K [] w (w.heap.size+1) (w.heap.size+1+1) (w.heap.size+3) w7 l2 from ⟨((hst_none (uH H5).1).below (yA (yH _ _) _)).grow hgrow (fun k hk=>by
      obtain ⟨f,hf,rfl⟩:=uH HFB k hk
      exact ⟨by have:=(uH HF2 f hf).2;omega,_,_,((uH H5).1.2.2.2.2.2.2 f hf).1.al _,by rw [(uH HF2 f hf).1];decide⟩),(uH H5).2⟩)
     have HSL7:=hide (own_slLen (uH R7))
     clear hown' hgrow hrow5 H5
     go_wp2
     go_roundw
     case rel=>exact ⟨l2,P++[(z1,z2,z3,z4,z5)],o++[bs z1],by simp;omega,hide (by rw [uH HO,List.map_append];rfl),HT2,H7,R7⟩
     case measure=>
      have e1:=uH HSL
      have e2:=uH HSL7
      simp at e2
      simp
      omega
    ·have hl0:l.length=0:=by omega
     obtain rfl:l=[]:=List.eq_nil_of_length_eq_zero hl0
     have hrow4:=hide (uH HRW w4 (fun f hf=>((uH H4).1.2.2.2.2.2.2 f hf).1))
     have HB4:=hide (uH H4).1.2.2.2.2.2.1
     have HFIN:=hide (show P.map Prod.fst=oV by
      have e0:=uH HT
      rw [uH HTK,List.append_nil] at e0
      exact uH HOT P e0.2.2.1 e0.2.1)
     go_wp2
     go_ret
     refine ⟨_,rfl,?_,uH HB4⟩
     refine (Texts.of (uH hrow4) ?_).base hww
     rw [uH HO,←uH HFIN,List.map_map]
     rfl
def BFr (w w1:World) (na nb:List UInt8) (ux uy dx dy vx vy fx fy tx ty:Int) (gt:Nat) (qa:Option Addr) (ql qc:Nat) (aa:Option Addr) (al ac:Nat) (ma:Option Addr) (ml mc:Nat) (ca:Option Addr) (cl cc:Nat) (qs:List Q) (clock epoch next serial:Int) (apps:List Appl) (ms:List Mac) (cs:List Con) (c:Nat) (fs:List Bool) (us:List Nat):Act:={ tmps:=#[sv ⟨qa,ql,qc,aa,al,ac,ma,ml,mc,ca,cl,cc⟩ ⟨qs,clock,epoch,next,serial,apps,ms,cs⟩,.string (bs na),.string (bs nb),.pointer (some ⟨w.heap.size,0,none⟩),undef,undef,.bool false,.pointer (some ⟨gt,0,none⟩),mkPtr (fs.getD 0 false) (us.getD 0 0),mkPtr (fs.getD 1 false) (us.getD 1 0),mkPtr (fs.getD 2 false) (us.getD 2 0),mkPtr (fs.getD 3 false) (us.getD 3 0),.agg #[.slice qa ql qc,.int .i64 clock,.int .i64 epoch,.int .i64 next,.int .i64 serial,.slice aa al ac,.slice ma ml mc,.slice ca cl cc],rv tx ty,.agg #[.slice qa ql qc,.int .i64 clock,.int .i64 epoch,.int .i64 next,.int .i64 serial,.slice aa al ac,.slice ma ml mc,.slice ca cl cc],.string (bs na),mkRes (Nat.ble 1 c) (rv ux uy),.pointer (some ⟨w.heap.size,0,none⟩),.slice qa ql qc,.string (bs na),rv tx ty,mkRes (Nat.ble 2 c) (rv dx dy),.agg #[.slice qa ql qc,.int .i64 clock,.int .i64 epoch,.int .i64 next,.int .i64 serial,.slice aa al ac,.slice ma ml mc,.slice ca cl cc],.string (bs nb),mkRes (Nat.ble 3 c) (rv vx vy),.pointer (some ⟨w.heap.size,0,none⟩),.slice qa ql qc,.string (bs nb),rv tx ty,mkRes (Nat.ble 4 c) (rv fx fy),undef,undef,undef,undef,undef,undef,undef,undef,undef,undef,undef,undef,undef,undef,undef,undef],defers:=[] }
def BFM:Mul:=⟨24,[2,7,10,15],[16,17,18,19],[20,21,22,23],[true,true,false,true,true,true,true,false,true,true,false,true,true,true,true,false,false,false,false,false,false,false,false,false]⟩
theorem before_any (x:Sls) (s:St) (na nb:List UInt8) (w:World) (h:SRow w x s) (hf:FitSt s) :
  Calls Tryz.prog 111 #[sv x s,.string (bs na),.string (bs nb)] w fun e w'=>e=.returned (.bool (befN s na nb))∧Below w.heap.size w w':=by
 have hql:x.ql≤1048576:=h.ql hf
 have hml:x.ml≤1048576:=h.ml hf
 have CT:=hide (fun wx (hb:Below w.heap.size w wx)=>show Calls Tryz.prog 58 #[sv x s] wx (fun e w'=>e=.returned (rv (totalV s).1 (totalV s).2)∧Below wx.heap.size wx w') from specTotal_any x s wx (h.2.2.1.below hb) hml)
 have CD:=fun nm wx (hb:Below w.heap.size w wx)=>show Calls Tryz.prog 60 #[.slice x.qa x.ql x.qc,.string (bs nm),rv (totalV s).1 (totalV s).2] wx (fun e w'=>e=.returned (rv (dueV s nm).1 (dueV s nm).2)∧Below wx.heap.size wx w') from specDueOf_any x.qa x.ql x.qc s.qs nm (totalV s).1 (totalV s).2 wx (h.1.below hb) hql (fun q hq=>(hf.1.2 q hq).1)
 have CU:=fun nm wx (hb:Below w.heap.size w wx)=>specUsedBy_any x s nm wx (h.below hb) hf
 have CU1:=hide (CU na)
 have CU2:=hide (CU nb)
 have CD1:=hide (CD na)
 have CD2:=hide (CD nb)
 have HA:=hide (show befN s na nb=(lessR (usedByV s na).1 (usedByV s na).2 (dueV s na).1 (dueV s na).2 (usedByV s nb).1 (usedByV s nb).2 (dueV s nb).1 (dueV s nb).2||(!lessR (usedByV s nb).1 (usedByV s nb).2 (dueV s nb).1 (dueV s nb).2 (usedByV s na).1 (usedByV s na).2 (dueV s na).1 (dueV s na).2&&Op.bytesLess na nb)) from rfl)
 obtain ⟨⟨tx,ty⟩,ht⟩:∃t,totalV s=t:=⟨_,rfl⟩
 obtain ⟨⟨dx,dy⟩,hd⟩:∃t,dueV s na=t:=⟨_,rfl⟩
 obtain ⟨⟨ux,uy⟩,hu⟩:∃t,usedByV s na=t:=⟨_,rfl⟩
 obtain ⟨⟨fx,fy⟩,hd2⟩:∃t,dueV s nb=t:=⟨_,rfl⟩
 obtain ⟨⟨vx,vy⟩,hu2⟩:∃t,usedByV s nb=t:=⟨_,rfl⟩
 rw [ht] at CT
 rw [ht,hd] at CD1
 rw [ht,hd2] at CD2
 rw [hu] at CU1
 rw [hu2] at CU2
 rw [hd,hu,hd2,hu2] at HA
 obtain ⟨o,ho⟩:∃o,befN s na nb=o:=⟨_,rfl⟩
 rw [ho] at HA ⊢
 simp only at HA CD1 CD2 CU1 CU2 CT
 obtain ⟨l1,hl1⟩:∃z,lessR ux uy dx dy vx vy fx fy=z:=⟨_,rfl⟩
 obtain ⟨l2,hl2⟩:∃z,lessR vx vy fx fy ux uy dx dy=z:=⟨_,rfl⟩
 have CL1:=hide (fun wx=>by have:=specLessRatio_any ux uy dx dy vx vy fx fy wx;rw [hl1] at this;exact this)
 have CL2:=hide (fun wx=>by have:=specLessRatio_any vx vy fx fy ux uy dx dy wx;rw [hl2] at this;exact this)
 rw [hl1,hl2] at HA
 clear h hf CD CU ht hd hu hd2 hu2 ho hl1 hl2
 obtain ⟨qa,ql,qc,aa,al,ac,ma,ml,mc,ca,cl,cc⟩:=x
 obtain ⟨qs,clock,epoch,next,serial,apps,ms,cs⟩:=s
 simp only at CT CD1 CD2 CU1 CU2 hql hml
 have HB0:=hide (yA (yH _ w) (.cells (svc ⟨qa,ql,qc,aa,al,ac,ma,ml,mc,ca,cl,cc⟩ ⟨qs,clock,epoch,next,serial,apps,ms,cs⟩) 36))
 have P0:=hide (yD w (svc ⟨qa,ql,qc,aa,al,ac,ma,ml,mc,ca,cl,cc⟩ ⟨qs,clock,epoch,next,serial,apps,ms,cs⟩) 36)
 go_enter Tryz.func111,Tryz.ntmps111
 go_wp2_with fail
 refine (uH CT _ (uH HB0)).mono ?_
 rintro e w0 ⟨rfl,hb⟩
 have HB1:=hide (yA (yB (uH HB0) hb) (.cells #[.int .i64 tx,.int .i64 ty] 52))
 have P1:=hide (((uH P0).below hb).al (.cells #[.int .i64 tx,.int .i64 ty] 52))
 have T1:=hide (var_new w0 52 tx ty)
 clear hb HB0 P0 CT
 obtain ⟨gt,hgt⟩:∃g,w0.heap.size=g:=⟨_,rfl⟩
 rw [hgt] at T1
 go_wp2_with fail
 try rw [hgt]
 obtain ⟨w1,hw1⟩:∃W,w0.alloc (.cells #[.int .i64 tx,.int .i64 ty] 52)=W:=⟨_,rfl⟩
 rw [hw1] at HB1 P1 T1 ⊢
 clear hgt hw1
 obtain ⟨q0,q1,q2,q3,q4,q5,q6,q7⟩:_∧_∧_∧_∧_∧_∧_∧_:=⟨(uH P1).at 0,(uH P1).at 1,(uH P1).at 2,(uH P1).at 3,(uH P1).at 4,(uH P1).at 5,(uH P1).at 6,(uH P1).at 7⟩
 simp at q0 q1 q2 q3 q4 q5 q6 q7
 have R:∀wx,Kp w1 wx→wx.cell? ⟨w.heap.size,0,none⟩=some (.slice qa ql qc)∧wx.cell? ⟨w.heap.size,1,none⟩=some (.int .i64 clock)∧wx.cell? ⟨w.heap.size,2,none⟩=some (.int .i64 epoch)∧wx.cell? ⟨w.heap.size,3,none⟩=some (.int .i64 next)∧wx.cell? ⟨w.heap.size,4,none⟩=some (.int .i64 serial)∧wx.cell? ⟨w.heap.size,5,none⟩=some (.slice aa al ac)∧wx.cell? ⟨w.heap.size,6,none⟩=some (.slice ma ml mc)∧wx.cell? ⟨w.heap.size,7,none⟩=some (.slice ca cl cc)∧wx.cell? ⟨gt,0,none⟩=some (.int .i64 tx)∧wx.cell? ⟨gt,1,none⟩=some (.int .i64 ty):=fun wx h=>
  ⟨h.cell q0,h.cell q1,h.cell q2,h.cell q3,h.cell q4,h.cell q5,h.cell q6,h.cell q7,h.cell (uH T1).c0,h.cell (uH T1).c1⟩
 have A0:=hide (Kp.new w1)
 have HS:=hide (kp_holds w1)
 clear P1 T1 q0 q1 q2 q3 q4 q5 q6 q7
 go_cut [8,9,10,11] from 14 to 29 (fun v8 v9 v10 v11 wx=>∃g8 g9 g10 g11,v8=.pointer (some ⟨g8,0,none⟩)∧v9=.pointer (some ⟨g9,0,none⟩)∧v10=.pointer (some ⟨g10,0,none⟩)∧v11=.pointer (some ⟨g11,0,none⟩)∧Var wx 52 g8 ux uy∧Var wx 52 g9 dx dy∧Var wx 52 g10 vx vy∧Var wx 52 g11 fx fy∧w1.heap.size≤g8∧w1.heap.size≤g9∧w1.heap.size≤g10∧w1.heap.size≤g11∧Kp w1 wx)
 case first=>
  refine wp_region_held_drew (S:=fun wx=>Kp w1 wx) (by kernel_rfl) ((uH HS).drew (uH A0)) (fun S0=>?_)
  refine tW 0 14 _ S0 ?_
  try simp only [zW]
  refine tW 1 15 _ S0 ?_
  try simp only [zW]
  refine tW 3 17 _ S0 ?_
  try simp only [zW]
  refine tW 4 18 _ S0 ?_
  try simp only [zW]
  refine tW 5 19 _ S0 ?_
  try simp only [zW]
  refine tW 6 20 _ S0 ?_
  try simp only [zW]
  refine tW 8 22 _ S0 ?_
  try simp only [zW]
  refine tW 9 23 _ S0 ?_
  try simp only [zW]
  refine tW 11 25 _ S0 ?_
  try simp only [zW]
  refine tW 12 26 _ S0 ?_
  try simp only [zW]
  refine tW 13 27 _ S0 ?_
  try simp only [zW]
  refine tW 14 28 _ S0 ?_
  try simp only [zW]
  refine wpAnyH_is (n':=4+4+4) (l':=BFM.lst 0 [false,false,false,false] 0) (a':=BFr w w1 na nb ux uy dx dy vx vy fx fy tx ty gt qa ql qc aa al ac ma ml mc ca cl cc qs clock epoch next serial apps ms cs 0 [false,false,false,false] [0,0,0,0]) rfl (by kernel_rfl) rfl ?_
  refine region_multi (w1:=w1) BFM (BFr w w1 na nb ux uy dx dy vx vy fx fy tx ty gt qa ql qc aa al ac ma ml mc ca cl cc qs clock epoch next serial apps ms cs) [(ux,uy),(dx,dy),(vx,vy),(fx,fy)] rfl (by as_aux_lemma=>kernel_rfl) ?call ?al ?st ?fin _ S0
  case call=>
   intro c f us wz K hc hf hu kp hK
   obtain ⟨f0,f1,f2,f3,rfl⟩:=list4 hf
   obtain ⟨g8,g9,g10,g11,rfl⟩:=list4 hu
   have hc4:c<4:=hc
   match c,hc4,hK with
   | 0,_,hK=>
    show Mul.step _ _ _ 2 _ _ _
    refine ⟨_,rfl,?_⟩
    simp only [BFr,List.getD_cons_zero,List.getD_cons_succ]
    go_simp
    refine (uH CU1 _ (yB (uH HB1) kp)).mono ?_
    rintro e w2 ⟨rfl,hb⟩
    go_wp2_with fail
    first | exact hb | exact hK _ hb
   | 1,_,hK=>
    show Mul.step _ _ _ 7 _ _ _
    refine ⟨_,rfl,?_⟩
    simp only [BFr,List.getD_cons_zero,List.getD_cons_succ]
    go_simp
    refine (uH CD1 _ (yB (uH HB1) kp)).mono ?_
    rintro e w2 ⟨rfl,hb⟩
    go_wp2_with fail
    first | exact hb | exact hK _ hb
   | 2,_,hK=>
    show Mul.step _ _ _ 10 _ _ _
    refine ⟨_,rfl,?_⟩
    simp only [BFr,List.getD_cons_zero,List.getD_cons_succ]
    go_simp
    refine (uH CU2 _ (yB (uH HB1) kp)).mono ?_
    rintro e w2 ⟨rfl,hb⟩
    go_wp2_with fail
    first | exact hb | exact hK _ hb
   | 3,_,hK=>
    show Mul.step _ _ _ 15 _ _ _
    refine ⟨_,rfl,?_⟩
    simp only [BFr,List.getD_cons_zero,List.getD_cons_succ]
    go_simp
    refine (uH CD2 _ (yB (uH HB1) kp)).mono ?_
    rintro e w2 ⟨rfl,hb⟩
    go_wp2_with fail
    first | exact hb | exact hK _ hb
  case al=>
   intro j c f us wz K hc hf hu hj hK
   obtain ⟨f0,f1,f2,f3,rfl⟩:=list4 hf
   obtain ⟨g8,g9,g10,g11,rfl⟩:=list4 hu
   match j,hj,hK with
   | 0,hj,hK=>
    show Mul.step _ _ _ 16 _ _ _
    refine ⟨_,rfl,?_⟩
    simp only [BFr,List.getD_cons_zero,List.getD_cons_succ]
    go_simp
    go_wp2_with fail
    exact hK
   | 1,hj,hK=>
    show Mul.step _ _ _ 17 _ _ _
    refine ⟨_,rfl,?_⟩
    simp only [BFr,List.getD_cons_zero,List.getD_cons_succ]
    go_simp
    go_wp2_with fail
    exact hK
   | 2,hj,hK=>
    show Mul.step _ _ _ 18 _ _ _
    refine ⟨_,rfl,?_⟩
    simp only [BFr,List.getD_cons_zero,List.getD_cons_succ]
    go_simp
    go_wp2_with fail
    exact hK
   | 3,hj,hK=>
    show Mul.step _ _ _ 19 _ _ _
    refine ⟨_,rfl,?_⟩
    simp only [BFr,List.getD_cons_zero,List.getD_cons_succ]
    go_simp
    go_wp2_with fail
    exact hK
   | j+4,hj,_=>simp at hj
  case st=>
   intro s us wz K hs hu hv hK
   obtain ⟨g8,g9,g10,g11,rfl⟩:=list4 hu
   have hs4:s<4:=hs
   match s,hs4,hv,hK with
   | 0,_,hv,hK=>
    replace hv:Var wz 52 g8 0 0:=hv
    have y0:=hv.c0
    have y1:=hv.c1
    have y2:=hv.f 0
    have y3:=hv.f 1
    show Mul.step _ _ _ 20 { tmps:=#[sv ⟨qa,ql,qc,aa,al,ac,ma,ml,mc,ca,cl,cc⟩ ⟨qs,clock,epoch,next,serial,apps,ms,cs⟩,.string (bs na),.string (bs nb),.pointer (some ⟨w.heap.size,0,none⟩),undef,undef,.bool false,.pointer (some ⟨gt,0,none⟩),.pointer (some ⟨g8,0,none⟩),.pointer (some ⟨g9,0,none⟩),.pointer (some ⟨g10,0,none⟩),.pointer (some ⟨g11,0,none⟩),.agg #[.slice qa ql qc,.int .i64 clock,.int .i64 epoch,.int .i64 next,.int .i64 serial,.slice aa al ac,.slice ma ml mc,.slice ca cl cc],rv tx ty,.agg #[.slice qa ql qc,.int .i64 clock,.int .i64 epoch,.int .i64 next,.int .i64 serial,.slice aa al ac,.slice ma ml mc,.slice ca cl cc],.string (bs na),rv ux uy,.pointer (some ⟨w.heap.size,0,none⟩),.slice qa ql qc,.string (bs na),rv tx ty,rv dx dy,.agg #[.slice qa ql qc,.int .i64 clock,.int .i64 epoch,.int .i64 next,.int .i64 serial,.slice aa al ac,.slice ma ml mc,.slice ca cl cc],.string (bs nb),rv vx vy,.pointer (some ⟨w.heap.size,0,none⟩),.slice qa ql qc,.string (bs nb),rv tx ty,rv fx fy,undef,undef,undef,undef,undef,undef,undef,undef,undef,undef,undef,undef,undef,undef,undef,undef],defers:=[] } _ _
    refine ⟨_,rfl,?_⟩
    simp only [BFr,List.getD_cons_zero,List.getD_cons_succ]
    go_simp
    go_wp2_with fail
    exact hK
   | 1,_,hv,hK=>
    replace hv:Var wz 52 g9 0 0:=hv
    have y0:=hv.c0
    have y1:=hv.c1
    have y2:=hv.f 0
    have y3:=hv.f 1
    show Mul.step _ _ _ 21 { tmps:=#[sv ⟨qa,ql,qc,aa,al,ac,ma,ml,mc,ca,cl,cc⟩ ⟨qs,clock,epoch,next,serial,apps,ms,cs⟩,.string (bs na),.string (bs nb),.pointer (some ⟨w.heap.size,0,none⟩),undef,undef,.bool false,.pointer (some ⟨gt,0,none⟩),.pointer (some ⟨g8,0,none⟩),.pointer (some ⟨g9,0,none⟩),.pointer (some ⟨g10,0,none⟩),.pointer (some ⟨g11,0,none⟩),.agg #[.slice qa ql qc,.int .i64 clock,.int .i64 epoch,.int .i64 next,.int .i64 serial,.slice aa al ac,.slice ma ml mc,.slice ca cl cc],rv tx ty,.agg #[.slice qa ql qc,.int .i64 clock,.int .i64 epoch,.int .i64 next,.int .i64 serial,.slice aa al ac,.slice ma ml mc,.slice ca cl cc],.string (bs na),rv ux uy,.pointer (some ⟨w.heap.size,0,none⟩),.slice qa ql qc,.string (bs na),rv tx ty,rv dx dy,.agg #[.slice qa ql qc,.int .i64 clock,.int .i64 epoch,.int .i64 next,.int .i64 serial,.slice aa al ac,.slice ma ml mc,.slice ca cl cc],.string (bs nb),rv vx vy,.pointer (some ⟨w.heap.size,0,none⟩),.slice qa ql qc,.string (bs nb),rv tx ty,rv fx fy,undef,undef,undef,undef,undef,undef,undef,undef,undef,undef,undef,undef,undef,undef,undef,undef],defers:=[] } _ _
    refine ⟨_,rfl,?_⟩
    simp only [BFr,List.getD_cons_zero,List.getD_cons_succ]
    go_simp
    go_wp2_with fail
    exact hK
   | 2,_,hv,hK=>
    replace hv:Var wz 52 g10 0 0:=hv
    have y0:=hv.c0
    have y1:=hv.c1
    have y2:=hv.f 0
    have y3:=hv.f 1
    show Mul.step _ _ _ 22 { tmps:=#[sv ⟨qa,ql,qc,aa,al,ac,ma,ml,mc,ca,cl,cc⟩ ⟨qs,clock,epoch,next,serial,apps,ms,cs⟩,.string (bs na),.string (bs nb),.pointer (some ⟨w.heap.size,0,none⟩),undef,undef,.bool false,.pointer (some ⟨gt,0,none⟩),.pointer (some ⟨g8,0,none⟩),.pointer (some ⟨g9,0,none⟩),.pointer (some ⟨g10,0,none⟩),.pointer (some ⟨g11,0,none⟩),.agg #[.slice qa ql qc,.int .i64 clock,.int .i64 epoch,.int .i64 next,.int .i64 serial,.slice aa al ac,.slice ma ml mc,.slice ca cl cc],rv tx ty,.agg #[.slice qa ql qc,.int .i64 clock,.int .i64 epoch,.int .i64 next,.int .i64 serial,.slice aa al ac,.slice ma ml mc,.slice ca cl cc],.string (bs na),rv ux uy,.pointer (some ⟨w.heap.size,0,none⟩),.slice qa ql qc,.string (bs na),rv tx ty,rv dx dy,.agg #[.slice qa ql qc,.int .i64 clock,.int .i64 epoch,.int .i64 next,.int .i64 serial,.slice aa al ac,.slice ma ml mc,.slice ca cl cc],.string (bs nb),rv vx vy,.pointer (some ⟨w.heap.size,0,none⟩),.slice qa ql qc,.string (bs nb),rv tx ty,rv fx fy,undef,undef,undef,undef,undef,undef,undef,undef,undef,undef,undef,undef,undef,undef,undef,undef],defers:=[] } _ _
    refine ⟨_,rfl,?_⟩
    simp only [BFr,List.getD_cons_zero,List.getD_cons_succ]
    go_simp
    go_wp2_with fail
    exact hK
   | 3,_,hv,hK=>
    replace hv:Var wz 52 g11 0 0:=hv
    have y0:=hv.c0
    have y1:=hv.c1
    have y2:=hv.f 0
    have y3:=hv.f 1
    show Mul.step _ _ _ 23 { tmps:=#[sv ⟨qa,ql,qc,aa,al,ac,ma,ml,mc,ca,cl,cc⟩ ⟨qs,clock,epoch,next,serial,apps,ms,cs⟩,.string (bs na),.string (bs nb),.pointer (some ⟨w.heap.size,0,none⟩),undef,undef,.bool false,.pointer (some ⟨gt,0,none⟩),.pointer (some ⟨g8,0,none⟩),.pointer (some ⟨g9,0,none⟩),.pointer (some ⟨g10,0,none⟩),.pointer (some ⟨g11,0,none⟩),.agg #[.slice qa ql qc,.int .i64 clock,.int .i64 epoch,.int .i64 next,.int .i64 serial,.slice aa al ac,.slice ma ml mc,.slice ca cl cc],rv tx ty,.agg #[.slice qa ql qc,.int .i64 clock,.int .i64 epoch,.int .i64 next,.int .i64 serial,.slice aa al ac,.slice ma ml mc,.slice ca cl cc],.string (bs na),rv ux uy,.pointer (some ⟨w.heap.size,0,none⟩),.slice qa ql qc,.string (bs na),rv tx ty,rv dx dy,.agg #[.slice qa ql qc,.int .i64 clock,.int .i64 epoch,.int .i64 next,.int .i64 serial,.slice aa al ac,.slice ma ml mc,.slice ca cl cc],.string (bs nb),rv vx vy,.pointer (some ⟨w.heap.size,0,none⟩),.slice qa ql qc,.string (bs nb),rv tx ty,rv fx fy,undef,undef,undef,undef,undef,undef,undef,undef,undef,undef,undef,undef,undef,undef,undef,undef],defers:=[] } _ _
    refine ⟨_,rfl,?_⟩
    simp only [BFr,List.getD_cons_zero,List.getD_cons_succ]
    go_simp
    go_wp2_with fail
    exact hK
  case fin=>
   intro us wz hu hV kp
   obtain ⟨g8,g9,g10,g11,rfl⟩:=list4 hu
   have v8:VB w1 wz g8 ux uy:=hV 0 (by decide)
   have v9:VB w1 wz g9 dx dy:=hV 1 (by decide)
   have v10:VB w1 wz g10 vx vy:=hV 2 (by decide)
   have v11:VB w1 wz g11 fx fy:=hV 3 (by decide)
   go_wp2_with fail
   go_meet
   exact ⟨g8,g9,g10,g11,rfl,rfl,rfl,rfl,v8.2,v9.2,v10.2,v11.2,v8.1,v9.1,v10.1,v11.1,kp⟩
 case rest=>
  obtain ⟨g8,g9,g10,g11,rfl,rfl,rfl,rfl,v8,v9,v10,v11,_,_,_,_,hA⟩:=hcut
  obtain ⟨w4,rfl⟩:∃w4,w4=wc:=⟨wc,rfl⟩
  have V8:=hide v8
  have V9:=hide v9
  have V10:=hide v10
  have V11:=hide v11
  have HB4:=hide (yB (uH HB1) hA)
  have a0:=v8.c0;have a1:=v8.c1;have b0:=v9.c0;have b1:=v9.c1;have c0:=v10.c0;have c1:=v10.c1;have d0:=v11.c0;have d1:=v11.c1
  clear v8 v9 v10 v11 hA R A0 HS HB1 CU1 CU2 CD1 CD2
  go_wp2_with fail
  refine (uH CL1 _).mono ?_
  rintro e w5 ⟨rfl,hb⟩
  have HB5:=hide (yB (uH HB4) hb)
  have X8:=(uH V8).below hb
  have X9:=(uH V9).below hb
  have X10:=(uH V10).below hb
  have X11:=(uH V11).below hb
  clear a0 a1 b0 b1 c0 c1 d0 d1 hb V8 V9 V10 V11 CL1 HB4
  have a0:=X8.c0;have a1:=X8.c1;have b0:=X9.c0;have b1:=X9.c1;have c0:=X10.c0;have c1:=X10.c1;have d0:=X11.c0;have d1:=X11.c1
  cases l1
  case true=>
   go_wp2
   go_ret
   exact ⟨yF (by rw [uH HA];rfl),uH HB5⟩
  clear X8 X9 X10 X11
  go_wp2_with fail
  refine (uH CL2 _).mono ?_
  rintro e w6 ⟨rfl,hb⟩
  have HB6:=hide (yB (uH HB5) hb)
  clear a0 a1 b0 b1 c0 c1 d0 d1 hb CL2 HB5
  cases l2
  case true=>
   go_wp2
   go_ret
   exact ⟨yF (by rw [uH HA];rfl),uH HB6⟩
  obtain ⟨bl,hbl⟩:∃z,Op.bytesLess (bs na).toList (bs nb).toList=z:=⟨_,rfl⟩
  have HBL:=hide (show Op.bytesLess na nb=bl by rw [←hbl];simp [bs])
  go_wp2
  go_ret
  exact ⟨yF (by rw [uH HA,uH HBL];rfl),uH HB6⟩
end
end Go.Proofs.YtokabeokclpljaaGreat
