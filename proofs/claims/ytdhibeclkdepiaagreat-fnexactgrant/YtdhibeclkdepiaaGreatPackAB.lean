/-
  Texts in one: InsD, GrM, SrvU, SrvI.
-/
import Derived.Test.YtdhibeclkdepiaaGreatPackAA
set_option maxRecDepth 100000
set_option maxHeartbeats 16000000
set_option linter.unusedVariables false
set_option linter.unusedSimpArgs false
namespace Go.Proofs.YtdhibeclkdepiaaGreat
section
open Go.RowKit
theorem run_copy_rows {P:Program} (w:World) (dT sT ty elem:TypeId) (b o dLen dCap:Nat) (a:Addr) (sLen sCap:Nat) (cs:List Value) (sz:Nat)
  (hu:P.underlying dT=some (.slice elem)) (hs:(P.info? elem).map (·.size)=some sz) (hn:cs.length=Nat.min sLen dLen*sz)
  (hsrc:∀j v,cs[j]? = some v→w.cell? (a.add j)=some v) (hc:∀j,j<cs.length→(w.cell? ⟨b,o+j,none⟩).isSome=true) (hf:∀j,j<cs.length→w.frozen? ⟨b,o+j,none⟩=false) (h1:∀v ∈ cs,v.oneCell'=true) :
  (Builtin.copy_ #[dT,sT] ty #[.slice (some ⟨b,o,none⟩) dLen dCap,.slice (some a) sLen sCap]).run P w=.ok (goInt (Nat.min sLen dLen)) (w.setCells b o cs):=by
 have hl:=run_loadCells_list (P:=P) w a cs hsrc
 have hst:=run_storeCells_cells (P:=P) b o cs 0 w (by simpa using hc) (by simpa using hf) h1
 obtain ⟨m,hm⟩:∃m,Nat.min sLen dLen=m:=⟨_,rfl⟩
 rw [hm] at hn ⊢
 cases hq:P.info? elem with
 | none=>simp [hq] at hs
 | some i=>
  have hi:i.size=sz:=by simpa [hq] using hs
  rw [hn] at hl
  simp [Builtin.copy_,run_underlying hu,Builtin.lenOf,Builtin.firstCells,sizeOf,typeInfo,hq,hi,hm,hl,hst]
theorem exec_copy {P:Program} {a:Act} {o:Oper} {w w':World} {s x:Operand} {t t':TypeId} {v vs vx:Value} (ho:o.op=.call { callee:=.builtin .copy,args:=#[s,x],argTypes:=#[t,t'] }) (hs:a.eval s=vs) (hx:a.eval x=vx) (hrun:(Builtin.copy_ #[t,t'] o.type #[vs,vx]).run P w=.ok v w'):(execOp a.eval o).run P w=.ok (.value v) w':=by
 simp [execOp,ho,resolve,invoke,builtin,hs,hx,hrun,Result.andThen]
theorem infoC5:(Tryz.prog.info? 38).map (·.size)=some 5:=by kernel_rfl
theorem sizeC5:∀w,(Go.sizeOf 38).run Tryz.prog w=.ok 5 w:=fun w=>by kernel_rfl
theorem ccells_split (l:List Con) (i:Nat):ccells l=ccells (l.take i)++ccells (l.drop i):=by rw [←ccells_append,List.take_append_drop]
theorem ccells_take_len (l:List Con) {i:Nat} (h:i≤l.length):(ccells (l.take i)).length=i*5:=by rw [ccells_len,List.length_take,Nat.min_eq_left h]
theorem ccells_drop_len (l:List Con) (i:Nat):(ccells (l.drop i)).length=(l.length - i)*5:=by rw [ccells_len,List.length_drop]
theorem lay_shift {w:World} {g M i:Nat} {l:List Con} (h:Lay w 38 g (M*5) (ccells l)) (hi:i<l.length) (hM:l.length+1≤M):Lay (w.setCells g ((i+1)*5) (ccells (l.drop i))) 38 g (M*5) (ccells (l.take (i+1)++l.drop i)):=by
 have ht:(ccells (l.take (i+1))).length=(i+1)*5:=ccells_take_len l (by omega)
 have hd:=ccells_drop_len l i
 have hm:=Nat.mul_le_mul_right 5 hM
 refine h.cells _ _ (by rw [hd];omega) _ (by rw [ccells_append,List.length_append,ht,hd];omega) (fun j u hj=>?_)
 rw [ccells_append] at hj
 rw [hd]
 refine ⟨fun e=>?_,fun e=>?_⟩
 ·rw [List.getElem?_append_right (by omega),ht] at hj
  exact hj
 ·by_cases e2:j<(i+1)*5
  ·rw [List.getElem?_append_left (by omega)] at hj
   refine h.cell ?_
   rw [ccells_split l (i+1),List.getElem?_append_left (by omega)]
   exact hj
  ·have:=(List.getElem?_eq_some_iff.1 hj).1
   rw [List.length_append,ht,hd] at this
   omega
theorem lay_put {w:World} {g M i:Nat} {l:List Con} {q:Con} (h:Lay w 38 g (M*5) (ccells (l.take (i+1)++l.drop i))) (hi:i<l.length) (hM:l.length+1≤M):Lay (w.setCells g (i*5) (ccell q)) 38 g (M*5) (ccells (l.take i++q::l.drop i)):=by
 have ht1:(ccells (l.take (i+1))).length=(i+1)*5:=ccells_take_len l (by omega)
 have ht:(ccells (l.take i)).length=i*5:=ccells_take_len l (by omega)
 have hd:=ccells_drop_len l i
 have hm:=Nat.mul_le_mul_right 5 hM
 have hq:(ccell q).length=5:=rfl
 refine h.cells _ _ (by rw [hq];omega) _ (by rw [ccells_ins,List.length_append,List.length_append,ht,hd,hq];omega) (fun j u hj=>?_)
 rw [ccells_ins] at hj
 rw [hq]
 refine ⟨fun e=>?_,fun e=>?_⟩
 ·rw [List.getElem?_append_right (by omega),ht,List.getElem?_append_left (by omega)] at hj
  exact hj
 ·refine h.cell ?_
  rw [ccells_append]
  by_cases e2:j<i*5
  ·rw [List.getElem?_append_left (by omega)] at hj ⊢
   have e3:ccells (l.take (i+1))=ccells (l.take i)++ccell l[i]:=by rw [List.take_succ_eq_append_getElem hi,ccells_append];simp [ccells]
   rw [e3,List.getElem?_append_left (by omega)]
   exact hj
  ·rw [List.getElem?_append_right (by omega),ht,List.getElem?_append_right (by omega),hq] at hj
   rw [List.getElem?_append_right (by omega),ht1]
   rw [show j - (i+1)*5=j - i*5 - 5 by omega]
   exact hj
theorem insertC_shift {B:Nat} (g n cap gv m i:Nat) (hm:m=1) (l:List Con) (q:Con) (w:World) (h:CRm B w (some ⟨g,0,none⟩) n cap l) (hv:Blk w gv (ccell q).toArray 38) (hne:g≠gv) (hi:i<n) (hroom:n+1≤cap) (hn:n≤1048576) :
  Calls Tryz.prog 72 #[.slice (some ⟨g,0,none⟩) n cap,.int .i64 (i:Int),.slice (some ⟨gv,0,none⟩) m m] w (InsAnsC B (some ⟨g,0,none⟩) n cap (l.take i++q::l.drop i) w):=by
 obtain ⟨M,hB,hlay,hM,hl,hnc⟩:=h.cells (by omega)
 have hil:i<l.length:=by omega
 have hq5:(ccell q).length=5:=rfl
 have hd:=ccells_drop_len l i
 have hm5:=Nat.mul_le_mul_right 5 (show n+1≤M by omega)
 have hov:∀lb cb,(callFunc 111 #[.slice (some ⟨gv,0,none⟩) m m,.slice (some ⟨g,(i+m)*5,none⟩) lb cb]).run Tryz.prog w=.ok (.value (.bool false)) w:=fun lb cb=>by
  obtain ⟨arr,ha,hs⟩:=hlay.cel
  rw [run_callFunc_extern Tryz.func111 (by kernel_rfl) (by kernel_rfl) (by kernel_rfl) (e:=Extern.SlicesOverlaps.overlaps #[32,32] #[4]) (by kernel_rfl),
   Lib.run_overlaps_apart w 32 4 38 Tryz.underlying32 5 sizeC5 ⟨gv,0,none⟩ ⟨g,(i+m)*5,none⟩ m m lb cb (fun e=>hne e.symm) 38 38 5 arr.size (by simp [World.shape?,show w.heap[gv]? = _ from hv,ccell]) (by simp [World.shape?,ha]) (by omega) (hv.f 0) (hv.f 5)]
  rfl
 obtain ⟨W1,hW1⟩:∃W1,W1=w.drew.setCells g ((i+m)*5) (ccells (l.drop i)):=⟨_,rfl⟩
 have hlay1:Lay W1 38 g (M*5) (ccells (l.take (i+1)++l.drop i)):=by rw [hW1,hm];exact lay_shift hlay.drew hil (by omega)
 have hcp1:∀ty dc sc,(Builtin.copy_ #[32,32] ty #[.slice (some ⟨g,(i+m)*5,none⟩) (n+m - (i+m)) dc,.slice (some ⟨g,i*5,none⟩) (n+m - i) sc]).run Tryz.prog w.drew=.ok (goInt (Nat.min (n+m - i) (n+m - (i+m)))) W1:=fun ty dc sc=>by
  rw [hW1]
  exact run_copy_rows w.drew _ _ ty 38 g ((i+m)*5) (n+m - (i+m)) dc ⟨g,i*5,none⟩ (n+m - i) sc (ccells (l.drop i)) 5 Tryz.underlying32 infoC5 (by rw [hd,show Nat.min (n+m - i) (n+m - (i+m))=l.length - i by simp only [Nat.min_def];split<;>omega])
   (fun j v hj=>by
    rw [Lib.add_plain]
    refine hlay.drew.cell ?_
    rw [ccells_split l i,List.getElem?_append_right (by rw [ccells_take_len l (by omega)];omega),ccells_take_len l (by omega),Nat.add_sub_cancel_left]
    exact hj)
   (fun j hj=>hlay.drew.isThere (by rw [hd] at hj;omega)) (fun j hj=>hlay.drew.frozen _) (fun v hv=>ccells_one _ v hv)
 have hcp2:∀ty dc,(Builtin.copy_ #[32,32] ty #[.slice (some ⟨g,i*5,none⟩) (n+m - i) dc,.slice (some ⟨gv,0,none⟩) m m]).run Tryz.prog W1=.ok (goInt (Nat.min m (n+m - i))) (W1.setCells g (i*5) (ccell q)):=fun ty dc=>
  run_copy_rows W1 _ _ ty 38 g (i*5) (n+m - i) dc ⟨gv,0,none⟩ m m (ccell q) 5 Tryz.underlying32 infoC5 (by rw [hq5,show Nat.min m (n+m - i)=1 by simp only [Nat.min_def];split<;>omega])
   (fun j v hj=>by
    rw [Lib.add_plain,hW1,World.cell?_setCells_out g _ _ _ _ (fun e _=>absurd e.symm hne)]
    have h1:=hv.at j
    rw [List.getElem?_toArray,hj] at h1
    rw [Nat.zero_add]
    exact h1)
   (fun j hj=>hlay1.isThere (by rw [hq5] at hj;omega)) (fun j hj=>hlay1.frozen _) (fun v hv=>ccells_one [q] v (by simpa [ccells] using hv))
 have HA:=hide (show InsAnsC B (some ⟨g,0,none⟩) n cap (l.take i++q::l.drop i) w (.returned (.slice (some ⟨g,0,none⟩) (n+m) cap)) (W1.setCells g (i*5) (ccell q)) from by
  rw [hm]
  refine ⟨some ⟨g,0,none⟩,cap,rfl,Lay.Crm (M:=M) (lay_put hlay1 hil (by omega)) hB hM (by simp;omega) (by omega),?_,.inl ⟨by omega,rfl⟩⟩
  rw [hW1]
  exact mks_cells ⟨by omega,_,hlay.cel,hB,0,rfl⟩ _ _ _ _ (mks_cells ⟨by omega,_,hlay.cel,hB,0,rfl⟩ _ _ _ _ (.of_below (Below.refl _ w).drew)))
 have HC1:=hide hcp1
 have HC2:=hide hcp2
 have hz1:¬((m:Int)=0):=by omega
 have hz2:¬((i:Int)=(n:Int)):=by omega
 have hw1:IntKind.i64.wrap ((i:Int)+(m:Int))=(i:Int)+(m:Int):=by rw [IntKind.wrap_i64];omega
 have hw2:IntKind.i64.wrap ((n:Int)+(m:Int))=(n:Int)+(m:Int):=by rw [IntKind.wrap_i64];omega
 have hb1:(0:Int)≤(i:Int)+(m:Int):=by omega
 have hc1:¬((cap:Int)<(n:Int)+(m:Int)):=by omega
 have hc2:(n:Int)+(m:Int)≤(cap:Int):=by omega
 have hc3:(0:Int)≤(n:Int)+(m:Int):=by omega
 have hin:i≤n:=by omega
 have hic:i≤cap:=by omega
 have htn:((i:Int)+(m:Int)).toNat=i+m:=by omega
 have htm:((n:Int)+(m:Int)).toNat=n+m:=by omega
 have hb2:¬(cap=i+m):=by omega
 have hb3:(i:Int)+(m:Int)≤(n:Int)+(m:Int):=by omega
 have hb5:(i:Int)≤(n:Int)+(m:Int):=by omega
 have hb4:¬(cap=i):=by omega
 have hncap:n+m≤cap:=by omega
 clear hm h hv hlay hlay1 hcp1 hcp2 hq5 hd hm5 hl hM hB hil hroom hnc hW1 hi
 go_enter Tryz.func72,Tryz.ntmps72
 go_wp2_with (simp only [hov])
 go_upto_region 15 with fail
 refine wp_region_held_drew (S:=fun _=>True) (by kernel_rfl) trivial (fun _=>?_)
 refine takeW 0 69 _ rfl rfl trivial ?_
 try simp only [Act.put,sA,sB,sC]
 refine takeW 1 70 _ rfl rfl trivial ?_
 try simp only [Act.put,sA,sB,sC]
 refine takeW 2 71 _ rfl rfl trivial ?_
 try simp only [Act.put,sA,sB,sC]
 refine takeW 3 72 (.int .i64 ((i:Int)+(m:Int))) rfl rfl trivial ?_
 try simp only [Act.put,sA,sB,sC]
 refine takeW 4 73 (.slice (some ⟨g,(i+m)*5,none⟩) (n+m - (i+m)) (cap - (i+m))) rfl rfl trivial ?_
 try simp only [Act.put,sA,sB,sC]
 refine takeW 5 74 _ rfl rfl trivial ?_
 try simp only [Act.put,sA,sB,sC]
 refine takeW 6 75 _ rfl rfl trivial ?_
 try simp only [Act.put,sA,sB,sC]
 refine takeW 7 76 (.slice (some ⟨g,i*5,none⟩) (n+m - i) (cap - i)) rfl rfl trivial ?_
 try simp only [Act.put,sA,sB,sC]
 refine wpAnyH_ready (rs:=[8]) (by kernel_rfl) (by simp) (AllReadyH.cons rfl (fun K hK=>readyV 77 (by rfl) rfl (exec_copy rfl rfl rfl (uH HC1 _ _ _)) ?_) AllReadyH.nil)
 refine hK.out _ _ trivial (fun _=>?_)
 clear hK K
 try simp only [Act.put,sA,sB,sC]
 refine wpAnyH_done (by kernel_rfl) ?_ _
 go_wp2_with fail
 rw [uH HC2]
 go_wp2
 go_ret
 exact uH HA
theorem lay_more {w:World} {t:TypeId} {g N:Nat} {cs vs:List Value} (h:Lay w t g N cs) (o:Nat) (ho:o=cs.length) (hN:cs.length+vs.length≤N):Lay (w.setCells g o vs) t g N (cs++vs):=by
 subst ho
 refine h.cells _ _ hN _ (by rw [List.length_append];exact hN) (fun j u hj=>⟨fun e=>?_,fun e=>?_⟩)
 ·rw [List.getElem?_append_right e.1] at hj
  exact hj
 ·by_cases e2:j<cs.length
  ·rw [List.getElem?_append_left e2] at hj
   exact h.cell hj
  ·have:=(List.getElem?_eq_some_iff.1 hj).1
   rw [List.length_append] at this
   omega
theorem insertC_mid {B:Nat} (g n cap gv m i:Nat) (hm:m=1) (l:List Con) (q:Con) (w:World) (h:CRm B w (some ⟨g,0,none⟩) n cap l) (hv:Blk w gv (ccell q).toArray 38) (hi:i<n) (hroom:¬n+1≤cap) (hn:n≤1048576) (hBw:B≤w.heap.size) :
  Calls Tryz.prog 72 #[.slice (some ⟨g,0,none⟩) n cap,.int .i64 (i:Int),.slice (some ⟨gv,0,none⟩) m m] w (InsAnsC B (some ⟨g,0,none⟩) n cap (l.take i++q::l.drop i) w):=by
 obtain ⟨i0,z,hi0,hsz,hz0,hzc,hb0,hb1⟩:=infoC
 obtain ⟨M,hB,hlay,hM,hl,hnc⟩:=h.cells (by have:=h.2.1;omega)
 have hgl:g<w.heap.size:=hlay.lt
 have hgv:gv<w.heap.size:=hv.lt
 have hil:i<l.length:=by omega
 have hq5:(ccell q).length=5:=rfl
 have hd:=ccells_drop_len l i
 have ht:=ccells_take_len l (show i≤l.length by omega)
 obtain ⟨K,hK⟩:∃K,K=n+m - i:=⟨_,rfl⟩
 have hG1:=grownCap_ge w (i+K) cap 38
 obtain ⟨G,hG⟩:∃G,grownCap w (i+K) cap 38=G:=⟨_,rfl⟩
 have hold:(Builtin.firstCells i0.size i (.slice (some ⟨g,0,none⟩) i cap)).run Tryz.prog w.drew=.ok (ccells (l.take i)).toArray w.drew:=
  run_firstCells_some w.drew _ i ⟨g,0,none⟩ i cap (ccells (l.take i)) (by rw [ht,hsz]) (fun j v hj=>by
   rw [Lib.add_plain,Nat.zero_add]
   refine hlay.drew.cell ?_
   rw [ccells_split l i,List.getElem?_append_left (List.getElem?_eq_some_iff.1 hj).1]
   exact hj)
 obtain ⟨W0,hW0⟩:∃W,W=w.drew.alloc (.cells ((ccells (l.take i)).toArray++Builtin.zeroCells z.cells K++Builtin.zeroCells z.cells (G - (i+K))) 38):=⟨_,rfl⟩
 have hrun:∀ty,(Builtin.append_ #[32,3] ty #[.slice (some ⟨g,0,none⟩) i cap,.int .i64 (K:Int)]).run Tryz.prog w=.ok (.slice (some ⟨w.heap.size,0,none⟩) (i+K) G) W0:=fun ty=>by
  rw [hW0,←hG]
  exact Lib.run_append_grow_zeros w 32 3 ty 38 i0 z .i64 .i64 Tryz.underlying32 Tryz.underlying3 hi0 hz0 (some ⟨g,0,none⟩) i cap (ccells (l.take i)) hold K (by omega) (by omega) (by omega) (by omega) (by
   have:=Nat.mul_le_mul (show K≤2000000 by omega) hb1
   omega) (growslice_fits_wide (by omega) (by
   have h1:(i+K+(i+K) / 4+192)≤2000000:=by omega
   have:=Nat.mul_le_mul h1 hb1
   omega))
 rw [hG] at hG1
 have hlay0:Lay W0 38 w.heap.size (G*5) (ccells (l.take i)):=by
  rw [hW0]
  refine ⟨(Builtin.zeroCells z.cells K).toList++(Builtin.zeroCells z.cells (G - (i+K))).toList,?_,?_⟩
  ·have e:(ccells (l.take i)++((Builtin.zeroCells z.cells K).toList++(Builtin.zeroCells z.cells (G - (i+K))).toList)).toArray=(ccells (l.take i)).toArray++Builtin.zeroCells z.cells K++Builtin.zeroCells z.cells (G - (i+K)):=by simp
   rw [e]
   show (w.heap.push _)[w.heap.size]? = _
   rw [Array.getElem?_push,if_pos rfl]
  ·have h1:=zero_size z K 5 hzc
   have h2:=zero_size z (G - (i+K)) 5 hzc
   rw [List.length_append,List.length_append,ht,Array.length_toList,Array.length_toList,h1,h2,←Nat.add_mul,←Nat.add_mul]
   congr 1
   omega
 have hb0':Below w.heap.size w W0:=by rw [hW0];exact yA (Below.refl _ w).drew _
 obtain ⟨W1,hW1⟩:∃W1,W1=W0.setCells w.heap.size (i*5) (ccell q):=⟨_,rfl⟩
 have hGm:=Nat.mul_le_mul_right 5 hG1
 have hlay1:Lay W1 38 w.heap.size (G*5) (ccells (l.take i)++ccell q):=by rw [hW1];exact lay_more hlay0 _ ht.symm (by rw [ht,hq5];omega)
 obtain ⟨W2,hW2⟩:∃W2,W2=W1.drew.setCells w.heap.size ((i+m)*5) (ccells (l.drop i)):=⟨_,rfl⟩
 have hlay2:Lay W2 38 w.heap.size (G*5) (ccells (l.take i++q::l.drop i)):=by
  rw [hW2,ccells_ins,←List.append_assoc]
  exact lay_more hlay1.drew _ (by rw [List.length_append,ht,hq5,hm];omega) (by rw [List.length_append,ht,hq5,hd];omega)
 have hm1:Mks (fun k=>k=w.heap.size) W0 W1:=by rw [hW1];exact mks_cells (S:=fun k=>k=w.heap.size) rfl _ _ _ _ (Mks.refl _ _)
 have hm2:Mks (fun k=>k=w.heap.size) W0 W2:=by rw [hW2];exact mks_cells (S:=fun k=>k=w.heap.size) rfl _ _ _ _ (hm1.trans (.of_below (Below.refl _ W1).drew))
 have hcp1:∀ty dc,(Builtin.copy_ #[32,32] ty #[.slice (some ⟨w.heap.size,i*5,none⟩) K dc,.slice (some ⟨gv,0,none⟩) m m]).run Tryz.prog W0=.ok (goInt (Nat.min m K)) W1:=fun ty dc=>by
  rw [hW1]
  exact run_copy_rows W0 _ _ ty 38 w.heap.size (i*5) K dc ⟨gv,0,none⟩ m m (ccell q) 5 Tryz.underlying32 infoC5 (by rw [hq5,show Nat.min m K=1 by simp only [Nat.min_def];split<;>omega])
   (fun j v hj=>by
    rw [Lib.add_plain,Nat.zero_add]
    have h1:=(hv.below hb0').at j
    rw [List.getElem?_toArray,hj] at h1
    exact h1)
   (fun j hj=>hlay0.isThere (by rw [hq5] at hj;omega)) (fun j hj=>hlay0.frozen _) (fun v hv=>ccells_one [q] v (by simpa [ccells] using hv))
 have hcp2:∀ty dc sc,(Builtin.copy_ #[32,32] ty #[.slice (some ⟨w.heap.size,(i+m)*5,none⟩) (i+K - (i+m)) dc,.slice (some ⟨g,i*5,none⟩) (n - i) sc]).run Tryz.prog W1.drew=.ok (goInt (Nat.min (n - i) (i+K - (i+m)))) W2:=fun ty dc sc=>by
  rw [hW2]
  exact run_copy_rows W1.drew _ _ ty 38 w.heap.size ((i+m)*5) (i+K - (i+m)) dc ⟨g,i*5,none⟩ (n - i) sc (ccells (l.drop i)) 5 Tryz.underlying32 infoC5 (by rw [hd,show Nat.min (n - i) (i+K - (i+m))=l.length - i by simp only [Nat.min_def];split<;>omega])
   (fun j v hj=>by
    rw [Lib.add_plain]
    have hg1:Lay W1.drew 38 g (M*5) (ccells l):=by
     obtain ⟨R,e1,e2⟩:=hlay
     exact ⟨R,(hm1.block g (Nat.lt_of_lt_of_le hgl hb0'.size) (by omega)).trans ((hb0'.block g hgl).trans e1),e2⟩
    refine hg1.cell ?_
    rw [ccells_split l i,List.getElem?_append_right (by rw [ht];omega),ht,Nat.add_sub_cancel_left]
    exact hj)
   (fun j hj=>hlay1.drew.isThere (by rw [hd] at hj;omega)) (fun j hj=>hlay1.drew.frozen _) (fun v hv=>ccells_one _ v hv)
 have HA:=hide (show InsAnsC B (some ⟨g,0,none⟩) n cap (l.take i++q::l.drop i) w (.returned (.slice (some ⟨w.heap.size,0,none⟩) (i+K) G)) W2 from by
  rw [show i+K=n+1 by omega]
  refine ⟨some ⟨w.heap.size,0,none⟩,G,rfl,Lay.Crm (M:=G) hlay2 hBw (Nat.le_refl _) (by simp;omega) (by omega),?_,.inr ⟨_,rfl,Nat.le_refl _⟩⟩
  exact .of_below (hb0'.trans (hm2.below (fun k e=>by subst e;exact Nat.le_refl _) hb0'.size)))
 have HC0:=hide hrun
 have HC1:=hide hcp1
 have HC2:=hide hcp2
 have hz1:¬((m:Int)=0):=by omega
 have hz2:¬((i:Int)=(n:Int)):=by omega
 have hw1:IntKind.i64.wrap ((i:Int)+(m:Int))=(i:Int)+(m:Int):=by rw [IntKind.wrap_i64];omega
 have hw2:IntKind.i64.wrap ((n:Int)+(m:Int))=(n:Int)+(m:Int):=by rw [IntKind.wrap_i64];omega
 have hw3:IntKind.i64.wrap ((n:Int)+(m:Int) - (i:Int))=(K:Int):=by rw [IntKind.wrap_i64]<;>omega
 have hb1':(0:Int)≤(i:Int)+(m:Int):=by omega
 have hc1:(cap:Int)<(n:Int)+(m:Int):=by omega
 have hin:i≤n:=by omega
 have hic:i≤cap:=by omega
 have htn:((i:Int)+(m:Int)).toNat=i+m:=by omega
 have hb2:¬(G=i+m):=by omega
 have hb3:(i:Int)+(m:Int)≤(i:Int)+(K:Int):=by omega
 have hb5:(i:Int)≤(i:Int)+(K:Int):=by omega
 have hb4:¬(cap=i):=by omega
 have hb6:¬(G=i):=by omega
 obtain ⟨gg,hgg⟩:∃k,w.heap.size=k:=⟨_,rfl⟩
 rw [hgg] at HA HC0 HC1 HC2
 clear hm h hv hlay hlay0 hlay1 hlay2 hrun hcp1 hcp2 hq5 hd ht hGm hl hM hB hil hroom hnc hW0 hW1 hW2 hi hm1 hm2 hb0' hold hG hG1 hK hgl hgv hi0 hz0 hzc hb0 hb1 hsz hBw hgg
 go_enter Tryz.func72,Tryz.ntmps72
 go_wp2_with (at_builtin;refine Lib.wpList_append_run _ rfl _ _ _ _ rfl _ _ rfl rfl _ _ (uH HC0 _) ?_)
 go_wp2_with fail
 rw [uH HC1]
 go_upto_region 11 with fail
 refine wp_region_held_drew (S:=fun _=>True) (by kernel_rfl) trivial (fun _=>?_)
 refine takeW 0 46 _ rfl rfl trivial ?_
 try simp only [Act.put,sA,sB,sC]
 refine takeW 1 47 _ rfl rfl trivial ?_
 try simp only [Act.put,sA,sB,sC]
 refine takeW 2 48 _ rfl rfl trivial ?_
 try simp only [Act.put,sA,sB,sC]
 refine takeW 3 49 (.int .i64 ((i:Int)+(m:Int))) rfl rfl trivial ?_
 try simp only [Act.put,sA,sB,sC]
 refine takeW 4 50 (.slice (some ⟨gg,(i+m)*5,none⟩) (i+K - (i+m)) (G - (i+m))) rfl rfl trivial ?_
 try simp only [Act.put,sA,sB,sC]
 refine takeW 5 51 _ rfl rfl trivial ?_
 try simp only [Act.put,sA,sB,sC]
 refine takeW 6 52 _ rfl rfl trivial ?_
 try simp only [Act.put,sA,sB,sC]
 refine takeW 7 53 (.slice (some ⟨g,i*5,none⟩) (n - i) (cap - i)) rfl rfl trivial ?_
 try simp only [Act.put,sA,sB,sC]
 refine wpAnyH_ready (rs:=[8]) (by kernel_rfl) (by simp) (AllReadyH.cons rfl (fun K hK=>readyV 54 (by rfl) rfl (exec_copy rfl rfl rfl (uH HC2 _ _ _)) ?_) AllReadyH.nil)
 refine hK.out _ _ trivial (fun _=>?_)
 clear hK K
 try simp only [Act.put,sA,sB,sC]
 refine wpAnyH_done (by kernel_rfl) ?_ _
 go_wp2
 go_ret
 exact uH HA
theorem insertC_any {B:Nat} (ao:Option Addr) (n cap gv i:Nat) (l:List Con) (q:Con) (w:World) (h:CRm B w ao n cap l) (hv:Blk w gv (ccell q).toArray 38) (hne:cap≠0→∀o,ao≠some ⟨gv,o,none⟩) (hi:i≤n) (hn:n≤1048576) (hBw:B≤w.heap.size) :
  Calls Tryz.prog 72 #[.slice ao n cap,.int .i64 (i:Int),.slice (some ⟨gv,0,none⟩) 1 1] w (InsAnsC B ao n cap (l.take i++q::l.drop i) w):=by
 have hl:=h.1.1
 by_cases e:i=n
 ·subst e
  rw [List.take_of_length_le (by omega),List.drop_of_length_le (by omega)]
  by_cases hr:i+1≤cap
  ·rcases h.2.2 with h0 | ⟨g,M,rfl,_⟩
   ·omega
   ·exact insertC_end g i cap gv 1 rfl l q w h hv (fun e=>hne (by omega) 0 (by rw [e])) hr hn
  ·exact insertC_grow ao i cap gv 1 rfl l q w h hv hr hn hBw
 ·have:=h.2.1
  rcases h.2.2 with h0 | ⟨g,M,rfl,_⟩
  ·omega
  ·by_cases hr:n+1≤cap
   ·exact insertC_shift g n cap gv 1 i rfl l q w h hv (fun e=>hne (by omega) 0 (by rw [e])) (by omega) hr hn
   ·exact insertC_mid g n cap gv 1 i rfl l q w h hv (by omega) hr hn hBw
def lessA (a:Ask):Ask:=⟨a.mem,a.cpu,a.count - 1,a.node,a.missed⟩
def servedL (l:List Ask) (k:Nat):List Ask:=match l[k]? with
 | none=>l
 | some a=>if 1<a.count then l.set k (lessA a) else l.eraseIdx k
theorem served_more {l:List Ask} {k:Nat} (h:k<l.length) (hc:1<l[k].count):servedL l k=l.set k (lessA l[k]):=by
 rw [servedL,List.getElem?_eq_getElem h];simp only;rw [if_pos hc]
theorem served_last {l:List Ask} {k:Nat} (h:k<l.length) (hc:¬1<l[k].count):servedL l k=l.eraseIdx k:=by
 rw [servedL,List.getElem?_eq_getElem h];simp only;rw [if_neg hc]
theorem served_len (l:List Ask) (k:Nat):(servedL l k).length≤l.length:=by
 unfold servedL
 split
 ·exact Nat.le_refl _
 ·split
  ·rw [List.length_set];exact Nat.le_refl _
  ·exact List.length_eraseIdx_le _ _
theorem served_mem {l:List Ask} {k:Nat} {a:Ask} (h:a ∈ servedL l k):∃b ∈ l,a.node=b.node:=by
 unfold servedL at h
 split at h
 ·exact ⟨a,h,rfl⟩
 ·rename_i b hb
  split at h
  ·rcases List.mem_or_eq_of_mem_set h with h | h
   ·exact ⟨a,h,rfl⟩
   ·exact ⟨b,List.mem_of_getElem? hb,by rw [h];rfl⟩
  ·exact ⟨a,List.mem_of_mem_eraseIdx h,rfl⟩
def servedA (a:Appl) (k:Nat):Appl:=⟨a.id,a.queue,servedL a.asks k⟩
def serveAt (l:List Appl) (r:Nat×Nat):List Appl:=l.modify r.1 (fun a=>servedA a r.2)
theorem serveAt_mem {l:List Appl} {r:Nat×Nat} {a:Appl} (h:a ∈ serveAt l r):∃b ∈ l,a.id=b.id∧a.queue=b.queue∧(a.asks=b.asks∨a.asks=servedL b.asks r.2):=by
 unfold serveAt at h
 obtain ⟨i,hi,rfl⟩:=List.mem_iff_getElem.1 h
 have hi':i<l.length:=by simpa using hi
 rw [List.getElem_modify]
 split
 ·exact ⟨l[i],List.getElem_mem hi',rfl,rfl,.inr rfl⟩
 ·exact ⟨l[i],List.getElem_mem hi',rfl,rfl,.inl rfl⟩
def placeC (id:Int):List Con→Nat
 | []=>0
 | c::t=>if c.id<id then placeC id t+1 else 0
theorem placeC_le (id:Int):∀l:List Con,placeC id l≤l.length
 | []=>Nat.le_refl _
 | c::t=>by
  rw [placeC]
  have:=placeC_le id t
  split<;>simp<;>omega
theorem placeC_is {id:Int}:∀{l:List Con} {p:Nat},p≤l.length→(∀i (hi:i<l.length),i<p→l[i].id<id)→(∀i (hi:i<l.length),p≤i→id≤l[i].id)→placeC id l=p
 | [],p,h,_,_=>by simp at h;simp [placeC,h]
 | c::t,p,h,h1,h2=>by
  rw [placeC]
  cases p with
  | zero=>
   have:=h2 0 (by simp) (Nat.le_refl _)
   simp only [List.getElem_cons_zero] at this
   rw [if_neg (by omega)]
  | succ p=>
   have h0:=h1 0 (by simp) (by omega)
   simp only [List.getElem_cons_zero] at h0
   rw [if_pos h0,placeC_is (l:=t) (p:=p) (by simpa using h) (fun i hi hp=>by have:=h1 (i+1) (by simpa using hi) (by omega);simpa using this) (fun i hi hp=>by have:=h2 (i+1) (by simpa using hi) (by omega);simpa using this)]
def insC (l:List Con) (c:Con):List Con:=l.take (placeC c.id l)++c::l.drop (placeC c.id l)
theorem insC_len (l:List Con) (c:Con):(insC l c).length=l.length+1:=by
 have:=placeC_le c.id l
 unfold insC
 rw [List.length_append,List.length_cons,List.length_take,List.length_drop]
 omega
theorem insC_mem {l:List Con} {c x:Con} (h:x ∈ insC l c):x=c∨x ∈ l:=by
 unfold insC at h
 rcases List.mem_append.1 h with h | h
 ·exact .inr (List.mem_of_mem_take h)
 ·rcases List.mem_cons.1 h with h | h
  ·exact .inl h
  ·exact .inr (List.mem_of_mem_drop h)
def serialV (x:Int):Int:=if 99999<x+1 then 1 else x+1
def grantSt (s:St) (p:(Nat×Nat)×Con):St:=⟨s.qs,s.clock,s.epoch,s.next,serialV s.serial,serveAt s.apps p.1,s.ms,insC s.cs p.2⟩
def grantV (s:St) (nd:List UInt8):St:=match nextGV s nd with | none=>s | some p=>grantSt s p
theorem grantV_none {s:St} {nd:List UInt8} (h:nextGV s nd=none):grantV s nd=s:=by rw [grantV,h]
theorem grantV_some {s:St} {nd:List UInt8} {p:(Nat×Nat)×Con} (h:nextGV s nd=some p):grantV s nd=grantSt s p:=by rw [grantV,h]
theorem next_facts {s:St} {nd:List UInt8} {p:(Nat×Nat)×Con} (h:nextGV s nd=some p):stateOkV s=true∧nextV s nd=some p∧s.cs.length<150∧∃h1:p.1.1<s.apps.length,∃h2:p.1.2<s.apps[p.1.1].asks.length,p.2=⟨idV s,s.apps[p.1.1].id,nd,s.apps[p.1.1].asks[p.1.2].mem,s.apps[p.1.1].asks[p.1.2].cpu⟩:=by
 unfold nextGV at h
 split at h
 ·rename_i hk
  refine ⟨hk,h,?_⟩
  unfold nextV at h
  split at h
  ·rename_i hm
   simp only [mayV,Bool.and_eq_true,decide_eq_true_eq] at hm
   refine ⟨hm.2.1,?_⟩
   cases hp:pickV s nd with
   | none=>rw [hp] at h;cases h
   | some r=>
    rw [hp] at h
    obtain rfl:=Option.some.inj h
    obtain ⟨h1,h2⟩:=pick_at hp
    exact ⟨h1,h2,grantC_at h1 h2⟩
  ·cases h
 ·cases h
theorem fit_grant {s:St} (hf:FitSt s) {nd:List UInt8} (hn:nd.length≤1048576):FitSt (grantV s nd):=by
 cases h:nextGV s nd with
 | none=>rw [grantV_none h];exact hf
 | some p=>
  rw [grantV_some h]
  obtain ⟨_,_,h3,h1,h2,e⟩:=next_facts h
  refine ⟨hf.1,⟨by simp only [grantSt,serveAt,List.length_modify];exact hf.2.1.1,fun a ha=>?_⟩,hf.2.2.1,by simp only [grantSt,insC_len];omega,fun c hc=>?_⟩
  ·obtain ⟨b,hb,_,e2,e3⟩:=serveAt_mem ha
   have hq:=hf.2.1.2 b hb
   refine ⟨by rw [e2];exact hq.1,?_⟩
   rcases e3 with e3 | e3
   ·rw [e3];exact hq.2
   ·rw [e3]
    refine ⟨Nat.le_trans (served_len _ _) hq.2.1,fun x hx=>?_⟩
    obtain ⟨y,hy,e4⟩:=served_mem hx
    rw [e4]
    exact hq.2.2 y hy
  ·rcases insC_mem hc with rfl | hc
   ·rw [e];exact hn
   ·exact hf.2.2.2.2 c hc
theorem wf_grant {s:St} (hw:WfSt s) (nd:List UInt8):WfSt (grantV s nd):=by
 cases h:nextGV s nd with
 | none=>rw [grantV_none h];exact hw
 | some p=>
  rw [grantV_some h]
  obtain ⟨_,_,_,h1,h2,e⟩:=next_facts h
  refine ⟨fun a ha=>?_,fun c hc=>?_⟩
  ·obtain ⟨b,hb,e1,_⟩:=serveAt_mem ha
   rw [e1]
   exact hw.1 b hb
  ·rcases insC_mem hc with rfl | hc
   ·rw [e];exact hw.1 _ (List.getElem_mem h1)
   ·exact hw.2 c hc
theorem Lay.len {w:World} {t:TypeId} {g M:Nat} {cs:List Value} (h:Lay w t g M cs):cs.length≤M:=by
 obtain ⟨R,_,h2⟩:=h
 rw [List.length_append] at h2
 omega
theorem lay_set {w:World} {t:TypeId} {g M:Nat} {cs:List Value} (h:Lay w t g M cs) {p:Nat} (hp:p<cs.length) (v:Value):Lay (w.setCell ⟨g,p,none⟩ v) t g M (cs.set p v):=by
 have hl:=h.len
 refine h.cells p [v] (by simp;omega) (cs.set p v) (by rw [List.length_set];exact hl) (fun j u hj=>⟨fun e=>?_,fun e=>?_⟩)
 ·obtain rfl:j=p:=by simp at e;omega
  rw [List.getElem?_set_self hp] at hj
  simpa using hj
 ·rw [List.getElem?_set_ne (by simp at e;omega)] at hj
  exact h.cell hj
theorem acells_set:∀(l:List Ask) (k:Nat) (h:k<l.length) (c:Int),acells (l.set k ⟨l[k].mem,l[k].cpu,c,l[k].node,l[k].missed⟩)=(acells l).set (k*5+2) (.int .i64 c)
 | [],k,h,_=>by simp at h
 | q::t,0,_,c=>by simp [acells,acell]
 | q::t,k+1,h,c=>by
  have ih:=acells_set t k (by simpa using h) c
  simp only [sC,List.getElem_cons_succ,acells,acell] at ih ⊢
  rw [ih,show (k+1)*5+2=k*5+2+1+1+1+1+1 by omega]
  simp
theorem pcells_set:∀(l:List AV) (k:Nat) (h:k<l.length) (ao:Option Addr) (n c:Nat),pcells (l.set k ⟨l[k].id,l[k].queue,ao,n,c⟩)=(pcells l).set (k*3+2) (.slice ao n c)
 | [],k,h,_,_,_=>by simp at h
 | q::t,0,_,ao,n,c=>by simp [pcells,pcell]
 | q::t,k+1,h,ao,n,c=>by
  have ih:=pcells_set t k (by simpa using h) ao n c
  simp only [sC,List.getElem_cons_succ,pcells,pcell] at ih ⊢
  rw [ih,show (k+1)*3+2=k*3+2+1+1+1 by omega]
  simp
theorem PHas.lay {B n:Nat} {w:World} {pg:Nat} {hs:List AV} (h:PHas B w (some ⟨pg,0,none⟩) n hs) (hn:n≠0):∃M,B≤pg∧pg<w.heap.size∧Lay w 74 pg (M*3) (pcells hs)∧n≤M∧n=hs.length:=by
 rcases h.2 with e | ⟨g,M,e,h1,h2,h3,h4⟩
 ·exact absurd e hn
 ·cases e
  refine ⟨M,h1,h2,lay_of h3 (fun j u hj=>by have:=pcells_row h.1 j u hj;rwa [Nat.zero_add] at this) (by rw [pcells_len,←h.1.1];exact Nat.mul_le_mul_right _ h4),h4,h.1.1⟩
theorem Lay.phas {B n M:Nat} {w:World} {pg:Nat} {hs:List AV} (h:Lay w 74 pg (M*3) (pcells hs)) (hB:B≤pg) (hn:n=hs.length) (hM:n≤M):PHas B w (some ⟨pg,0,none⟩) n hs:=by
 subst hn
 exact ⟨h.rowP,.inr ⟨pg,M,rfl,hB,h.lt,h.cel,hM⟩⟩
theorem PHas.upd {B n:Nat} {w:World} {pg i:Nat} {hs:List AV} (h:PHas B w (some ⟨pg,0,none⟩) n hs) (hi:i<hs.length) (ao:Option Addr) (m c:Nat) :
  PHas B (w.setCell ⟨pg,i*3+2,none⟩ (.slice ao m c)) (some ⟨pg,0,none⟩) n (hs.set i ⟨hs[i].id,hs[i].queue,ao,m,c⟩):=by
 obtain ⟨M,h1,_,h2,h3,h4⟩:=h.lay (by have:=h.1.1;omega)
 refine Lay.phas (M:=M) ?_ h1 (by rw [List.length_set];exact h4) h3
 rw [pcells_set hs i hi]
 exact lay_set h2 (by rw [pcells_len];omega) _
theorem AskRow.off {w w':World} {ao:Option Addr} {n ga:Nat} {l:List Ask} (h:AskRow w ao n l) (hm:Mks (fun k=>k=ga) w w') (ho:∀o,n≠0→ao≠some ⟨ga,o,none⟩):AskRow w' ao n l:=
 h.mks hm (fun k hk e=>by subst e;obtain ⟨h1,o,h2⟩:=hk;exact ho o h1 h2)
theorem KHas.upd {B:Nat} {w w':World} {hs:List AV} {l:List Appl} (h:KHas B w hs l) {i ga n':Nat} {ak:List Ask} (hi:i<hs.length) (hl:i<l.length) (hga:hs[i].ao=some ⟨ga,0,none⟩) (hlen:hs[i].len≠0) (hm:Mks (fun k=>k=ga) w w')
  (hr:AskRow w' (some ⟨ga,0,none⟩) n' ak) (hn:n'≤hs[i].len):KHas B w' (hs.set i ⟨hs[i].id,hs[i].queue,some ⟨ga,0,none⟩,n',hs[i].cap⟩) (l.modify i (fun a=>⟨a.id,a.queue,ak⟩)):=by
 have hne:∀j (hj:j<hs.length),j≠i→∀o,hs[j].len≠0→hs[j].ao≠some ⟨ga,o,none⟩:=fun j hj hji o h0 e=>by
  have hap:Apart hs[i] hs[j]∨Apart hs[j] hs[i]:=by
   rcases Nat.lt_or_gt_of_ne hji with hlt | hlt
   ·exact .inr (List.pairwise_iff_getElem.1 h.apart j i hj hi hlt)
   ·exact .inl (List.pairwise_iff_getElem.1 h.apart i j hi hj hlt)
  have ho:o=0:=by
   rcases h.own _ (List.getElem_mem hj) with e2 | ⟨g,M,e2,_⟩
   ·exact absurd e2 h0
   ·rw [e] at e2;cases e2;rfl
  subst ho
  rcases hap with (a | a | a) | (a | a | a)
  ·exact hlen a
  ·exact h0 a
  ·exact a (by rw [hga,e])
  ·exact h0 a
  ·exact hlen a
  ·exact a (by rw [hga,e])
 refine ⟨⟨by simp [h.heads.1],fun j h1 h2=>?_⟩,fun v hv=>?_,?_⟩
 ·have hj:j<hs.length:=by simpa using h1
  have hj':j<l.length:=by simpa using h2
  obtain ⟨a,b,c,d⟩:=h.heads.2 j hj hj'
  rw [List.getElem_set,List.getElem_modify]
  by_cases e:i=j
  ·subst e
   rw [if_pos rfl,if_pos rfl]
   exact ⟨a,b,hr,Nat.le_trans hn d⟩
  ·rw [if_neg e,if_neg e]
   exact ⟨a,b,c.off hm (hne j hj (fun e2=>e e2.symm)),d⟩
 ·rcases List.mem_or_eq_of_mem_set hv with hv | rfl
  ·exact ((h.own v hv).mks hm).mono (Nat.le_refl _) hm.size
  ·have:=((h.own _ (List.getElem_mem hi)).mks hm).mono (Nat.le_refl _) hm.size
   rw [hga] at this
   exact this.le hn
 ·rw [List.pairwise_iff_getElem]
  intro a b ha hb hab
  have ha':a<hs.length:=by simpa using ha
  have hb':b<hs.length:=by simpa using hb
  have h0:=List.pairwise_iff_getElem.1 h.apart a b ha' hb' hab
  rw [List.getElem_set,List.getElem_set]
  by_cases e1:i=a
  ·subst e1
   rw [if_pos rfl,if_neg (by omega)]
   by_cases e2:hs[b].len=0
   ·exact .inr (.inl e2)
   ·exact .inr (.inr (fun e=>hne b hb' (by omega) 0 e2 e.symm))
  ·rw [if_neg e1]
   by_cases e2:i=b
   ·subst e2
    rw [if_pos rfl]
    by_cases e3:hs[a].len=0
    ·exact .inl e3
    ·exact .inr (.inr (hne a ha' (fun e=>e1 e.symm) 0 e3))
   ·rw [if_neg e2]
    exact h0
section
variable {B:Nat} {S:Nat→Prop} {w w':World} {t':TypeId}
theorem QHas.mkg {n:Nat} {ao:Option Addr} {l:List Q} (h:QHas B w ao n l) (hm:Mks S w w') (hS:∀k,S k→∃N,Cel w t' k N) (ht:t'≠100):QHas B w' ao n l:=⟨h.1.mks hm (own_mkc h.2 hm hS ht).1,(own_mkc h.2 hm hS ht).2⟩
theorem MHas.mkg {n:Nat} {ao:Option Addr} {l:List Mac} (h:MHas B w ao n l) (hm:Mks S w w') (hS:∀k,S k→∃N,Cel w t' k N) (ht:t'≠104):MHas B w' ao n l:=⟨h.1.mks hm (own_mkc h.2 hm hS ht).1,(own_mkc h.2 hm hS ht).2⟩
theorem CHas.mkg {n:Nat} {ao:Option Addr} {l:List Con} (h:CHas B w ao n l) (hm:Mks S w w') (hS:∀k,S k→∃N,Cel w t' k N) (ht:t'≠38):CHas B w' ao n l:=⟨h.1.mks hm (own_mkc h.2 hm hS ht).1,(own_mkc h.2 hm hS ht).2⟩
theorem PHas.mkg {n:Nat} {ao:Option Addr} {l:List AV} (h:PHas B w ao n l) (hm:Mks S w w') (hS:∀k,S k→∃N,Cel w t' k N) (ht:t'≠74):PHas B w' ao n l:=⟨h.1.mks hm (own_mkc h.2 hm hS ht).1,(own_mkc h.2 hm hS ht).2⟩
theorem KHas.mkg {hs:List AV} {l:List Appl} (h:KHas B w hs l) (hm:Mks S w w') (hS:∀k,S k→∃N,Cel w t' k N) (ht:t'≠77):KHas B w' hs l:=
 ⟨⟨h.heads.1,fun i h1 h2=>let ⟨a,b',c,d⟩:=h.heads.2 i h1 h2;⟨a,b',c.mks hm (own_mkc (h.own _ (List.getElem_mem h1)) hm hS ht).1,d⟩⟩,fun v hv=>(own_mkc (h.own v hv) hm hS ht).2,h.apart⟩
theorem Mks.wide {S T:Nat→Prop} (h:Mks S w w') (hi:∀k,S k→T k):Mks T w w':=⟨h.os,h.tape,h.output,h.size,fun k hk hn=>h.block k hk (fun e=>hn (hi k e)),h.cel⟩
end
def serveSt (s:St) (r:Nat×Nat):St:=⟨s.qs,s.clock,s.epoch,s.next,s.serial,serveAt s.apps r,s.ms,s.cs⟩
def AppAsk (B:Nat) (w:World) (k:Nat):Prop:=B≤k∧∃N,Cel w 74 k N∨Cel w 77 k N
def SrvAns (B:Nat) (y:Sls) (s:St) (r:Nat×Nat) (w:World) (e:Ending) (w':World):Prop:=e=.returned (.tuple #[])∧∃hs',SHas B w' y (serveSt s r) hs'∧Mks (AppAsk B w) w w'
theorem served_mod (l:List Appl) (i k:Nat) (h:i<l.length):serveAt l (i,k)=l.modify i (fun a=>⟨a.id,a.queue,servedL l[i].asks k⟩):=by
 unfold serveAt
 apply List.ext_getElem
 ·simp
 ·intro j h1 h2
  rw [List.getElem_modify,List.getElem_modify]
  by_cases e:i=j
  ·subst e
   rw [if_pos rfl,if_pos rfl]
   rfl
  ·rw [if_neg e,if_neg e]
theorem serve_any {B:Nat} {y:Sls} {s:St} {hs:List AV} {w:World} (h:SHas B w y s hs) {pg i k:Nat} (hpa:y.aa=some ⟨pg,0,none⟩) (hi:i<s.apps.length) (hk:k<s.apps[i].asks.length) (hf:FitSt s) (hct:0≤s.apps[i].asks[k].count∧s.apps[i].asks[k].count≤1000) :
  Calls Tryz.prog 70 #[.pointer (some ⟨pg,i*3,none⟩),.int .i64 (k:Int)] w (SrvAns B y s (i,k) w):=by
 have hhl:hs.length=s.apps.length:=h.k.heads.1
 have hih:i<hs.length:=by omega
 have hal:y.al=hs.length:=h.p.1.1
 obtain ⟨e0,e1,hrow,hlc⟩:=h.k.heads.2 i hih hi
 have hln:hs[i].len=s.apps[i].asks.length:=hrow.1
 have hlen:hs[i].len≠0:=by omega
 obtain ⟨ga,M,hga,hB,hgl,hcel,hM⟩:∃g M,hs[i].ao=some ⟨g,0,none⟩∧B≤g∧g<w.heap.size∧Cel w 77 g (M*5)∧hs[i].len≤M:=by
  rcases h.k.own _ (List.getElem_mem hih) with e | e
  ·exact absurd e hlen
  ·exact e
 rw [hga] at hrow
 have hlay:Lay w 77 ga (M*5) (acells s.apps[i].asks):=hrow.lay hcel (Nat.mul_le_mul_right _ (by omega))
 have hp:=h.p
 rw [hpa] at hp
 obtain ⟨Mp,hBp,hpl,hplay,hMp,_⟩:=hp.lay (by omega)
 have hfl:s.apps[i].asks.length≤1048576:=(hf.2.1.2 _ (List.getElem_mem hi)).2.1
 have hrm:=h.rm
 have keep:∀(n':Nat) (ak:List Ask) (w1:World),Mks (fun b=>b=ga) w w1→AskRow w1 (some ⟨ga,0,none⟩) n' ak→n'≤hs[i].len→QHas B w1 y.qa y.ql s.qs∧PHas B w1 (some ⟨pg,0,none⟩) y.al hs∧KHas B w1 (hs.set i ⟨hs[i].id,hs[i].queue,some ⟨ga,0,none⟩,n',hs[i].cap⟩) (s.apps.modify i (fun a=>⟨a.id,a.queue,ak⟩))∧MHas B w1 y.ma y.ml s.ms∧CHas B w1 y.ca y.cl s.cs∧RmS B w1.heap.size w1 y (hs.set i ⟨hs[i].id,hs[i].queue,some ⟨ga,0,none⟩,n',hs[i].cap⟩):=fun n' ak w1 hm hr hn=>by
  have hS:∀k,k=ga→∃N,Cel w 77 k N:=fun k e=>by subst e;exact ⟨_,hcel⟩
  have hr2:=(hrm.mks hm).mono (Nat.le_refl B) hm.size
  refine ⟨h.q.mkg hm hS (by decide),hp.mkg hm hS (by decide),h.k.upd hih hi hga hlen hm hr hn,h.m.mkg hm hS (by decide),h.c.mkg hm hS (by decide),hr2.1,hr2.2.1,hr2.2.2.1,hr2.2.2.2.1,fun v hv=>?_⟩
  rcases List.mem_or_eq_of_mem_set hv with hv | rfl
  ·exact hr2.2.2.2.2 v hv
  ·have:=hr2.2.2.2.2 _ (List.getElem_mem hih)
   rw [hga] at this
   exact this
 have hcells:=(pcells_at hs i hih).2.2
 have c2:w.cell? ⟨pg,i*3+2,none⟩=some (.slice (some ⟨ga,0,none⟩) hs[i].len hs[i].cap):=by rw [←hga];exact hplay.cell hcells
 have hck:=(acells_at s.apps[i].asks k hk).2.2.1
 have ck:w.cell? ⟨ga,k*5+2,none⟩=some (.int .i64 s.apps[i].asks[k].count):=hlay.cell hck
 have fk:w.frozen? ⟨ga,k*5+2,none⟩=false:=hlay.frozen _
 have fp:∀w1,Mks (fun b=>b=ga) w w1→w1.frozen? ⟨pg,i*3+2,none⟩=false:=fun w1 hm=>(hm.cel _ _ _ hplay.cel).frozen _
 have CD:=hide (deleteAsk_any ga (M*5) hs[i].cap k s.apps[i].asks w hlay hk (by rw [←hln];exact hlc) hfl (Nat.mul_le_mul_right _ (by omega)))
 have k0:(0:Int)≤k:=by omega
 have k1:(k:Int)<hs[i].len:=by omega
 have hwk:IntKind.i64.wrap ((k:Int)+1)=(k:Int)+1:=by rw [IntKind.wrap_i64];omega
 have hset:hs.set i ⟨hs[i].id,hs[i].queue,some ⟨ga,0,none⟩,hs[i].len,hs[i].cap⟩=hs:=by rw [←hga];exact List.set_getElem_self hih
 by_cases hc:1<s.apps[i].asks[k].count
 ·have HA:=hide (show SrvAns B y s (i,k) w (.returned (.tuple #[])) (w.setCell ⟨ga,k*5+2,none⟩ (.int .i64 (s.apps[i].asks[k].count - 1))) from by
   have hl2:=lay_set hlay (p:=k*5+2) (by rw [acells_len];omega) (.int .i64 (s.apps[i].asks[k].count - 1))
   rw [←acells_set s.apps[i].asks k hk] at hl2
   have hr:=hl2.rowA
   rw [List.length_set,←hln] at hr
   have hm:Mks (fun b=>b=ga) w (w.setCell ⟨ga,k*5+2,none⟩ (.int .i64 (s.apps[i].asks[k].count - 1))):=Mks.one _ _ _ _ _ rfl
   obtain ⟨a1,a2,a3,a4,a5,a6⟩:=keep _ _ _ hm hr (Nat.le_refl _)
   rw [hset] at a3 a6
   refine ⟨rfl,hs,⟨a1,by rw [hpa];exact a2,?_,a4,a5,h.cap,a6⟩,hm.wide (fun b e=>by subst e;exact ⟨hB,_,.inr hcel⟩)⟩
   show KHas B _ hs (serveAt s.apps (i,k))
   rw [served_mod _ _ _ hi,served_more hk hc]
   exact a3)
  obtain ⟨n,hn⟩:∃n,hs[i].len=n:=⟨_,rfl⟩
  obtain ⟨c,hcc⟩:∃n,hs[i].cap=n:=⟨_,rfl⟩
  obtain ⟨ct,hctt⟩:∃n,s.apps[i].asks[k].count=n:=⟨_,rfl⟩
  rw [hn,hcc] at c2
  rw [hn] at k1
  rw [hctt] at ck HA hc hct
  have hwc:IntKind.i64.wrap (ct - 1)=ct - 1:=by rw [IntKind.wrap_i64];omega
  clear h hpa hf hlay hplay keep CD hcells hck fp hset hrow hcel hM hhl hih hal e0 e1 hlc hln hlen hga hB hgl hp hBp hpl hMp hfl hrm hn hcc hctt hwk hct
  go_enter Tryz.func70,Tryz.ntmps70
  go_wp2
  first | go_end0 | (simp only [Exit.inBlock,Exit.then];refine bodyPost_ret (results_none rfl _ _ _) rfl ?_) | refine bodyPost_ret (results_none rfl _ _ _) rfl ?_
  exact uH HA
 ·have HB:=hide (show ∀w1,Lay w1 77 ga (M*5) (acells (s.apps[i].asks.eraseIdx k))→Mks (fun b=>b=ga) w w1→SrvAns B y s (i,k) w (.returned (.tuple #[])) (w1.setCell ⟨pg,i*3+2,none⟩ (.slice (some ⟨ga,0,none⟩) (s.apps[i].asks.length - 1) hs[i].cap)) from fun w1 hl2 hm=>by
   have hr:=hl2.rowA
   rw [List.length_eraseIdx_of_lt hk] at hr
   obtain ⟨a1,a2,a3,a4,a5,a6⟩:=keep _ _ _ hm hr (by omega)
   have hm2:Mks (fun b=>b=pg) w1 (w1.setCell ⟨pg,i*3+2,none⟩ (.slice (some ⟨ga,0,none⟩) (s.apps[i].asks.length - 1) hs[i].cap)):=Mks.one _ _ _ _ _ rfl
   have hS:∀b,b=pg→∃N,Cel w1 74 b N:=fun b e=>by subst e;exact ⟨_,hm.cel _ _ _ hplay.cel⟩
   refine ⟨rfl,_,⟨a1.mkg hm2 hS (by decide),by rw [hpa];exact a2.upd hih (some ⟨ga,0,none⟩) (s.apps[i].asks.length - 1) hs[i].cap,?_,a4.mkg hm2 hS (by decide),a5.mkg hm2 hS (by decide),h.cap,(a6.mks hm2).mono (Nat.le_refl _) hm2.size⟩,(hm.wide (fun b e=>by subst e;exact ⟨hB,_,.inr hcel⟩)).trans (hm2.wide (fun b e=>by subst e;exact ⟨hBp,_,.inl hplay.cel⟩))⟩
   show KHas B _ _ (serveAt s.apps (i,k))
   rw [served_mod _ _ _ hi,served_last hk hc]
   exact a3.mkg hm2 hS (by decide))
  have HC2:=hide (show ∀w1,Mks (fun b=>b=ga) w w1→(w1.cell? ⟨pg,i*3+2,none⟩).isSome=true from fun w1 hm=>(hm.cel _ _ _ hplay.cel).isThere (by have:=Nat.mul_le_mul_right 3 (show i+1≤Mp by omega);omega))
  have FP:=hide fp
  rw [←hln] at CD HB
  obtain ⟨n,hn⟩:∃n,hs[i].len=n:=⟨_,rfl⟩
  obtain ⟨c,hcc⟩:∃n,hs[i].cap=n:=⟨_,rfl⟩
  obtain ⟨ct,hctt⟩:∃n,s.apps[i].asks[k].count=n:=⟨_,rfl⟩
  rw [hn,hcc] at c2
  rw [hn] at k1
  rw [hn,hcc] at CD HB
  rw [hctt] at ck hc
  clear h hpa hf hlay hplay keep hcells hck fp hset hrow hcel hM hhl hih hal e0 e1 hlc hln hlen hga hB hgl hp hBp hpl hMp hfl hrm hn hcc hctt hct fk
  go_enter Tryz.func70,Tryz.ntmps70
  go_wp2_with fail
  refine (uH CD).mono ?_
  rintro e w1 ⟨rfl,hl2,hm⟩
  obtain ⟨old,hold⟩:=Option.isSome_iff_exists.1 (uH HC2 w1 hm)
  have f1:=uH FP w1 hm
  have HA:=hide (uH HB w1 hl2 hm)
  clear hl2 hm CD HC2 FP HB c2 ck
  go_wp2
  first | go_end0 | (simp only [Exit.inBlock,Exit.then];refine bodyPost_ret (results_none rfl _ _ _) rfl ?_) | refine bodyPost_ret (results_none rfl _ _ _) rfl ?_
  exact uH HA
end
end Go.Proofs.YtdhibeclkdepiaaGreat
