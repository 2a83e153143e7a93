/-
  One more put into a row, in its place, not at its end: slices.Insert at Cont; a walk over the dump.
-/
import Derived.Test.YtfndhndlkcijoaaGreatTackK
set_option maxRecDepth 100000
set_option maxHeartbeats 16000000
set_option linter.unusedVariables false
set_option linter.unusedSimpArgs false
open Go.Proofs.Tryz
namespace Go.Proofs.YtfndhndlkcijoaaGreat
section
open Go.RowKit
variable {l:List Con} {B M g i:Nat} {P:Program} {t:TypeId} {w:World}
theorem jV (w:World) (dT sT ty elem:TypeId) (b o dLen dCap:Nat) (a:Addr) (sLen sCap:Nat) (cs:List Value) (sz:Nat)
  (hu:P.underlying dT=some (.slice elem)) (hs:(P.info? elem).map (·.size)=some sz) (hn:cs.length=Nat.min sLen dLen*sz)
  (VJ:∀j v,cs[j]? = some v→w.cell? (a.add j)=some v) (hc:∀j,j<cs.length→(w.cell? ⟨b,o+j,none⟩).isSome=true) (hf:∀j,j<cs.length→w.frozen? ⟨b,o+j,none⟩=false) (h1:∀v ∈ cs,v.oneCell'=true) :
  (Builtin.copy_ #[dT,sT] ty #[.slice (some ⟨b,o,none⟩) dLen dCap,.slice (some a) sLen sCap]).run P w=.ok (goInt (Nat.min sLen dLen)) (w.setCells b o cs):=by
 have hl:=run_loadCells_list (P:=P) w a cs VJ;have hst:=run_storeCells_cells (P:=P) b o cs 0 w (by simpa using hc) (by simpa using hf) h1;obtain ⟨m,hm⟩:∃m,Nat.min sLen dLen=m:=⟨_,rfl⟩;rw [hm] at hn ⊢;cases hq:P.info? elem with
 | none=>simp [hq] at hs
 | some i=>
  have hi:i.size=sz:=by simpa [hq] using hs
  rw [hn] at hl;simp [Builtin.copy_,run_underlying hu,Builtin.lenOf,Builtin.firstCells,sizeOf,typeInfo,hq,hi,hm,hl,hst]
theorem aCK {a:Act} {o:Oper} {w':World} {s x:Operand} {t':TypeId} {v vs vx:Value} (ho:o.op=.call { callee:=.builtin .copy,args:=#[s,x],argTypes:=#[t,t'] }) (hs:a.eval s=vs) (hx:a.eval x=vx) (gq:(Builtin.copy_ #[t,t'] o.type #[vs,vx]).run P w=.ok v w'):(execOp a.eval o).run P w=.ok (.value v) w':=by
 simp [execOp,ho,resolve,invoke,builtin,hs,hx,gq,Result.andThen]
theorem aEF:(Tryz.prog.info? 35).map (·.size)=some 5:=by kernel_rfl
theorem aKA:∀w,(Go.sizeOf 35).run Tryz.prog w=.ok 5 w:=fun w=>by kernel_rfl
theorem iK (l:List Con) (i:Nat):aI l=aI (l.take i)++aI (l.drop i):=by rw [←dO,List.take_append_drop]
theorem dS (l:List Con) (h:i≤l.length):(aI (l.take i)).length=i*5:=by rw [bY,List.length_take,Nat.min_eq_left h]
theorem gB (l:List Con) (i:Nat):(aI (l.drop i)).length=(l.length - i)*5:=by rw [bY,List.length_drop]
theorem aG0 (h:Lay w 35 g (M*5) (aI l)) (hi:i<l.length) (hM:l.length+1≤M):Lay (w.setCells g ((i+1)*5) (aI (l.drop i))) 35 g (M*5) (aI (l.take (i+1)++l.drop i)):=by
 have ht:(aI (l.take (i+1))).length=(i+1)*5:=dS l (by omega);have hd:=gB l i;have hm:=Nat.mul_le_mul_right 5 hM;refine h.cells _ _ (by rw [hd];omega) _ (by rw [dO,List.length_append,ht,hd];omega) (fun j u hj=>?_);rw [dO] at hj;rw [hd];refine ⟨fun e=>?_,fun e=>?_⟩
 ·rw [List.getElem?_append_right (by omega),ht] at hj;exact hj
 ·by_cases e2:j<(i+1)*5
  ·rw [List.getElem?_append_left (by omega)] at hj;refine h.cell ?_;rw [iK l (i+1),List.getElem?_append_left (by omega)];exact hj
  ·have:=(List.getElem?_eq_some_iff.1 hj).1;rw [List.length_append,ht,hd] at this;omega
theorem aJY {q:Con} (h:Lay w 35 g (M*5) (aI (l.take (i+1)++l.drop i))) (hi:i<l.length) (hM:l.length+1≤M):Lay (w.setCells g (i*5) (fH q)) 35 g (M*5) (aI (l.take i++q::l.drop i)):=by
 have ht1:(aI (l.take (i+1))).length=(i+1)*5:=dS l (by omega);have ht:(aI (l.take i)).length=i*5:=dS l (by omega);have hd:=gB l i;have hm:=Nat.mul_le_mul_right 5 hM;have hq:(fH q).length=5:=rfl;refine h.cells _ _ (by rw [hq];omega) _ (by rw [oU,List.length_append,List.length_append,ht,hd,hq];omega) (fun j u hj=>?_);rw [oU] at hj;rw [hq];refine ⟨fun e=>?_,fun e=>?_⟩
 ·rw [List.getElem?_append_right (by omega),ht,List.getElem?_append_left (by omega)] at hj;exact hj
 ·refine h.cell ?_;rw [dO];by_cases e2:j<i*5
  ·rw [List.getElem?_append_left (by omega)] at hj ⊢;(have e3:aI (l.take (i+1))=aI (l.take i)++fH l[i]:=by rw [List.take_succ_eq_append_getElem hi,dO];simp [aI]);rw [e3,List.getElem?_append_left (by omega)];exact hj
  ·rw [List.getElem?_append_right (by omega),ht,List.getElem?_append_right (by omega),hq] at hj;rw [List.getElem?_append_right (by omega),ht1];rw [show j - (i+1)*5=j - i*5 - 5 by omega];exact hj
theorem aAr (g n cap gv m i:Nat) (hm:m=1) (l:List Con) (q:Con) (w:World) (h:CRm B w (some ⟨g,0,none⟩) n cap l) (hv:Blk w gv (fH q).toArray 35) (hne:g≠gv) (hi:i<n) (hroom:n+1≤cap) (hn:n≤1048576) :
  cP 113 #[.slice (some ⟨g,0,none⟩) n cap,.int .i64 (i:Int),.slice (some ⟨gv,0,none⟩) m m] w (lM B (some ⟨g,0,none⟩) n cap (l.take i++q::l.drop i) w):=by
 obtain ⟨M,hB,GI,hM,hl,hnc⟩:=h.cells (by omega);have hil:i<l.length:=by omega
 have Kv:(fH q).length=5:=rfl;have hd:=gB l i;have Vj:=Nat.mul_le_mul_right 5 (show n+1≤M by omega);have hov:∀lb cb,(callFunc 170 #[.slice (some ⟨gv,0,none⟩) m m,.slice (some ⟨g,(i+m)*5,none⟩) lb cb]).run Tryz.prog w=.ok (.value (.bool false)) w:=fun lb cb=>by
  obtain ⟨arr,ha,hs⟩:=GI.cel;rw [run_callFunc_extern func170 (by kernel_rfl) (by kernel_rfl) (by kernel_rfl) (e:=Extern.SlicesOverlaps.overlaps #[27,27] #[4]) (by kernel_rfl),
   Lib.run_overlaps_apart w 27 4 35 underlying27 5 aKA ⟨gv,0,none⟩ ⟨g,(i+m)*5,none⟩ m m lb cb (fun e=>hne e.symm) 35 35 5 arr.size (by simp [World.shape?,show w.heap[gv]? = _ from hv,fH]) (by simp [World.shape?,ha]) (by omega) (hv.f 0) (hv.f 5)]
  rfl
 obtain ⟨W1,hW1⟩:∃W1,W1=w.drew.setCells g ((i+m)*5) (aI (l.drop i)):=⟨_,rfl⟩;have QF:Lay W1 35 g (M*5) (aI (l.take (i+1)++l.drop i)):=by rw [hW1,hm];exact aG0 GI.drew hil (by omega)
 have KI:∀ty dc sc,(Builtin.copy_ #[27,27] ty #[.slice (some ⟨g,(i+m)*5,none⟩) (n+m - (i+m)) dc,.slice (some ⟨g,i*5,none⟩) (n+m - i) sc]).run Tryz.prog w.drew=.ok (goInt (Nat.min (n+m - i) (n+m - (i+m)))) W1:=fun ty dc sc=>by
  rw [hW1];exact jV w.drew _ _ ty 35 g ((i+m)*5) (n+m - (i+m)) dc ⟨g,i*5,none⟩ (n+m - i) sc (aI (l.drop i)) 5 underlying27 aEF (by rw [hd,show Nat.min (n+m - i) (n+m - (i+m))=l.length - i by simp only [Nat.min_def];split<;>omega])
   (fun j v hj=>by
    rw [Lib.add_plain];refine GI.drew.cell ?_;rw [iK l i,List.getElem?_append_right (by rw [dS l (by omega)];omega),dS l (by omega),Nat.add_sub_cancel_left];exact hj)
   (fun j hj=>GI.drew.isThere (by rw [hd] at hj;omega)) (fun j hj=>GI.drew.frozen _) (fun v hv=>eB _ v hv)
 have KH:∀ty dc,(Builtin.copy_ #[27,27] ty #[.slice (some ⟨g,i*5,none⟩) (n+m - i) dc,.slice (some ⟨gv,0,none⟩) m m]).run Tryz.prog W1=.ok (goInt (Nat.min m (n+m - i))) (W1.setCells g (i*5) (fH q)):=fun ty dc=>
  jV W1 _ _ ty 35 g (i*5) (n+m - i) dc ⟨gv,0,none⟩ m m (fH q) 5 underlying27 aEF (by rw [Kv,show Nat.min m (n+m - i)=1 by simp only [Nat.min_def];split<;>omega])
   (fun j v hj=>by
    rw [Lib.add_plain,hW1,World.cell?_setCells_out g _ _ _ _ (fun e _=>absurd e.symm hne)];have h1:=hv.at j;rw [List.getElem?_toArray,hj] at h1;rw [Nat.zero_add];exact h1)
   (fun j hj=>QF.isThere (by rw [Kv] at hj;omega)) (fun j hj=>QF.frozen _) (fun v hv=>eB [q] v (by simpa [aI] using hv))
 have HA:=aA (show lM B (some ⟨g,0,none⟩) n cap (l.take i++q::l.drop i) w (.returned (.slice (some ⟨g,0,none⟩) (n+m) cap)) (W1.setCells g (i*5) (fH q)) from by
  rw [hm];refine ⟨some ⟨g,0,none⟩,cap,rfl,Lay.Crm (M:=M) (aJY QF hil (by omega)) hB hM (by simp;omega) (by omega),?_,.inl ⟨by omega,rfl⟩⟩;rw [hW1];exact fB ⟨by omega,_,GI.cel,hB,0,rfl⟩ _ _ _ _ (fB ⟨by omega,_,GI.cel,hB,0,rfl⟩ _ _ _ _ (.of_below (yH _ w).drew)))
 have Qw:=aA KI;have qy:=aA KH;have hz1:¬((m:Int)=0):=by omega
 have hz2:¬((i:Int)=(n:Int)):=by omega
 have hw1:IntKind.i64.wrap ((i:Int)+(m:Int))=(i:Int)+(m:Int):=by rw [IntKind.wrap_i64];omega
 have hw2:IntKind.i64.wrap ((n:Int)+(m:Int))=(n:Int)+(m:Int):=by rw [IntKind.wrap_i64];omega
 have hb1:(0:Int)≤(i:Int)+(m:Int):=by omega
 have hc1:¬((cap:Int)<(n:Int)+(m:Int)):=by omega
 have hc2:(n:Int)+(m:Int)≤(cap:Int):=by omega
 have hc3:(0:Int)≤(n:Int)+(m:Int):=by omega
 have hin:i≤n:=by omega
 have hic:i≤cap:=by omega
 have htn:((i:Int)+(m:Int)).toNat=i+m:=by omega
 have htm:((n:Int)+(m:Int)).toNat=n+m:=by omega
 have hb2:¬(cap=i+m):=by omega
 have hb3:(i:Int)+(m:Int)≤(n:Int)+(m:Int):=by omega
 have hb5:(i:Int)≤(n:Int)+(m:Int):=by omega
 have hb4:¬(cap=i):=by omega
 have Rv:n+m≤cap:=by omega
 clear hm h hv GI QF KI KH Kv hd Vj hl hM hB hil hroom hnc hW1 hi;go_enter func113,ntmps113;go_wp2_with (simp only [hov]);go_upto_region 15 with fail
 refine wp_region_held_drew (S:=fun _=>True) (by kernel_rfl) trivial (fun _=>?_);refine aP 0 69 _ rfl rfl trivial ?_;try simp only [zW]
 refine aP 1 70 _ rfl rfl trivial ?_;try simp only [zW]
 refine aP 2 71 _ rfl rfl trivial ?_;try simp only [zW]
 refine aP 3 72 (.int .i64 ((i:Int)+(m:Int))) rfl rfl trivial ?_;try simp only [zW]
 refine aP 4 73 (.slice (some ⟨g,(i+m)*5,none⟩) (n+m - (i+m)) (cap - (i+m))) rfl rfl trivial ?_;try simp only [zW]
 refine aP 5 74 _ rfl rfl trivial ?_;try simp only [zW]
 refine aP 6 75 _ rfl rfl trivial ?_;try simp only [zW]
 refine aP 7 76 (.slice (some ⟨g,i*5,none⟩) (n+m - i) (cap - i)) rfl rfl trivial ?_;try simp only [zW]
 refine yRq 8 rfl (fun K hK=>gN 77 (by rfl) rfl (aCK rfl rfl rfl (uH Qw _ _ _)) ?_);refine hK.out _ _ trivial (fun _=>?_);clear hK K;try simp only [zW]
 refine wpAnyH_done (by kernel_rfl) ?_ _;go_wp2_with fail;rw [uH qy];go_wp2;go_ret;exact uH HA
theorem aED {N:Nat} {cs vs:List Value} (h:Lay w t g N cs) (o:Nat) (ho:o=cs.length) (hN:cs.length+vs.length≤N):Lay (w.setCells g o vs) t g N (cs++vs):=by
 subst ho;refine h.cells _ _ hN _ (by rw [List.length_append];exact hN) (fun j u hj=>⟨fun e=>?_,fun e=>?_⟩)
 ·rw [List.getElem?_append_right e.1] at hj;exact hj
 ·by_cases e2:j<cs.length
  ·rw [List.getElem?_append_left e2] at hj;exact h.cell hj
  ·have:=(List.getElem?_eq_some_iff.1 hj).1;rw [List.length_append] at this;omega
theorem aDK (g n cap gv m i:Nat) (hm:m=1) (l:List Con) (q:Con) (w:World) (h:CRm B w (some ⟨g,0,none⟩) n cap l) (hv:Blk w gv (fH q).toArray 35) (hi:i<n) (hroom:¬n+1≤cap) (hn:n≤1048576) (hBw:B≤w.heap.size) :
  cP 113 #[.slice (some ⟨g,0,none⟩) n cap,.int .i64 (i:Int),.slice (some ⟨gv,0,none⟩) m m] w (lM B (some ⟨g,0,none⟩) n cap (l.take i++q::l.drop i) w):=by
 obtain ⟨i0,z,hi0,hsz,hz0,hzc,hb0,hb1⟩:=aJ7;obtain ⟨M,hB,GI,hM,hl,hnc⟩:=h.cells (by have:=h.2.1;omega);have hgl:g<w.heap.size:=GI.lt;have hgv:gv<w.heap.size:=hv.lt;have hil:i<l.length:=by omega
 have Kv:(fH q).length=5:=rfl;have hd:=gB l i;have ht:=dS l (show i≤l.length by omega);obtain ⟨K,hK⟩:∃K,K=n+m - i:=⟨_,rfl⟩;have hG1:=grownCap_ge w (i+K) cap 35;obtain ⟨G,hG⟩:∃G,grownCap w (i+K) cap 35=G:=⟨_,rfl⟩;have QL:(Builtin.firstCells i0.size i (.slice (some ⟨g,0,none⟩) i cap)).run Tryz.prog w.drew=.ok (aI (l.take i)).toArray w.drew:=
  run_firstCells_some w.drew _ i ⟨g,0,none⟩ i cap (aI (l.take i)) (by rw [ht,hsz]) (fun j v hj=>by
   rw [Lib.add_plain,Nat.zero_add];refine GI.drew.cell ?_;rw [iK l i,List.getElem?_append_left (List.getElem?_eq_some_iff.1 hj).1];exact hj)
 obtain ⟨W0,hW0⟩:∃W,W=w.drew.alloc (.cells ((aI (l.take i)).toArray++Builtin.zeroCells z.cells K++Builtin.zeroCells z.cells (G - (i+K))) 35):=⟨_,rfl⟩;have gq:∀ty,(Builtin.append_ #[27,3] ty #[.slice (some ⟨g,0,none⟩) i cap,.int .i64 (K:Int)]).run Tryz.prog w=.ok (.slice (some ⟨w.heap.size,0,none⟩) (i+K) G) W0:=fun ty=>by
  rw [hW0,←hG];exact Lib.run_append_grow_zeros w 27 3 ty 35 i0 z .i64 .i64 underlying27 underlying3 hi0 hz0 (some ⟨g,0,none⟩) i cap (aI (l.take i)) QL K (by omega) (by omega) (by omega) (by omega) (by
   have:=Nat.mul_le_mul (show K≤2000000 by omega) hb1;omega) (growslice_fits_wide (by omega) (by
   (have h1:(i+K+(i+K) / 4+192)≤2000000:=by omega);have:=Nat.mul_le_mul h1 hb1;omega))
 rw [hG] at hG1;have Zy:Lay W0 35 w.heap.size (G*5) (aI (l.take i)):=by
  rw [hW0];refine ⟨(Builtin.zeroCells z.cells K).toList++(Builtin.zeroCells z.cells (G - (i+K))).toList,?_,?_⟩
  ·(have e:(aI (l.take i)++((Builtin.zeroCells z.cells K).toList++(Builtin.zeroCells z.cells (G - (i+K))).toList)).toArray=(aI (l.take i)).toArray++Builtin.zeroCells z.cells K++Builtin.zeroCells z.cells (G - (i+K)):=by simp);rw [e];(show (w.heap.push _)[w.heap.size]? = _);rw [Array.getElem?_push,if_pos rfl]
  ·have h1:=vR z K 5 hzc;have h2:=vR z (G - (i+K)) 5 hzc;rw [List.length_append,List.length_append,ht,Array.length_toList,Array.length_toList,h1,h2,←Nat.add_mul,←Nat.add_mul];(congr 1);omega
 have XJ:Bw w W0:=by rw [hW0];exact yA (yH _ w).drew _
 obtain ⟨W1,hW1⟩:∃W1,W1=W0.setCells w.heap.size (i*5) (fH q):=⟨_,rfl⟩;have hGm:=Nat.mul_le_mul_right 5 hG1;have QF:Lay W1 35 w.heap.size (G*5) (aI (l.take i)++fH q):=by rw [hW1];exact aED Zy _ ht.symm (by rw [ht,Kv];omega)
 obtain ⟨W2,hW2⟩:∃W2,W2=W1.drew.setCells w.heap.size ((i+m)*5) (aI (l.drop i)):=⟨_,rfl⟩;have Vv:Lay W2 35 w.heap.size (G*5) (aI (l.take i++q::l.drop i)):=by rw [hW2,oU,←List.append_assoc];exact aED QF.drew _ (by rw [List.length_append,ht,Kv,hm];omega) (by rw [List.length_append,ht,Kv,hd];omega)
 have hm1:Mks (fun k=>k=w.heap.size) W0 W1:=by rw [hW1];exact fB (S:=fun k=>k=w.heap.size) rfl _ _ _ _ (Mks.refl _ _)
 have hm2:Mks (fun k=>k=w.heap.size) W0 W2:=by rw [hW2];exact fB (S:=fun k=>k=w.heap.size) rfl _ _ _ _ (hm1.trans (.of_below (yH _ W1).drew))
 have KI:∀ty dc,(Builtin.copy_ #[27,27] ty #[.slice (some ⟨w.heap.size,i*5,none⟩) K dc,.slice (some ⟨gv,0,none⟩) m m]).run Tryz.prog W0=.ok (goInt (Nat.min m K)) W1:=fun ty dc=>by
  rw [hW1];exact jV W0 _ _ ty 35 w.heap.size (i*5) K dc ⟨gv,0,none⟩ m m (fH q) 5 underlying27 aEF (by rw [Kv,show Nat.min m K=1 by simp only [Nat.min_def];split<;>omega])
   (fun j v hj=>by
    rw [Lib.add_plain,Nat.zero_add];have h1:=(hv.below XJ).at j;rw [List.getElem?_toArray,hj] at h1;exact h1)
   (fun j hj=>Zy.isThere (by rw [Kv] at hj;omega)) (fun j hj=>Zy.frozen _) (fun v hv=>eB [q] v (by simpa [aI] using hv))
 have KH:∀ty dc sc,(Builtin.copy_ #[27,27] ty #[.slice (some ⟨w.heap.size,(i+m)*5,none⟩) (i+K - (i+m)) dc,.slice (some ⟨g,i*5,none⟩) (n - i) sc]).run Tryz.prog W1.drew=.ok (goInt (Nat.min (n - i) (i+K - (i+m)))) W2:=fun ty dc sc=>by
  rw [hW2];exact jV W1.drew _ _ ty 35 w.heap.size ((i+m)*5) (i+K - (i+m)) dc ⟨g,i*5,none⟩ (n - i) sc (aI (l.drop i)) 5 underlying27 aEF (by rw [hd,show Nat.min (n - i) (i+K - (i+m))=l.length - i by simp only [Nat.min_def];split<;>omega])
   (fun j v hj=>by
    (rw [Lib.add_plain];have hg1:Lay W1.drew 35 g (M*5) (aI l):=by obtain ⟨R,e1,e2⟩:=GI;exact ⟨R,(hm1.block g (Nat.lt_of_lt_of_le hgl XJ.size) (by omega)).trans ((XJ.block g hgl).trans e1),e2⟩);refine hg1.cell ?_;rw [iK l i,List.getElem?_append_right (by rw [ht];omega),ht,Nat.add_sub_cancel_left];exact hj)
   (fun j hj=>QF.drew.isThere (by rw [hd] at hj;omega)) (fun j hj=>QF.drew.frozen _) (fun v hv=>eB _ v hv)
 have HA:=aA (show lM B (some ⟨g,0,none⟩) n cap (l.take i++q::l.drop i) w (.returned (.slice (some ⟨w.heap.size,0,none⟩) (i+K) G)) W2 from by
  rw [show i+K=n+1 by omega];refine ⟨some ⟨w.heap.size,0,none⟩,G,rfl,Lay.Crm (M:=G) Vv hBw (yJ _) (by simp;omega) (by omega),?_,.inr ⟨_,rfl,yJ _⟩⟩;exact .of_below (XJ.trans (hm2.below (fun k e=>by subst e;exact yJ _) XJ.size)))
 have TQ:=aA gq;have Qw:=aA KI;have qy:=aA KH;have hz1:¬((m:Int)=0):=by omega
 have hz2:¬((i:Int)=(n:Int)):=by omega
 have hw1:IntKind.i64.wrap ((i:Int)+(m:Int))=(i:Int)+(m:Int):=by rw [IntKind.wrap_i64];omega
 have hw2:IntKind.i64.wrap ((n:Int)+(m:Int))=(n:Int)+(m:Int):=by rw [IntKind.wrap_i64];omega
 have hw3:IntKind.i64.wrap ((n:Int)+(m:Int) - (i:Int))=(K:Int):=by rw [IntKind.wrap_i64]<;>omega
 have hb1':(0:Int)≤(i:Int)+(m:Int):=by omega
 have hc1:(cap:Int)<(n:Int)+(m:Int):=by omega
 have hin:i≤n:=by omega
 have hic:i≤cap:=by omega
 have htn:((i:Int)+(m:Int)).toNat=i+m:=by omega
 have hb2:¬(G=i+m):=by omega
 have hb3:(i:Int)+(m:Int)≤(i:Int)+(K:Int):=by omega
 have hb5:(i:Int)≤(i:Int)+(K:Int):=by omega
 have hb4:¬(cap=i):=by omega
 have hb6:¬(G=i):=by omega
 obtain ⟨gg,hgg⟩:∃k,w.heap.size=k:=⟨_,rfl⟩;rw [hgg] at HA TQ Qw qy;clear hm h hv GI Zy QF Vv gq KI KH Kv hd ht hGm hl hM hB hil hroom hnc hW0 hW1 hW2 hi hm1 hm2 XJ QL hG hG1 hK hgl hgv hi0 hz0 hzc hb0 hb1 hsz hBw hgg;go_enter func113,ntmps113;go_wp2_with (at_builtin;refine Lib.wpList_append_run _ rfl _ _ _ _ rfl _ _ rfl rfl _ _ (uH TQ _) ?_);go_wp2_with fail
 rw [uH Qw];go_upto_region 11 with fail
 refine wp_region_held_drew (S:=fun _=>True) (by kernel_rfl) trivial (fun _=>?_);refine aP 0 46 _ rfl rfl trivial ?_;try simp only [zW]
 refine aP 1 47 _ rfl rfl trivial ?_;try simp only [zW]
 refine aP 2 48 _ rfl rfl trivial ?_;try simp only [zW]
 refine aP 3 49 (.int .i64 ((i:Int)+(m:Int))) rfl rfl trivial ?_;try simp only [zW]
 refine aP 4 50 (.slice (some ⟨gg,(i+m)*5,none⟩) (i+K - (i+m)) (G - (i+m))) rfl rfl trivial ?_;try simp only [zW]
 refine aP 5 51 _ rfl rfl trivial ?_;try simp only [zW]
 refine aP 6 52 _ rfl rfl trivial ?_;try simp only [zW]
 refine aP 7 53 (.slice (some ⟨g,i*5,none⟩) (n - i) (cap - i)) rfl rfl trivial ?_;try simp only [zW]
 refine yRq 8 rfl (fun K hK=>gN 54 (by rfl) rfl (aCK rfl rfl rfl (uH qy _ _ _)) ?_);refine hK.out _ _ trivial (fun _=>?_);clear hK K;try simp only [zW]
 refine wpAnyH_done (by kernel_rfl) ?_ _;go_wp2;go_ret;exact uH HA
theorem aDM (ao:Option Addr) (n cap gv i:Nat) (l:List Con) (q:Con) (w:World) (h:CRm B w ao n cap l) (hv:Blk w gv (fH q).toArray 35) (hne:cap≠0→∀o,ao≠some ⟨gv,o,none⟩) (hi:i≤n) (hn:n≤1048576) (hBw:B≤w.heap.size) :
  cP 113 #[.slice ao n cap,.int .i64 (i:Int),.slice (some ⟨gv,0,none⟩) 1 1] w (lM B ao n cap (l.take i++q::l.drop i) w):=by
 have hl:=h.1.1;by_cases e:i=n
 ·subst e;rw [List.take_of_length_le (by omega),List.drop_of_length_le (by omega)];by_cases hr:i+1≤cap
  ·rcases h.2.2 with h0 | ⟨g,M,rfl,_⟩
   ·omega
   ·exact aDL g i cap gv 1 rfl l q w h hv (fun e=>hne (by omega) 0 (by rw [e])) hr hn
  ·exact aCA ao i cap gv 1 rfl l q w h hv hr hn hBw
 ·have:=h.2.1;rcases h.2.2 with h0 | ⟨g,M,rfl,_⟩
  ·omega
  ·by_cases hr:n+1≤cap
   ·exact aAr g n cap gv 1 i rfl l q w h hv (fun e=>hne (by omega) 0 (by rw [e])) (by omega) hr hn
   ·exact aDK g n cap gv 1 i rfl l q w h hv (by omega) hr hn hBw
end
end Go.Proofs.YtfndhndlkcijoaaGreat
