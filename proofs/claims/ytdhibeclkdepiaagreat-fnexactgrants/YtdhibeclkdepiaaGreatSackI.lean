/-
  Texts in one: StdP, StdQ, KpAB, SuitB, BackM, Held, OwnM, OwnC, CloneQ, CopyC.
-/
import Derived.Test.YtdhibeclkdepiaaGreatSackH
import Derived.RangeFuncNested
import Derived.RangeFuncBound
import Derived.RangeFuncCalls
import Derived.RangeFuncLeaves
import Derived.Shelf.AbstractIn
import Derived.Shelf.RegionOpen
import Derived.OwnWalkIn
import Derived.TacticsInMore
import Derived.LoopNIn
import Derived.LoopIn
import Derived.Test.YtdhibeclkdepiaaGreatSackG
import Derived.Lib.SliceRun
import Derived.Test.YtdhibeclkdepiaaGreatSackB
set_option maxRecDepth 100000
set_option maxHeartbeats 16000000
set_option linter.unusedVariables false
set_option linter.unusedSimpArgs false
namespace Go.Proofs.YtdhibeclkdepiaaGreat
section
open Go.RowKit Go.Maps
theorem HSt.pushed {K:List P4} {F:List Fr3} {w0 w:World} {bm bk g:Nat} {l:List SE} {v:Value} {z:SE} (h:HSt K F w0 bm bk g w l) (hF:∀f ∈ F,f.2.2≠209) (hz:z.2 ∈ K) {v':Value} {w1 w2:World} (hb:Below w.heap.size w w1) (hown:w1.ownsRow (g+1) 209 5 v l.length (kZ l))
  (ho:w2.ownsRow (g+1) 209 5 v' (l.length+1) (kZ l++stc z)) (hg:w1.grownBy w2 v.ownBlock):HSt K F w0 bm bk g (w2.setCell ⟨g,0,none⟩ v') (l++[z]):=by
 have hlow:∀k,k≤g→k<w1.heap.size→w2.heap[k]? = w1.heap[k]?:=fun k hk hlt=>hg.block k hlt (fun e=>by
  have:=(hown.lt k e.symm).1
  omega)
 obtain ⟨⟨v0,b1,_,_⟩,h3,h4,h5,h6,h7,h8⟩:=h
 have hFv:∀f ∈ F,∀k,v.ownBlock=some k→f.1≠k:=fun f hf k hk e=>by
  rcases hown.2 with ⟨e2,_⟩ | ⟨b2,_,cur,e2,_,hc,_⟩
  ·rw [e2] at hk;simp [Value.ownBlock] at hk
  ·rw [e2] at hk
   simp [Value.ownBlock] at hk
   have:=(h8 f hf).1.below hb
   unfold Blk at this
   rw [e,←hk,hc] at this
   simp at this
   exact hF f hf this.2.symm
 have fr2:∀f ∈ F,Blk w2 f.1 f.2.1 f.2.2:=fun f hf=>(hg.block f.1 ((h8 f hf).1.below hb).lt (fun e=>hFv f hf f.1 e.symm rfl)).trans ((h8 f hf).1.below hb)
 have b2:Blk w1 g _ _:=b1.below hb
 have b3:Blk w2 g _ _:=(hlow g (yJ _) b2.lt).trans b2
 have c3:Blk w2 bk _ _:=(hlow bk (by omega) (h3.below hb).lt).trans (h3.below hb)
 have k2:dP K bm w2:=(h4.below hb).grown hg (fun e=>by have:=(hown.lt bm e.symm).1;omega)
 have hFn:∀f ∈ F,some f.1≠v'.ownBlock:=fun f hf e=>by
  rcases ho.2 with ⟨e2,_⟩ | ⟨b2,_,cur,e2,_,hc,_⟩
  ·rw [e2] at e;simp [Value.ownBlock] at e
  ·rw [e2] at e
   simp [Value.ownBlock] at e
   have:=fr2 f hf
   unfold Blk at this
   rw [e,hc] at this
   simp at this
   exact hF f hf this.2.symm
 have hlen:(l++[z]).length=l.length+1:=by simp
 refine ⟨⟨v',?_,?_,hFn⟩,c3.other g 0 v' (by omega),k2.grown (cZ (aC w2 (some g)) 0 v') (by simp;omega),h5,?_,?_,fun f hf=>⟨(fr2 f hf).other g 0 v' (h8 f hf).2.2,(h8 f hf).2⟩⟩
 ·have:=b3.set 0 v'
  simpa using this
 ·rw [hlen,aEi]
  have e:kZ [z]=stc z:=by simp [kZ]
  rw [e]
  exact ho.kept (cZ (aC w2 (some g)) 0 v') (.inr (fun e=>by have:=(ho.lt g e).1;omega))
 ·intro x hx
  rcases List.mem_append.1 hx with hx | hx
  ·exact h6 x hx
  ·simp at hx;subst hx;exact hz
 ·have h8:Below w0.heap.size w0 w1:=yB h7 hb
  have h9:Below w0.heap.size w0 w2:=h8.grown hg h8.size (fun k e=>by have:=(hown.lt k e).1;omega)
  exact yC h9 _ _ _ (by omega)
theorem aIX (x:SE) (xt:TypeId) (wx:World):(Instr.typeAssert (.iface 209 (stv x)) xt 209 false).run Tryz.prog wx=.ok (stv x) wx:=by
 simp [Instr.typeAssert,go_sem]
theorem Tryz.infoStd:(Tryz.prog.info? 209).map (fun i=>(i.zero,i.size,i.bytes))=some (some (.agg #[.string ByteArray.empty,.int .i64 0,.int .i64 0,.int .i64 0,.int .i64 0]),5,48):=by kernel_rfl
theorem aFa (K:List P4) (F:List Fr3) (w0:World) (bm bk g:Nat) (w:World) (l:List SE) (z:SE) (h:HSt K F w0 bm bk g w l) (hF:∀f ∈ F,f.2.2≠209) (hz:z.2 ∈ K) (hl:l.length<1000000) :
  Calls Tryz.prog 233 #[.pointer (some ⟨g,0,none⟩),.iface 209 (stv z)] w fun e w'=>e=.returned (.tuple #[])∧HSt K F w0 bm bk g w' (l++[z]):=by
 obtain ⟨i0,hi,hz0,hz1,hz2⟩:=info_parts Tryz.infoStd
 obtain ⟨v,b1,hown,_⟩:=h.1
 have hb1:=(yA (yH _ w) (.cells #[.string (bs z.1),.int .i64 z.2.1,.int .i64 z.2.2.1,.int .i64 z.2.2.2.1,.int .i64 z.2.2.2.2] 209)).drew
 obtain ⟨W,hW⟩:∃W,(w.alloc (.cells #[.string (bs z.1),.int .i64 z.2.1,.int .i64 z.2.2.1,.int .i64 z.2.2.2.1,.int .i64 z.2.2.2.2] 209)).drew=W:=⟨_,rfl⟩
 rw [hW] at hb1
 have hbk:Blk W w.heap.size #[.string (bs z.1),.int .i64 z.2.1,.int .i64 z.2.2.1,.int .i64 z.2.2.2.1,.int .i64 z.2.2.2.2] 209:=by rw [←hW];exact yD _ _ _
 have hownW:W.ownsRow (g+1) 209 5 v l.length (kZ l):=hown.kept (aG (aC w none) hb1) (by by_cases e:v.ownBlock=none;exact .inl e;exact .inr e)
 have hnews:∀j u,(stc z)[j]? = some u→W.cell? (Addr.add ⟨w.heap.size,0,none⟩ j)=some u:=fun j u hu=>by
  rw [Lib.add_plain,Nat.zero_add,hbk.at j]
  simp only [stc] at hu
  simpa using hu
 obtain ⟨v',w2,hrun,hown',hgrow,_⟩:=run_append_own (P:=Tryz.prog) W (g+1) 203 203 209 i0 (.agg #[.string ByteArray.empty,.int .i64 0,.int .i64 0,.int .i64 0,.int .i64 0]) 5 48 Tryz.underlying203 hi hz0 hz1 hz2 rfl (by decide) v l.length (kZ l) hownW ⟨w.heap.size,0,none⟩ 1 1 (stc z) (by simp [stc]) hnews (fun u hu=>by simp [stc] at hu;rcases hu with rfl | rfl | rfl | rfl | rfl<;>rfl) (by unfold maxLen;omega) (by omega) (by have:=b1.lt;have:=hb1.size;omega)
 obtain ⟨b9,cap9,rfl⟩:∃b9 cap9,v'=.slice (some ⟨b9,0,none⟩) (l.length+1) cap9:=by
  rcases hown'.2 with ⟨_,e⟩ | ⟨b9,cap9,_,e,_⟩
  ·omega
  ·exact ⟨b9,cap9,e⟩
 have HH:=aA (h.pushed hF hz hb1 hownW hown' hgrow)
 have hlow:w2.heap[g]? = W.heap[g]?:=hgrow.block g (b1.below hb1).lt (fun e=>by have:=(hownW.lt g e.symm).1;omega)
 have b3:Blk w2 g _ _:=hlow.trans (b1.below hb1)
 have c0:=b1.at 0
 simp at c0
 have c1:=(b1.al (.cells #[.string (bs z.1),.int .i64 z.2.1,.int .i64 z.2.2.1,.int .i64 z.2.2.2.1,.int .i64 z.2.2.2.2] 209)).at 0
 simp at c1
 have c2:=b3.at 0
 simp at c2
 have f2:=b3.f 0
 have HV:=aA hown.2
 have hwg:¬w.heap.size=g:=by have:=b1.lt;omega
 have hgw:¬g=w.heap.size:=by omega
 rw [←hW] at hrun
 clear hown hownW hown' hgrow hnews hbk hb1 hW hlow b3 h b1
 obtain ⟨n1,p1,p2,p3,p4⟩:=z
 simp only at hrun c1
 have hta:=aIX (n1,p1,p2,p3,p4)
 rcases uH HV with ⟨rfl,hl0⟩ | ⟨b,cap,cur,rfl,_,_,hcap,_⟩
 all_goals
  clear HV
  simp [go_sem] at hrun
  go_enter Tryz.func233,Tryz.ntmps233
  go_wp2_with fail
  go_region
  all_goals
   go_wp2
   go_end0
   first
   | exact ⟨rfl,uH HH⟩
   | (have hx:=uH HH;rw [hl0] at hx;exact ⟨rfl,hx⟩)
theorem HSt.popped {K:List P4} {F:List Fr3} {w0 w:World} {bm bk g b cap:Nat} {l:List SE} (h:HSt K F w0 bm bk g w l) (hb:Blk w g #[.slice (some ⟨b,0,none⟩) l.length cap,aBl bk] 205) {n:Nat} (hn:n≤l.length) :
  HSt K F w0 bm bk g (w.setCell ⟨g,0,none⟩ (.slice (some ⟨b,0,none⟩) n cap)) (l.take n):=by
 obtain ⟨_,hown,hFx⟩:=h.obj hb
 obtain ⟨_,h3,h4,h5,h6,h7,h8⟩:=h
 have hlen:(l.take n).length=n:=by simp;omega
 refine ⟨⟨.slice (some ⟨b,0,none⟩) n cap,?_,?_,hFx⟩,h3.other g 0 _ (by omega),h4.grown (cZ (aC w (some g)) 0 _) (by simp;omega),h5,fun x hx=>h6 x (List.mem_of_mem_take hx),yC h7 _ _ _ (by omega),fun f hf=>⟨(h8 f hf).1.other g 0 _ (h8 f hf).2.2,(h8 f hf).2⟩⟩
 ·have:=hb.set 0 (.slice (some ⟨b,0,none⟩) n cap)
  simpa using this
 ·rw [hlen,aBt]
  obtain ⟨o1,o2⟩:=hown
  refine ⟨by rw [List.length_take,aEh];omega,?_⟩
  rcases o2 with ⟨e,_⟩ | ⟨g',cap',cur,e,hb',hc,k1,k2,k3,k4⟩
  ·cases e
  ·cases e
   refine .inr ⟨b,cap,cur,rfl,hb',?_,by omega,k2,k3,?_⟩
   ·rw [heap_setCell_other _ ⟨g,0,none⟩ b _ (by simp;omega)];exact hc
   ·rw [←k4,List.take_take,Nat.min_eq_left (by omega)]
theorem aL9 (g n cap k:Nat) (hk:k≤cap) (wx:World):(Instr.slice 203 (.slice (some ⟨g,0,none⟩) n cap) none (some (.int .i64 (k:Int))) none).run Tryz.prog wx=.ok (.slice (some ⟨g,0,none⟩) k cap) wx:=by
 rw [run_slice_h (P:=Tryz.prog) (w:=wx) 203 (some ⟨g,0,none⟩) n cap Tryz.underlying203 .i64 (k:Int) (by omega) (by omega)]
 rw [show (sizeOf (Tryz.prog.elem 203)).run Tryz.prog wx=.ok 5 wx from by kernel_rfl]
 simp [Result.andThen,sliced,Addr.add]
theorem aHC (K:List P4) (F:List Fr3) (w0:World) (bm bk g:Nat) (w:World) (l:List SE) (h:HSt K F w0 bm bk g w l) (h0:0<l.length) (hl:l.length≤1000000) :
  Calls Tryz.prog 232 #[.pointer (some ⟨g,0,none⟩)] w fun e w'=>e=.returned (.iface 209 (stv (HeapM.at' seD l (l.length - 1))))∧HSt K F w0 bm bk g w' (l.take (l.length - 1)):=by
 obtain ⟨v,b1,hown,_⟩:=h.1
 obtain ⟨b,cap,rfl,hbb,hcap⟩:=vG (n:=0) hown h0
 obtain ⟨m,hm⟩:∃m,l.length - 1=m:=⟨_,rfl⟩
 have hml:m<l.length:=by omega
 obtain ⟨a0,a1,a2,a3,a4⟩:=pK hown hml
 rw [hm]
 obtain ⟨⟨n1,p1,p2,p3,p4⟩,hs1⟩:∃s,HeapM.at' seD l m=s:=⟨_,rfl⟩
 rw [hs1] at a0 a1 a2 a3 a4 ⊢
 simp only at a0 a1 a2 a3 a4
 have hlm:(l.length:Int) - 1=(m:Int):=by omega
 have hwr:IntKind.i64.wrap ((l.length:Int) - 1)=(m:Int):=by rw [IntKind.wrap_i64];omega
 have hcut:=aL9 b l.length cap m (by omega)
 have hb1:=yA (yH _ w) (.cells #[.string (bs n1),.int .i64 p1,.int .i64 p2,.int .i64 p3,.int .i64 p4] 209)
 have HH:=aA ((h.below hb1).popped (b1.below hb1) (n:=m) (by omega))
 have c0:=b1.at 0
 simp at c0
 have c1:=(b1.below hb1).at 0
 simp at c1
 have f1:=(b1.below hb1).f 0
 have hne:¬w.heap.size=g:=by have:=b1.lt;omega
 have hne2:¬g=w.heap.size:=by omega
 have hmi:(m:Int)<(l.length:Int):=by omega
 clear h b1 hown hs1 hb1 hm
 go_enter Tryz.func232,Tryz.ntmps232
 go_wp2
 go_ret
 exact ⟨rfl,uH HH⟩
def HI (K:List P4) (F:List Fr3) (w0:World) (bm bk g:Nat) (w:World) (l:List SE):Prop:=HSt K F w0 bm bk g w l∧l.length≤1000000
theorem aKt (K:List P4) (F:List Fr3) (hK:K.length≤1000000000) (KW:∀p ∈ K,Wf4 p.1 p.2.1 p.2.2.1 p.2.2.2) (w0:World) (bm bk g:Nat) :
  yU (∀f ∈ F,f.2.2≠209) seD gK g (HI K F w0 bm bk g) (fun _ x v=>v=.iface 209 (stv x)∧x.2 ∈ K) where
 obj:=fun w l h=>let ⟨v,b,_⟩:=h.1.1;⟨v,_,b⟩
 less:=fun w l x y i j h hb hi hj=>(aFb K F hK KW w0 bm bk g w l x y i j h.1 hb hi hj h.2).mono (fun e w' k=>⟨k.1,k.2,h.2⟩)
 swap:=fun w l x y i j h hb hi hj=>(aF9 K F w0 bm bk g w l x y i j h.1 hb hi hj h.2).mono (fun e w' k=>⟨k.1,k.2,by rw [HeapM.swap_len];exact h.2⟩)
 len:=fun w l x y h hb=>(aBw K F w0 bm bk g w l x y h.1 hb).mono (fun e w' k=>⟨k.1,k.2,h.2⟩)
 push:=fun hF w l a v h hv hl=>by
  obtain ⟨rfl,hk⟩:=hv
  exact (aFa K F w0 bm bk g w l a h.1 hF hk hl).mono (fun e w' k=>⟨k.1,k.2,by simp;omega⟩)
 pop:=fun w l h h0=>(aHC K F w0 bm bk g w l h.1 h0 h.2).mono (fun e w' k=>⟨⟨_,k.1,rfl,aIW h.1.2.2.2.2.1 (by omega)⟩,k.2,by simp;have:=h.2;omega⟩)
theorem aKh (K:List P4) (F:List Fr3) (hK:K.length≤1000000000) (KW:∀p ∈ K,Wf4 p.1 p.2.1 p.2.2.1 p.2.2.2) (w0:World) (bm bk g:Nat) (w:World) (l:List SE) (z:SE) (h:HI K F w0 bm bk g w l) (hF:∀f ∈ F,f.2.2≠209) (hz:z.2 ∈ K) (hl:l.length<1000000) :
  Calls Tryz.prog 169 #[.pointer (some ⟨g,0,none⟩),stv z] w fun e w'=>e=.returned (.tuple #[])∧HI K F w0 bm bk g w' (HeapM.upL seD gK (l.length+1) (l++[z]) l.length):=by
 obtain ⟨n1,p1,p2,p3,p4⟩:=z
 have hb0:=yA (yH _ w) (.cells #[.string (bs n1),.int .i64 p1,.int .i64 p2,.int .i64 p3,.int .i64 p4] 209)
 have C:=aA (aIw (aKt K F hK KW w0 bm bk g) hF l (n1,p1,p2,p3,p4) (.iface 209 (stv (n1,p1,p2,p3,p4))) _ ⟨h.1.below hb0,h.2⟩ ⟨rfl,hz⟩ hl)
 clear h hb0
 go_enter Tryz.func169,Tryz.ntmps169
 go_wp2_with fail
 refine (uH C).mono ?_
 rintro e w1 ⟨rfl,hh⟩
 have HH:=aA hh
 clear hh C
 go_wp2
 go_end0
 exact ⟨rfl,uH HH⟩
theorem HSt.more {K:List P4} {F:List Fr3} {w0 w:World} {bm bk g:Nat} {l:List SE} (h:HSt K F w0 bm bk g w l) {v:Value} (hb:Blk w g #[v,aBl bk] 205) (f:Fr3) (h2:FrB bm g f w) (hv:some f.1≠v.ownBlock):HSt K (f::F) w0 bm bk g w l:=by
 obtain ⟨⟨v0,h1,o1,hF⟩,h3,h4,h5,h6,h7,h8⟩:=h
 have e:=h1.symm.trans hb
 simp at e
 subst e
 exact ⟨⟨v0,h1,o1,fun k hk=>by rcases List.mem_cons.1 hk with rfl | hk;exact hv;exact hF k hk⟩,h3,h4,h5,h6,h7,fun k hk=>by rcases List.mem_cons.1 hk with rfl | hk;exact h2;exact h8 k hk⟩
theorem HSt.less {K:List P4} {f:Fr3} {F:List Fr3} {w0 w:World} {bm bk g:Nat} {l:List SE} (h:HSt K (f::F) w0 bm bk g w l):HSt K F w0 bm bk g w l:=by
 obtain ⟨⟨v0,h1,o1,hF⟩,h3,h4,h5,h6,h7,h8⟩:=h
 exact ⟨⟨v0,h1,o1,fun k hk=>hF k (List.mem_cons_of_mem _ hk)⟩,h3,h4,h5,h6,h7,fun k hk=>h8 k (List.mem_cons_of_mem _ hk)⟩
theorem HSt.write {K:List P4} {f:Fr3} {F:List Fr3} {w0 w:World} {bm bk g:Nat} {l:List SE} (h:HSt K (f::F) w0 bm bk g w l) (hk:f.1≠bk) (h0:w0.heap.size≤f.1) (hd:∀k ∈ F,k.1≠f.1) (j:Nat) (x:Value):HSt K ((f.1,f.2.1.setIfInBounds j x,f.2.2)::F) w0 bm bk g (w.setCell ⟨f.1,j,none⟩ x) l:=by
 obtain ⟨⟨v0,h1,o1,hF⟩,h3,h4,h5,h6,h7,h8⟩:=h
 have hf:=h8 f (List.mem_cons_self ..)
 have hv:=hF f (List.mem_cons_self ..)
 refine ⟨⟨v0,h1.other _ _ _ (fun e=>hf.2.2 e.symm),o1.kept (cZ (aC w (some f.1)) j x) (.inr (fun e=>hv e.symm)),?_⟩,h3.other _ _ _ (fun e=>hk e.symm),h4.grown (cZ (aC w (some f.1)) j x) (by simp;exact fun e=>hf.2.1 e.symm),h5,h6,yC h7 _ _ _ h0,?_⟩
 ·intro k hk'
  rcases List.mem_cons.1 hk' with rfl | hk'
  ·exact hv
  ·exact hF k (List.mem_cons_of_mem _ hk')
 ·intro k hk'
  rcases List.mem_cons.1 hk' with rfl | hk'
  ·exact ⟨hf.1.set j x,hf.2⟩
  ·have:=h8 k (List.mem_cons_of_mem _ hk')
   exact ⟨this.1.other _ _ _ (hd k hk'),this.2⟩
theorem aHg (K:List P4) (w:World):Calls Tryz.prog 167 #[] w fun e w'=>e=.returned (aBl (w.heap.size+1))∧Blk w' (w.heap.size+1) #[.map (some w.heap.size)] 222∧dP K w.heap.size w'∧Below w.heap.size w w'∧w'.heap.size=w.heap.size+2:=by
 have hmm:=@run_makeMap Tryz.prog
 have hmf:∀(fn:Fn) (first cap:Array Value) (w:World),(Instr.makeFunc fn first cap).run Tryz.prog w=.ok (.func fn first cap) w:=fun _ _ _ _=>rfl
 go_enter Tryz.func167,Tryz.ntmps167
 go_wp2
 go_ret
 refine ⟨rfl,?_,aEP K ?_,yA (yA (yH _ _) _) _,by simp⟩
 ·have:=yD (w.alloc (Obj.map #[] 0)) #[Value.map (some w.heap.size)] 222
  rw [yE] at this
  exact this
 ·have:=(World.ownsMap_made w Tryz.prog 192 mX).alloc (.cells #[.map (some w.heap.size)] 222)
  exact this
theorem aAy (K:List P4) (F:List Fr3) (hK:K.length≤1000000000) (KW:∀p ∈ K,Wf4 p.1 p.2.1 p.2.2.1 p.2.2.2) (w0:World) (bm bk g:Nat) (w:World) (l:List SE) (h:HI K F w0 bm bk g w l) (h0:0<l.length) (hw0:w0.heap.size≤w.heap.size) :
  Calls Tryz.prog 172 #[.pointer (some ⟨g,0,none⟩)] w fun e w'=>e=.returned (stv (HeapM.at' seD (HeapM.popL seD gK l) (l.length - 1)))∧HI K F w0 bm bk g w' ((HeapM.popL seD gK l).take (l.length - 1)):=by
 obtain ⟨v,b1,hown,_⟩:=h.1.1
 have hgl:=b1.lt
 have h5:=h.1.2.2.2.1
 have hb0:=yA (yH _ w) (.cells #[.string ⟨#[]⟩,.int .i64 0,.int .i64 0,.int .i64 0,.int .i64 0] 209)
 have hM:HI K ((w.heap.size,#[.string ⟨#[]⟩,.int .i64 0,.int .i64 0,.int .i64 0,.int .i64 0],209)::F) w0 bm bk g _ l:=⟨(h.1.below hb0).more (b1.below hb0) (w.heap.size,#[.string ⟨#[]⟩,.int .i64 0,.int .i64 0,.int .i64 0,.int .i64 0],209) ⟨yD _ _ _,by show w.heap.size≠bm;omega,by show w.heap.size≠g;omega⟩ (fun e=>by have:=(hown.lt w.heap.size e.symm).2;omega),h.2⟩
 have C:=aA (aKI (aKt K _ hK KW w0 bm bk g) l _ hM h0 h.2)
 have HD:=aA (show ∀k ∈ F,k.1≠w.heap.size from fun k hk=>by have:=(h.1.2.2.2.2.2.2 k hk).1.lt;omega)
 obtain ⟨R,hR⟩:∃R,(HeapM.popL seD gK l).take (l.length - 1)=R:=⟨_,rfl⟩
 obtain ⟨⟨n1,p1,p2,p3,p4⟩,hs1⟩:∃s,HeapM.at' seD (HeapM.popL seD gK l) (l.length - 1)=s:=⟨_,rfl⟩
 rw [hR,hs1] at C ⊢
 have hbk:w.heap.size≠bk:=by omega
 clear h b1 hown hb0 hM hR hs1
 have hta:=aIX (n1,p1,p2,p3,p4)
 go_enter Tryz.func172,Tryz.ntmps172
 go_wp2_with fail
 refine (uH C).mono ?_
 rintro e w1 ⟨⟨v1,rfl,rfl,_⟩,hh⟩
 have q1:=hh.1.write hbk hw0 (uH HD) 0 (.string (bs n1))
 have q2:=q1.write hbk hw0 (uH HD) 1 (.int .i64 p1)
 have q3:=q2.write hbk hw0 (uH HD) 2 (.int .i64 p2)
 have q4:=q3.write hbk hw0 (uH HD) 3 (.int .i64 p3)
 have q5:=q4.write hbk hw0 (uH HD) 4 (.int .i64 p4)
 have bw:=(hh.1.2.2.2.2.2.2 _ (List.mem_cons_self ..)).1
 obtain ⟨c0,c1,c2,c3,c4⟩:=zp bw
 have f0:=bw.f 0;have f1:=bw.f 1;have f2:=bw.f 2;have f3:=bw.f 3;have f4:=bw.f 4
 have bz:=(q5.2.2.2.2.2.2 _ (List.mem_cons_self ..)).1
 obtain ⟨z0,z1,z2,z3,z4⟩:=zp bz
 have HQ:=aA (show HI K F w0 bm bk g _ R from ⟨q5.less,hh.2⟩)
 simp only at HQ f0 f1 f2 f3 f4
 clear hh q1 q2 q3 q4 q5 bw bz C
 go_wp2
 refine bodyPost_ret (v:=stv (n1,p1,p2,p3,p4)) (by simp [results,Tryz.results172,go_sem,z0,z1,z2,z3,z4]) rfl ⟨rfl,uH HQ⟩
end
section
open Go.RowKit Go.Shelf
def KpA (W W':World):Prop:=∀(k:Nat) (o:Obj),W.heap[k]? = some o→o.isCells=true→W'.heap[k]? = some o
theorem aJT {A B C:World} (h:KpA A B) (k:KpA B C):KpA A C:=fun i o ho hc=>k i o (h i o ho hc) hc
theorem aLN {w:World} (W:World) (l:Nat) (o o':Obj) (hl:w.heap.size≤l) (h:W.heap[l]? = some o) (h1:o.isCells=false) (h2:o.isWalk=false):KpA W (W.putObj l o'):=fun k q hq hc=>by
 have hne:k≠l:=fun e=>by
  subst e
  rw [hq] at h
  cases h
  rw [h1] at hc
  cases hc
 exact ((grownBy_putObj' W l o').block k (lt_of_block hq) (by simp;omega)).trans hq
theorem qW {W W':World} (h:Below W.heap.size W W'):KpA W W':=fun k o ho _=>(h.block k (lt_of_block ho)).trans ho
theorem aGY {W:World} {b j:Nat} {v:Value} (hc:W.cell? ⟨b,j,none⟩=some v):∃o,W.heap[b]? = some o∧o.isCells=true:=by
 cases h:W.heap[b]? with
 | none=>simp [World.cell?,h] at hc
 | some o=>
  refine ⟨o,rfl,?_⟩
  cases o<;>simp [World.cell?,h] at hc<;>rfl
theorem KpA.cell {W W':World} (h:KpA W W') {b j:Nat} {v:Value} (hc:W.cell? ⟨b,j,none⟩=some v):W'.cell? ⟨b,j,none⟩=some v:=by
 obtain ⟨o,h1,h2⟩:=aGY hc
 have h3:=h b o h1 h2
 unfold World.cell? at hc ⊢
 rw [h1] at hc
 rw [h3]
 exact hc
theorem uE {w w':World} (hb:Below w.heap.size w w'):KeepsOthers w w':=KeepsOthers.of_grownBy (row:=none) (aG (aC w none) hb) (fun j o e=>by cases e)
end
section
open Go.ChangeShapes Go.WideShapes Go.ChangeAt Go.RowKit
def jJ (q:Ask) (nm:List UInt8):Bool:=decide (q.node=[])||(decide (q.node=nm)||decide (3≤q.missed))
theorem qZ (q:Ask) (nm:List UInt8) (w:World) :
  Calls Tryz.prog 85 #[aDU q,.string (bs nm)] w fun e w'=>e=.returned (.bool (jJ q nm))∧Below w.heap.size w w':=by
 obtain ⟨x0,x1,x2,nd,x4⟩:=q
 have hbe:=nS nd nm
 have hbz:=nA nd
 simp only [jJ]
 by_cases h1:nd=[]<;>by_cases h2:nd=nm<;>by_cases h3:3≤x4
 all_goals
  first | rw [decide_eq_true h1] at hbz ⊢ | rw [decide_eq_false h1] at hbz ⊢
  first | rw [decide_eq_true h2] at hbe ⊢ | rw [decide_eq_false h2] at hbe ⊢
  first | rw [decide_eq_true h3] | rw [decide_eq_false h3]
  clear h1 h2
  go_enter Tryz.func85,Tryz.ntmps85
  go_wp2
  go_ret
  refine ⟨rfl,?_⟩
  repeat (first | exact yH _ _ | refine yA ?_ _ | refine Below.drew ?_ | refine yC ?_ _ _ _ (by omega))
theorem qE (q:Ask) (nm:List UInt8) (w:World) :
  Calls Tryz.prog 43 #[aDU q,.string (bs nm)] w fun e w'=>e=.returned (.bool (jJ q nm))∧Below w.heap.size w w':=by
 obtain ⟨x0,x1,x2,nd,x4⟩:=q
 have hbe:=nS nd nm
 have hbz:=nA nd
 simp only [jJ]
 by_cases h1:nd=[]<;>by_cases h2:nd=nm<;>by_cases h3:3≤x4
 all_goals
  first | rw [decide_eq_true h1] at hbz ⊢ | rw [decide_eq_false h1] at hbz ⊢
  first | rw [decide_eq_true h2] at hbe ⊢ | rw [decide_eq_false h2] at hbe ⊢
  first | rw [decide_eq_true h3] | rw [decide_eq_false h3]
  clear h1 h2
  go_enter Tryz.func43,Tryz.ntmps43
  go_wp2
  go_ret
  refine ⟨rfl,?_⟩
  repeat (first | exact yH _ _ | refine yA ?_ _ | refine Below.drew ?_ | refine yC ?_ _ _ _ (by omega))
end
section
open Go.RowKit Go.Shelf
attribute [local go_sem] Oper.semAt_some
abbrev aGf:={ m:Mac // m.name.length≤1048576 }
theorem bE.kpa {W W':World} {ao:Option Addr} {len:Nat} {l:List Mac} (h:bE W ao len l) (k:KpA W W'):bE W' ao len l:=by
 obtain ⟨h1,h2⟩:=h
 refine ⟨h1,?_⟩
 rcases h2 with h2 | ⟨b,off,h3,h4⟩
 ·exact .inl h2
 ·exact .inr ⟨b,off,h3,fun i hi=>let ⟨a,b,c,d⟩:=h4 i hi;⟨k.cell a,k.cell b,k.cell c,k.cell d⟩⟩
theorem aG1 (n l Bs len cap:Nat) (ao:Option Addr) (ms:List Mac) (J Jx:List (Int×aGf)→World→Prop)
  (hY:∀pre x W1,J pre W1→pre.length<ms.length→YieldAt Fence.wide (n - 1) Tryz.prog l #[.int .i64 x.1,aBk x.2.1] W1 fun e W'=>
   (e=.returned (.bool true)∧J (pre++[x]) W'∧KpA W1 W')∨(e=.returned (.bool false)∧Jx (pre++[x]) W'))
  (W:World) (hBs:W.cell? ⟨Bs,0,none⟩=some (.slice ao len cap)) (hg:bE W ao len ms) (hl:len≤1048576) (hN:∀m ∈ ms,m.name.length≤1048576) (h0:J [] W) :
  CallsIn Fence.wide n Tryz.prog 157 #[.func (.yield l) #[] #[],.pointer (some ⟨Bs,0,none⟩)] W fun e W'=>(∃v,e=.returned v)∧
   ((∃ys:List (Int×aGf),Hid (ys.map (fun x:Int×aGf=>x.2.1)=ms.reverse)∧J ys W')∨(∃pre,Jx pre W')):=by
 have HY:=aA hY
 have HBs:=aA hBs
 have HG:=aA hg
 have HLEN:=aA hg.1
 have H0:=aA h0
 have HNN:=aA hN
 clear hY hg h0 hN
 refine callsIn_of_wp Tryz.func157 rfl trivial ?_ rfl
 simp only [Tryz.ntmps157,List.size_toArray,List.length_cons,List.length_nil,Nat.reduceAdd,Nat.reduceSub,Array.replicate_succ,Array.replicate_zero,List.push_toArray,List.append_toArray,List.nil_append,List.cons_append]
 gi_wp2
 clear hBs
 gi_loopw [3] (fun i wr=>∃(k:Nat) (pre:List (Int×aGf)),k≤len∧i=.int .i64 ((k:Int) - 1)∧Hid (pre.length+k=ms.length)∧Hid (pre.map (fun x:Int×aGf=>x.2.1)=(ms.drop k).reverse)∧Hid (J pre wr)∧Hid (wr.cell? ⟨Bs,0,none⟩=some (.slice ao len cap))∧Hid (bE wr ao len ms)) (fun i _=>(intOf i+1).toNat)
 case atStart=>exact ⟨len,[],yJ _,by go_num,aA (by have:=uH HLEN;simp;omega),aA (by rw [List.drop_of_length_le (by have:=uH HLEN;omega)];rfl),H0,HBs,HG⟩
 case round=>
  obtain ⟨k,pre,hk,rfl,HL,HM,HJ,HB,HGr⟩:=hrel
  cases k with
  | zero=>
   gi_wp2
   go_end0
   exact ⟨⟨_,rfl⟩,.inl ⟨pre,aA (by rw [uH HM];rfl),uH HJ⟩⟩
  | succ j=>
   have hj:j<len:=by omega
   obtain ⟨b,off,rfl,hq⟩:=(uH HGr).at hj
   have hjm:j<ms.length:=by have:=uH HLEN;omega
   obtain ⟨c0,c1,c2,c3⟩:=hq hjm
   have hbox:=uH HB
   have hel:=uH HNN ms[j] (yM _)
   obtain ⟨fn,tmps,assign,body,hy,hR⟩:=uH HY pre ((j:Int),⟨ms[j],hel⟩) wr (uH HJ) (by have:=uH HL;omega)
   have HRR:=aA hR
   have HM2:=aA (show (pre++[((j:Int),(⟨ms[j],hel⟩:aGf))]).map (fun x:Int×aGf=>x.2.1)=(ms.drop j).reverse by rw [List.map_append,uH HM,List.drop_eq_getElem_cons hjm,List.reverse_cons];rfl)
   have hij:((j+1:Nat):Int) - 1=(j:Int):=by omega
   obtain ⟨y,hyy⟩:∃y:aGf,(⟨ms[j],hel⟩:aGf)=y:=⟨_,rfl⟩
   have hy1:ms[j]=y.1:=by rw [←hyy]
   rw [hyy] at hy HRR HM2
   rw [hy1] at c0 c1 c2 c3
   obtain ⟨⟨nm,me,cp,se⟩,hyn⟩:=y
   simp only at hy c0 c1 c2 c3
   rw [hij]
   have j0:(0:Int)≤j:=by omega
   have j1:(j:Int)<len:=by omega
   clear hR hyy hy1 hij HM hq hjm hel
   gi_wp2
   refine ⟨(by intro e;cases e),?_⟩
   refine (uH HRR).mono ?_
   rintro e W3 (⟨rfl,hJ3,hk3⟩ | ⟨rfl,hJx3⟩)
   ·have HB3:=aA (hk3.cell (uH HB))
    have HG3:=aA ((uH HGr).kpa hk3)
    have HJ3:=aA hJ3
    clear hk3 hJ3 hbox hy HRR c0 c1 c2 c3
    gi_wp2
    go_roundw
    case rel=>exact ⟨j,pre++[((j:Int),⟨⟨nm,me,cp,se⟩,hyn⟩)],by omega,by go_num,aA (by have:=uH HL;simp;omega),HM2,HJ3,HB3,HG3⟩
    case measure=>simp [intOf]
   ·gi_wp2
    refine bodyPost_ret (results_none rfl _ _ _) rfl ?_
    exact ⟨⟨_,rfl⟩,.inr ⟨_,hJx3⟩⟩
theorem aE4 (n Bs len cap:Nat) (ao:Option Addr) (ms:List Mac) (w:World) (hBs:w.cell? ⟨Bs,0,none⟩=some (.slice ao len cap)) (hrow:bE w ao len ms) (hl:len≤1048576) (hN:∀m ∈ ms,m.name.length≤1048576) :
  SeqStopsK Fence.wide n Tryz.prog 157 #[.pointer (some ⟨Bs,0,none⟩)] (fun x:Int×aGf=>#[.int .i64 x.1,aBk x.2.1]) KpA (fun ys=>Hid (ys.map (fun x:Int×aGf=>x.2.1)=ms.reverse)) (fun _=>True) ms.length w:=by
 intro l J Jx W hW hJ hJx hY h0
 refine (aG1 n l Bs len cap ao ms J Jx hY W ((hW.cell (yG hBs)).trans hBs) (hrow.below hW) hl hN h0).mono ?_
 rintro e W' ⟨he,⟨ys,h1,h2⟩ | ⟨pre,h2⟩⟩
 ·exact ⟨he,.inl ⟨ys,h1,h2⟩⟩
 ·exact ⟨he,.inr ⟨pre,trivial,h2⟩⟩
theorem aIU (v:Value) (w:World) (hv:v.oneCell'=true) :
  Calls Tryz.prog 126 #[v] w fun e w'=>e=.returned (.func (.func 157) #[] #[.pointer (some ⟨w.heap.size,0,none⟩)])∧w.alloc (.cells #[v] 31)=w':=by
 have hmf:∀(fn:Fn) (first cap:Array Value) (w:World),(Instr.makeFunc fn first cap).run Tryz.prog w=.ok (.func fn first cap) w:=fun _ _ _ _=>rfl
 go_enter Tryz.func126,Tryz.ntmps126
 go_wp2
 go_ret
 exact ⟨rfl,rfl⟩
theorem aGD (m:Mac) (w:World) :
  Calls Tryz.prog 127 #[aBk m] w fun e w'=>e=.returned (.agg #[.string (bs m.name),.int .i64 0])∧Below w.heap.size w w':=by
 obtain ⟨nm,me,cp,se⟩:=m
 go_enter Tryz.func127,Tryz.ntmps127
 go_wp2
 refine bodyPost_ret (v:=.agg #[.string (bs nm),.int .i64 0]) (by simp [results,Tryz.results127,go_sem]) rfl ⟨rfl,?_⟩
 repeat (first | exact yH _ _ | refine yA ?_ _ | refine Below.drew ?_ | refine yC ?_ _ _ _ (by omega))
end
section
open Go.RowKit
def aJh (w0:World) (n:Nat) (L:List (Nat×Array Value×TypeId)) (wx:World):Prop:=
 (∀p ∈ L,p.1<n∧Blk wx p.1 p.2.1 p.2.2)∧n≤wx.heap.size∧w0.heap.size≤n∧Below w0.heap.size w0 wx
theorem aGO (w0:World) (n:Nat) (L:List (Nat×Array Value×TypeId)):aDT (aJh w0 n L) w0 n where
 call:=fun h hb=>⟨fun p hp=>⟨(h.1 p hp).1,(h.1 p hp).2.below hb⟩,Nat.le_trans h.2.1 hb.size,h.2.2.1,yB h.2.2.2 hb⟩
 set:=fun k j v h hk=>⟨fun p hp=>⟨(h.1 p hp).1,(h.1 p hp).2.other k j v (by have:=(h.1 p hp).1;omega)⟩,by rw [bG];exact h.2.1,h.2.2.1,yC h.2.2.2 _ _ _ (Nat.le_trans h.2.2.1 hk)⟩
 size:=fun h=>h.2.1
 below:=fun h=>h.2.2.2
theorem aJh.blk {w0:World} {n:Nat} {L:List (Nat×Array Value×TypeId)} {wx:World} (h:aJh w0 n L wx) {p:Nat×Array Value×TypeId} (hp:p ∈ L):Blk wx p.1 p.2.1 p.2.2:=(h.1 p hp).2
theorem Var.blk {w:World} {t:TypeId} {g:Nat} {x y:Int} (h:Var w t g x y):Blk w g #[.int .i64 x,.int .i64 y] t:=h
theorem Blk.var {w:World} {t:TypeId} {g:Nat} {x y:Int} (h:Blk w g #[.int .i64 x,.int .i64 y] t):Var w t g x y:=h
abbrev aLC (q:Mac):List Value:=[.string (bs q.name),.int .i64 q.mem,.int .i64 q.cpu,.int .i64 q.seen]
def fU:List Mac→List Value
 | []=>[]
 | q::t=>aLC q++fU t
theorem jX:∀l:List Mac,(fU l).length=l.length*4
 | []=>rfl
 | q::t=>by rw [fU,List.length_append,jX t];simp;omega
theorem wN:∀(l:List Mac) (i:Nat) (h:i<l.length),(fU l)[i*4]? = some (.string (bs l[i].name))∧(fU l)[i*4+1]? = some (.int .i64 l[i].mem)∧(fU l)[i*4+2]? = some (.int .i64 l[i].cpu)∧(fU l)[i*4+3]? = some (.int .i64 l[i].seen)
 | q::t,0,_=>⟨rfl,rfl,rfl,rfl⟩
 | q::t,i+1,h=>by
  have e:=wN t i (by simpa using h)
  have k:∀j,(fU (q::t))[(i+1)*4+j]? = (fU t)[i*4+j]?:=fun j=>by
   rw [fU,show (i+1)*4+j=(aLC q).length+(i*4+j) by simp;omega,List.getElem?_append_right (by omega)]
   congr 1
   omega
  have k0:=k 0
  simp only [Nat.add_zero] at k0
  rw [k0,k 1,k 2,k 3]
  simpa using e
theorem aA1 {w:World} {b off len:Nat} {l:List Mac} (h:bE w (some ⟨b,off,none⟩) len l):∀j u,(fU l)[j]? = some u→w.cell? ⟨b,off+j,none⟩=some u:=fun j u hj=>by
 have hjl:j<l.length*4:=by rw [←jX];exact (List.getElem?_eq_some_iff.1 hj).1
 obtain ⟨h1,h2⟩:=h
 rcases h2 with h2 | ⟨b',off',e,h4⟩
 ·omega
 ·cases e
  have hi:j / 4<l.length:=by omega
  obtain ⟨a0,a1,a2,a3⟩:=wN l (j / 4) hi
  obtain ⟨c0,c1,c2,c3⟩:=h4 (j / 4) hi
  rcases (show j % 4=0∨j % 4=1∨j % 4=2∨j % 4=3 by omega) with e | e | e | e
  ·rw [show j=j / 4*4 by omega] at hj ⊢;rw [a0] at hj;cases hj;exact c0
  ·rw [show j=j / 4*4+1 by omega] at hj ⊢;rw [a1] at hj;cases hj;rw [←Nat.add_assoc];exact c1
  ·rw [show j=j / 4*4+2 by omega] at hj ⊢;rw [a2] at hj;cases hj;rw [←Nat.add_assoc];exact c2
  ·rw [show j=j / 4*4+3 by omega] at hj ⊢;rw [a3] at hj;cases hj;rw [←Nat.add_assoc];exact c3
theorem sD:∀(l:List Mac),∀u ∈ fU l,u.oneCell'=true
 | [],u,h=>by simp [fU] at h
 | q::t,u,h=>by
  rw [fU,List.mem_append] at h
  rcases h with h | h
  ·simp at h
   rcases h with rfl | rfl | rfl | rfl<;>rfl
  ·exact sD t u h
def aIh (B:Nat) (w:World) (v:Value) (l:List Mac):Prop:=w.ownsRow B 104 4 v l.length (fU l)
theorem aJL (B:Nat) (w:World):aIh B w (.slice none 0 0) []:=World.ownsRow_nil _ _ _ _
theorem aA0 (w:World):w.alloc (.cells #[] 104) |>.ownsRow w.heap.size 104 4 (.slice (some ⟨w.heap.size,0,none⟩) 0 0) 0 []:=
 ⟨rfl,.inr ⟨w.heap.size,0,#[],rfl,yJ _,by show (w.heap.push _)[w.heap.size]? = _;simp,yJ _,by unfold maxLen;omega,rfl,rfl⟩⟩
theorem wM {w:World} {B B':Nat} {v:Value} {l:List Mac} (h:aIh B w v l) (hb:B'≤B):aIh B' w v l:=by
 obtain ⟨h1,h2⟩:=h
 refine ⟨h1,?_⟩
 rcases h2 with h2 | ⟨g,cap,cur,a,b,c⟩
 ·exact .inl h2
 ·exact .inr ⟨g,cap,cur,a,Nat.le_trans hb b,c⟩
theorem aJK {w:World} {B:Nat} {v:Value} {l:List Mac} (h:aIh B w v l):∃ao cap,v=.slice ao l.length cap∧bE w ao l.length l∧l.length≤cap∧(l≠[]→∃g cur,ao=some ⟨g,0,none⟩∧B≤g∧w.heap[g]? = some (.cells cur 104 (0,0))∧cur.size=cap*4):=by
 rcases h.2 with ⟨rfl,h0⟩ | ⟨g,cap,cur,rfl,h1,h2,h3,h4,h5,h6⟩
 ·exact ⟨none,0,by rw [h0],⟨rfl,.inl h0⟩,by omega,fun hn=>absurd (List.length_eq_zero_iff.1 h0) hn⟩
 ·refine ⟨some ⟨g,0,none⟩,cap,rfl,⟨rfl,.inr ⟨g,0,rfl,fun i hi=>?_⟩⟩,h3,fun _=>⟨g,cur,rfl,h1,h2,h5⟩⟩
  obtain ⟨a,b,c,d⟩:=wN l i hi
  have k:∀j (v:Value),j<l.length*4→(fU l)[j]? = some v→w.cell? ⟨g,j,none⟩=some v:=fun j v hj hv=>by
   rw [←h6,List.getElem?_take_of_lt hj] at hv
   simp [World.cell?,h2]
   simpa using hv
  unfold oO
  rw [Nat.zero_add]
  exact ⟨k _ _ (by omega) a,k _ _ (by omega) b,k _ _ (by omega) c,k _ _ (by omega) d⟩
theorem Tryz.infoMachine:(Tryz.prog.info? 104).map (fun i=>(i.zero,i.size,i.bytes))=some (some (.agg #[.string ByteArray.empty,.int .i64 0,.int .i64 0,.int .i64 0]),4,40):=by kernel_rfl
theorem vB (ao:Option Addr) (len cap:Nat) (l:List Mac) (w:World) (h:bE w ao len l) (hl:len≤1048576) :
  Calls Tryz.prog 66 #[.slice ao len cap] w fun e w'=>∃v,e=.returned v∧aIh w.heap.size w' v l∧Below w.heap.size w w':=by
 obtain ⟨i0,hi,hz0,hz1,hz2⟩:=info_parts Tryz.infoMachine
 cases ao with
 | none=>
  have hn:len=0:=by rcases h.2 with h | ⟨b,off,e,_⟩;exact h;cases e
  subst hn
  have hl0:l=[]:=List.length_eq_zero_iff.1 h.1.symm
  subst hl0
  have hnl:∀wx,(binOp .eql 31 (.slice none 0 cap) (.slice none 0 0)).run Tryz.prog wx=.ok (.bool true) wx:=fun wx=>Lib.run_eql_slice_nil wx _ _ none 0 cap 0 0 Tryz.underlying31
  clear h hl
  go_enter Tryz.func66,Tryz.ntmps66
  go_wp2
  go_ret
  exact ⟨_,rfl,aJL _ _,yH _ _⟩
 | some ad=>
  have hnew:∀j u,(fU l)[j]? = some u→(w.alloc (.cells #[] 104)).cell? (ad.add j)=some u:=fun j u hj=>by
   have hjl:j<l.length*4:=by rw [←jX];exact (List.getElem?_eq_some_iff.1 hj).1
   rcases h.2 with h0 | ⟨b,off,e,_⟩
   ·have:=h.1;omega
   ·cases e
    have:=aA1 (h.below (yA (yH _ w) (.cells #[] 104))) j u hj
    rw [Lib.add_plain]
    exact this
  have HNW:=aA hnew
  have HLN:=aA h.1
  have hown:=aA0 w
  have hll:(fU l).length=len*4:=by rw [jX,h.1]
  have hone:=sD l
  have hnl:∀wx,(binOp .eql 31 (.slice (some ad) len cap) (.slice none 0 0)).run Tryz.prog wx=.ok (.bool false) wx:=fun wx=>Lib.run_eql_slice_nil wx _ _ (some ad) len cap 0 0 Tryz.underlying31
  clear h hnew
  go_enter Tryz.func66,Tryz.ntmps66
  go_wp2_with (at_builtin;refine wpList_append_own _ rfl _ _ 31 rfl w.heap.size 104 i0 (.agg #[.string ByteArray.empty,.int .i64 0,.int .i64 0,.int .i64 0]) 4 40 Tryz.underlying31 hi hz0 hz1 hz2 rfl (by decide) _ _ _ rfl hown ad len cap (fU l) rfl hll (uH HNW) hone ?c3 ?c4 ?c5 ?_)
  case c3=>unfold maxLen;omega
  case c4=>omega
  case c5=>simp
  intro v' w3 hown' hgrow _
  have HO:=aA (show aIh w.heap.size w3 v' l by
   unfold aIh
   rw [←uH HLN]
   simpa using hown')
  have HB:=aA (show Below w.heap.size w w3 from (yA (yH _ w) (.cells #[] 104)).grown hgrow (by simp) (fun k e=>by simp [Value.ownBlock] at e;omega))
  clear hown' hgrow hown hone hll
  go_wp2
  go_ret
  exact ⟨_,rfl,uH HO,uH HB⟩
abbrev fG (q:Con):List Value:=[.int .i64 q.id,.int .i64 q.app,.string (bs q.node),.int .i64 q.mem,.int .i64 q.cpu]
def aD:List Con→List Value
 | []=>[]
 | q::t=>fG q++aD t
theorem bP:∀l:List Con,(aD l).length=l.length*5
 | []=>rfl
 | q::t=>by rw [aD,List.length_append,bP t];simp;omega
theorem nR:∀(l:List Con) (i:Nat) (h:i<l.length),(aD l)[i*5]? = some (.int .i64 l[i].id)∧(aD l)[i*5+1]? = some (.int .i64 l[i].app)∧(aD l)[i*5+2]? = some (.string (bs l[i].node))∧(aD l)[i*5+3]? = some (.int .i64 l[i].mem)∧(aD l)[i*5+4]? = some (.int .i64 l[i].cpu)
 | q::t,0,_=>⟨rfl,rfl,rfl,rfl,rfl⟩
 | q::t,i+1,h=>by
  have e:=nR t i (by simpa using h)
  have k:∀j,(aD (q::t))[(i+1)*5+j]? = (aD t)[i*5+j]?:=fun j=>by
   rw [aD,show (i+1)*5+j=(fG q).length+(i*5+j) by simp;omega,List.getElem?_append_right (by omega)]
   congr 1
   omega
  have k0:=k 0
  simp only [Nat.add_zero] at k0
  rw [k0,k 1,k 2,k 3,k 4]
  simpa using e
theorem fQ {w:World} {b off len:Nat} {l:List Con} (h:bC w (some ⟨b,off,none⟩) len l):∀j u,(aD l)[j]? = some u→w.cell? ⟨b,off+j,none⟩=some u:=fun j u hj=>by
 have hjl:j<l.length*5:=by rw [←bP];exact (List.getElem?_eq_some_iff.1 hj).1
 obtain ⟨h1,h2⟩:=h
 rcases h2 with h2 | ⟨b',off',e,h4⟩
 ·omega
 ·cases e
  have hi:j / 5<l.length:=by omega
  obtain ⟨a0,a1,a2,a3,a4⟩:=nR l (j / 5) hi
  obtain ⟨c0,c1,c2,c3,c4⟩:=h4 (j / 5) hi
  rcases (show j % 5=0∨j % 5=1∨j % 5=2∨j % 5=3∨j % 5=4 by omega) with e | e | e | e | e
  ·rw [show j=j / 5*5 by omega] at hj ⊢;rw [a0] at hj;cases hj;exact c0
  ·rw [show j=j / 5*5+1 by omega] at hj ⊢;rw [a1] at hj;cases hj;rw [←Nat.add_assoc];exact c1
  ·rw [show j=j / 5*5+2 by omega] at hj ⊢;rw [a2] at hj;cases hj;rw [←Nat.add_assoc];exact c2
  ·rw [show j=j / 5*5+3 by omega] at hj ⊢;rw [a3] at hj;cases hj;rw [←Nat.add_assoc];exact c3
  ·rw [show j=j / 5*5+4 by omega] at hj ⊢;rw [a4] at hj;cases hj;rw [←Nat.add_assoc];exact c4
theorem dQ:∀(l:List Con),∀u ∈ aD l,u.oneCell'=true
 | [],u,h=>by simp [aD] at h
 | q::t,u,h=>by
  rw [aD,List.mem_append] at h
  rcases h with h | h
  ·simp at h
   rcases h with rfl | rfl | rfl | rfl | rfl<;>rfl
  ·exact dQ t u h
def aGh (B:Nat) (w:World) (v:Value) (l:List Con):Prop:=w.ownsRow B 38 5 v l.length (aD l)
theorem aJ5 (B:Nat) (w:World):aGh B w (.slice none 0 0) []:=World.ownsRow_nil _ _ _ _
theorem aAf (w:World):w.alloc (.cells #[] 38) |>.ownsRow w.heap.size 38 5 (.slice (some ⟨w.heap.size,0,none⟩) 0 0) 0 []:=
 ⟨rfl,.inr ⟨w.heap.size,0,#[],rfl,yJ _,by show (w.heap.push _)[w.heap.size]? = _;simp,yJ _,by unfold maxLen;omega,rfl,rfl⟩⟩
theorem aIG {w:World} {B B':Nat} {v:Value} {l:List Con} (h:aGh B w v l) (hb:B'≤B):aGh B' w v l:=by
 obtain ⟨h1,h2⟩:=h
 refine ⟨h1,?_⟩
 rcases h2 with h2 | ⟨g,cap,cur,a,b,c⟩
 ·exact .inl h2
 ·exact .inr ⟨g,cap,cur,a,Nat.le_trans hb b,c⟩
theorem aJ4 {w:World} {B:Nat} {v:Value} {l:List Con} (h:aGh B w v l):∃ao cap,v=.slice ao l.length cap∧bC w ao l.length l∧l.length≤cap∧(l≠[]→∃g cur,ao=some ⟨g,0,none⟩∧B≤g∧w.heap[g]? = some (.cells cur 38 (0,0))∧cur.size=cap*5):=by
 rcases h.2 with ⟨rfl,h0⟩ | ⟨g,cap,cur,rfl,h1,h2,h3,h4,h5,h6⟩
 ·exact ⟨none,0,by rw [h0],⟨rfl,.inl h0⟩,by omega,fun hn=>absurd (List.length_eq_zero_iff.1 h0) hn⟩
 ·refine ⟨some ⟨g,0,none⟩,cap,rfl,⟨rfl,.inr ⟨g,0,rfl,fun i hi=>?_⟩⟩,h3,fun _=>⟨g,cur,rfl,h1,h2,h5⟩⟩
  obtain ⟨a,b,c,d,e⟩:=nR l i hi
  have k:∀j (v:Value),j<l.length*5→(aD l)[j]? = some v→w.cell? ⟨g,j,none⟩=some v:=fun j v hj hv=>by
   rw [←h6,List.getElem?_take_of_lt hj] at hv
   simp [World.cell?,h2]
   simpa using hv
  unfold oP
  rw [Nat.zero_add]
  exact ⟨k _ _ (by omega) a,k _ _ (by omega) b,k _ _ (by omega) c,k _ _ (by omega) d,k _ _ (by omega) e⟩
theorem Tryz.infoCont:(Tryz.prog.info? 38).map (fun i=>(i.zero,i.size,i.bytes))=some (some (.agg #[.int .i64 0,.int .i64 0,.string ByteArray.empty,.int .i64 0,.int .i64 0]),5,48):=by kernel_rfl
theorem aBd (ao:Option Addr) (len cap:Nat) (l:List Con) (w:World) (h:bC w ao len l) (hl:len≤1048576) :
  Calls Tryz.prog 104 #[.slice ao len cap] w fun e w'=>∃v,e=.returned v∧aGh w.heap.size w' v l∧Below w.heap.size w w':=by
 obtain ⟨i0,hi,hz0,hz1,hz2⟩:=info_parts Tryz.infoCont
 cases ao with
 | none=>
  have hn:len=0:=by rcases h.2 with h | ⟨b,off,e,_⟩;exact h;cases e
  subst hn
  have hl0:l=[]:=List.length_eq_zero_iff.1 h.1.symm
  subst hl0
  have hnl:∀wx,(binOp .eql 32 (.slice none 0 cap) (.slice none 0 0)).run Tryz.prog wx=.ok (.bool true) wx:=fun wx=>Lib.run_eql_slice_nil wx _ _ none 0 cap 0 0 Tryz.underlying32
  clear h hl
  go_enter Tryz.func104,Tryz.ntmps104
  go_wp2
  go_ret
  exact ⟨_,rfl,aJ5 _ _,yH _ _⟩
 | some ad=>
  have hnew:∀j u,(aD l)[j]? = some u→(w.alloc (.cells #[] 38)).cell? (ad.add j)=some u:=fun j u hj=>by
   have hjl:j<l.length*5:=by rw [←bP];exact (List.getElem?_eq_some_iff.1 hj).1
   rcases h.2 with h0 | ⟨b,off,e,_⟩
   ·have:=h.1;omega
   ·cases e
    have:=fQ (h.below (yA (yH _ w) (.cells #[] 38))) j u hj
    rw [Lib.add_plain]
    exact this
  have HNW:=aA hnew
  have HLN:=aA h.1
  have hown:=aAf w
  have hll:(aD l).length=len*5:=by rw [bP,h.1]
  have hone:=dQ l
  have hnl:∀wx,(binOp .eql 32 (.slice (some ad) len cap) (.slice none 0 0)).run Tryz.prog wx=.ok (.bool false) wx:=fun wx=>Lib.run_eql_slice_nil wx _ _ (some ad) len cap 0 0 Tryz.underlying32
  clear h hnew
  go_enter Tryz.func104,Tryz.ntmps104
  go_wp2_with (at_builtin;refine wpList_append_own _ rfl _ _ 32 rfl w.heap.size 38 i0 (.agg #[.int .i64 0,.int .i64 0,.string ByteArray.empty,.int .i64 0,.int .i64 0]) 5 48 Tryz.underlying32 hi hz0 hz1 hz2 rfl (by decide) _ _ _ rfl hown ad len cap (aD l) rfl hll (uH HNW) hone ?c3 ?c4 ?c5 ?_)
  case c3=>unfold maxLen;omega
  case c4=>omega
  case c5=>simp
  intro v' w3 hown' hgrow _
  have HO:=aA (show aGh w.heap.size w3 v' l by
   unfold aGh
   rw [←uH HLN]
   simpa using hown')
  have HB:=aA (show Below w.heap.size w w3 from (yA (yH _ w) (.cells #[] 38)).grown hgrow (by simp) (fun k e=>by simp [Value.ownBlock] at e;omega))
  clear hown' hgrow hown hone hll
  go_wp2
  go_ret
  exact ⟨_,rfl,uH HO,uH HB⟩
theorem aAJ {w:World} {b off len:Nat} {l:List Q} (h:iG w (some ⟨b,off,none⟩) len l):∀j u,(fT l)[j]? = some u→w.cell? ⟨b,off+j,none⟩=some u:=fun j u hj=>by
 have hjl:j<l.length*4:=by rw [←jU];exact (List.getElem?_eq_some_iff.1 hj).1
 obtain ⟨h1,h2⟩:=h
 rcases h2 with h2 | ⟨b',off',e,h4⟩
 ·omega
 ·cases e
  have hi:j / 4<l.length:=by omega
  obtain ⟨a0,a1,a2,a3⟩:=wC l (j / 4) hi
  obtain ⟨c0,c1,c2,c3⟩:=h4 (j / 4) hi
  rcases (show j % 4=0∨j % 4=1∨j % 4=2∨j % 4=3 by omega) with e | e | e | e
  ·rw [show j=j / 4*4 by omega] at hj ⊢;rw [a0] at hj;cases hj;exact c0
  ·rw [show j=j / 4*4+1 by omega] at hj ⊢;rw [a1] at hj;cases hj;rw [←Nat.add_assoc];exact c1
  ·rw [show j=j / 4*4+2 by omega] at hj ⊢;rw [a2] at hj;cases hj;rw [←Nat.add_assoc];exact c2
  ·rw [show j=j / 4*4+3 by omega] at hj ⊢;rw [a3] at hj;cases hj;rw [←Nat.add_assoc];exact c3
theorem rY:∀(l:List Q),∀u ∈ fT l,u.oneCell'=true
 | [],u,h=>by simp [fT] at h
 | q::t,u,h=>by
  rw [fT,List.mem_append] at h
  rcases h with h | h
  ·simp at h
   rcases h with rfl | rfl | rfl | rfl<;>rfl
  ·exact rY t u h
theorem aHN {w:World} {B B':Nat} {v:Value} {l:List Q} (h:uR B w v l) (hb:B'≤B):uR B' w v l:=by
 obtain ⟨h1,h2⟩:=h
 refine ⟨h1,?_⟩
 rcases h2 with h2 | ⟨g,cap,cur,a,b,c⟩
 ·exact .inl h2
 ·exact .inr ⟨g,cap,cur,a,Nat.le_trans hb b,c⟩
theorem vZ {w:World} {B:Nat} {v:Value} {l:List Q} (h:uR B w v l):∃ao cap,v=.slice ao l.length cap∧iG w ao l.length l∧l.length≤cap∧(l≠[]→∃g cur,ao=some ⟨g,0,none⟩∧B≤g∧w.heap[g]? = some (.cells cur 100 (0,0))∧cur.size=cap*4):=by
 obtain ⟨ao,cap,e,hr,hc⟩:=h.row
 refine ⟨ao,cap,e,hr,hc,fun hn=>?_⟩
 rcases h.2 with ⟨rfl,h0⟩ | ⟨g,cap',cur,rfl,h1,h2,h3,h4,h5,h6⟩
 ·exact absurd (List.length_eq_zero_iff.1 h0) hn
 ·simp only [Value.slice.injEq] at e
  obtain ⟨rfl,_,rfl⟩:=e
  exact ⟨g,cur,rfl,h1,h2,h5⟩
theorem aGX (ao:Option Addr) (len cap:Nat) (l:List Q) (w:World) (h:iG w ao len l) (hl:len≤1048576) :
  Calls Tryz.prog 101 #[.slice ao len cap] w fun e w'=>∃v,e=.returned v∧uR w.heap.size w' v l∧Below w.heap.size w w':=by
 obtain ⟨i0,hi,hz0,hz1,hz2⟩:=info_parts Tryz.infoQ
 cases ao with
 | none=>
  have hn:len=0:=by rcases h.2 with h | ⟨b,off,e,_⟩;exact h;cases e
  subst hn
  have hl0:l=[]:=List.length_eq_zero_iff.1 h.1.symm
  subst hl0
  have hnl:∀wx,(binOp .eql 29 (.slice none 0 cap) (.slice none 0 0)).run Tryz.prog wx=.ok (.bool true) wx:=fun wx=>Lib.run_eql_slice_nil wx _ _ none 0 cap 0 0 Tryz.underlying29
  clear h hl
  go_enter Tryz.func101,Tryz.ntmps101
  go_wp2
  go_ret
  exact ⟨_,rfl,aIu _ _,yH _ _⟩
 | some ad=>
  have hnew:∀j u,(fT l)[j]? = some u→(w.alloc (.cells #[] 100)).cell? (ad.add j)=some u:=fun j u hj=>by
   have hjl:j<l.length*4:=by rw [←jU];exact (List.getElem?_eq_some_iff.1 hj).1
   rcases h.2 with h0 | ⟨b,off,e,_⟩
   ·have:=h.1;omega
   ·cases e
    have:=aAJ (h.below (yA (yH _ w) (.cells #[] 100))) j u hj
    rw [Lib.add_plain]
    exact this
  have HNW:=aA hnew
  have HLN:=aA h.1
  have hown:(w.alloc (.cells #[] 100)).ownsRow w.heap.size 100 4 (.slice (some ⟨w.heap.size,0,none⟩) 0 0) 0 []:=aAI w
  have hll:(fT l).length=len*4:=by rw [jU,h.1]
  have hone:=rY l
  have hnl:∀wx,(binOp .eql 29 (.slice (some ad) len cap) (.slice none 0 0)).run Tryz.prog wx=.ok (.bool false) wx:=fun wx=>Lib.run_eql_slice_nil wx _ _ (some ad) len cap 0 0 Tryz.underlying29
  clear h hnew
  go_enter Tryz.func101,Tryz.ntmps101
  go_wp2_with (at_builtin;refine wpList_append_own _ rfl _ _ 29 rfl w.heap.size 100 i0 (.agg #[.string ByteArray.empty,.string ByteArray.empty,.int .i64 0,.int .i64 0]) 4 48 Tryz.underlying29 hi hz0 hz1 hz2 rfl (by decide) _ _ _ rfl hown ad len cap (fT l) rfl hll (uH HNW) hone ?c3 ?c4 ?c5 ?_)
  case c3=>unfold maxLen;omega
  case c4=>omega
  case c5=>simp
  intro v' w3 hown' hgrow _
  have HO:=aA (show uR w.heap.size w3 v' l by
   unfold uR
   rw [←uH HLN]
   exact hown')
  have HB:=aA (show Below w.heap.size w w3 from (yA (yH _ w) (.cells #[] 100)).grown hgrow (by simp) (fun k e=>by simp [Value.ownBlock] at e;omega))
  clear hown' hgrow hown hone hll
  go_wp2
  go_ret
  exact ⟨_,rfl,uH HO,uH HB⟩
theorem aHF {arr:Array Value} {j:Nat} {x:Value} (h:arr[j]? = some x):arr.setIfInBounds j x=arr:=by
 apply Array.ext
 ·simp
 ·intro i h1 h2
  rw [Array.getElem_setIfInBounds]
  split
  ·rename_i e
   subst e
   rw [Array.getElem?_eq_getElem h2] at h
   exact (Option.some.inj h).symm
  ·rfl
theorem aCE {w:World} {B g n cap j:Nat} {x:Value} {l:List Q} (h:uR B w (.slice (some ⟨g,0,none⟩) n cap) l) (hc:w.cell? ⟨g,j,none⟩=some x):uR B (w.setCell ⟨g,j,none⟩ x) (.slice (some ⟨g,0,none⟩) n cap) l∧B≤g:=by
 obtain ⟨h1,h2⟩:=h
 rcases h2 with ⟨e,_⟩ | ⟨g',cap',cur,e,h3,h4,h5⟩
 ·cases e
 ·cases e
  have hx:cur[j]? = some x:=by simpa [World.cell?,h4] using hc
  refine ⟨⟨h1,.inr ⟨g,cap,cur,rfl,h3,?_,h5⟩⟩,h3⟩
  have:=heap_setCell_same w g j _ _ x h4
  rw [aHF hx] at this
  exact this
theorem uY (ao:Option Addr) (len cap:Nat) (l:List Q) (w:World) (h:iG w ao len l) (hl:len≤1048576) (hn:∀q ∈ l,q.name.length≤1048576∧q.parent.length≤1048576) :
  Calls Tryz.prog 63 #[.slice ao len cap] w fun e w'=>∃v,e=.returned v∧uR w.heap.size w' v l∧Below w.heap.size w w':=by
 have HN:=aA hn
 have CC:=aA (aGX ao len cap l w h hl)
 have hll:=aA h.1
 clear h hn
 go_enter Tryz.func63,Tryz.ntmps63
 go_wp2_with fail
 refine (uH CC).mono ?_
 rintro e w1 ⟨v,rfl,ho,hb⟩
 have HB1:=aA hb
 have HO:=aA ho
 obtain ⟨xo,xc,rfl,_,hxc,hxg⟩:=(vZ ho)
 obtain ⟨n,hnn⟩:∃n,l.length=n:=⟨_,rfl⟩
 have HLN:=aA hnn
 have hn2:n≤1048576:=by have:=uH hll;omega
 rw [hnn] at HO hxc ⊢
 clear ho hb CC hnn hxg
 go_wp2
 go_loopw [9] (fun i wr=>∃(k:Nat),k≤n∧i=.int .i64 k∧Hid (uR w.heap.size wr (.slice xo n xc) l)∧Hid (Below w.heap.size w wr)) (fun i _=>n - (intOf i).toNat)
 case atStart=>exact ⟨0,Nat.zero_le _,rfl,HO,HB1⟩
 case round=>
  obtain ⟨k,hk,rfl,HOr,HBr⟩:=hrel
  by_cases hlt:k<n
  ·have hkl:k<l.length:=by have:=uH HLN;omega
   obtain ⟨xo',xc',e,hrow,_,hg⟩:=(vZ (uH HOr))
   obtain ⟨g,cur,rfl,hg1,hg2,hg3⟩:=hg (by intro e;rw [e] at hkl;simp at hkl)
   rw [uH HLN] at e hrow
   cases e
   obtain ⟨b',off',e',hat⟩:=hrow.at hlt
   cases e'
   have c0:=(hat hkl).1
   have c1:=(hat hkl).2.1
   simp only [Nat.zero_add] at c0 c1
   have hnd:=uH HN l[k] (yM _)
   obtain ⟨⟨na,pa,du,mo⟩,hs⟩:∃s,l[k]=s:=⟨_,rfl⟩
   rw [hs] at c0 c1 hnd
   simp only at c0 c1 hnd
   have hs1:(bs na).size≤281474976710656:=by rw [dI];omega
   have hs2:(bs pa).size≤281474976710656:=by rw [dI];omega
   have k0:(0:Int)≤k:=by omega
   have k1:(k:Int)<n:=by omega
   have hgs:g<wr.heap.size:=lt_of_block hg2
   clear hat hrow hg2 hg3 hs hkl hnd
   go_wp2_with fail
   refine (iE (bs na) _ hs1).mono ?_
   rintro e w2 ⟨rfl,hb⟩
   have HO2:=aA ((uH HOr).below hb)
   have c0':=(hb.cell (p:=⟨g,k*4,none⟩) hgs).trans c0
   have c1':=(hb.cell (p:=⟨g,k*4+1,none⟩) hgs).trans c1
   have hsame:=(aCE (uH HO2) c0')
   have hfz:∀j,w2.frozen? ⟨g,j,none⟩=false:=fun j=>by
    rcases (uH HO2).2 with ⟨e,_⟩ | ⟨g',cap',cur',e,_,h4,_⟩
    ·cases e
    ·cases e;simp [World.frozen?,h4]
   have f0:=hfz (k*4)
   have HB2:=aA (show Below w.heap.size w (w2.setCell ⟨g,k*4,none⟩ (.string (bs na))) from (yB (uH HBr) hb).setCell (by exact hsame.2) _)
   have hg2':g<w2.heap.size:=Nat.lt_of_lt_of_le hgs hb.size
   have d1:(w2.setCell ⟨g,k*4,none⟩ (.string (bs na))).cell? ⟨g,k*4+1,none⟩=some (.string (bs pa)):=kK c1' (by omega)
   have HS:=aA hsame
   obtain ⟨W3,hW3⟩:∃W,w2.setCell ⟨g,k*4,none⟩ (.string (bs na))=W:=⟨_,rfl⟩
   rw [hW3] at HB2 d1 HS
   have hgW:g<W3.heap.size:=yG d1
   clear hb hsame HOr HBr HO2 c0 c1 c1' hfz
   go_wp2_with fail
   refine (iE (bs pa) _ hs2).mono ?_
   rintro e w4 ⟨rfl,hb⟩
   have HO4:=aA ((uH HS).1.below hb)
   have d1':=(hb.cell (p:=⟨g,k*4+1,none⟩) hgW).trans d1
   have hsame:=(aCE (uH HO4) d1')
   have f1:w4.frozen? ⟨g,k*4+1,none⟩=false:=by
    rcases (uH HO4).2 with ⟨e,_⟩ | ⟨g',cap',cur',e,_,h4,_⟩
    ·cases e
    ·cases e;simp [World.frozen?,h4]
   have HB4:=aA (show Below w.heap.size w (w4.setCell ⟨g,k*4+1,none⟩ (.string (bs pa))) from (yB (uH HB2) hb).setCell (by exact hsame.2) _)
   have HS4:=aA hsame.1
   clear hb hsame HS HO4 HB2 c0' d1 hW3 f0
   go_wp2
   go_roundw
   case rel=>exact ⟨k+1,by omega,by go_num,HS4,HB4⟩
   case measure=>simp [intOf];omega
  ·have k1:¬(k:Int)<n:=by omega
   go_wp2
   go_ret
   exact ⟨_,rfl,uH HOr,uH HBr⟩
theorem pG (q:Con) (w:World) (hn:q.node.length≤1048576) :
  Calls Tryz.prog 73 #[conv q] w fun e w'=>e=.returned (conv q)∧Below w.heap.size w w':=by
 obtain ⟨id,ap,nd,me,cp⟩:=q
 simp only at hn
 have hs:(bs nd).size≤281474976710656:=by rw [dI];omega
 have HB0:=aA (yA (yA (yH _ w) (.cells #[.int .i64 id,.int .i64 ap,.string (bs nd),.int .i64 me,.int .i64 cp] 38)) (.cells #[.int .i64 0,.int .i64 0,.string ByteArray.empty,.int .i64 0,.int .i64 0] 38))
 have P0:=aA ((yD w #[.int .i64 id,.int .i64 ap,.string (bs nd),.int .i64 me,.int .i64 cp] 38).al (.cells #[.int .i64 0,.int .i64 0,.string ByteArray.empty,.int .i64 0,.int .i64 0] 38))
 have P1:=aA (show Blk _ (w.heap.size+1) #[.int .i64 0,.int .i64 0,.string ByteArray.empty,.int .i64 0,.int .i64 0] 38 by have:=yD (w.alloc (.cells #[.int .i64 id,.int .i64 ap,.string (bs nd),.int .i64 me,.int .i64 cp] 38)) #[.int .i64 0,.int .i64 0,.string ByteArray.empty,.int .i64 0,.int .i64 0] 38;rwa [yE] at this)
 clear hn
 go_enter Tryz.func73,Tryz.ntmps73
 go_wp2_with fail
 refine (iE (bs nd) _ hs).mono ?_
 rintro e w1 ⟨rfl,hb⟩
 have HB1:=aA (yB (uH HB0) hb)
 have Q0:=aA ((uH P0).below hb)
 have Q1:=aA ((uH P1).below hb)
 clear hb HB0 P0 P1
 have d2:=(uH Q0).at 2
 have f2:=(uH Q0).f 2
 simp at d2
 go_upto_region 2 with fail
 have HB2:=aA (yC (uH HB1) w.heap.size 2 (.string (bs nd)) (yJ _))
 have R0:=aA (show Blk (w1.setCell ⟨w.heap.size,2,none⟩ (.string (bs nd))) w.heap.size #[.int .i64 id,.int .i64 ap,.string (bs nd),.int .i64 me,.int .i64 cp] 38 from (uH Q0).set 2 (.string (bs nd)))
 have R1:=aA ((uH Q1).other w.heap.size 2 (.string (bs nd)) (by omega))
 generalize w1.setCell ⟨w.heap.size,2,none⟩ (.string (bs nd))=w2 at HB2 R0 R1 ⊢
 clear d2 f2 HB1 Q0 Q1
 obtain ⟨a0,a1,a2,a3,a4⟩:=zp (uH R0)
 obtain ⟨c0,c1,c2,c3,c4⟩:=zp (uH R1)
 have f0:=(uH R1).f 0;have f1:=(uH R1).f 1;have f2:=(uH R1).f 2;have f3:=(uH R1).f 3;have f4:=(uH R1).f 4
 go_wp2
 have HB9:=aA (yC (yC (yC (yC (yC (uH HB2) (w.heap.size+1) 0 (.int .i64 id) (by omega)) (w.heap.size+1) 1 (.int .i64 ap) (by omega)) (w.heap.size+1) 2 (.string (bs nd)) (by omega)) (w.heap.size+1) 3 (.int .i64 me) (by omega)) (w.heap.size+1) 4 (.int .i64 cp) (by omega))
 have R9:=aA (show Blk (((((w2.setCell ⟨w.heap.size+1,0,none⟩ (.int .i64 id)).setCell ⟨w.heap.size+1,1,none⟩ (.int .i64 ap)).setCell ⟨w.heap.size+1,2,none⟩ (.string (bs nd))).setCell ⟨w.heap.size+1,3,none⟩ (.int .i64 me)).setCell ⟨w.heap.size+1,4,none⟩ (.int .i64 cp)) (w.heap.size+1) #[.int .i64 id,.int .i64 ap,.string (bs nd),.int .i64 me,.int .i64 cp] 38 from (((((uH R1).set 0 (.int .i64 id)).set 1 (.int .i64 ap)).set 2 (.string (bs nd))).set 3 (.int .i64 me)).set 4 (.int .i64 cp))
 generalize (((((w2.setCell ⟨w.heap.size+1,0,none⟩ (.int .i64 id)).setCell ⟨w.heap.size+1,1,none⟩ (.int .i64 ap)).setCell ⟨w.heap.size+1,2,none⟩ (.string (bs nd))).setCell ⟨w.heap.size+1,3,none⟩ (.int .i64 me)).setCell ⟨w.heap.size+1,4,none⟩ (.int .i64 cp))=W9 at HB9 R9 ⊢
 obtain ⟨z0,z1,z2,z3,z4⟩:=zp (uH R9)
 refine bodyPost_ret (v:=.agg #[.int .i64 id,.int .i64 ap,.string (bs nd),.int .i64 me,.int .i64 cp]) (by simp [results,Tryz.results73,go_sem,z0,z1,z2,z3,z4]) rfl ⟨rfl,uH HB9⟩
end
end Go.Proofs.YtdhibeclkdepiaaGreat
