/-
  bI in one: StdP, StdQ, CopyC.
-/
import Derived.Test.YtdhibeclkdepiaaGreatPackJ
import Derived.Test.YtdhibeclkdepiaaGreatPackI
import Derived.Test.YtdhibeclkdepiaaGreatPackB
set_option maxRecDepth 100000
set_option maxHeartbeats 16000000
set_option linter.unusedVariables false
set_option linter.unusedSimpArgs false
namespace Go.Proofs.YtdhibeclkdepiaaGreat
section
open Go.RowKit Go.Maps
theorem HSt.pushed {K:List P4} {F:List Fr3} {w0 w:World} {bm bk g:Nat} {l:List SE} {v:Value} {z:SE} (h:HSt K F w0 bm bk g w l) (hF:∀f ∈ F,f.2.2≠209) (hz:z.2 ∈ K) {v':Value} {w1 w2:World} (hb:Below w.heap.size w w1) (hown:w1.ownsRow (g+1) 209 5 v l.length (kF l))
  (ho:w2.ownsRow (g+1) 209 5 v' (l.length+1) (kF l++stc z)) (hg:w1.grownBy w2 v.ownBlock):HSt K F w0 bm bk g (w2.setCell ⟨g,0,none⟩ v') (l++[z]):=by
 have hlow:∀k,k≤g→k<w1.heap.size→w2.heap[k]? = w1.heap[k]?:=fun k hk hlt=>hg.block k hlt (fun e=>by
  have:=(hown.lt k e.symm).1
  omega)
 obtain ⟨⟨v0,b1,_,_⟩,h3,h4,h5,h6,h7,h8⟩:=h
 have hFv:∀f ∈ F,∀k,v.ownBlock=some k→f.1≠k:=fun f hf k hk e=>by
  rcases hown.2 with ⟨e2,_⟩ | ⟨b2,_,cur,e2,_,hc,_⟩
  ·rw [e2] at hk;simp [Value.ownBlock] at hk
  ·rw [e2] at hk
   simp [Value.ownBlock] at hk
   have:=(h8 f hf).1.below hb
   unfold Blk at this
   rw [e,←hk,hc] at this
   simp at this
   exact hF f hf this.2.symm
 have fr2:∀f ∈ F,Blk w2 f.1 f.2.1 f.2.2:=fun f hf=>(hg.block f.1 ((h8 f hf).1.below hb).lt (fun e=>hFv f hf f.1 e.symm rfl)).trans ((h8 f hf).1.below hb)
 have b2:Blk w1 g _ _:=b1.below hb
 have b3:Blk w2 g _ _:=(hlow g (Nat.le_refl _) b2.lt).trans b2
 have c3:Blk w2 bk _ _:=(hlow bk (by omega) (h3.below hb).lt).trans (h3.below hb)
 have k2:dF K bm w2:=(h4.below hb).grown hg (fun e=>by have:=(hown.lt bm e.symm).1;omega)
 have hFn:∀f ∈ F,some f.1≠v'.ownBlock:=fun f hf e=>by
  rcases ho.2 with ⟨e2,_⟩ | ⟨b2,_,cur,e2,_,hc,_⟩
  ·rw [e2] at e;simp [Value.ownBlock] at e
  ·rw [e2] at e
   simp [Value.ownBlock] at e
   have:=fr2 f hf
   unfold Blk at this
   rw [e,hc] at this
   simp at this
   exact hF f hf this.2.symm
 have hlen:(l++[z]).length=l.length+1:=by simp
 refine ⟨⟨v',?_,?_,hFn⟩,c3.other g 0 v' (by omega),k2.grown (bW (aF w2 (some g)) 0 v') (by simp;omega),h5,?_,?_,fun f hf=>⟨(fr2 f hf).other g 0 v' (h8 f hf).2.2,(h8 f hf).2⟩⟩
 ·have:=b3.set 0 v'
  simpa using this
 ·rw [hlen,aDi]
  have e:kF [z]=stc z:=by simp [kF]
  rw [e]
  exact ho.kept (bW (aF w2 (some g)) 0 v') (.inr (fun e=>by have:=(ho.lt g e).1;omega))
 ·intro x hx
  rcases List.mem_append.1 hx with hx | hx
  ·exact h6 x hx
  ·simp at hx;subst hx;exact hz
 ·have h8:Below w0.heap.size w0 w1:=yB h7 hb
  have h9:Below w0.heap.size w0 w2:=h8.grown hg h8.size (fun k e=>by have:=(hown.lt k e).1;omega)
  exact yC h9 _ _ _ (by omega)
theorem aHS (x:SE) (xt:TypeId) (wx:World):(Instr.typeAssert (.iface 209 (stv x)) xt 209 false).run Tryz.prog wx=.ok (stv x) wx:=by
 simp [Instr.typeAssert,go_sem]
theorem Tryz.infoStd:(Tryz.prog.info? 209).map (fun i=>(i.zero,i.size,i.bytes))=some (some (.agg #[.string ByteArray.empty,.int .i64 0,.int .i64 0,.int .i64 0,.int .i64 0]),5,48):=by kernel_rfl
theorem aE9 (K:List P4) (F:List Fr3) (w0:World) (bm bk g:Nat) (w:World) (l:List SE) (z:SE) (h:HSt K F w0 bm bk g w l) (hF:∀f ∈ F,f.2.2≠209) (hz:z.2 ∈ K) (hl:l.length<1000000) :
  Calls Tryz.prog 233 #[.pointer (some ⟨g,0,none⟩),.iface 209 (stv z)] w fun e w'=>e=.returned (.tuple #[])∧HSt K F w0 bm bk g w' (l++[z]):=by
 obtain ⟨i0,hi,hz0,hz1,hz2⟩:=info_parts Tryz.infoStd
 obtain ⟨v,b1,hown,_⟩:=h.1
 have hb1:=(yA (Below.refl _ w) (.cells #[.string (bs z.1),.int .i64 z.2.1,.int .i64 z.2.2.1,.int .i64 z.2.2.2.1,.int .i64 z.2.2.2.2] 209)).drew
 obtain ⟨W,hW⟩:∃W,(w.alloc (.cells #[.string (bs z.1),.int .i64 z.2.1,.int .i64 z.2.2.1,.int .i64 z.2.2.2.1,.int .i64 z.2.2.2.2] 209)).drew=W:=⟨_,rfl⟩
 rw [hW] at hb1
 have hbk:Blk W w.heap.size #[.string (bs z.1),.int .i64 z.2.1,.int .i64 z.2.2.1,.int .i64 z.2.2.2.1,.int .i64 z.2.2.2.2] 209:=by rw [←hW];exact yD _ _ _
 have hownW:W.ownsRow (g+1) 209 5 v l.length (kF l):=hown.kept (aH (aF w none) hb1) (by by_cases e:v.ownBlock=none;exact .inl e;exact .inr e)
 have hnews:∀j u,(stc z)[j]? = some u→W.cell? (Addr.add ⟨w.heap.size,0,none⟩ j)=some u:=fun j u hu=>by
  rw [Lib.add_plain,Nat.zero_add,hbk.at j]
  simp only [stc] at hu
  simpa using hu
 obtain ⟨v',w2,hrun,hown',hgrow,_⟩:=run_append_own (P:=Tryz.prog) W (g+1) 203 203 209 i0 (.agg #[.string ByteArray.empty,.int .i64 0,.int .i64 0,.int .i64 0,.int .i64 0]) 5 48 Tryz.underlying203 hi hz0 hz1 hz2 rfl (by decide) v l.length (kF l) hownW ⟨w.heap.size,0,none⟩ 1 1 (stc z) (by simp [stc]) hnews (fun u hu=>by simp [stc] at hu;rcases hu with rfl | rfl | rfl | rfl | rfl<;>rfl) (by unfold maxLen;omega) (by omega) (by have:=b1.lt;have:=hb1.size;omega)
 obtain ⟨b9,cap9,rfl⟩:∃b9 cap9,v'=.slice (some ⟨b9,0,none⟩) (l.length+1) cap9:=by
  rcases hown'.2 with ⟨_,e⟩ | ⟨b9,cap9,_,e,_⟩
  ·omega
  ·exact ⟨b9,cap9,e⟩
 have HH:=aA (h.pushed hF hz hb1 hownW hown' hgrow)
 have hlow:w2.heap[g]? = W.heap[g]?:=hgrow.block g (b1.below hb1).lt (fun e=>by have:=(hownW.lt g e.symm).1;omega)
 have b3:Blk w2 g _ _:=hlow.trans (b1.below hb1)
 have c0:=b1.at 0
 simp at c0
 have c1:=(b1.al (.cells #[.string (bs z.1),.int .i64 z.2.1,.int .i64 z.2.2.1,.int .i64 z.2.2.2.1,.int .i64 z.2.2.2.2] 209)).at 0
 simp at c1
 have c2:=b3.at 0
 simp at c2
 have f2:=b3.f 0
 have HV:=aA hown.2
 have hwg:¬w.heap.size=g:=by have:=b1.lt;omega
 have hgw:¬g=w.heap.size:=by omega
 rw [←hW] at hrun
 clear hown hownW hown' hgrow hnews hbk hb1 hW hlow b3 h b1
 obtain ⟨n1,p1,p2,p3,p4⟩:=z
 simp only at hrun c1
 have hta:=aHS (n1,p1,p2,p3,p4)
 rcases uH HV with ⟨rfl,hl0⟩ | ⟨b,cap,cur,rfl,_,_,hcap,_⟩
 all_goals
  clear HV
  simp [go_sem] at hrun
  go_enter Tryz.func233,Tryz.ntmps233
  go_wp2_with fail
  go_region
  all_goals
   go_wp2
   go_end0
   first
   | exact ⟨rfl,uH HH⟩
   | (have hx:=uH HH;rw [hl0] at hx;exact ⟨rfl,hx⟩)
theorem HSt.popped {K:List P4} {F:List Fr3} {w0 w:World} {bm bk g b cap:Nat} {l:List SE} (h:HSt K F w0 bm bk g w l) (hb:Blk w g #[.slice (some ⟨b,0,none⟩) l.length cap,aAr bk] 205) {n:Nat} (hn:n≤l.length) :
  HSt K F w0 bm bk g (w.setCell ⟨g,0,none⟩ (.slice (some ⟨b,0,none⟩) n cap)) (l.take n):=by
 obtain ⟨_,hown,hFx⟩:=h.obj hb
 obtain ⟨_,h3,h4,h5,h6,h7,h8⟩:=h
 have hlen:(l.take n).length=n:=by simp;omega
 refine ⟨⟨.slice (some ⟨b,0,none⟩) n cap,?_,?_,hFx⟩,h3.other g 0 _ (by omega),h4.grown (bW (aF w (some g)) 0 _) (by simp;omega),h5,fun x hx=>h6 x (List.mem_of_mem_take hx),yC h7 _ _ _ (by omega),fun f hf=>⟨(h8 f hf).1.other g 0 _ (h8 f hf).2.2,(h8 f hf).2⟩⟩
 ·have:=hb.set 0 (.slice (some ⟨b,0,none⟩) n cap)
  simpa using this
 ·rw [hlen,aAz]
  obtain ⟨o1,o2⟩:=hown
  refine ⟨by rw [List.length_take,aDh];omega,?_⟩
  rcases o2 with ⟨e,_⟩ | ⟨g',cap',cur,e,hb',hc,k1,k2,k3,k4⟩
  ·cases e
  ·cases e
   refine .inr ⟨b,cap,cur,rfl,hb',?_,by omega,k2,k3,?_⟩
   ·rw [heap_setCell_other _ ⟨g,0,none⟩ b _ (by simp;omega)];exact hc
   ·rw [←k4,List.take_take,Nat.min_eq_left (by omega)]
theorem aKY (g n cap k:Nat) (hk:k≤cap) (wx:World):(Instr.slice 203 (.slice (some ⟨g,0,none⟩) n cap) none (some (.int .i64 (k:Int))) none).run Tryz.prog wx=.ok (.slice (some ⟨g,0,none⟩) k cap) wx:=by
 rw [run_slice_h (P:=Tryz.prog) (w:=wx) 203 (some ⟨g,0,none⟩) n cap Tryz.underlying203 .i64 (k:Int) (by omega) (by omega)]
 rw [show (sizeOf (Tryz.prog.elem 203)).run Tryz.prog wx=.ok 5 wx from by kernel_rfl]
 simp [Result.andThen,sliced,Addr.add]
theorem aFz (K:List P4) (F:List Fr3) (w0:World) (bm bk g:Nat) (w:World) (l:List SE) (h:HSt K F w0 bm bk g w l) (h0:0<l.length) (hl:l.length≤1000000) :
  Calls Tryz.prog 232 #[.pointer (some ⟨g,0,none⟩)] w fun e w'=>e=.returned (.iface 209 (stv (HeapM.at' seD l (l.length - 1))))∧HSt K F w0 bm bk g w' (l.take (l.length - 1)):=by
 obtain ⟨v,b1,hown,_⟩:=h.1
 obtain ⟨b,cap,rfl,hbb,hcap⟩:=uA (n:=0) hown h0
 obtain ⟨m,hm⟩:∃m,l.length - 1=m:=⟨_,rfl⟩
 have hml:m<l.length:=by omega
 obtain ⟨a0,a1,a2,a3,a4⟩:=oC hown hml
 rw [hm]
 obtain ⟨⟨n1,p1,p2,p3,p4⟩,hs1⟩:∃s,HeapM.at' seD l m=s:=⟨_,rfl⟩
 rw [hs1] at a0 a1 a2 a3 a4 ⊢
 simp only at a0 a1 a2 a3 a4
 have hlm:(l.length:Int) - 1=(m:Int):=by omega
 have hwr:IntKind.i64.wrap ((l.length:Int) - 1)=(m:Int):=by rw [IntKind.wrap_i64];omega
 have hcut:=aKY b l.length cap m (by omega)
 have hb1:=yA (Below.refl _ w) (.cells #[.string (bs n1),.int .i64 p1,.int .i64 p2,.int .i64 p3,.int .i64 p4] 209)
 have HH:=aA ((h.below hb1).popped (b1.below hb1) (n:=m) (by omega))
 have c0:=b1.at 0
 simp at c0
 have c1:=(b1.below hb1).at 0
 simp at c1
 have f1:=(b1.below hb1).f 0
 have hne:¬w.heap.size=g:=by have:=b1.lt;omega
 have hne2:¬g=w.heap.size:=by omega
 have hmi:(m:Int)<(l.length:Int):=by omega
 clear h b1 hown hs1 hb1 hm
 go_enter Tryz.func232,Tryz.ntmps232
 go_wp2
 go_ret
 exact ⟨rfl,uH HH⟩
def HI (K:List P4) (F:List Fr3) (w0:World) (bm bk g:Nat) (w:World) (l:List SE):Prop:=HSt K F w0 bm bk g w l∧l.length≤1000000
theorem aJh (K:List P4) (F:List Fr3) (hK:K.length≤1000000000) (KW:∀p ∈ K,Wf4 p.1 p.2.1 p.2.2.1 p.2.2.2) (w0:World) (bm bk g:Nat) :
  wS (∀f ∈ F,f.2.2≠209) seD fI g (HI K F w0 bm bk g) (fun _ x v=>v=.iface 209 (stv x)∧x.2 ∈ K) where
 obj:=fun w l h=>let ⟨v,b,_⟩:=h.1.1;⟨v,_,b⟩
 less:=fun w l x y i j h hb hi hj=>(aEa K F hK KW w0 bm bk g w l x y i j h.1 hb hi hj h.2).mono (fun e w' k=>⟨k.1,k.2,h.2⟩)
 swap:=fun w l x y i j h hb hi hj=>(aE8 K F w0 bm bk g w l x y i j h.1 hb hi hj h.2).mono (fun e w' k=>⟨k.1,k.2,by rw [HeapM.swap_len];exact h.2⟩)
 len:=fun w l x y h hb=>(aBC K F w0 bm bk g w l x y h.1 hb).mono (fun e w' k=>⟨k.1,k.2,h.2⟩)
 push:=fun hF w l a v h hv hl=>by
  obtain ⟨rfl,hk⟩:=hv
  exact (aE9 K F w0 bm bk g w l a h.1 hF hk hl).mono (fun e w' k=>⟨k.1,k.2,by simp;omega⟩)
 pop:=fun w l h h0=>(aFz K F w0 bm bk g w l h.1 h0 h.2).mono (fun e w' k=>⟨⟨_,k.1,rfl,aHR h.1.2.2.2.2.1 (by omega)⟩,k.2,by simp;have:=h.2;omega⟩)
theorem aJ5 (K:List P4) (F:List Fr3) (hK:K.length≤1000000000) (KW:∀p ∈ K,Wf4 p.1 p.2.1 p.2.2.1 p.2.2.2) (w0:World) (bm bk g:Nat) (w:World) (l:List SE) (z:SE) (h:HI K F w0 bm bk g w l) (hF:∀f ∈ F,f.2.2≠209) (hz:z.2 ∈ K) (hl:l.length<1000000) :
  Calls Tryz.prog 169 #[.pointer (some ⟨g,0,none⟩),stv z] w fun e w'=>e=.returned (.tuple #[])∧HI K F w0 bm bk g w' (HeapM.upL seD fI (l.length+1) (l++[z]) l.length):=by
 obtain ⟨n1,p1,p2,p3,p4⟩:=z
 have hb0:=yA (Below.refl _ w) (.cells #[.string (bs n1),.int .i64 p1,.int .i64 p2,.int .i64 p3,.int .i64 p4] 209)
 have C:=aA (aHo (aJh K F hK KW w0 bm bk g) hF l (n1,p1,p2,p3,p4) (.iface 209 (stv (n1,p1,p2,p3,p4))) _ ⟨h.1.below hb0,h.2⟩ ⟨rfl,hz⟩ hl)
 clear h hb0
 go_enter Tryz.func169,Tryz.ntmps169
 go_wp2_with fail
 refine (uH C).mono ?_
 rintro e w1 ⟨rfl,hh⟩
 have HH:=aA hh
 clear hh C
 go_wp2
 go_end0
 exact ⟨rfl,uH HH⟩
theorem HSt.more {K:List P4} {F:List Fr3} {w0 w:World} {bm bk g:Nat} {l:List SE} (h:HSt K F w0 bm bk g w l) {v:Value} (hb:Blk w g #[v,aAr bk] 205) (f:Fr3) (h2:FrB bm g f w) (hv:some f.1≠v.ownBlock):HSt K (f::F) w0 bm bk g w l:=by
 obtain ⟨⟨v0,h1,o1,hF⟩,h3,h4,h5,h6,h7,h8⟩:=h
 have e:=h1.symm.trans hb
 simp at e
 subst e
 exact ⟨⟨v0,h1,o1,fun k hk=>by rcases List.mem_cons.1 hk with rfl | hk;exact hv;exact hF k hk⟩,h3,h4,h5,h6,h7,fun k hk=>by rcases List.mem_cons.1 hk with rfl | hk;exact h2;exact h8 k hk⟩
theorem HSt.less {K:List P4} {f:Fr3} {F:List Fr3} {w0 w:World} {bm bk g:Nat} {l:List SE} (h:HSt K (f::F) w0 bm bk g w l):HSt K F w0 bm bk g w l:=by
 obtain ⟨⟨v0,h1,o1,hF⟩,h3,h4,h5,h6,h7,h8⟩:=h
 exact ⟨⟨v0,h1,o1,fun k hk=>hF k (List.mem_cons_of_mem _ hk)⟩,h3,h4,h5,h6,h7,fun k hk=>h8 k (List.mem_cons_of_mem _ hk)⟩
theorem HSt.write {K:List P4} {f:Fr3} {F:List Fr3} {w0 w:World} {bm bk g:Nat} {l:List SE} (h:HSt K (f::F) w0 bm bk g w l) (hk:f.1≠bk) (h0:w0.heap.size≤f.1) (hd:∀k ∈ F,k.1≠f.1) (j:Nat) (x:Value):HSt K ((f.1,f.2.1.setIfInBounds j x,f.2.2)::F) w0 bm bk g (w.setCell ⟨f.1,j,none⟩ x) l:=by
 obtain ⟨⟨v0,h1,o1,hF⟩,h3,h4,h5,h6,h7,h8⟩:=h
 have hf:=h8 f (List.mem_cons_self ..)
 have hv:=hF f (List.mem_cons_self ..)
 refine ⟨⟨v0,h1.other _ _ _ (fun e=>hf.2.2 e.symm),o1.kept (bW (aF w (some f.1)) j x) (.inr (fun e=>hv e.symm)),?_⟩,h3.other _ _ _ (fun e=>hk e.symm),h4.grown (bW (aF w (some f.1)) j x) (by simp;exact fun e=>hf.2.1 e.symm),h5,h6,yC h7 _ _ _ h0,?_⟩
 ·intro k hk'
  rcases List.mem_cons.1 hk' with rfl | hk'
  ·exact hv
  ·exact hF k (List.mem_cons_of_mem _ hk')
 ·intro k hk'
  rcases List.mem_cons.1 hk' with rfl | hk'
  ·exact ⟨hf.1.set j x,hf.2⟩
  ·have:=h8 k (List.mem_cons_of_mem _ hk')
   exact ⟨this.1.other _ _ _ (hd k hk'),this.2⟩
theorem aGc (K:List P4) (w:World):Calls Tryz.prog 167 #[] w fun e w'=>e=.returned (aAr (w.heap.size+1))∧Blk w' (w.heap.size+1) #[.map (some w.heap.size)] 222∧dF K w.heap.size w'∧Below w.heap.size w w'∧w'.heap.size=w.heap.size+2:=by
 have hmm:=@run_makeMap Tryz.prog
 have hmf:∀(fn:Fn) (first cap:Array Value) (w:World),(Instr.makeFunc fn first cap).run Tryz.prog w=.ok (.func fn first cap) w:=fun _ _ _ _=>rfl
 go_enter Tryz.func167,Tryz.ntmps167
 go_wp2
 go_ret
 refine ⟨rfl,?_,aDS K ?_,yA (yA (Below.refl _ _) _) _,by simp⟩
 ·have:=yD (w.alloc (Obj.map #[] 0)) #[Value.map (some w.heap.size)] 222
  rw [yE] at this
  exact this
 ·have:=(World.ownsMap_made w Tryz.prog 192 lY).alloc (.cells #[.map (some w.heap.size)] 222)
  exact this
theorem aAI (K:List P4) (F:List Fr3) (hK:K.length≤1000000000) (KW:∀p ∈ K,Wf4 p.1 p.2.1 p.2.2.1 p.2.2.2) (w0:World) (bm bk g:Nat) (w:World) (l:List SE) (h:HI K F w0 bm bk g w l) (h0:0<l.length) (hw0:w0.heap.size≤w.heap.size) :
  Calls Tryz.prog 172 #[.pointer (some ⟨g,0,none⟩)] w fun e w'=>e=.returned (stv (HeapM.at' seD (HeapM.popL seD fI l) (l.length - 1)))∧HI K F w0 bm bk g w' ((HeapM.popL seD fI l).take (l.length - 1)):=by
 obtain ⟨v,b1,hown,_⟩:=h.1.1
 have hgl:=b1.lt
 have h5:=h.1.2.2.2.1
 have hb0:=yA (Below.refl _ w) (.cells #[.string ⟨#[]⟩,.int .i64 0,.int .i64 0,.int .i64 0,.int .i64 0] 209)
 have hM:HI K ((w.heap.size,#[.string ⟨#[]⟩,.int .i64 0,.int .i64 0,.int .i64 0,.int .i64 0],209)::F) w0 bm bk g _ l:=⟨(h.1.below hb0).more (b1.below hb0) (w.heap.size,#[.string ⟨#[]⟩,.int .i64 0,.int .i64 0,.int .i64 0,.int .i64 0],209) ⟨yD _ _ _,by show w.heap.size≠bm;omega,by show w.heap.size≠g;omega⟩ (fun e=>by have:=(hown.lt w.heap.size e.symm).2;omega),h.2⟩
 have C:=aA (aIv (aJh K _ hK KW w0 bm bk g) l _ hM h0 h.2)
 have HD:=aA (show ∀k ∈ F,k.1≠w.heap.size from fun k hk=>by have:=(h.1.2.2.2.2.2.2 k hk).1.lt;omega)
 obtain ⟨R,hR⟩:∃R,(HeapM.popL seD fI l).take (l.length - 1)=R:=⟨_,rfl⟩
 obtain ⟨⟨n1,p1,p2,p3,p4⟩,hs1⟩:∃s,HeapM.at' seD (HeapM.popL seD fI l) (l.length - 1)=s:=⟨_,rfl⟩
 rw [hR,hs1] at C ⊢
 have hbk:w.heap.size≠bk:=by omega
 clear h b1 hown hb0 hM hR hs1
 have hta:=aHS (n1,p1,p2,p3,p4)
 go_enter Tryz.func172,Tryz.ntmps172
 go_wp2_with fail
 refine (uH C).mono ?_
 rintro e w1 ⟨⟨v1,rfl,rfl,_⟩,hh⟩
 have q1:=hh.1.write hbk hw0 (uH HD) 0 (.string (bs n1))
 have q2:=q1.write hbk hw0 (uH HD) 1 (.int .i64 p1)
 have q3:=q2.write hbk hw0 (uH HD) 2 (.int .i64 p2)
 have q4:=q3.write hbk hw0 (uH HD) 3 (.int .i64 p3)
 have q5:=q4.write hbk hw0 (uH HD) 4 (.int .i64 p4)
 have bw:=(hh.1.2.2.2.2.2.2 _ (List.mem_cons_self ..)).1
 have c0:=bw.at 0;have c1:=bw.at 1;have c2:=bw.at 2;have c3:=bw.at 3;have c4:=bw.at 4
 have f0:=bw.f 0;have f1:=bw.f 1;have f2:=bw.f 2;have f3:=bw.f 3;have f4:=bw.f 4
 simp at c0 c1 c2 c3 c4
 have bz:=(q5.2.2.2.2.2.2 _ (List.mem_cons_self ..)).1
 have z0:=bz.at 0;have z1:=bz.at 1;have z2:=bz.at 2;have z3:=bz.at 3;have z4:=bz.at 4
 simp at z0 z1 z2 z3 z4
 have HQ:=aA (show HI K F w0 bm bk g _ R from ⟨q5.less,hh.2⟩)
 simp only at HQ f0 f1 f2 f3 f4
 clear hh q1 q2 q3 q4 q5 bw bz C
 go_wp2
 refine bodyPost_ret (v:=stv (n1,p1,p2,p3,p4)) (by simp [results,Tryz.results172,go_sem,z0,z1,z2,z3,z4]) rfl ⟨rfl,uH HQ⟩
end
section
open Go.RowKit
theorem nX (q:Con) (w:World) (hn:q.node.length≤1048576) :
  Calls Tryz.prog 73 #[conv q] w fun e w'=>e=.returned (conv q)∧Below w.heap.size w w':=by
 obtain ⟨id,ap,nd,me,cp⟩:=q
 simp only at hn
 have hs:(bs nd).size≤281474976710656:=by rw [dA];omega
 have HB0:=aA (yA (yA (Below.refl _ w) (.cells #[.int .i64 id,.int .i64 ap,.string (bs nd),.int .i64 me,.int .i64 cp] 38)) (.cells #[.int .i64 0,.int .i64 0,.string ByteArray.empty,.int .i64 0,.int .i64 0] 38))
 have P0:=aA ((yD w #[.int .i64 id,.int .i64 ap,.string (bs nd),.int .i64 me,.int .i64 cp] 38).al (.cells #[.int .i64 0,.int .i64 0,.string ByteArray.empty,.int .i64 0,.int .i64 0] 38))
 have P1:=aA (show Blk _ (w.heap.size+1) #[.int .i64 0,.int .i64 0,.string ByteArray.empty,.int .i64 0,.int .i64 0] 38 by have:=yD (w.alloc (.cells #[.int .i64 id,.int .i64 ap,.string (bs nd),.int .i64 me,.int .i64 cp] 38)) #[.int .i64 0,.int .i64 0,.string ByteArray.empty,.int .i64 0,.int .i64 0] 38;rwa [yE] at this)
 clear hn
 go_enter Tryz.func73,Tryz.ntmps73
 go_wp2_with fail
 refine (gK (bs nd) _ hs).mono ?_
 rintro e w1 ⟨rfl,hb⟩
 have HB1:=aA (yB (uH HB0) hb)
 have Q0:=aA ((uH P0).below hb)
 have Q1:=aA ((uH P1).below hb)
 clear hb HB0 P0 P1
 have d2:=(uH Q0).at 2
 have f2:=(uH Q0).f 2
 simp at d2
 go_upto_region 2 with fail
 have HB2:=aA (yC (uH HB1) w.heap.size 2 (.string (bs nd)) (Nat.le_refl _))
 have R0:=aA (show Blk (w1.setCell ⟨w.heap.size,2,none⟩ (.string (bs nd))) w.heap.size #[.int .i64 id,.int .i64 ap,.string (bs nd),.int .i64 me,.int .i64 cp] 38 from (uH Q0).set 2 (.string (bs nd)))
 have R1:=aA ((uH Q1).other w.heap.size 2 (.string (bs nd)) (by omega))
 generalize w1.setCell ⟨w.heap.size,2,none⟩ (.string (bs nd))=w2 at HB2 R0 R1 ⊢
 clear d2 f2 HB1 Q0 Q1
 have a0:=(uH R0).at 0;have a1:=(uH R0).at 1;have a2:=(uH R0).at 2;have a3:=(uH R0).at 3;have a4:=(uH R0).at 4
 have c0:=(uH R1).at 0;have c1:=(uH R1).at 1;have c2:=(uH R1).at 2;have c3:=(uH R1).at 3;have c4:=(uH R1).at 4
 have f0:=(uH R1).f 0;have f1:=(uH R1).f 1;have f2:=(uH R1).f 2;have f3:=(uH R1).f 3;have f4:=(uH R1).f 4
 simp at a0 a1 a2 a3 a4 c0 c1 c2 c3 c4
 go_wp2
 have HB9:=aA (yC (yC (yC (yC (yC (uH HB2) (w.heap.size+1) 0 (.int .i64 id) (by omega)) (w.heap.size+1) 1 (.int .i64 ap) (by omega)) (w.heap.size+1) 2 (.string (bs nd)) (by omega)) (w.heap.size+1) 3 (.int .i64 me) (by omega)) (w.heap.size+1) 4 (.int .i64 cp) (by omega))
 have R9:=aA (show Blk (((((w2.setCell ⟨w.heap.size+1,0,none⟩ (.int .i64 id)).setCell ⟨w.heap.size+1,1,none⟩ (.int .i64 ap)).setCell ⟨w.heap.size+1,2,none⟩ (.string (bs nd))).setCell ⟨w.heap.size+1,3,none⟩ (.int .i64 me)).setCell ⟨w.heap.size+1,4,none⟩ (.int .i64 cp)) (w.heap.size+1) #[.int .i64 id,.int .i64 ap,.string (bs nd),.int .i64 me,.int .i64 cp] 38 from (((((uH R1).set 0 (.int .i64 id)).set 1 (.int .i64 ap)).set 2 (.string (bs nd))).set 3 (.int .i64 me)).set 4 (.int .i64 cp))
 generalize (((((w2.setCell ⟨w.heap.size+1,0,none⟩ (.int .i64 id)).setCell ⟨w.heap.size+1,1,none⟩ (.int .i64 ap)).setCell ⟨w.heap.size+1,2,none⟩ (.string (bs nd))).setCell ⟨w.heap.size+1,3,none⟩ (.int .i64 me)).setCell ⟨w.heap.size+1,4,none⟩ (.int .i64 cp))=W9 at HB9 R9 ⊢
 have z0:=(uH R9).at 0;have z1:=(uH R9).at 1;have z2:=(uH R9).at 2;have z3:=(uH R9).at 3;have z4:=(uH R9).at 4
 simp at z0 z1 z2 z3 z4
 refine bodyPost_ret (v:=.agg #[.int .i64 id,.int .i64 ap,.string (bs nd),.int .i64 me,.int .i64 cp]) (by simp [results,Tryz.results73,go_sem,z0,z1,z2,z3,z4]) rfl ⟨rfl,uH HB9⟩
end
end Go.Proofs.YtdhibeclkdepiaaGreat
