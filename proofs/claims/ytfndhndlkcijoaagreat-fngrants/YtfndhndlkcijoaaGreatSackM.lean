/-
  Texts in one: StdP, StdQ, RoomS.
-/
import Derived.Test.YtfndhndlkcijoaaGreatSackH
import Derived.Test.YtfndhndlkcijoaaGreatSackJ
import Derived.Test.YtfndhndlkcijoaaGreatSackI
set_option maxRecDepth 100000
set_option maxHeartbeats 16000000
set_option linter.unusedVariables false
set_option linter.unusedSimpArgs false
open Go.Proofs.Tryz
namespace Go.Proofs.YtfndhndlkcijoaaGreat
section
open Go.RowKit Go.Maps
variable {F:List Fr3} {K:List P4} {l:List SE} {bk bm g:Nat} {v:Value} {w w0:World}
theorem HSt.pushed {z:SE} (h:HSt K F w0 bm bk g w l) (hF:∀f ∈ F,f.2.2≠91) (hz:z.2 ∈ K) {v':Value} {w1 w2:World} (hb:Bw w w1) (Hz:w1.ownsRow (g+1) 91 5 v l.length (lY l))
  (ho:w2.ownsRow (g+1) 91 5 v' (l.length+1) (lY l++stc z)) (hg:w1.grownBy w2 v.ownBlock):HSt K F w0 bm bk g (w2.setCell ⟨g,0,none⟩ v') (l++[z]):=by
 have Zy:∀k,k≤g→k<w1.heap.size→w2.heap[k]? = w1.heap[k]?:=fun k hk hlt=>hg.block k hlt (fun e=>by
  have:=(Hz.lt k e.symm).1;omega)
 obtain ⟨⟨v0,b1,_,_⟩,h3,h4,h5,h6,h7,h8⟩:=h;have hFv:∀f ∈ F,∀k,v.ownBlock=some k→f.1≠k:=fun f hf k hk e=>by
  rcases Hz.2 with ⟨e2,_⟩ | ⟨b2,_,cur,e2,_,hc,_⟩
  ·rw [e2] at hk;simp [Value.ownBlock] at hk
  ·rw [e2] at hk;simp [Value.ownBlock] at hk;have:=(h8 f hf).1.below hb;unfold Blk at this;rw [e,←hk,hc] at this;simp at this;exact hF f hf this.2.symm
 have fr2:∀f ∈ F,Blk w2 f.1 f.2.1 f.2.2:=fun f hf=>(hg.block f.1 ((h8 f hf).1.below hb).lt (fun e=>hFv f hf f.1 e.symm rfl)).trans ((h8 f hf).1.below hb)
 have b2:Blk w1 g _ _:=b1.below hb;have b3:Blk w2 g _ _:=(Zy g (yJ _) b2.lt).trans b2;have c3:Blk w2 bk _ _:=(Zy bk (by omega) (h3.below hb).lt).trans (h3.below hb);have k2:eF K bm w2:=(h4.below hb).grown hg (fun e=>by have:=(Hz.lt bm e.symm).1;omega);have hFn:∀f ∈ F,some f.1≠v'.ownBlock:=fun f hf e=>by
  rcases ho.2 with ⟨e2,_⟩ | ⟨b2,_,cur,e2,_,hc,_⟩
  ·rw [e2] at e;simp [Value.ownBlock] at e
  ·rw [e2] at e;simp [Value.ownBlock] at e;have:=fr2 f hf;unfold Blk at this;rw [e,hc] at this;simp at this;exact hF f hf this.2.symm
 have GU:(l++[z]).length=l.length+1:=by simp
 refine ⟨⟨v',?_,?_,hFn⟩,c3.other g 0 v' (by omega),k2.grown (dW (aF w2 (some g)) 0 v') (by simp;omega),h5,?_,?_,fun f hf=>⟨(fr2 f hf).other g 0 v' (h8 f hf).2.2,(h8 f hf).2⟩⟩
 ·have:=b3.set 0 v';simpa using this
 ·rw [GU,aE6];have e:lY [z]=stc z:=by simp [lY]
  rw [e];exact ho.kept (dW (aF w2 (some g)) 0 v') (.inr (fun e=>by have:=(ho.lt g e).1;omega))
 ·intro x hx;rcases List.mem_append.1 hx with hx | hx
  ·exact h6 x hx
  ·simp at hx;subst hx;exact hz
 ·have h8:Bw w0 w1:=yB h7 hb;have h9:Bw w0 w2:=h8.grown hg h8.size (fun k e=>by have:=(Hz.lt k e).1;omega);exact yC h9 _ _ _ (by omega)
theorem aHj (x:SE) (xt:TypeId) (wx:World):(Instr.typeAssert (.iface 91 (stv x)) xt 91 false).run Tryz.prog wx=.ok (stv x) wx:=by
 simp [Instr.typeAssert,go_sem]
theorem Tryz.infoStd:(Tryz.prog.info? 91).map (fun i=>(i.zero,i.size,i.bytes))=some (some (.agg #[.string .empty,.int .i64 0,.int .i64 0,.int .i64 0,.int .i64 0]),5,48):=by kernel_rfl
theorem aFM (K:List P4) (F:List Fr3) (w0:World) (bm bk g:Nat) (w:World) (l:List SE) (z:SE) (h:HSt K F w0 bm bk g w l) (hF:∀f ∈ F,f.2.2≠91) (hz:z.2 ∈ K) (hl:l.length<1000000) :
  cP 245 #[.pointer (some ⟨g,0,none⟩),.iface 91 (stv z)] w fun e w'=>e=.returned (.tuple #[])∧HSt K F w0 bm bk g w' (l++[z]):=by
 obtain ⟨i0,hi,hz0,hz1,hz2⟩:=info_parts Tryz.infoStd;obtain ⟨v,b1,Hz,_⟩:=h.1;have hb1:=(yA (yH _ w) (.cells #[.string (bs z.1),.int .i64 z.2.1,.int .i64 z.2.2.1,.int .i64 z.2.2.2.1,.int .i64 z.2.2.2.2] 91)).drew;obtain ⟨W,hW⟩:∃W,(w.alloc (.cells #[.string (bs z.1),.int .i64 z.2.1,.int .i64 z.2.2.1,.int .i64 z.2.2.2.1,.int .i64 z.2.2.2.2] 91)).drew=W:=⟨_,rfl⟩;rw [hW] at hb1;have hbk:Blk W w.heap.size #[.string (bs z.1),.int .i64 z.2.1,.int .i64 z.2.2.1,.int .i64 z.2.2.2.1,.int .i64 z.2.2.2.2] 91:=by rw [←hW];exact yD _ _ _
 have Xz:W.ownsRow (g+1) 91 5 v l.length (lY l):=Hz.kept (aI (aF w none) hb1) (by by_cases e:v.ownBlock=none;exact .inl e;exact .inr e);have qj:∀j u,(stc z)[j]? = some u→W.cell? (Addr.add ⟨w.heap.size,0,none⟩ j)=some u:=fun j u hu=>by
  rw [Lib.add_plain,Nat.zero_add,hbk.at j];simp only [stc] at hu;simpa using hu
 obtain ⟨v',w2,gq,Hy,Hw,_⟩:=run_append_own (P:=Tryz.prog) W (g+1) 83 83 91 i0 (.agg #[.string .empty,.int .i64 0,.int .i64 0,.int .i64 0,.int .i64 0]) 5 48 underlying83 hi hz0 hz1 hz2 rfl (by decide) v l.length (lY l) Xz ⟨w.heap.size,0,none⟩ 1 1 (stc z) (by simp [stc]) qj (fun u hu=>by simp [stc] at hu;rcases hu with rfl | rfl | rfl | rfl | rfl<;>rfl) (by unfold maxLen;omega) (by omega) (by have:=b1.lt;have:=hb1.size;omega);obtain ⟨b9,cap9,rfl⟩:∃b9 cap9,v'=.slice (some ⟨b9,0,none⟩) (l.length+1) cap9:=by
  rcases Hy.2 with ⟨_,e⟩ | ⟨b9,cap9,_,e,_⟩
  ·omega
  ·exact ⟨b9,cap9,e⟩
 have HH:=aA (h.pushed hF hz hb1 Xz Hy Hw);have Zy:w2.heap[g]? = W.heap[g]?:=Hw.block g (b1.below hb1).lt (fun e=>by have:=(Xz.lt g e.symm).1;omega);have b3:Blk w2 g _ _:=Zy.trans (b1.below hb1);have c0:=b1.at 0;simp at c0;have c1:=(b1.al (.cells #[.string (bs z.1),.int .i64 z.2.1,.int .i64 z.2.2.1,.int .i64 z.2.2.2.1,.int .i64 z.2.2.2.2] 91)).at 0;simp at c1;have c2:=b3.at 0;simp at c2;have f2:=b3.f 0;have HV:=aA Hz.2;have hwg:¬w.heap.size=g:=by have:=b1.lt;omega
 have hgw:¬g=w.heap.size:=by omega
 rw [←hW] at gq;clear Hz Xz Hy Hw qj hbk hb1 hW Zy b3 h b1;obtain ⟨n1,p1,p2,p3,p4⟩:=z;simp only at gq c1;have hta:=aHj (n1,p1,p2,p3,p4);rcases uH HV with ⟨rfl,hl0⟩ | ⟨b,cap,cur,rfl,_,_,QT,_⟩
 all_goals
  clear HV;simp [go_sem] at gq;go_enter func245,ntmps245;go_wp2_with fail;go_region
  all_goals
   go_wp2;go_end0
   first
   | exact ⟨rfl,uH HH⟩
   | (have hx:=uH HH;rw [hl0] at hx;exact ⟨rfl,hx⟩)
theorem HSt.popped {b cap:Nat} (h:HSt K F w0 bm bk g w l) (hb:Blk w g #[.slice (some ⟨b,0,none⟩) l.length cap,aBy bk] 85) {n:Nat} (hn:n≤l.length) :
  HSt K F w0 bm bk g (w.setCell ⟨g,0,none⟩ (.slice (some ⟨b,0,none⟩) n cap)) (l.take n):=by
 obtain ⟨_,Hz,ny⟩:=h.obj hb;obtain ⟨_,h3,h4,h5,h6,h7,h8⟩:=h;have GU:(l.take n).length=n:=by simp;omega
 refine ⟨⟨.slice (some ⟨b,0,none⟩) n cap,?_,?_,ny⟩,h3.other g 0 _ (by omega),h4.grown (dW (aF w (some g)) 0 _) (by simp;omega),h5,fun x hx=>h6 x (List.mem_of_mem_take hx),yC h7 _ _ _ (by omega),fun f hf=>⟨(h8 f hf).1.other g 0 _ (h8 f hf).2.2,(h8 f hf).2⟩⟩
 ·have:=hb.set 0 (.slice (some ⟨b,0,none⟩) n cap);simpa using this
 ·rw [GU,aCD];obtain ⟨o1,o2⟩:=Hz;refine ⟨by rw [List.length_take,aE5];omega,?_⟩;rcases o2 with ⟨e,_⟩ | ⟨g',cap',cur,e,hb',hc,k1,k2,k3,k4⟩
  ·cases e
  ·cases e;refine .inr ⟨b,cap,cur,rfl,hb',?_,by omega,k2,k3,?_⟩
   ·rw [heap_setCell_other _ ⟨g,0,none⟩ b _ (by simp;omega)];exact hc
   ·rw [←k4,List.take_take,Nat.min_eq_left (by omega)]
theorem aL2 (g n cap k:Nat) (hk:k≤cap) (wx:World):(Instr.slice 83 (.slice (some ⟨g,0,none⟩) n cap) none (some (.int .i64 (k:Int))) none).run Tryz.prog wx=.ok (.slice (some ⟨g,0,none⟩) k cap) wx:=by
 rw [run_slice_h (P:=Tryz.prog) (w:=wx) 83 (some ⟨g,0,none⟩) n cap underlying83 .i64 (k:Int) (by omega) (by omega)];rw [show (sizeOf (Tryz.prog.elem 83)).run Tryz.prog wx=.ok 5 wx from by kernel_rfl];simp [Result.andThen,sliced,Addr.add]
theorem aG2 (K:List P4) (F:List Fr3) (w0:World) (bm bk g:Nat) (w:World) (l:List SE) (h:HSt K F w0 bm bk g w l) (h0:0<l.length) (hl:l.length≤1000000) :
  cP 244 #[.pointer (some ⟨g,0,none⟩)] w fun e w'=>e=.returned (.iface 91 (stv (HeapM.at' seD l (l.length - 1))))∧HSt K F w0 bm bk g w' (l.take (l.length - 1)):=by
 obtain ⟨v,b1,Hz,_⟩:=h.1;obtain ⟨b,cap,rfl,hbb,QT⟩:=wK Hz h0;obtain ⟨m,hm⟩:∃m,l.length - 1=m:=⟨_,rfl⟩;have GJ:m<l.length:=by omega
 obtain ⟨a0,a1,a2,a3,a4⟩:=qO Hz GJ;rw [hm];obtain ⟨⟨n1,p1,p2,p3,p4⟩,hs1⟩:∃s,HeapM.at' seD l m=s:=⟨_,rfl⟩;rw [hs1] at a0 a1 a2 a3 a4 ⊢;simp only at a0 a1 a2 a3 a4;have hlm:(l.length:Int) - 1=(m:Int):=by omega
 have hwr:IntKind.i64.wrap ((l.length:Int) - 1)=(m:Int):=by rw [IntKind.wrap_i64];omega
 have hcut:=aL2 b l.length cap m (by omega);have hb1:=yA (yH _ w) (.cells #[.string (bs n1),.int .i64 p1,.int .i64 p2,.int .i64 p3,.int .i64 p4] 91);have HH:=aA ((h.below hb1).popped (b1.below hb1) (n:=m) (by omega));have c0:=b1.at 0;simp at c0;have c1:=(b1.below hb1).at 0;simp at c1;have f1:=(b1.below hb1).f 0;have hne:¬w.heap.size=g:=by have:=b1.lt;omega
 have WT:¬g=w.heap.size:=by omega
 have WV:(m:Int)<(l.length:Int):=by omega
 clear h b1 Hz hs1 hb1 hm;go_enter func244,ntmps244;go_wp2;go_ret;exact ⟨rfl,uH HH⟩
def HI (K:List P4) (F:List Fr3) (w0:World) (bm bk g:Nat) (w:World) (l:List SE):Prop:=HSt K F w0 bm bk g w l∧l.length≤1000000
theorem aK0 (K:List P4) (F:List Fr3) (hK:K.length≤1000000000) (KW:∀p ∈ K,Wf4 p.1 p.2.1 p.2.2.1 p.2.2.2) (w0:World) (bm bk g:Nat) :
  zX (∀f ∈ F,f.2.2≠91) seD iG g (HI K F w0 bm bk g) (fun _ x v=>v=.iface 91 (stv x)∧x.2 ∈ K) where
 obj:=fun w l h=>let ⟨v,b,_⟩:=h.1.1;⟨v,_,b⟩
 less:=fun w l x y i j h hb hi hj=>(aFN K F hK KW w0 bm bk g w l x y i j h.1 hb hi hj h.2).mono (fun e w' k=>⟨k.1,k.2,h.2⟩)
 swap:=fun w l x y i j h hb hi hj=>(aFL K F w0 bm bk g w l x y i j h.1 hb hi hj h.2).mono (fun e w' k=>⟨k.1,k.2,by rw [HeapM.swap_len];exact h.2⟩)
 len:=fun w l x y h hb=>(aCH K F w0 bm bk g w l x y h.1 hb).mono (fun e w' k=>⟨k.1,k.2,h.2⟩)
 push:=fun hF w l a v h hv hl=>by
  obtain ⟨rfl,hk⟩:=hv;exact (aFM K F w0 bm bk g w l a h.1 hF hk hl).mono (fun e w' k=>⟨k.1,k.2,by simp;omega⟩)
 pop:=fun w l h h0=>(aG2 K F w0 bm bk g w l h.1 h0 h.2).mono (fun e w' k=>⟨⟨_,k.1,rfl,aHi h.1.2.2.2.2.1 (by omega)⟩,k.2,by simp;have:=h.2;omega⟩)
theorem aKQ (K:List P4) (F:List Fr3) (hK:K.length≤1000000000) (KW:∀p ∈ K,Wf4 p.1 p.2.1 p.2.2.1 p.2.2.2) (w0:World) (bm bk g:Nat) (w:World) (l:List SE) (z:SE) (h:HI K F w0 bm bk g w l) (hF:∀f ∈ F,f.2.2≠91) (hz:z.2 ∈ K) (hl:l.length<1000000) :
  cP 51 #[.pointer (some ⟨g,0,none⟩),stv z] w fun e w'=>e=.returned (.tuple #[])∧HI K F w0 bm bk g w' (HeapM.upL seD iG (l.length+1) (l++[z]) l.length):=by
 obtain ⟨n1,p1,p2,p3,p4⟩:=z;have hb0:=yA (yH _ w) (.cells #[.string (bs n1),.int .i64 p1,.int .i64 p2,.int .i64 p3,.int .i64 p4] 91);have C:=aA (aIT (aK0 K F hK KW w0 bm bk g) hF l (n1,p1,p2,p3,p4) (.iface 91 (stv (n1,p1,p2,p3,p4))) _ ⟨h.1.below hb0,h.2⟩ ⟨rfl,hz⟩ hl);clear h hb0;go_enter func51,ntmps51;go_wp2_with fail;refine (uH C).mono ?_;rintro e w1 ⟨rfl,hh⟩;have HH:=aA hh;clear hh C;go_wp2;go_end0;exact ⟨rfl,uH HH⟩
theorem HSt.more (h:HSt K F w0 bm bk g w l) (hb:Blk w g #[v,aBy bk] 85) (f:Fr3) (h2:FrB bm g f w) (hv:some f.1≠v.ownBlock):HSt K (f::F) w0 bm bk g w l:=by
 obtain ⟨⟨v0,h1,o1,hF⟩,h3,h4,h5,h6,h7,h8⟩:=h;have e:=h1.symm.trans hb;simp at e;subst e;exact ⟨⟨v0,h1,o1,fun k hk=>by rcases List.mem_cons.1 hk with rfl | hk;exact hv;exact hF k hk⟩,h3,h4,h5,h6,h7,fun k hk=>by rcases List.mem_cons.1 hk with rfl | hk;exact h2;exact h8 k hk⟩
theorem HSt.less {f:Fr3} (h:HSt K (f::F) w0 bm bk g w l):HSt K F w0 bm bk g w l:=by
 obtain ⟨⟨v0,h1,o1,hF⟩,h3,h4,h5,h6,h7,h8⟩:=h;exact ⟨⟨v0,h1,o1,fun k hk=>hF k (List.mem_cons_of_mem _ hk)⟩,h3,h4,h5,h6,h7,fun k hk=>h8 k (List.mem_cons_of_mem _ hk)⟩
theorem HSt.write {f:Fr3} (h:HSt K (f::F) w0 bm bk g w l) (hk:f.1≠bk) (h0:w0.heap.size≤f.1) (hd:∀k ∈ F,k.1≠f.1) (j:Nat) (x:Value):HSt K ((f.1,f.2.1.setIfInBounds j x,f.2.2)::F) w0 bm bk g (w.setCell ⟨f.1,j,none⟩ x) l:=by
 obtain ⟨⟨v0,h1,o1,hF⟩,h3,h4,h5,h6,h7,h8⟩:=h;have hf:=h8 f (List.mem_cons_self ..);have hv:=hF f (List.mem_cons_self ..);refine ⟨⟨v0,h1.other _ _ _ (fun e=>hf.2.2 e.symm),o1.kept (dW (aF w (some f.1)) j x) (.inr (fun e=>hv e.symm)),?_⟩,h3.other _ _ _ (fun e=>hk e.symm),h4.grown (dW (aF w (some f.1)) j x) (by simp;exact fun e=>hf.2.1 e.symm),h5,h6,yC h7 _ _ _ h0,?_⟩
 ·intro k hk';rcases List.mem_cons.1 hk' with rfl | hk'
  ·exact hv
  ·exact hF k (List.mem_cons_of_mem _ hk')
 ·intro k hk';rcases List.mem_cons.1 hk' with rfl | hk'
  ·exact ⟨hf.1.set j x,hf.2⟩
  ·have:=h8 k (List.mem_cons_of_mem _ hk');exact ⟨this.1.other _ _ _ (hd k hk'),this.2⟩
theorem aHA (K:List P4) (w:World):cP 49 #[] w fun e w'=>e=.returned (aBy (w.heap.size+1))∧Blk w' (w.heap.size+1) #[.map (some w.heap.size)] 117∧eF K w.heap.size w'∧Bw w w'∧w'.heap.size=w.heap.size+2:=by
 have hmm:=@run_makeMap Tryz.prog;have ZK:∀(fn:Fn) (first cap:Array Value) (w:World),(Instr.makeFunc fn first cap).run Tryz.prog w=.ok (.func fn first cap) w:=fun _ _ _ _=>rfl
 go_enter func49,ntmps49
 go_wp2;go_ret;refine ⟨rfl,?_,aEI K ?_,yA (yA (yH _ _) _) _,by simp⟩
 ·have:=yD (w.alloc (Obj.map #[] 0)) #[Value.map (some w.heap.size)] 117;rw [yE] at this;exact this
 ·have:=(World.ownsMap_made w Tryz.prog 89 nQ).alloc (.cells #[.map (some w.heap.size)] 117);exact this
theorem aBU (K:List P4) (F:List Fr3) (hK:K.length≤1000000000) (KW:∀p ∈ K,Wf4 p.1 p.2.1 p.2.2.1 p.2.2.2) (w0:World) (bm bk g:Nat) (w:World) (l:List SE) (h:HI K F w0 bm bk g w l) (h0:0<l.length) (hw0:w0.heap.size≤w.heap.size) :
  cP 54 #[.pointer (some ⟨g,0,none⟩)] w fun e w'=>e=.returned (stv (HeapM.at' seD (HeapM.popL seD iG l) (l.length - 1)))∧HI K F w0 bm bk g w' ((HeapM.popL seD iG l).take (l.length - 1)):=by
 obtain ⟨v,b1,Hz,_⟩:=h.1.1;have hgl:=b1.lt;have h5:=h.1.2.2.2.1;have hb0:=yA (yH _ w) (.cells #[.string ⟨#[]⟩,.int .i64 0,.int .i64 0,.int .i64 0,.int .i64 0] 91);have hM:HI K ((w.heap.size,#[.string ⟨#[]⟩,.int .i64 0,.int .i64 0,.int .i64 0,.int .i64 0],91)::F) w0 bm bk g _ l:=⟨(h.1.below hb0).more (b1.below hb0) (w.heap.size,#[.string ⟨#[]⟩,.int .i64 0,.int .i64 0,.int .i64 0,.int .i64 0],91) ⟨yD _ _ _,by show w.heap.size≠bm;omega,by show w.heap.size≠g;omega⟩ (fun e=>by have:=(Hz.lt w.heap.size e.symm).2;omega),h.2⟩;have C:=aA (aJd (aK0 K _ hK KW w0 bm bk g) l _ hM h0 h.2);have HD:=aA (show ∀k ∈ F,k.1≠w.heap.size from fun k hk=>by have:=(h.1.2.2.2.2.2.2 k hk).1.lt;omega);obtain ⟨R,hR⟩:∃R,(HeapM.popL seD iG l).take (l.length - 1)=R:=⟨_,rfl⟩;obtain ⟨⟨n1,p1,p2,p3,p4⟩,hs1⟩:∃s,HeapM.at' seD (HeapM.popL seD iG l) (l.length - 1)=s:=⟨_,rfl⟩;rw [hR,hs1] at C ⊢;have hbk:w.heap.size≠bk:=by omega
 clear h b1 Hz hb0 hM hR hs1;have hta:=aHj (n1,p1,p2,p3,p4);go_enter func54,ntmps54;go_wp2_with fail;refine (uH C).mono ?_;rintro e w1 ⟨⟨v1,rfl,rfl,_⟩,hh⟩;have q1:=hh.1.write hbk hw0 (uH HD) 0 (.string (bs n1));have q2:=q1.write hbk hw0 (uH HD) 1 (.int .i64 p1);have q3:=q2.write hbk hw0 (uH HD) 2 (.int .i64 p2);have q4:=q3.write hbk hw0 (uH HD) 3 (.int .i64 p3);have q5:=q4.write hbk hw0 (uH HD) 4 (.int .i64 p4);have bw:=(hh.1.2.2.2.2.2.2 _ (List.mem_cons_self ..)).1;obtain ⟨c0,c1,c2,c3,c4⟩:=zp bw;have f0:=bw.f 0;have f1:=bw.f 1;have f2:=bw.f 2;have f3:=bw.f 3;have f4:=bw.f 4;have bz:=(q5.2.2.2.2.2.2 _ (List.mem_cons_self ..)).1;obtain ⟨z0,z1,z2,z3,z4⟩:=zp bz;have HQ:=aA (show HI K F w0 bm bk g _ R from ⟨q5.less,hh.2⟩);simp only at HQ f0 f1 f2 f3 f4;clear hh q1 q2 q3 q4 q5 bw bz C;go_wp2;refine bodyPost_ret (v:=stv (n1,p1,p2,p3,p4)) (by simp [results,results54,go_sem,z0,z1,z2,z3,z4]) rfl ⟨rfl,uH HQ⟩
theorem aFH {B:Nat} {ps:List (List UInt8)} (h:bR B w v ps):∃ao cap,v=.slice ao ps.length cap∧∀j (hj:j<ps.length),∃g,ao=some ⟨g,0,none⟩∧w.cell? ⟨g,j,none⟩=some (.string (bs ps[j])):=by
  by_cases hp:ps=[]
  · subst hp;obtain ⟨a,cap,rfl⟩:=iN h;exact ⟨a,cap,rfl,fun j hj=>by simp at hj⟩
  · obtain ⟨g,cap,rfl,hs,_⟩:=iM h hp;exact ⟨_,cap,rfl,fun j hj=>⟨g,rfl,hs.text hj⟩⟩
theorem aFW (s:St) (nm:List UInt8):(path s.qs nm).length≤1048576:=by
  cases ho:aH s.qs with
  | false=>simp [path,ho]
  | true=>have h2:=(tX.1 (by have:=lU s.qs;rw [ho] at this;simp at this;exact this.1)).2.2;have:=aB2 s.qs nm;omega
theorem aCK (x:Sls) (s:St) (nm:List UInt8) (rx ry:Int) (w:World) (h:iL w x s) (hf:bH s) :
    cP 85 #[sv x s,.string (bs nm),rv rx ry] w fun e w'=>e=.returned (.bool (aDa s nm rx ry))∧Bw w w':=by
  have Gq:x.ql≤1048576:=h.ql hf;have GJ:x.ml≤1048576:=h.ml hf;have CPath:=aA (fun wx (hb:Bw w wx)=>oH x.qa x.ql x.qc s.qs nm wx (h.1.below hb) Gq (fun q hq=>(hf.1.2 q hq).1));have CT:=aA (fun wx (hb:Bw w wx)=>nC x s wx (h.2.2.1.below hb) GJ);have CM:=aA (fun wx (hb:Bw w wx) (n:List UInt8)=>show cP 146 #[.slice x.qa x.ql x.qc,.string (bs n),rv (bS s).1 (bS s).2] wx (fun e w'=>e=.returned (rv (kH s n).1 (kH s n).2)∧Bw wx w') from aAE x.qa x.ql x.qc s.qs n (bS s).1 (bS s).2 wx (h.1.below hb) Gq (fun q hq=>(hf.1.2 q hq).1));have CU:=aA (fun wx (hb:Bw w wx) (n:List UInt8)=>l5 x s n wx (h.below hb) hf);have Z8:=aA (aFW s nm);have NH:=aA (fun n:List UInt8=>show rQ s rx ry n=(aN 1 (aL s n).1 (aL s n).2 rx ry&&within ((aL s n).1+1*rx) ((aL s n).2+1*ry) (kH s n).1 (kH s n).2) from rfl);obtain ⟨⟨tx,ty⟩,ht⟩:∃t,bS s=t:=⟨_,rfl⟩;rw [show (iY (bG s.ms)).1=tx from congrArg Prod.fst ht,show (iY (bG s.ms)).2.1=ty from congrArg Prod.snd ht] at CT;rw [ht] at CM;obtain ⟨o,ho⟩:∃o,aDa s nm rx ry=o:=⟨_,rfl⟩;have HO:=aA (show (decide (0<(path s.qs nm).length)&&(path s.qs nm).all (rQ s rx ry))=o from ho);rw [ho];obtain ⟨ps,hps⟩:∃p,path s.qs nm=p:=⟨_,rfl⟩;rw [hps] at CPath Z8 HO;obtain ⟨rf,hrf⟩:∃f,rQ s rx ry=f:=⟨_,rfl⟩;rw [hrf] at NH HO;obtain ⟨mf,ZK⟩:∃f,kH s=f:=⟨_,rfl⟩;rw [ZK] at CM NH;obtain ⟨uf,BN⟩:∃f,aL s=f:=⟨_,rfl⟩;rw [BN] at CU NH;clear h hf ht hps ho hrf ZK BN;obtain ⟨qa,ql,qc,aa,al,ac,ma,ml,mc,ca,cl,cc⟩:=x;obtain ⟨qs,cv,ez,nv,sj,aj,ms,cs⟩:=s;simp only at CM CU CT CPath Gq GJ;have HB0:=aA (aD9 w (svc ⟨qa,ql,qc,aa,al,ac,ma,ml,mc,ca,cl,cc⟩ ⟨qs,cv,ez,nv,sj,aj,ms,cs⟩) rx ry);have V0:=aA (aG8 w (svc ⟨qa,ql,qc,aa,al,ac,ma,ml,mc,ca,cl,cc⟩ ⟨qs,cv,ez,nv,sj,aj,ms,cs⟩) rx ry);have P0:=aA (aG9 w (svc ⟨qa,ql,qc,aa,al,ac,ma,ml,mc,ca,cl,cc⟩ ⟨qs,cv,ez,nv,sj,aj,ms,cs⟩) rx ry);go_enter func85,ntmps85;go_wp2_with fail;refine (uH CPath _ (uH HB0)).mono ?_;rintro e w1 ⟨v,rfl,htx,hb⟩;have HB1:=aA (yB (uH HB0) hb);have V1:=aA ((uH V0).below hb);have P1:=aA ((uH P0).below hb);have jv:=aA htx;obtain ⟨q0,q1,q2,q3,q4,q5,q6,q7⟩:_∧_∧_∧_∧_∧_∧_∧_:=⟨(uH P1).at 0,(uH P1).at 1,(uH P1).at 2,(uH P1).at 3,(uH P1).at 4,(uH P1).at 5,(uH P1).at 6,(uH P1).at 7⟩;simp at q0 q1 q2 q3 q4 q5 q6 q7;clear hb HB0 V0 P0 CPath htx;go_wp2_with fail;refine (uH CT _ (uH HB1)).mono ?_;rintro e w2 ⟨rfl,hb⟩;have HB2:=aA (yA (yB (uH HB1) hb) (.cells #[.int .i64 tx,.int .i64 ty] 33));have V2:=aA (((uH V1).below hb).al (.cells #[.int .i64 tx,.int .i64 ty] 33));have P2:=aA (((uH P1).below hb).al (.cells #[.int .i64 tx,.int .i64 ty] 33));have hX2:=((uH jv).below hb).below (yA (yH _ _) (.cells #[.int .i64 tx,.int .i64 ty] 33));have T2:=aA (aK w2 33 tx ty);obtain ⟨po,pc,rfl,Gw⟩:=aFH hX2;have HC:=aA Gw;clear hb q0 q1 q2 q3 q4 q5 q6 q7 V1 P1 jv HB1 CT hX2 Gw;obtain ⟨n,hn⟩:∃n,ps.length=n:=⟨_,rfl⟩;rw [hn] at Z8 HO ⊢;have HN:=aA hn;have hn2:n≤1048576:=uH Z8;clear hn Z8;obtain ⟨W2,hW2⟩:∃W,w2.alloc (.cells #[.int .i64 tx,.int .i64 ty] 33)=W:=⟨_,rfl⟩;rw [hW2] at HB2 V2 P2 T2 HC;have HW2:=aA hW2;clear hW2;go_wp2;go_loopw [9] (fun i wr=>∃(k:Nat),k≤n∧i=.int .i64 k∧Hid ((decide (0<n)&&(ps.drop k).all rf)=o)∧Hid (Kp W2 wr)) (fun i _=>n - (intOf i).toNat);case atStart=>obtain rfl:=uH HW2;exact ⟨0,Nat.zero_le _,rfl,HO,aA (Kp.new _)⟩
  case round=>
    obtain ⟨k,hk,rfl,HQ,HK⟩:=hrel;have kq:=uH HK;obtain ⟨q0,q1,q2,q3,q4,q5,q6,q7⟩:_∧_∧_∧_∧_∧_∧_∧_:=⟨kq.cell ((uH P2).at 0),kq.cell ((uH P2).at 1),kq.cell ((uH P2).at 2),kq.cell ((uH P2).at 3),kq.cell ((uH P2).at 4),kq.cell ((uH P2).at 5),kq.cell ((uH P2).at 6),kq.cell ((uH P2).at 7)⟩;have r0:=kq.cell (uH V2).c0;have r1:=kq.cell (uH V2).c1;have t0:=kq.cell (uH T2).c0;have t1:=kq.cell (uH T2).c1;have QO:=aA (yB (uH HB2) kq);clear kq;by_cases hlt:k<n
    · (have hkl:k<ps.length:=by have:=uH HN;omega);obtain ⟨pg,rfl,hc0⟩:=uH HC k hkl;have c0:=(uH HK).cell hc0;(have hst:(ps.drop k).all rf=(rf ps[k]&&(ps.drop (k+1)).all rf):=by rw [List.drop_eq_getElem_cons hkl,List.all_cons]);have HST:=aA hst;obtain ⟨nx,hs⟩:∃s,ps[k]=s:=⟨_,rfl⟩;rw [hs] at c0 HST;have WA:=aA (uH NH nx);have CUk:=aA (fun wx hb=>uH CU wx hb nx);have CMk:=aA (fun wx hb=>uH CM wx hb nx);obtain ⟨⟨ux,uy⟩,hu⟩:∃u,uf nx=u:=⟨_,rfl⟩;obtain ⟨⟨mx,my⟩,hm⟩:∃u,mf nx=u:=⟨_,rfl⟩;rw [hu] at CUk WA;rw [hm] at CMk WA;simp only at CUk CMk WA;(have k0:(0:Int)≤k:=by omega);(have k1:(k:Int)<n:=by omega);have CA:=aA (fun wx=>xE ux uy rx ry wx);obtain ⟨x',y',ok,hv⟩:∃x' y' ok,kY 1 ux uy rx ry=rv x' y'∧aN 1 ux uy rx ry=ok∧(ok=true→x'=ux+1*rx∧y'=uy+1*ry):=by
        cases hb:aN 1 ux uy rx ry
        · exact ⟨0,0,_,lN hb,rfl,by simp⟩
        · exact ⟨_,_,_,lW hb,rfl,fun _=>⟨rfl,rfl⟩⟩
      have Z7:=aA hv.2.2;rw [hv.1,hv.2.1] at CA;rw [hv.2.1] at WA;have R:∀wx,Kp wr wx→wx.cell? ⟨w.heap.size,0,none⟩=some (.slice qa ql qc)∧wx.cell? ⟨w.heap.size,1,none⟩=some (.int .i64 cv)∧wx.cell? ⟨w.heap.size,2,none⟩=some (.int .i64 ez)∧wx.cell? ⟨w.heap.size,3,none⟩=some (.int .i64 nv)∧wx.cell? ⟨w.heap.size,4,none⟩=some (.int .i64 sj)∧wx.cell? ⟨w.heap.size,5,none⟩=some (.slice aa al ac)∧wx.cell? ⟨w.heap.size,6,none⟩=some (.slice ma ml mc)∧wx.cell? ⟨w.heap.size,7,none⟩=some (.slice ca cl cc)∧wx.cell? ⟨w.heap.size+1,0,none⟩=some (.int .i64 rx)∧wx.cell? ⟨w.heap.size+1,1,none⟩=some (.int .i64 ry)∧wx.cell? ⟨pg,k,none⟩=some (.string (bs nx)):=fun wx h=>
        ⟨h.cell q0,h.cell q1,h.cell q2,h.cell q3,h.cell q4,h.cell q5,h.cell q6,h.cell q7,h.cell r0,h.cell r1,h.cell c0⟩
      have A0:=aA (Kp.new wr);have HS:=aA (bK wr);have hwr:w.heap.size+1<wr.heap.size:=yG r0;clear hc0 hkl hs hu hm hv hst;(go_wp2_with fail);(go_cut [10,11] from 24 to 34 (fun v7 v8 wx=>∃g,v7=.pointer (some ⟨g,0,none⟩)∧v8=.bool ok∧Kp wr wx∧Var wx 33 g x' y'));case first=>
        go_region_held3 (fun wx=>Kp wr wx)
          (first | (with_reducible assumption) | exact uH SA | exact (uH HS).drew (uH A0) | exact (uH HS).al (uH SA) _ | exact (uH HS).al (by assumption) _ | exact (uH HS).al ((uH HS).drew (uH A0)) _ | exact (uH HS).call (by assumption) (by assumption) | exact (uH HS).set2 (uH SA) _ _ _ (by first | omega | (simp<;>omega)) | exact (uH HS).set2 (by assumption) _ _ _ (by first | omega | (simp<;>omega)))
          (first
          | (go_at_call 21;refine (uH CUk _ ?_).mono ?_;(exact yB (uH QO) ((uH HS).below (by assumption)));rintro e wt ⟨rfl,hb⟩;have SA:=aA ((uH HS).call (by assumption) hb);have sz:=(uH HS).size (uH SA)
             first
               | (have V5:=(aK _ 33 0 0).below hb;(try simp at V5);have c50:=V5.c0;have c51:=V5.c1;have f50:=V5.f 0;have f51:=V5.f 1;have V5:=aA V5)
               | (have V5:=(aK _ 33 0 0).drew.below hb;(try simp at V5);have c50:=V5.c0;have c51:=V5.c1;have f50:=V5.f 0;have f51:=V5.f 1;have V5:=aA V5)
               | skip)
          | (go_at_call 128;refine (uH CA _).mono ?_;rintro e wt ⟨rfl,hb⟩;have SA:=aA ((uH HS).call (by assumption) hb);have sz:=(uH HS).size (uH SA)
             first
               | (have V5:=(aK _ 33 0 0).below hb;(try simp at V5);have c50:=V5.c0;have c51:=V5.c1;have f50:=V5.f 0;have f51:=V5.f 1;have V5:=aA V5)
               | (have V5:=(aK _ 33 0 0).drew.below hb;(try simp at V5);have c50:=V5.c0;have c51:=V5.c1;have f50:=V5.f 0;have f51:=V5.f 1;have V5:=aA V5)
               | (have V5:=aA ((uH V5).below hb);have c50:=(uH V5).c0;have c51:=(uH V5).c1;have f50:=(uH V5).f 0;have f51:=(uH V5).f 1)
               | skip))
        all_goals
          (go_wp2_with fail);go_meet;exact ⟨_,rfl,rfl,by first | assumption | exact uH SA | exact (uH HS).al (uH SA) _,by first | exact aK _ _ _ _ | exact (uH V5).set _ _⟩
      case rest=>
        obtain ⟨g,rfl,rfl,hA,hV⟩:=hcut;obtain ⟨w4,rfl⟩:∃w4,w4=wc:=⟨wc,rfl⟩;have XI:=aA (show Kp W2 w4 from yB (uH HK) hA);have GD:=aA (yB (uH QO) hA);have g0:=hA.cell q0;have e0:=hA.cell t0;have e1:=hA.cell t1;have d0:=hA.cell c0;have s0:=hV.c0;have s1:=hV.c1;clear hA hV A0 HS R CA CUk q0 q1 q2 q3 q4 q5 q6 q7 r0 r1 t0 t1 c0;have A0:=aA (Kp.new w4);have HS:=aA (bK w4);obtain ⟨pv,hpv⟩:∃o,rf nx=o:=⟨_,rfl⟩;rw [hpv] at HST WA;clear hpv;(go_wp2_with fail);(go_cut [49] from 35 to 48 (fun v49 wx=>v49=.bool (!pv)∧Kp w4 wx));case first=>
          cases ok with
          | false=>
            (obtain rfl:pv=false:=by rw [uH WA];rfl);go_quiet (fail)
            all_goals
              (go_wp2_with fail);go_meet;exact ⟨rfl,wO (yH _ _) _⟩
          | true=>
            obtain ⟨rfl,rfl⟩:=uH Z7 rfl;have FK:=aA (show pv=within (ux+1*rx) (uy+1*ry) mx my by rw [uH WA];rfl);have CW:=aA (fun wx=>by have:=fK (ux+1*rx) (uy+1*ry) mx my wx;rw [←uH FK] at this;exact this);obtain ⟨sx,hsx⟩:∃a,ux+1*rx=a:=⟨_,rfl⟩;obtain ⟨sy,hsy⟩:∃a,uy+1*ry=a:=⟨_,rfl⟩;rw [hsx] at s0 CW;rw [hsy] at s1 CW;(have R:∀wx,Kp w4 wx→wx.cell? ⟨w.heap.size,0,none⟩=some (.slice qa ql qc)∧wx.cell? ⟨w2.heap.size,0,none⟩=some (.int .i64 tx)∧wx.cell? ⟨w2.heap.size,1,none⟩=some (.int .i64 ty)∧wx.cell? ⟨pg,k,none⟩=some (.string (bs nx))∧wx.cell? ⟨g,0,none⟩=some (.int .i64 sx)∧wx.cell? ⟨g,1,none⟩=some (.int .i64 sy):=fun wx h=>⟨h.cell g0,h.cell e0,h.cell e1,h.cell d0,h.cell s0,h.cell s1⟩);clear hsx hsy WA FK Z7;go_region_held3 (fun wx=>Kp w4 wx)
              (first | (with_reducible assumption) | exact uH SA | exact (uH HS).drew (uH A0) | exact (uH HS).call (by assumption) (by assumption))
              (first
              | (go_at_call 146;refine (uH CMk _ ?_).mono ?_;(exact yB (uH GD) ((uH HS).below (by assumption)));rintro e wt ⟨rfl,hb⟩;have SA:=aA ((uH HS).call (by assumption) hb))
              | (go_at_call 83;refine (uH CW _).mono ?_;rintro e wt2 ⟨rfl,hb⟩;have SA:=aA ((uH HS).call (by assumption) hb)))
            all_goals
              (go_wp2_with fail);go_meet;exact ⟨rfl,by first | assumption | exact uH SA⟩
        case rest=>
          obtain ⟨rfl,hA⟩:=hcut;have YU:=aA (show Kp W2 wc from yB (uH XI) hA);have GZ:=aA (yB (uH GD) hA);clear hA g0 e0 e1 d0 s0 s1 A0 HS Z7;cases pv with
          | true=>have WC:=aA (show (decide (0<n)&&(ps.drop (k+1)).all rf)=o by have:=uH HQ;rw [uH HST] at this;simpa using this);go_wp2;go_roundw;(case rel=>exact ⟨k+1,by omega,by go_num,WC,YU⟩);case measure=>simp [intOf];omega
          | false=>
            (obtain rfl:o=false:=by have:=uH HQ;rw [uH HST] at this;simpa using this.symm);go_wp2;go_ret;exact ⟨rfl,uH GZ⟩
    · (have ho:o=decide (0<n):=by have:=uH HQ;rw [List.drop_of_length_le (by have:=uH HN;omega)] at this;simpa using this.symm);subst ho;clear q0 q1 q2 q3 q4 q5 q6 q7 r0 r1 t0 t1;go_wp2;go_ret;exact ⟨rfl,uH QO⟩
end
end Go.Proofs.YtfndhndlkcijoaaGreat
