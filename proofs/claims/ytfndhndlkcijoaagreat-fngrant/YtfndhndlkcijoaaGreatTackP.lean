/-
  Texts in one: StdQ, DrC, DrE.
-/
import Derived.Test.YtfndhndlkcijoaaGreatTackL
import Derived.Test.YtfndhndlkcijoaaGreatTackK
set_option maxRecDepth 100000
set_option maxHeartbeats 16000000
set_option linter.unusedVariables false
set_option linter.unusedSimpArgs false
open Go.Proofs.Tryz
namespace Go.Proofs.YtfndhndlkcijoaaGreat
section
open Go.RowKit Go.Maps
variable {F:List Fr3} {K:List P4} {l:List SE} {bk bm g:Nat} {w w0:World}
def HI (K:List P4) (F:List Fr3) (w0:World) (bm bk g:Nat) (w:World) (l:List SE):Prop:=HSt K F w0 bm bk g w l∧l.length≤1000000
theorem aJx (K:List P4) (F:List Fr3) (hK:K.length≤1000000000) (KW:∀p ∈ K,Wf4 p.1 p.2.1 p.2.2.1 p.2.2.2) (w0:World) (bm bk g:Nat) :
  xZ (∀f ∈ F,f.2.2≠91) seD gP g (HI K F w0 bm bk g) (fun _ x v=>v=.iface 91 (stv x)∧x.2 ∈ K) where
 obj:=fun w l h=>let ⟨v,b,_⟩:=h.1.1;⟨v,_,b⟩
 less:=fun w l x y i j h hb hi hj=>(aE2 K F hK KW w0 bm bk g w l x y i j h.1 hb hi hj h.2).mono (fun e w' k=>⟨k.1,k.2,h.2⟩)
 swap:=fun w l x y i j h hb hi hj=>(aE0 K F w0 bm bk g w l x y i j h.1 hb hi hj h.2).mono (fun e w' k=>⟨k.1,k.2,by rw [HeapM.swap_len];exact h.2⟩)
 len:=fun w l x y h hb=>(aBV K F w0 bm bk g w l x y h.1 hb).mono (fun e w' k=>⟨k.1,k.2,h.2⟩)
 push:=fun hF w l a v h hv hl=>by
  obtain ⟨rfl,hk⟩:=hv;exact (aE1 K F w0 bm bk g w l a h.1 hF hk hl).mono (fun e w' k=>⟨k.1,k.2,by simp;omega⟩)
 pop:=fun w l h h0=>(aFq K F w0 bm bk g w l h.1 h0 h.2).mono (fun e w' k=>⟨⟨_,k.1,rfl,aHI h.1.2.2.2.2.1 (by omega)⟩,k.2,by simp;have:=h.2;omega⟩)
theorem aJn (K:List P4) (F:List Fr3) (hK:K.length≤1000000000) (KW:∀p ∈ K,Wf4 p.1 p.2.1 p.2.2.1 p.2.2.2) (w0:World) (bm bk g:Nat) (w:World) (l:List SE) (z:SE) (h:HI K F w0 bm bk g w l) (hF:∀f ∈ F,f.2.2≠91) (hz:z.2 ∈ K) (hl:l.length<1000000) :
  cP 51 #[.pointer (some ⟨g,0,none⟩),stv z] w fun e w'=>e=.returned (.tuple #[])∧HI K F w0 bm bk g w' (HeapM.upL seD gP (l.length+1) (l++[z]) l.length):=by
 obtain ⟨n1,p1,p2,p3,p4⟩:=z;have hb0:=yA (yH _ w) (.cells #[.string (bs n1),.int .i64 p1,.int .i64 p2,.int .i64 p3,.int .i64 p4] 91);have C:=aA (aHk (aJx K F hK KW w0 bm bk g) hF l (n1,p1,p2,p3,p4) (.iface 91 (stv (n1,p1,p2,p3,p4))) _ ⟨h.1.below hb0,h.2⟩ ⟨rfl,hz⟩ hl);clear h hb0;go_enter func51,ntmps51;go_wp2_with fail;refine (uH C).mono ?_;rintro e w1 ⟨rfl,hh⟩;have HH:=aA hh;clear hh C;go_wp2;go_end0;exact ⟨rfl,uH HH⟩
theorem HSt.more (h:HSt K F w0 bm bk g w l) {v:Value} (hb:Blk w g #[v,aBO bk] 85) (f:Fr3) (h2:FrB bm g f w) (hv:some f.1≠v.ownBlock):HSt K (f::F) w0 bm bk g w l:=by
 obtain ⟨⟨v0,h1,o1,hF⟩,h3,h4,h5,h6,h7,h8⟩:=h;have e:=h1.symm.trans hb;simp at e;subst e;exact ⟨⟨v0,h1,o1,fun k hk=>by rcases List.mem_cons.1 hk with rfl | hk;exact hv;exact hF k hk⟩,h3,h4,h5,h6,h7,fun k hk=>by rcases List.mem_cons.1 hk with rfl | hk;exact h2;exact h8 k hk⟩
theorem HSt.less {f:Fr3} (h:HSt K (f::F) w0 bm bk g w l):HSt K F w0 bm bk g w l:=by
 obtain ⟨⟨v0,h1,o1,hF⟩,h3,h4,h5,h6,h7,h8⟩:=h;exact ⟨⟨v0,h1,o1,fun k hk=>hF k (List.mem_cons_of_mem _ hk)⟩,h3,h4,h5,h6,h7,fun k hk=>h8 k (List.mem_cons_of_mem _ hk)⟩
theorem HSt.write {f:Fr3} (h:HSt K (f::F) w0 bm bk g w l) (hk:f.1≠bk) (h0:w0.heap.size≤f.1) (hd:∀k ∈ F,k.1≠f.1) (j:Nat) (x:Value):HSt K ((f.1,f.2.1.setIfInBounds j x,f.2.2)::F) w0 bm bk g (w.setCell ⟨f.1,j,none⟩ x) l:=by
 obtain ⟨⟨v0,h1,o1,hF⟩,h3,h4,h5,h6,h7,h8⟩:=h;have hf:=h8 f (List.mem_cons_self ..);have hv:=hF f (List.mem_cons_self ..);refine ⟨⟨v0,h1.other _ _ _ (fun e=>hf.2.2 e.symm),o1.kept (dP (aD w (some f.1)) j x) (.inr (fun e=>hv e.symm)),?_⟩,h3.other _ _ _ (fun e=>hk e.symm),h4.grown (dP (aD w (some f.1)) j x) (by simp;exact fun e=>hf.2.1 e.symm),h5,h6,yC h7 _ _ _ h0,?_⟩
 ·intro k hk';rcases List.mem_cons.1 hk' with rfl | hk'
  ·exact hv
  ·exact hF k (List.mem_cons_of_mem _ hk')
 ·intro k hk';rcases List.mem_cons.1 hk' with rfl | hk'
  ·exact ⟨hf.1.set j x,hf.2⟩
  ·have:=h8 k (List.mem_cons_of_mem _ hk');exact ⟨this.1.other _ _ _ (hd k hk'),this.2⟩
theorem aGZ (K:List P4) (w:World):cP 49 #[] w fun e w'=>e=.returned (aBO (w.heap.size+1))∧Blk w' (w.heap.size+1) #[.map (some w.heap.size)] 117∧dY K w.heap.size w'∧Bw w w'∧w'.heap.size=w.heap.size+2:=by
 have hmm:=@run_makeMap Tryz.prog;have ZE:∀(fn:Fn) (first cap:Array Value) (w:World),(Instr.makeFunc fn first cap).run Tryz.prog w=.ok (.func fn first cap) w:=fun _ _ _ _=>rfl
 go_enter func49,ntmps49
 go_wp2;go_ret;refine ⟨rfl,?_,xE K ?_,yA (yA (yH _ _) _) _,by simp⟩
 ·have:=yD (w.alloc (Obj.map #[] 0)) #[Value.map (some w.heap.size)] 117;rw [yE] at this;exact this
 ·have:=(World.ownsMap_made w Tryz.prog 89 kV).alloc (.cells #[.map (some w.heap.size)] 117);exact this
theorem aAa (K:List P4) (F:List Fr3) (hK:K.length≤1000000000) (KW:∀p ∈ K,Wf4 p.1 p.2.1 p.2.2.1 p.2.2.2) (w0:World) (bm bk g:Nat) (w:World) (l:List SE) (h:HI K F w0 bm bk g w l) (h0:0<l.length) (hw0:w0.heap.size≤w.heap.size) :
  cP 54 #[.pointer (some ⟨g,0,none⟩)] w fun e w'=>e=.returned (stv (HeapM.at' seD (HeapM.popL seD gP l) (l.length - 1)))∧HI K F w0 bm bk g w' ((HeapM.popL seD gP l).take (l.length - 1)):=by
 obtain ⟨v,b1,Hq,_⟩:=h.1.1;have hgl:=b1.lt;have h5:=h.1.2.2.2.1;have hb0:=yA (yH _ w) (.cells #[.string ⟨#[]⟩,.int .i64 0,.int .i64 0,.int .i64 0,.int .i64 0] 91);have hM:HI K ((w.heap.size,#[.string ⟨#[]⟩,.int .i64 0,.int .i64 0,.int .i64 0,.int .i64 0],91)::F) w0 bm bk g _ l:=⟨(h.1.below hb0).more (b1.below hb0) (w.heap.size,#[.string ⟨#[]⟩,.int .i64 0,.int .i64 0,.int .i64 0,.int .i64 0],91) ⟨yD _ _ _,by show w.heap.size≠bm;omega,by show w.heap.size≠g;omega⟩ (fun e=>by have:=(Hq.lt w.heap.size e.symm).2;omega),h.2⟩;have C:=aA (aJJ (aJx K _ hK KW w0 bm bk g) l _ hM h0 h.2);have HD:=aA (show ∀k ∈ F,k.1≠w.heap.size from fun k hk=>by have:=(h.1.2.2.2.2.2.2 k hk).1.lt;omega);obtain ⟨R,hR⟩:∃R,(HeapM.popL seD gP l).take (l.length - 1)=R:=⟨_,rfl⟩;obtain ⟨⟨n1,p1,p2,p3,p4⟩,hs1⟩:∃s,HeapM.at' seD (HeapM.popL seD gP l) (l.length - 1)=s:=⟨_,rfl⟩;rw [hR,hs1] at C ⊢;have hbk:w.heap.size≠bk:=by omega
 clear h b1 Hq hb0 hM hR hs1;have hta:=aHJ (n1,p1,p2,p3,p4);go_enter func54,ntmps54;go_wp2_with fail;refine (uH C).mono ?_;rintro e w1 ⟨⟨v1,rfl,rfl,_⟩,hh⟩;have q1:=hh.1.write hbk hw0 (uH HD) 0 (.string (bs n1));have q2:=q1.write hbk hw0 (uH HD) 1 (.int .i64 p1);have q3:=q2.write hbk hw0 (uH HD) 2 (.int .i64 p2);have q4:=q3.write hbk hw0 (uH HD) 3 (.int .i64 p3);have q5:=q4.write hbk hw0 (uH HD) 4 (.int .i64 p4);have bw:=(hh.1.2.2.2.2.2.2 _ (List.mem_cons_self ..)).1;obtain ⟨c0,c1,c2,c3,c4⟩:=zp bw;have f0:=bw.f 0;have f1:=bw.f 1;have f2:=bw.f 2;have f3:=bw.f 3;have f4:=bw.f 4;have bz:=(q5.2.2.2.2.2.2 _ (List.mem_cons_self ..)).1;obtain ⟨z0,z1,z2,z3,z4⟩:=zp bz;have HQ:=aA (show HI K F w0 bm bk g _ R from ⟨q5.less,hh.2⟩);simp only at HQ f0 f1 f2 f3 f4;clear hh q1 q2 q3 q4 q5 bw bz C;go_wp2;refine bodyPost_ret (v:=stv (n1,p1,p2,p3,p4)) (by simp [results,results54,go_sem,z0,z1,z2,z3,z4]) rfl ⟨rfl,uH HQ⟩
end
section
open Go.RowKit
variable {old:Array Value} {hs:List AV} {B L M a b c g m q:Nat} {S:Nat→Prop} {ao:Option Addr} {x:Sls} {s:St} {t:TypeId} {w w':World}
theorem xno {b:Bool} {p:Prop} (h:b=true):b=false→p:=fun e=>by rw [h] at e;cases e
theorem aCW (s:ByteArray):bs s.data.toList=s:=by simp [bs]
theorem nA (h:Blk w b old t) (arr:Array Value):Blk (w.setRow b arr) b arr t:=setRow_heap w b old arr t (0,0) h
theorem nQ (h:Blk w b old t) (arr:Array Value) (hs:arr.size=old.size):Mks (fun k=>k=b) w (w.setRow b arr):=by
 refine ⟨rfl,rfl,rfl,by rw [setRow_size];exact yJ _,fun k _ hk=>setRow_other w b k arr hk,fun t' g N hc=>?_⟩;by_cases e:g=b
 ·subst e;obtain ⟨c,h1,h2⟩:=hc;rw [h] at h1;cases h1;exact ⟨arr,nA h arr,by omega⟩
 ·exact hc.of_block (setRow_other w b g arr e)
abbrev aIx:Array Value:=#[.slice none 0 0,.int .i64 0,.int .i64 0,.int .i64 0,.int .i64 0,.slice none 0 0,.slice none 0 0,.slice none 0 0]
abbrev uC:Array Value:=#[.string ⟨#[109,49]⟩,.string ⟨#[109,50]⟩,.string ⟨#[109,51]⟩]
theorem aDx (k:Nat) (hk:k<3):∃nm:List UInt8,nm.length=2∧uC[k]? = some (.string (bs nm)):=by
 match k,hk with
 | 0,_=>exact ⟨[109,49],rfl,rfl⟩
 | 1,_=>exact ⟨[109,50],rfl,rfl⟩
 | 2,_=>exact ⟨[109,51],rfl,rfl⟩
structure DSt (w:World) (B g:Nat) (ao:Option Addr) (len cap:Nat) (b q:Nat) (arr:Array Value) (wr:World):Prop where
 c:CSt w B g ao len cap wr
 gl:g<w.heap.size
 x:Blk wr b arr 29
 bl:w.heap.size<b
 r:Blk wr w.heap.size aIx 29
 n:Blk wr q uC 9
 ql:w.heap.size<q
section
variable {w wr wy:World} {B g:Nat} {ao:Option Addr} {len cap:Nat} {b q:Nat} {arr:Array Value}
theorem DSt.below (h:DSt w B g ao len cap b q arr wr) (hb:Bw wr wy):DSt w B g ao len cap b q arr wy:=⟨h.c.below hb,h.gl,h.x.below hb,h.bl,h.r.below hb,h.n.below hb,h.ql⟩
theorem DSt.mks (h:DSt w B g ao len cap b q arr wr) (hm:Mks S wr wy) (hS:∀k,S k→w.heap.size≤k∧∃t N,Cel wr t k N∧t≠29∧t≠9):DSt w B g ao len cap b q arr wy:=by
 have hx:∀{k:Nat} {a:Array Value},Blk wr k a 29→¬S k:=fun hk e=>let ⟨_,t,N,h1,h2,_⟩:=hS _ e;h2 (h1.type ⟨_,hk,rfl⟩)
 have hy:∀{k:Nat} {a:Array Value},Blk wr k a 9→¬S k:=fun hk e=>let ⟨_,t,N,h1,_,h2⟩:=hS _ e;h2 (h1.type ⟨_,hk,rfl⟩)
 exact ⟨h.c.mks hm (fun k e=>⟨(hS k e).1,Nat.lt_of_lt_of_le h.gl (hS k e).1⟩),h.gl,hm.blk h.x (hx h.x),h.bl,hm.blk h.r (hx h.r),hm.blk h.n (hy h.n),h.ql⟩
theorem DSt.cur (h:DSt w B g ao len cap b q arr wr) (hc:CSt w B g ao len cap wy) (hg:wr.grownBy wy (some g)):DSt w B g ao len cap b q arr wy:=by
 have hm:=dR h.c.1 hc.1 hg;have h1:=h.gl;have h2:=h.bl;have h3:=h.ql;exact ⟨hc,h.gl,hm.blk h.x (by omega),h.bl,hm.blk h.r (by omega),hm.blk h.n (by omega),h.ql⟩
theorem DSt.off (h:DSt w B g ao len cap b q arr wr) (hc:CSt w B g ao len cap wy) (hg:wr.grownBy wy (some g)) (H:dV w.heap.size wr x s hs):dV w.heap.size wy x s hs:=
 H.off (dR h.c.1 hc.1 hg) (aCv h.gl)
theorem DSt.set (h:DSt w B g ao len cap b q arr wr) (j:Nat) (v:Value):DSt w B g ao len cap b q (arr.setIfInBounds j v) (wr.setCell ⟨b,j,none⟩ v):=by
 have hm:Mks (fun k=>k=b) wr (wr.setCell ⟨b,j,none⟩ v):=Mks.one _ wr b j v rfl;have h1:=h.gl;have h2:=h.bl;exact ⟨h.c.mks hm (fun k e=>by subst e;omega),h.gl,h.x.set j v,h.bl,hm.blk h.r (by omega),hm.blk h.n (fun e=>by
  have hx:=h.x;have hn:=h.n;unfold Blk at hx hn;rw [e,hx] at hn;cases hn),h.ql⟩
theorem DSt.setH (h:DSt w B g ao len cap b q arr wr) (j:Nat) (v:Value) (H:dV w.heap.size wr x s hs):dV w.heap.size (wr.setCell ⟨b,j,none⟩ v) x s hs:=
 H.off (Mks.one (fun k=>k=b) wr b j v rfl) (aAl h.x (by decide) (by decide) (by decide) (by decide) (by decide))
end
structure DS (w:World) (B g:Nat) (ao:Option Addr) (len cap:Nat) (b q:Nat) (arr:Array Value) (E:Nat) (y:Sls) (s:St) (hs:List AV) (wx:World):Prop where
 d:DSt w B g ao len cap b q arr wx
 a:rO w.heap.size E wx y s hs
 e:E≤wx.heap.size
 l:w.heap.size≤E
section
variable {w wx wy:World} {B g:Nat} {ao:Option Addr} {len cap:Nat} {b q:Nat} {arr:Array Value} {E:Nat} {y:Sls} {s:St} {hs:List AV}
theorem DS.new (h:DSt w B g ao len cap b q arr wx) (H:dV w.heap.size wx y s hs):DS w B g ao len cap b q arr wx.heap.size y s hs wx:=⟨h,H.ans,yJ _,h.c.2.2.1.size⟩
theorem DS.below (h:DS w B g ao len cap b q arr E y s hs wx) (hb:Bw wx wy):DS w B g ao len cap b q arr E y s hs wy:=⟨h.d.below hb,h.a.below hb,Nat.le_trans h.e hb.size,h.l⟩
theorem DS.drew (h:DS w B g ao len cap b q arr E y s hs wx):DS w B g ao len cap b q arr E y s hs wx.drew:=h.below (yH _ _).drew
theorem DS.al (h:DS w B g ao len cap b q arr E y s hs wx) (o:Obj):DS w B g ao len cap b q arr E y s hs (wx.alloc o):=h.below (yA (yH _ _) o)
theorem DS.cur (h:DS w B g ao len cap b q arr E y s hs wx) (hc:Cur wy g ao len cap) (hg:wx.grownBy wy (some g)):DS w B g ao len cap b q arr E y s hs wy:=
 ⟨h.d.cur (h.d.c.step hc hg) hg,h.a.mks (dR h.d.c.1 hc hg) (fun k e=>.inl (by have:=h.d.gl;omega)),Nat.le_trans h.e hg.size,h.l⟩
theorem DS.out (h:DS w B g ao len cap b q arr E y s hs wx) (hm:Mks S wx wy) (hS:∀k,S k→E≤k∧∃t N,Cel wx t k N∧t≠29∧t≠9):DS w B g ao len cap b q arr E y s hs wy:=
 ⟨h.d.mks hm (fun k e=>⟨Nat.le_trans h.l (hS k e).1,(hS k e).2⟩),h.a.mks hm (fun k e=>.inr (hS k e).1),Nat.le_trans h.e hm.size,h.l⟩
end
structure AS (w:World) (B g:Nat) (ao:Option Addr) (len cap:Nat) (b q:Nat) (arr:Array Value) (E:Nat) (y:Sls) (s:St) (hs:List AV) (ba:Nat) (aa:Array Value) (ko:Option Addr) (j kc:Nat) (ak:List Ask) (wx:World):Prop where
 s:DS w B g ao len cap b q arr E y s hs wx
 x:Blk wx ba aa 56
 l:E≤ba
 r:bE wx ko j ak
 o:dW E wx.heap.size wx 43 5 ko kc
 c:j≤kc
section
variable {w wx wy:World} {B g:Nat} {ao:Option Addr} {len cap:Nat} {b q:Nat} {arr:Array Value} {E:Nat} {y:Sls} {s:St} {hs:List AV} {ba:Nat} {aa:Array Value} {ko:Option Addr} {j kc:Nat} {ak:List Ask}
theorem AS.below (h:AS w B g ao len cap b q arr E y s hs ba aa ko j kc ak wx) (hb:Bw wx wy):AS w B g ao len cap b q arr E y s hs ba aa ko j kc ak wy:=⟨h.s.below hb,h.x.below hb,h.l,h.r.below hb,h.o.grow hb (yJ _),h.c⟩
theorem AS.al (h:AS w B g ao len cap b q arr E y s hs ba aa ko j kc ak wx) (o:Obj):AS w B g ao len cap b q arr E y s hs ba aa ko j kc ak (wx.alloc o):=h.below (yA (yH _ _) o)
theorem AS.drew (h:AS w B g ao len cap b q arr E y s hs ba aa ko j kc ak wx):AS w B g ao len cap b q arr E y s hs ba aa ko j kc ak wx.drew:=h.below (yH _ _).drew
theorem AS.cur (h:AS w B g ao len cap b q arr E y s hs ba aa ko j kc ak wx) (hc:Cur wy g ao len cap) (hg:wx.grownBy wy (some g)):AS w B g ao len cap b q arr E y s hs ba aa ko j kc ak wy:=by
 have hm:=dR h.s.d.c.1 hc hg;have h1:=h.s.d.gl;have h2:=h.s.l;have h3:=h.l;have ho:Off E wx 43 (fun k=>k=g):=fun k e=>.inl (by omega)
 exact ⟨h.s.cur hc hg,hm.blk h.x (by omega),h.l,h.r.mks hm (iR (h.o.le h.c) hm ho).1,(iR h.o hm ho).2,h.c⟩
theorem AS.set (h:AS w B g ao len cap b q arr E y s hs ba aa ko j kc ak wx) (i:Nat) (v:Value):AS w B g ao len cap b q arr E y s hs ba (aa.setIfInBounds i v) ko j kc ak (wx.setCell ⟨ba,i,none⟩ v):=by
 have hm:Mks (fun k=>k=ba) wx (wx.setCell ⟨ba,i,none⟩ v):=Mks.one _ wx ba i v rfl;have ho:Off E wx 43 (fun k=>k=ba):=fun k e=>.inr ⟨56,aa.size,by subst e;exact ⟨_,h.x,rfl⟩,by decide⟩
 exact ⟨h.s.out hm (fun k e=>by subst e;exact ⟨h.l,_,_,⟨_,h.x,rfl⟩,by decide,by decide⟩),h.x.set i v,h.l,h.r.mks hm (iR (h.o.le h.c) hm ho).1,(iR h.o hm ho).2,h.c⟩
theorem AS.app {g4 cp:Nat} (h:AS w B g ao len cap b q arr E y s hs ba aa ko j kc ak wx) (m:Ask) (ha:aES E wx 43 5 ko (j+1) (aR ak++aBM m) g4 cp wy):AS w B g ao len cap b q arr E y s hs ba aa (some ⟨g4,0,none⟩) (j+1) cp (ak++[m]) wy:=
 ⟨h.s.out ha.mks (fun k ⟨N,hc,hB⟩=>⟨hB,_,N,hc,by decide,by decide⟩),ha.mks.blk h.x (fun ⟨N,hc,_⟩=>absurd (hc.type ⟨_,h.x,rfl⟩) (by decide)),h.l,aJl h.r.1 m ha,ha.own,ha.cap⟩
end
theorem qC.below (h:qC w q L) (hb:Bw w w'):qC w' q L:=⟨Nat.lt_of_lt_of_le h.1 hb.size,fun j hj=>let ⟨s,h1,h2⟩:=h.2 j hj;⟨s,iX h1 hb,h2⟩⟩
theorem qC.cur (h:qC w q L) (hg:w.grownBy w' (some g)) (hn:g≠q):qC w' q L:=⟨Nat.lt_of_lt_of_le h.1 hg.size,fun j hj=>by
 obtain ⟨s,h1,h2⟩:=h.2 j hj;refine ⟨s,?_,h2⟩;rw [←h1];simp only [World.cell?,hg.block q h.1 (fun e=>hn (Option.some.inj e).symm)]⟩
structure SmS (s:St) (a m c:Nat):Prop where
 q:s.qs.length≤1000∧∀q ∈ s.qs,q.name.length≤1000∧q.parent.length≤1000
 al:s.apps.length≤a
 ml:s.ms.length≤m
 cl:s.cs.length≤c
 ap:∀x ∈ s.apps,x.queue.length≤12∧x.asks.length≤3∧(∀k ∈ x.asks,k.node.length≤12)∧0≤x.id∧x.id≤100000
 mn:∀x ∈ s.ms,x.name.length≤12
 cn:∀x ∈ s.cs,x.node.length≤12∧0≤x.app∧x.app≤100000
 nx:0≤s.next∧s.next≤1001+a
 se:0≤s.serial∧s.serial≤1+c
theorem SmS.fit (h:SmS s a m c) (ha:a≤1000) (hm:m≤1000) (hc:c≤1000):dB s:=by
 have h1:=h.q.1;have h2:=h.al;have h3:=h.ml;have h4:=h.cl;refine ⟨⟨by omega,fun q hq=>?_⟩,⟨by omega,fun x hx=>?_⟩,⟨by omega,fun x hx=>?_⟩,⟨by omega,fun x hx=>?_⟩⟩
 ·have:=h.q.2 q hq;omega
 ·obtain ⟨k1,k2,k3,_⟩:=h.ap x hx;exact ⟨by omega,by omega,fun y hy=>by have:=k3 y hy;omega⟩
 ·have:=h.mn x hx;omega
 ·have:=h.cn x hx;omega
theorem SmS.wf (h:SmS s a m c):yQ s:=
 ⟨fun x hx=>by have:=h.ap x hx;exact aD6 (by omega) (by omega),fun x hx=>by have:=h.cn x hx;exact aD6 (by omega) (by omega)⟩
theorem SmS.addM (h:SmS s a m c) (x:Mac) (hx:x.name.length≤12):SmS ⟨s.qs,s.clock,s.epoch,s.next,s.serial,s.apps,s.ms++[x],s.cs⟩ a (m+1) c:=
 ⟨h.q,h.al,by have:=h.ml;simp;omega,h.cl,h.ap,fun y hy=>by rcases List.mem_append.1 hy with hy | hy;exact h.mn y hy;simp at hy;subst hy;exact hx,h.cn,h.nx,h.se⟩
theorem SmS.addA (h:SmS s a m c) (x:dA) (nx:Int) (ha:a≤1000) (h1:x.queue.length≤12) (h2:x.asks.length≤3) (h3:∀k ∈ x.asks,k.node.length≤12) (h4:x.id=s.next) (h5:nx=s.next+1):SmS ⟨s.qs,s.clock,s.epoch,nx,s.serial,s.apps++[x],s.ms,s.cs⟩ (a+1) m c:=by
 have hn:=h.nx;refine ⟨h.q,by have:=h.al;simp;omega,h.ml,h.cl,fun y hy=>?_,h.mn,h.cn,⟨by show 0≤nx;omega,by show nx≤_;omega⟩,h.se⟩;rcases List.mem_append.1 hy with hy | hy
 ·exact h.ap y hy
 ·simp at hy;subst hy;exact ⟨h1,h2,h3,by omega,by omega⟩
theorem SmS.next (h:SmS s a m c) (cs:List Con) (hl:cs.length≤c+1) (hx:∀x ∈ cs,x.node.length≤12∧0≤x.app∧x.app≤100000):SmS ⟨s.qs,s.clock,s.epoch,s.next,s.serial+1,s.apps,s.ms,cs⟩ a m (c+1):=
 ⟨h.q,h.al,h.ml,hl,h.ap,h.mn,hx,h.nx,by have:=h.se;show 0≤s.serial+1∧s.serial+1≤_;omega⟩
theorem SmS.mono {a' m' c':Nat} (h:SmS s a m c) (ha:a≤a') (hm:m≤m') (hc:c≤c'):SmS s a' m' c':=by
 have h1:=h.al;have h2:=h.ml;have h3:=h.cl;have h4:=h.nx;have h5:=h.se;exact ⟨h.q,by omega,by omega,by omega,h.ap,h.mn,h.cn,by omega,by omega⟩
theorem SmS.addC (h:SmS s a m c) (x:Con) (hx:x.node.length≤12∧0≤x.app∧x.app≤100000):SmS ⟨s.qs,s.clock,s.epoch,s.next,s.serial,s.apps,s.ms,s.cs++[x]⟩ a m (c+1):=
 ⟨h.q,h.al,h.ml,by have:=h.cl;simp;omega,h.ap,h.mn,fun y hy=>by rcases List.mem_append.1 hy with hy | hy;exact h.cn y hy;simp at hy;subst hy;exact hx,h.nx,by have:=h.se;show 0≤s.serial∧s.serial≤_;omega⟩
theorem sD {sz n:Nat} (h:dW B w.heap.size w t sz ao n) (hn:0<n):∃g M,ao=some ⟨g,0,none⟩∧B≤g∧Cel w t g (M*sz)∧n≤M:=by
 rcases h with e | ⟨g,M,e,h1,_,h2,h3⟩
 ·omega
 ·exact ⟨g,M,e,h1,h2,h3⟩
theorem jP {k0 N:Nat} {t':TypeId} (h:Cel w t' k0 N) (ht:t'≠t):Off B w t (fun k=>k=k0):=fun k e=>.inr ⟨t',N,by subst e;exact h,ht⟩
section
variable {B n:Nat} {w:World} {ao:Option Addr}
theorem nH.mem0 {c:Con} {t:List Con} (h:nH B w (some ⟨g,0,none⟩) n (c::t)) (hc:Cel w 35 g (M*5)) (x:Int) :
  w.cell? ⟨g,3,none⟩=some (.int .i64 c.mem)∧nH B (w.setCell ⟨g,3,none⟩ (.int .i64 x)) (some ⟨g,0,none⟩) n (⟨c.id,c.app,c.node,x,c.cpu⟩::t):=by
 obtain ⟨⟨h1,h2⟩,h3⟩:=h;rcases h2 with e | ⟨b,off,e,hh⟩
 ·rw [e] at h1;simp at h1
 ·cases e;have c0:=hh 0 (by simp);simp only [Nat.zero_mul,Nat.add_zero,List.getElem_cons_zero] at c0;obtain ⟨a0,a1,a2,a3,a4⟩:=c0;simp only [Nat.zero_add] at a0 a1 a2 a3 a4;refine ⟨a3,⟨by simpa using h1,.inr ⟨g,0,rfl,fun i hi=>?_⟩⟩,?_⟩
  ·cases i with
   | zero=>simp only [Nat.zero_mul,Nat.add_zero,List.getElem_cons_zero];exact ⟨bC a0 (by omega),bC a1 (by omega),bC a2 (by omega),World.cell?_setCell_same _ ⟨g,3,none⟩ _ a3,bC a4 (by omega)⟩
   | succ i=>have ci:=hh (i+1) (by simpa using hi);simp only [List.getElem_cons_succ] at ci ⊢;obtain ⟨b0,b1,b2,b3,b4⟩:=ci;exact ⟨bC b0 (by omega),bC b1 (by omega),bC b2 (by omega),bC b3 (by omega),bC b4 (by omega)⟩
  ·rw [bV];exact h3.mks (Mks.one (fun x=>x=g) w g 3 _ rfl)
theorem o6.seen0 {c:Mac} {t:List Mac} (h:o6 B w (some ⟨g,0,none⟩) n (c::t)) (hc:Cel w 103 g (M*4)) (x:Int) :
  w.cell? ⟨g,3,none⟩=some (.int .i64 c.seen)∧o6 B (w.setCell ⟨g,3,none⟩ (.int .i64 x)) (some ⟨g,0,none⟩) n (⟨c.name,c.mem,c.cpu,x⟩::t):=by
 obtain ⟨⟨h1,h2⟩,h3⟩:=h;rcases h2 with e | ⟨b,off,e,hh⟩
 ·rw [e] at h1;simp at h1
 ·cases e;have c0:=hh 0 (by simp);simp only [Nat.zero_mul,Nat.add_zero,List.getElem_cons_zero] at c0;obtain ⟨a0,a1,a2,a3⟩:=c0;simp only [Nat.zero_add] at a0 a1 a2 a3;refine ⟨a3,⟨by simpa using h1,.inr ⟨g,0,rfl,fun i hi=>?_⟩⟩,?_⟩
  ·cases i with
   | zero=>simp only [Nat.zero_mul,Nat.add_zero,List.getElem_cons_zero];exact ⟨bC a0 (by omega),bC a1 (by omega),bC a2 (by omega),World.cell?_setCell_same _ ⟨g,3,none⟩ _ a3⟩
   | succ i=>have ci:=hh (i+1) (by simpa using hi);simp only [List.getElem_cons_succ] at ci ⊢;obtain ⟨b0,b1,b2,b3⟩:=ci;exact ⟨bC b0 (by omega),bC b1 (by omega),bC b2 (by omega),bC b3 (by omega)⟩
  ·rw [bV];exact h3.mks (Mks.one (fun x=>x=g) w g 3 _ rfl)
theorem nG.queue0 {c:AV} {t:List AV} (h:nG B w (some ⟨g,0,none⟩) n (c::t)) (hc:Cel w 56 g (M*3)) (x:List UInt8) :
  w.cell? ⟨g,1,none⟩=some (.string (bs c.queue))∧nG B (w.setCell ⟨g,1,none⟩ (.string (bs x))) (some ⟨g,0,none⟩) n (⟨c.id,x,c.ao,c.len,c.cap⟩::t):=by
 obtain ⟨⟨h1,h2⟩,h3⟩:=h;rcases h2 with e | ⟨b,off,e,hh⟩
 ·rw [e] at h1;simp at h1
 ·cases e;have c0:=hh 0 (by simp);simp only [Nat.zero_mul,Nat.add_zero,List.getElem_cons_zero] at c0;obtain ⟨a0,a1,a2⟩:=c0;simp only [Nat.zero_add] at a0 a1 a2;refine ⟨a1,⟨by simpa using h1,.inr ⟨g,0,rfl,fun i hi=>?_⟩⟩,?_⟩
  ·cases i with
   | zero=>simp only [Nat.zero_mul,Nat.add_zero,List.getElem_cons_zero];exact ⟨bC a0 (by omega),World.cell?_setCell_same _ ⟨g,1,none⟩ _ a1,bC a2 (by omega)⟩
   | succ i=>have ci:=hh (i+1) (by simpa using hi);simp only [List.getElem_cons_succ] at ci ⊢;obtain ⟨b0,b1,b2⟩:=ci;exact ⟨bC b0 (by omega),bC b1 (by omega),bC b2 (by omega)⟩
  ·rw [bV];exact h3.mks (Mks.one (fun x=>x=g) w g 1 _ rfl)
theorem jG.queue0 {c:AV} {t:List AV} {a:dA} {l:List dA} (h:jG B w (c::t) (a::l)) (x:List UInt8):jG B w (⟨c.id,x,c.ao,c.len,c.cap⟩::t) (⟨a.id,x,a.asks⟩::l):=by
 refine ⟨⟨by simpa using h.heads.1,fun i h1 h2=>?_⟩,fun v hv=>?_,?_⟩
 ·cases i with
  | zero=>have:=h.heads.2 0 (by simp) (by simp);simp only [List.getElem_cons_zero] at this ⊢;exact ⟨this.1,trivial,this.2.2⟩
  | succ i=>have:=h.heads.2 (i+1) (by simpa using h1) (by simpa using h2);simpa using this
 ·rcases List.mem_cons.1 hv with rfl | hv
  ·exact h.own c (by simp)
  ·exact h.own v (by simp [hv])
 ·have:=h.apart;rw [List.pairwise_cons] at this ⊢;exact ⟨fun v hv=>this.1 v hv,this.2⟩
end
section
variable {B:Nat} {w:World} {x:Sls} {s:St} {hs:List AV}
theorem dV.mem0 {c:Con} {t:List Con} (h:dV B w x s hs) (hg:x.ca=some ⟨g,0,none⟩) (e:s.cs=c::t) (v:Int):(∃arr,Blk w g arr 35∧3<arr.size∧B≤g)∧dV B (w.setCell ⟨g,3,none⟩ (.int .i64 v)) x ⟨s.qs,s.clock,s.epoch,s.next,s.serial,s.apps,s.ms,⟨c.id,c.app,c.node,v,c.cpu⟩::t⟩ hs:=by
 have hn:0<x.cl:=by have:=h.c.1.1;rw [e] at this;simp at this;omega
 obtain ⟨g',M,e',hB,hc,hM⟩:=sD h.c.2 hn;obtain rfl:g=g':=by rw [hg] at e';cases e';rfl
 have hm:Mks (fun k=>k=g) w (w.setCell ⟨g,3,none⟩ (.int .i64 v)):=Mks.one _ w g 3 _ rfl;have hC:=h.c;rw [e,hg] at hC;obtain ⟨arr,ha,hz⟩:=hc;refine ⟨⟨arr,ha,by omega,hB⟩,h.q.off hm (jP ⟨arr,ha,hz⟩ (by decide)),h.p.off hm (jP ⟨arr,ha,hz⟩ (by decide)),h.k.off hm (jP ⟨arr,ha,hz⟩ (by decide)),h.m.off hm (jP ⟨arr,ha,hz⟩ (by decide)),?_,h.cap,(h.rm.mks hm).mono (yJ _) hm.size⟩;rw [hg];exact (hC.mem0 ⟨arr,ha,hz⟩ v).2
theorem dV.seen0 {c:Mac} {t:List Mac} (h:dV B w x s hs) (hg:x.ma=some ⟨g,0,none⟩) (e:s.ms=c::t) (v:Int):(∃arr,Blk w g arr 103∧3<arr.size∧B≤g)∧dV B (w.setCell ⟨g,3,none⟩ (.int .i64 v)) x ⟨s.qs,s.clock,s.epoch,s.next,s.serial,s.apps,⟨c.name,c.mem,c.cpu,v⟩::t,s.cs⟩ hs:=by
 have hn:0<x.ml:=by have:=h.m.1.1;rw [e] at this;simp at this;omega
 obtain ⟨g',M,e',hB,hc,hM⟩:=sD h.m.2 hn;obtain rfl:g=g':=by rw [hg] at e';cases e';rfl
 have hm:Mks (fun k=>k=g) w (w.setCell ⟨g,3,none⟩ (.int .i64 v)):=Mks.one _ w g 3 _ rfl;have hC:=h.m;rw [e,hg] at hC;obtain ⟨arr,ha,hz⟩:=hc;refine ⟨⟨arr,ha,by omega,hB⟩,h.q.off hm (jP ⟨arr,ha,hz⟩ (by decide)),h.p.off hm (jP ⟨arr,ha,hz⟩ (by decide)),h.k.off hm (jP ⟨arr,ha,hz⟩ (by decide)),?_,h.c.off hm (jP ⟨arr,ha,hz⟩ (by decide)),h.cap,(h.rm.mks hm).mono (yJ _) hm.size⟩;rw [hg];exact (hC.seen0 ⟨arr,ha,hz⟩ v).2
theorem dV.queue0 {c:AV} {t:List AV} {a:dA} {l:List dA} (h:dV B w x s (c::t)) (hg:x.aa=some ⟨g,0,none⟩) (e:s.apps=a::l) (v:List UInt8):(∃arr,Blk w g arr 56∧1<arr.size∧B≤g)∧dV B (w.setCell ⟨g,1,none⟩ (.string (bs v))) x ⟨s.qs,s.clock,s.epoch,s.next,s.serial,⟨a.id,v,a.asks⟩::l,s.ms,s.cs⟩ (⟨c.id,v,c.ao,c.len,c.cap⟩::t):=by
 have hn:0<x.al:=by have:=h.p.1.1;simp at this;omega
 obtain ⟨g',M,e',hB,hc,hM⟩:=sD h.p.2 hn;obtain rfl:g=g':=by rw [hg] at e';cases e';rfl
 have hm:Mks (fun k=>k=g) w (w.setCell ⟨g,1,none⟩ (.string (bs v))):=Mks.one _ w g 1 _ rfl;have hC:=h.p;rw [hg] at hC;have hK:=h.k;rw [e] at hK;obtain ⟨arr,ha,hz⟩:=hc;have hrm:=(h.rm.mks hm).mono (yJ B) hm.size;refine ⟨⟨arr,ha,by omega,hB⟩,h.q.off hm (jP ⟨arr,ha,hz⟩ (by decide)),?_,(hK.off hm (jP ⟨arr,ha,hz⟩ (by decide))).queue0 v,h.m.off hm (jP ⟨arr,ha,hz⟩ (by decide)),h.c.off hm (jP ⟨arr,ha,hz⟩ (by decide)),h.cap,hrm.1,hrm.2.1,hrm.2.2.1,hrm.2.2.2.1,fun z hz'=>?_⟩
 ·rw [hg];exact (hC.queue0 ⟨arr,ha,hz⟩ v).2
 ·rcases List.mem_cons.1 hz' with rfl | hz'
  ·exact hrm.2.2.2.2 c (by simp)
  ·exact hrm.2.2.2.2 z (by simp [hz'])
end
structure DrS (g:Nat) (w:World) (y:Sls) (s:St) (hs:List AV):Prop where
 q:gH w y.qa y.ql s.qs
 qg:∀k,inR y.qa y.ql k→g<k
 p:nG (g+1) w y.aa y.al hs
 k:jG (g+1) w hs s.apps
 m:o6 (g+1) w y.ma y.ml s.ms
 c:nH (g+1) w y.ca y.cl s.cs
 cap:y.ql≤y.qc
 sm:aHV y hs
 fit:dB s
 wf:yQ s
section
variable {g:Nat} {w w':World} {y:Sls} {s:St} {hs:List AV}
theorem DrS.row (h:DrS g w y s hs):gW w y s:=⟨h.q,aD2 h.p.1 h.k.heads,h.m.1,h.c.1⟩
theorem DrS.av (h:DrS g w y s hs):gG w y.aa y.al hs:=h.p.1
theorem DrS.hd (h:DrS g w y s hs):kD w hs s.apps:=h.k.heads
theorem DrS.below (h:DrS g w y s hs) (hb:Bw w w'):DrS g w' y s hs:=⟨h.q.below hb,h.qg,h.p.below hb,h.k.below hb,h.m.below hb,h.c.below hb,h.cap,h.sm,h.fit,h.wf⟩
theorem DrS.cur {len cap:Nat} (h:DrS g w y s hs) (hc:Cur w g ao len cap) (hc':Cur w' g ao len cap) (hg:w.grownBy w' (some g)):DrS g w' y s hs:=by
 have hm:=dR hc hc' hg;have ho:=aCv (w:=w) (B:=g+1) (g:=g) (Nat.lt_succ_self g);exact ⟨h.q.mks hm (fun k hk e=>by have:=h.qg k hk;omega),h.qg,h.p.off hm ho.p,h.k.off hm ho.a,h.m.off hm ho.m,h.c.off hm ho.c,h.cap,h.sm,h.fit,h.wf⟩
theorem DrS.of (h:dV B w y s hs) (hB:g<B) (hf:dB s) (hw:yQ s):DrS g w y s hs:=
 ⟨h.q.1,fun k hk=>by have:=(h.q.2.lies k hk).1;omega,(h.p.base hB),h.k.base hB,h.m.base hB,h.c.base hB,h.cap.q,h.ans.some,hf,hw⟩
end
structure DT (w:World) (B g:Nat) (ao:Option Addr) (len cap:Nat) (b:Nat) (arr:Array Value) (wr:World):Prop where
 c:CSt w B g ao len cap wr
 gl:g<w.heap.size
 x:Blk wr b arr 29
 bl:w.heap.size<b
 r:Blk wr w.heap.size aIx 29
section
variable {w wr wy:World} {B g:Nat} {ao:Option Addr} {len cap:Nat} {b:Nat} {arr:Array Value}
theorem DT.below (h:DT w B g ao len cap b arr wr) (hb:Bw wr wy):DT w B g ao len cap b arr wy:=⟨h.c.below hb,h.gl,h.x.below hb,h.bl,h.r.below hb⟩
theorem DT.mks (h:DT w B g ao len cap b arr wr) (hm:Mks S wr wy) (hS:∀k,S k→w.heap.size≤k∧∃t N,Cel wr t k N∧t≠29):DT w B g ao len cap b arr wy:=by
 have hx:∀{k:Nat} {a:Array Value},Blk wr k a 29→¬S k:=fun hk e=>let ⟨_,t,N,h1,h2⟩:=hS _ e;h2 (h1.type ⟨_,hk,rfl⟩)
 exact ⟨h.c.mks hm (fun k e=>⟨(hS k e).1,Nat.lt_of_lt_of_le h.gl (hS k e).1⟩),h.gl,hm.blk h.x (hx h.x),h.bl,hm.blk h.r (hx h.r)⟩
theorem DT.cur (h:DT w B g ao len cap b arr wr) (hc:Cur wy g ao len cap) (hg:wr.grownBy wy (some g)):DT w B g ao len cap b arr wy:=by
 have hm:=dR h.c.1 hc hg;have h1:=h.gl;have h2:=h.bl;exact ⟨h.c.step hc hg,h.gl,hm.blk h.x (by omega),h.bl,hm.blk h.r (by omega)⟩
theorem DT.off (h:DT w B g ao len cap b arr wr) (hc:Cur wy g ao len cap) (hg:wr.grownBy wy (some g)) (H:dV w.heap.size wr x s hs):dV w.heap.size wy x s hs:=H.off (dR h.c.1 hc hg) (aCv h.gl)
theorem DT.set (h:DT w B g ao len cap b arr wr) (j:Nat) (v:Value):DT w B g ao len cap b (arr.setIfInBounds j v) (wr.setCell ⟨b,j,none⟩ v):=by
 have hm:Mks (fun k=>k=b) wr (wr.setCell ⟨b,j,none⟩ v):=Mks.one _ wr b j v rfl;have h1:=h.gl;have h2:=h.bl;exact ⟨h.c.mks hm (fun k e=>by subst e;omega),h.gl,h.x.set j v,h.bl,hm.blk h.r (by omega)⟩
theorem DT.setH (h:DT w B g ao len cap b arr wr) (j:Nat) (v:Value) (H:dV w.heap.size wr x s hs):dV w.heap.size (wr.setCell ⟨b,j,none⟩ v) x s hs:=
 H.off (Mks.one (fun k=>k=b) wr b j v rfl) (aAl h.x (by decide) (by decide) (by decide) (by decide) (by decide))
end
end
end Go.Proofs.YtfndhndlkcijoaaGreat
