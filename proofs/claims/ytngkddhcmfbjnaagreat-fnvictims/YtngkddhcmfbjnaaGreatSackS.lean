/-
  Texts in one: DrC, DrE.
-/
import Derived.Test.YtngkddhcmfbjnaaGreatSackQ
set_option maxRecDepth 100000
set_option maxHeartbeats 16000000
set_option linter.unusedVariables false
set_option linter.unusedSimpArgs false
namespace Go.Proofs.YtngkddhcmfbjnaaGreat
section
open Go.RowKit
variable {old:Array Value} {hs:List AV} {B L M a b c g m q:Nat} {S:Nat→Prop} {ao:Option Addr} {x:Sls} {s:St} {t:TypeId} {w w':World}
theorem xno {b:Bool} {p:Prop} (h:b=true):b=false→p:=fun e=>by rw [h] at e;cases e
theorem aDv (s:ByteArray):bs s.data.toList=s:=by simp [bs]
theorem jT (h:Blk w b old t) (arr:Array Value):Blk (w.setRow b arr) b arr t:=setRow_heap w b old arr t (0,0) h
theorem iV (h:Blk w b old t) (arr:Array Value) (hs:arr.size=old.size):Mks (fun k=>k=b) w (w.setRow b arr):=by
 refine ⟨rfl,rfl,rfl,by rw [setRow_size];exact yJ _,fun k _ hk=>setRow_other w b k arr hk,fun t' g N hc=>?_⟩
 by_cases e:g=b
 ·subst e
  obtain ⟨c,h1,h2⟩:=hc
  rw [h] at h1
  cases h1
  exact ⟨arr,jT h arr,by omega⟩
 ·exact hc.of_block (setRow_other w b g arr e)
abbrev aJY:Array Value:=#[.slice none 0 0,.int .i64 0,.int .i64 0,.int .i64 0,.int .i64 0,.slice none 0 0,.slice none 0 0,.slice none 0 0]
abbrev uG:Array Value:=#[.string ⟨#[109,49]⟩,.string ⟨#[109,50]⟩,.string ⟨#[109,51]⟩]
theorem aEb (k:Nat) (hk:k<3):∃nm:List UInt8,nm.length=2∧uG[k]? = some (.string (bs nm)):=by
 match k,hk with
 | 0,_=>exact ⟨[109,49],rfl,rfl⟩
 | 1,_=>exact ⟨[109,50],rfl,rfl⟩
 | 2,_=>exact ⟨[109,51],rfl,rfl⟩
structure DSt (w:World) (B g:Nat) (ao:Option Addr) (len cap:Nat) (b q:Nat) (arr:Array Value) (wr:World):Prop where
 c:CSt w B g ao len cap wr
 gl:g<w.heap.size
 x:Blk wr b arr 29
 bl:w.heap.size<b
 r:Blk wr w.heap.size aJY 29
 n:Blk wr q uG 9
 ql:w.heap.size<q
section
variable {w wr wy:World} {B g:Nat} {ao:Option Addr} {len cap:Nat} {b q:Nat} {arr:Array Value}
theorem DSt.below (h:DSt w B g ao len cap b q arr wr) (hb:Bw wr wy):DSt w B g ao len cap b q arr wy:=⟨h.c.below hb,h.gl,h.x.below hb,h.bl,h.r.below hb,h.n.below hb,h.ql⟩
theorem DSt.mks (h:DSt w B g ao len cap b q arr wr) (hm:Mks S wr wy) (hS:∀k,S k→w.heap.size≤k∧∃t N,Cel wr t k N∧t≠29∧t≠9):DSt w B g ao len cap b q arr wy:=by
 have hx:∀{k:Nat} {a:Array Value},Blk wr k a 29→¬S k:=fun hk e=>let ⟨_,t,N,h1,h2,_⟩:=hS _ e;h2 (h1.type ⟨_,hk,rfl⟩)
 have hy:∀{k:Nat} {a:Array Value},Blk wr k a 9→¬S k:=fun hk e=>let ⟨_,t,N,h1,_,h2⟩:=hS _ e;h2 (h1.type ⟨_,hk,rfl⟩)
 exact ⟨h.c.mks hm (fun k e=>⟨(hS k e).1,Nat.lt_of_lt_of_le h.gl (hS k e).1⟩),h.gl,hm.blk h.x (hx h.x),h.bl,hm.blk h.r (hx h.r),hm.blk h.n (hy h.n),h.ql⟩
theorem DSt.cur (h:DSt w B g ao len cap b q arr wr) (hc:CSt w B g ao len cap wy) (hg:wr.grownBy wy (some g)):DSt w B g ao len cap b q arr wy:=by
 have hm:=dW h.c.1 hc.1 hg
 have h1:=h.gl;have h2:=h.bl;have h3:=h.ql
 exact ⟨hc,h.gl,hm.blk h.x (by omega),h.bl,hm.blk h.r (by omega),hm.blk h.n (by omega),h.ql⟩
theorem DSt.off (h:DSt w B g ao len cap b q arr wr) (hc:CSt w B g ao len cap wy) (hg:wr.grownBy wy (some g)) (H:dQ w.heap.size wr x s hs):dQ w.heap.size wy x s hs:=
 H.off (dW h.c.1 hc.1 hg) (aD4 h.gl)
theorem DSt.set (h:DSt w B g ao len cap b q arr wr) (j:Nat) (v:Value):DSt w B g ao len cap b q (arr.setIfInBounds j v) (wr.setCell ⟨b,j,none⟩ v):=by
 have hm:Mks (fun k=>k=b) wr (wr.setCell ⟨b,j,none⟩ v):=Mks.one _ wr b j v rfl
 have h1:=h.gl;have h2:=h.bl
 exact ⟨h.c.mks hm (fun k e=>by subst e;omega),h.gl,h.x.set j v,h.bl,hm.blk h.r (by omega),hm.blk h.n (fun e=>by
  have hx:=h.x
  have hn:=h.n
  unfold Blk at hx hn
  rw [e,hx] at hn
  cases hn),h.ql⟩
theorem DSt.setH (h:DSt w B g ao len cap b q arr wr) (j:Nat) (v:Value) (H:dQ w.heap.size wr x s hs):dQ w.heap.size (wr.setCell ⟨b,j,none⟩ v) x s hs:=
 H.off (Mks.one (fun k=>k=b) wr b j v rfl) (nD h.x (by decide) (by decide) (by decide) (by decide) (by decide))
end
structure DS (w:World) (B g:Nat) (ao:Option Addr) (len cap:Nat) (b q:Nat) (arr:Array Value) (E:Nat) (y:Sls) (s:St) (hs:List AV) (wx:World):Prop where
 d:DSt w B g ao len cap b q arr wx
 a:rA w.heap.size E wx y s hs
 e:E≤wx.heap.size
 l:w.heap.size≤E
section
variable {w wx wy:World} {B g:Nat} {ao:Option Addr} {len cap:Nat} {b q:Nat} {arr:Array Value} {E:Nat} {y:Sls} {s:St} {hs:List AV}
theorem DS.new (h:DSt w B g ao len cap b q arr wx) (H:dQ w.heap.size wx y s hs):DS w B g ao len cap b q arr wx.heap.size y s hs wx:=⟨h,H.ans,yJ _,h.c.2.2.1.size⟩
theorem DS.below (h:DS w B g ao len cap b q arr E y s hs wx) (hb:Bw wx wy):DS w B g ao len cap b q arr E y s hs wy:=⟨h.d.below hb,h.a.below hb,Nat.le_trans h.e hb.size,h.l⟩
theorem DS.drew (h:DS w B g ao len cap b q arr E y s hs wx):DS w B g ao len cap b q arr E y s hs wx.drew:=h.below (yH _ _).drew
theorem DS.al (h:DS w B g ao len cap b q arr E y s hs wx) (o:Obj):DS w B g ao len cap b q arr E y s hs (wx.alloc o):=h.below (yA (yH _ _) o)
theorem DS.cur (h:DS w B g ao len cap b q arr E y s hs wx) (hc:Cur wy g ao len cap) (hg:wx.grownBy wy (some g)):DS w B g ao len cap b q arr E y s hs wy:=
 ⟨h.d.cur (h.d.c.step hc hg) hg,h.a.mks (dW h.d.c.1 hc hg) (fun k e=>.inl (by have:=h.d.gl;omega)),Nat.le_trans h.e hg.size,h.l⟩
theorem DS.out (h:DS w B g ao len cap b q arr E y s hs wx) (hm:Mks S wx wy) (hS:∀k,S k→E≤k∧∃t N,Cel wx t k N∧t≠29∧t≠9):DS w B g ao len cap b q arr E y s hs wy:=
 ⟨h.d.mks hm (fun k e=>⟨Nat.le_trans h.l (hS k e).1,(hS k e).2⟩),h.a.mks hm (fun k e=>.inr (hS k e).1),Nat.le_trans h.e hm.size,h.l⟩
end
structure AS (w:World) (B g:Nat) (ao:Option Addr) (len cap:Nat) (b q:Nat) (arr:Array Value) (E:Nat) (y:Sls) (s:St) (hs:List AV) (ba:Nat) (aa:Array Value) (ko:Option Addr) (j kc:Nat) (ak:List Ask) (wx:World):Prop where
 s:DS w B g ao len cap b q arr E y s hs wx
 x:Blk wx ba aa 48
 l:E≤ba
 r:bE wx ko j ak
 o:dS E wx.heap.size wx 104 5 ko kc
 c:j≤kc
section
variable {w wx wy:World} {B g:Nat} {ao:Option Addr} {len cap:Nat} {b q:Nat} {arr:Array Value} {E:Nat} {y:Sls} {s:St} {hs:List AV} {ba:Nat} {aa:Array Value} {ko:Option Addr} {j kc:Nat} {ak:List Ask}
theorem AS.below (h:AS w B g ao len cap b q arr E y s hs ba aa ko j kc ak wx) (hb:Bw wx wy):AS w B g ao len cap b q arr E y s hs ba aa ko j kc ak wy:=⟨h.s.below hb,h.x.below hb,h.l,h.r.below hb,h.o.grow hb (yJ _),h.c⟩
theorem AS.al (h:AS w B g ao len cap b q arr E y s hs ba aa ko j kc ak wx) (o:Obj):AS w B g ao len cap b q arr E y s hs ba aa ko j kc ak (wx.alloc o):=h.below (yA (yH _ _) o)
theorem AS.drew (h:AS w B g ao len cap b q arr E y s hs ba aa ko j kc ak wx):AS w B g ao len cap b q arr E y s hs ba aa ko j kc ak wx.drew:=h.below (yH _ _).drew
theorem AS.cur (h:AS w B g ao len cap b q arr E y s hs ba aa ko j kc ak wx) (hc:Cur wy g ao len cap) (hg:wx.grownBy wy (some g)):AS w B g ao len cap b q arr E y s hs ba aa ko j kc ak wy:=by
 have hm:=dW h.s.d.c.1 hc hg
 have h1:=h.s.d.gl;have h2:=h.s.l;have h3:=h.l
 have ho:Off E wx 104 (fun k=>k=g):=fun k e=>.inl (by omega)
 exact ⟨h.s.cur hc hg,hm.blk h.x (by omega),h.l,h.r.mks hm (iU (h.o.le h.c) hm ho).1,(iU h.o hm ho).2,h.c⟩
theorem AS.set (h:AS w B g ao len cap b q arr E y s hs ba aa ko j kc ak wx) (i:Nat) (v:Value):AS w B g ao len cap b q arr E y s hs ba (aa.setIfInBounds i v) ko j kc ak (wx.setCell ⟨ba,i,none⟩ v):=by
 have hm:Mks (fun k=>k=ba) wx (wx.setCell ⟨ba,i,none⟩ v):=Mks.one _ wx ba i v rfl
 have ho:Off E wx 104 (fun k=>k=ba):=fun k e=>.inr ⟨48,aa.size,by subst e;exact ⟨_,h.x,rfl⟩,by decide⟩
 exact ⟨h.s.out hm (fun k e=>by subst e;exact ⟨h.l,_,_,⟨_,h.x,rfl⟩,by decide,by decide⟩),h.x.set i v,h.l,h.r.mks hm (iU (h.o.le h.c) hm ho).1,(iU h.o hm ho).2,h.c⟩
theorem AS.app {g4 cp:Nat} (h:AS w B g ao len cap b q arr E y s hs ba aa ko j kc ak wx) (m:Ask) (ha:aFA E wx 104 5 ko (j+1) (cK ak++oJ m) g4 cp wy):AS w B g ao len cap b q arr E y s hs ba aa (some ⟨g4,0,none⟩) (j+1) cp (ak++[m]) wy:=
 ⟨h.s.out ha.mks (fun k ⟨N,hc,hB⟩=>⟨hB,_,N,hc,by decide,by decide⟩),ha.mks.blk h.x (fun ⟨N,hc,_⟩=>absurd (hc.type ⟨_,h.x,rfl⟩) (by decide)),h.l,aKE h.r.1 m ha,ha.own,ha.cap⟩
end
theorem rC.below (h:rC w q L) (hb:Bw w w'):rC w' q L:=⟨Nat.lt_of_lt_of_le h.1 hb.size,fun j hj=>let ⟨s,h1,h2⟩:=h.2 j hj;⟨s,iB h1 hb,h2⟩⟩
theorem rC.cur (h:rC w q L) (hg:w.grownBy w' (some g)) (hn:g≠q):rC w' q L:=⟨Nat.lt_of_lt_of_le h.1 hg.size,fun j hj=>by
 obtain ⟨s,h1,h2⟩:=h.2 j hj
 refine ⟨s,?_,h2⟩
 rw [←h1]
 simp only [World.cell?,hg.block q h.1 (fun e=>hn (Option.some.inj e).symm)]⟩
structure SmS (s:St) (a m c:Nat):Prop where
 q:s.qs.length≤1000∧∀q ∈ s.qs,q.name.length≤1000∧q.parent.length≤1000
 al:s.apps.length≤a
 ml:s.ms.length≤m
 cl:s.cs.length≤c
 ap:∀x ∈ s.apps,x.queue.length≤12∧x.asks.length≤3∧(∀k ∈ x.asks,k.node.length≤12)∧0≤x.id∧x.id≤100000
 mn:∀x ∈ s.ms,x.name.length≤12
 cn:∀x ∈ s.cs,x.node.length≤12∧0≤x.app∧x.app≤100000
 nx:0≤s.next∧s.next≤1001+a
 se:0≤s.serial∧s.serial≤1+c
theorem SmS.fit (h:SmS s a m c) (ha:a≤1000) (hm:m≤1000) (hc:c≤1000):dI s:=by
 have h1:=h.q.1;have h2:=h.al;have h3:=h.ml;have h4:=h.cl
 refine ⟨⟨by omega,fun q hq=>?_⟩,⟨by omega,fun x hx=>?_⟩,⟨by omega,fun x hx=>?_⟩,⟨by omega,fun x hx=>?_⟩⟩
 ·have:=h.q.2 q hq;omega
 ·obtain ⟨k1,k2,k3,_⟩:=h.ap x hx
  exact ⟨by omega,by omega,fun y hy=>by have:=k3 y hy;omega⟩
 ·have:=h.mn x hx;omega
 ·have:=h.cn x hx;omega
theorem SmS.wf (h:SmS s a m c):aAF s:=
 ⟨fun x hx=>by have:=h.ap x hx;exact aEH (by omega) (by omega),fun x hx=>by have:=h.cn x hx;exact aEH (by omega) (by omega)⟩
theorem SmS.addM (h:SmS s a m c) (x:Mac) (hx:x.name.length≤12):SmS ⟨s.qs,s.clock,s.epoch,s.next,s.serial,s.apps,s.ms++[x],s.cs⟩ a (m+1) c:=
 ⟨h.q,h.al,by have:=h.ml;simp;omega,h.cl,h.ap,fun y hy=>by rcases List.mem_append.1 hy with hy | hy;exact h.mn y hy;simp at hy;subst hy;exact hx,h.cn,h.nx,h.se⟩
theorem SmS.addA (h:SmS s a m c) (x:bN) (nx:Int) (ha:a≤1000) (h1:x.queue.length≤12) (h2:x.asks.length≤3) (h3:∀k ∈ x.asks,k.node.length≤12) (h4:x.id=s.next) (h5:nx=s.next+1):SmS ⟨s.qs,s.clock,s.epoch,nx,s.serial,s.apps++[x],s.ms,s.cs⟩ (a+1) m c:=by
 have hn:=h.nx
 refine ⟨h.q,by have:=h.al;simp;omega,h.ml,h.cl,fun y hy=>?_,h.mn,h.cn,⟨by show 0≤nx;omega,by show nx≤_;omega⟩,h.se⟩
 rcases List.mem_append.1 hy with hy | hy
 ·exact h.ap y hy
 ·simp at hy
  subst hy
  exact ⟨h1,h2,h3,by omega,by omega⟩
theorem SmS.next (h:SmS s a m c) (cs:List Con) (hl:cs.length≤c+1) (hx:∀x ∈ cs,x.node.length≤12∧0≤x.app∧x.app≤100000):SmS ⟨s.qs,s.clock,s.epoch,s.next,s.serial+1,s.apps,s.ms,cs⟩ a m (c+1):=
 ⟨h.q,h.al,h.ml,hl,h.ap,h.mn,hx,h.nx,by have:=h.se;show 0≤s.serial+1∧s.serial+1≤_;omega⟩
theorem SmS.mono {a' m' c':Nat} (h:SmS s a m c) (ha:a≤a') (hm:m≤m') (hc:c≤c'):SmS s a' m' c':=by
 have h1:=h.al;have h2:=h.ml;have h3:=h.cl;have h4:=h.nx;have h5:=h.se
 exact ⟨h.q,by omega,by omega,by omega,h.ap,h.mn,h.cn,by omega,by omega⟩
theorem SmS.addC (h:SmS s a m c) (x:Con) (hx:x.node.length≤12∧0≤x.app∧x.app≤100000):SmS ⟨s.qs,s.clock,s.epoch,s.next,s.serial,s.apps,s.ms,s.cs++[x]⟩ a m (c+1):=
 ⟨h.q,h.al,h.ml,by have:=h.cl;simp;omega,h.ap,h.mn,fun y hy=>by rcases List.mem_append.1 hy with hy | hy;exact h.cn y hy;simp at hy;subst hy;exact hx,h.nx,by have:=h.se;show 0≤s.serial∧s.serial≤_;omega⟩
theorem nC {sz n:Nat} (h:dS B w.heap.size w t sz ao n) (hn:0<n):∃g M,ao=some ⟨g,0,none⟩∧B≤g∧Cel w t g (M*sz)∧n≤M:=by
 rcases h with e | ⟨g,M,e,h1,_,h2,h3⟩
 ·omega
 ·exact ⟨g,M,e,h1,h2,h3⟩
theorem jX {k0 N:Nat} {t':TypeId} (h:Cel w t' k0 N) (ht:t'≠t):Off B w t (fun k=>k=k0):=fun k e=>.inr ⟨t',N,by subst e;exact h,ht⟩
section
variable {B n:Nat} {w:World} {ao:Option Addr}
theorem kY.mem0 {c:Con} {t:List Con} (h:kY B w (some ⟨g,0,none⟩) n (c::t)) (hc:Cel w 52 g (M*5)) (x:Int) :
  w.cell? ⟨g,3,none⟩=some (.int .i64 c.mem)∧kY B (w.setCell ⟨g,3,none⟩ (.int .i64 x)) (some ⟨g,0,none⟩) n (⟨c.id,c.app,c.node,x,c.cpu⟩::t):=by
 obtain ⟨⟨h1,h2⟩,h3⟩:=h
 rcases h2 with e | ⟨b,off,e,hh⟩
 ·rw [e] at h1;simp at h1
 ·cases e
  have c0:=hh 0 (by simp)
  simp only [Nat.zero_mul,Nat.add_zero,List.getElem_cons_zero] at c0
  obtain ⟨a0,a1,a2,a3,a4⟩:=c0
  simp only [Nat.zero_add] at a0 a1 a2 a3 a4
  refine ⟨a3,⟨by simpa using h1,.inr ⟨g,0,rfl,fun i hi=>?_⟩⟩,?_⟩
  ·cases i with
   | zero=>
    simp only [Nat.zero_mul,Nat.add_zero,List.getElem_cons_zero]
    exact ⟨aY a0 (by omega),aY a1 (by omega),aY a2 (by omega),World.cell?_setCell_same _ ⟨g,3,none⟩ _ a3,aY a4 (by omega)⟩
   | succ i=>
    have ci:=hh (i+1) (by simpa using hi)
    simp only [List.getElem_cons_succ] at ci ⊢
    obtain ⟨b0,b1,b2,b3,b4⟩:=ci
    exact ⟨aY b0 (by omega),aY b1 (by omega),aY b2 (by omega),aY b3 (by omega),aY b4 (by omega)⟩
  ·rw [dY];exact h3.mks (Mks.one (fun x=>x=g) w g 3 _ rfl)
theorem nO.seen0 {c:Mac} {t:List Mac} (h:nO B w (some ⟨g,0,none⟩) n (c::t)) (hc:Cel w 102 g (M*4)) (x:Int) :
  w.cell? ⟨g,3,none⟩=some (.int .i64 c.seen)∧nO B (w.setCell ⟨g,3,none⟩ (.int .i64 x)) (some ⟨g,0,none⟩) n (⟨c.name,c.mem,c.cpu,x⟩::t):=by
 obtain ⟨⟨h1,h2⟩,h3⟩:=h
 rcases h2 with e | ⟨b,off,e,hh⟩
 ·rw [e] at h1;simp at h1
 ·cases e
  have c0:=hh 0 (by simp)
  simp only [Nat.zero_mul,Nat.add_zero,List.getElem_cons_zero] at c0
  obtain ⟨a0,a1,a2,a3⟩:=c0
  simp only [Nat.zero_add] at a0 a1 a2 a3
  refine ⟨a3,⟨by simpa using h1,.inr ⟨g,0,rfl,fun i hi=>?_⟩⟩,?_⟩
  ·cases i with
   | zero=>
    simp only [Nat.zero_mul,Nat.add_zero,List.getElem_cons_zero]
    exact ⟨aY a0 (by omega),aY a1 (by omega),aY a2 (by omega),World.cell?_setCell_same _ ⟨g,3,none⟩ _ a3⟩
   | succ i=>
    have ci:=hh (i+1) (by simpa using hi)
    simp only [List.getElem_cons_succ] at ci ⊢
    obtain ⟨b0,b1,b2,b3⟩:=ci
    exact ⟨aY b0 (by omega),aY b1 (by omega),aY b2 (by omega),aY b3 (by omega)⟩
  ·rw [dY];exact h3.mks (Mks.one (fun x=>x=g) w g 3 _ rfl)
theorem mI.queue0 {c:AV} {t:List AV} (h:mI B w (some ⟨g,0,none⟩) n (c::t)) (hc:Cel w 48 g (M*3)) (x:List UInt8) :
  w.cell? ⟨g,1,none⟩=some (.string (bs c.queue))∧mI B (w.setCell ⟨g,1,none⟩ (.string (bs x))) (some ⟨g,0,none⟩) n (⟨c.id,x,c.ao,c.len,c.cap⟩::t):=by
 obtain ⟨⟨h1,h2⟩,h3⟩:=h
 rcases h2 with e | ⟨b,off,e,hh⟩
 ·rw [e] at h1;simp at h1
 ·cases e
  have c0:=hh 0 (by simp)
  simp only [Nat.zero_mul,Nat.add_zero,List.getElem_cons_zero] at c0
  obtain ⟨a0,a1,a2⟩:=c0
  simp only [Nat.zero_add] at a0 a1 a2
  refine ⟨a1,⟨by simpa using h1,.inr ⟨g,0,rfl,fun i hi=>?_⟩⟩,?_⟩
  ·cases i with
   | zero=>
    simp only [Nat.zero_mul,Nat.add_zero,List.getElem_cons_zero]
    exact ⟨aY a0 (by omega),World.cell?_setCell_same _ ⟨g,1,none⟩ _ a1,aY a2 (by omega)⟩
   | succ i=>
    have ci:=hh (i+1) (by simpa using hi)
    simp only [List.getElem_cons_succ] at ci ⊢
    obtain ⟨b0,b1,b2⟩:=ci
    exact ⟨aY b0 (by omega),aY b1 (by omega),aY b2 (by omega)⟩
  ·rw [dY];exact h3.mks (Mks.one (fun x=>x=g) w g 1 _ rfl)
theorem jI.queue0 {c:AV} {t:List AV} {a:bN} {l:List bN} (h:jI B w (c::t) (a::l)) (x:List UInt8):jI B w (⟨c.id,x,c.ao,c.len,c.cap⟩::t) (⟨a.id,x,a.asks⟩::l):=by
 refine ⟨⟨by simpa using h.heads.1,fun i h1 h2=>?_⟩,fun v hv=>?_,?_⟩
 ·cases i with
  | zero=>
   have:=h.heads.2 0 (by simp) (by simp)
   simp only [List.getElem_cons_zero] at this ⊢
   exact ⟨this.1,trivial,this.2.2⟩
  | succ i=>
   have:=h.heads.2 (i+1) (by simpa using h1) (by simpa using h2)
   simpa using this
 ·rcases List.mem_cons.1 hv with rfl | hv
  ·exact h.own c (by simp)
  ·exact h.own v (by simp [hv])
 ·have:=h.apart
  rw [List.pairwise_cons] at this ⊢
  exact ⟨fun v hv=>this.1 v hv,this.2⟩
end
section
variable {B:Nat} {w:World} {x:Sls} {s:St} {hs:List AV}
theorem dQ.mem0 {c:Con} {t:List Con} (h:dQ B w x s hs) (hg:x.ca=some ⟨g,0,none⟩) (e:s.cs=c::t) (v:Int):(∃arr,Blk w g arr 52∧3<arr.size∧B≤g)∧dQ B (w.setCell ⟨g,3,none⟩ (.int .i64 v)) x ⟨s.qs,s.clock,s.epoch,s.next,s.serial,s.apps,s.ms,⟨c.id,c.app,c.node,v,c.cpu⟩::t⟩ hs:=by
 have hn:0<x.cl:=by have:=h.c.1.1;rw [e] at this;simp at this;omega
 obtain ⟨g',M,e',hB,hc,hM⟩:=nC h.c.2 hn
 obtain rfl:g=g':=by rw [hg] at e';cases e';rfl
 have hm:Mks (fun k=>k=g) w (w.setCell ⟨g,3,none⟩ (.int .i64 v)):=Mks.one _ w g 3 _ rfl
 have hC:=h.c
 rw [e,hg] at hC
 obtain ⟨arr,ha,hz⟩:=hc
 refine ⟨⟨arr,ha,by omega,hB⟩,h.q.off hm (jX ⟨arr,ha,hz⟩ (by decide)),h.p.off hm (jX ⟨arr,ha,hz⟩ (by decide)),h.k.off hm (jX ⟨arr,ha,hz⟩ (by decide)),h.m.off hm (jX ⟨arr,ha,hz⟩ (by decide)),?_,h.cap,(h.rm.mks hm).mono (yJ _) hm.size⟩
 rw [hg]
 exact (hC.mem0 ⟨arr,ha,hz⟩ v).2
theorem dQ.seen0 {c:Mac} {t:List Mac} (h:dQ B w x s hs) (hg:x.ma=some ⟨g,0,none⟩) (e:s.ms=c::t) (v:Int):(∃arr,Blk w g arr 102∧3<arr.size∧B≤g)∧dQ B (w.setCell ⟨g,3,none⟩ (.int .i64 v)) x ⟨s.qs,s.clock,s.epoch,s.next,s.serial,s.apps,⟨c.name,c.mem,c.cpu,v⟩::t,s.cs⟩ hs:=by
 have hn:0<x.ml:=by have:=h.m.1.1;rw [e] at this;simp at this;omega
 obtain ⟨g',M,e',hB,hc,hM⟩:=nC h.m.2 hn
 obtain rfl:g=g':=by rw [hg] at e';cases e';rfl
 have hm:Mks (fun k=>k=g) w (w.setCell ⟨g,3,none⟩ (.int .i64 v)):=Mks.one _ w g 3 _ rfl
 have hC:=h.m
 rw [e,hg] at hC
 obtain ⟨arr,ha,hz⟩:=hc
 refine ⟨⟨arr,ha,by omega,hB⟩,h.q.off hm (jX ⟨arr,ha,hz⟩ (by decide)),h.p.off hm (jX ⟨arr,ha,hz⟩ (by decide)),h.k.off hm (jX ⟨arr,ha,hz⟩ (by decide)),?_,h.c.off hm (jX ⟨arr,ha,hz⟩ (by decide)),h.cap,(h.rm.mks hm).mono (yJ _) hm.size⟩
 rw [hg]
 exact (hC.seen0 ⟨arr,ha,hz⟩ v).2
theorem dQ.queue0 {c:AV} {t:List AV} {a:bN} {l:List bN} (h:dQ B w x s (c::t)) (hg:x.aa=some ⟨g,0,none⟩) (e:s.apps=a::l) (v:List UInt8):(∃arr,Blk w g arr 48∧1<arr.size∧B≤g)∧dQ B (w.setCell ⟨g,1,none⟩ (.string (bs v))) x ⟨s.qs,s.clock,s.epoch,s.next,s.serial,⟨a.id,v,a.asks⟩::l,s.ms,s.cs⟩ (⟨c.id,v,c.ao,c.len,c.cap⟩::t):=by
 have hn:0<x.al:=by have:=h.p.1.1;simp at this;omega
 obtain ⟨g',M,e',hB,hc,hM⟩:=nC h.p.2 hn
 obtain rfl:g=g':=by rw [hg] at e';cases e';rfl
 have hm:Mks (fun k=>k=g) w (w.setCell ⟨g,1,none⟩ (.string (bs v))):=Mks.one _ w g 1 _ rfl
 have hC:=h.p
 rw [hg] at hC
 have hK:=h.k
 rw [e] at hK
 obtain ⟨arr,ha,hz⟩:=hc
 have hrm:=(h.rm.mks hm).mono (yJ B) hm.size
 refine ⟨⟨arr,ha,by omega,hB⟩,h.q.off hm (jX ⟨arr,ha,hz⟩ (by decide)),?_,(hK.off hm (jX ⟨arr,ha,hz⟩ (by decide))).queue0 v,h.m.off hm (jX ⟨arr,ha,hz⟩ (by decide)),h.c.off hm (jX ⟨arr,ha,hz⟩ (by decide)),h.cap,hrm.1,hrm.2.1,hrm.2.2.1,hrm.2.2.2.1,fun z hz'=>?_⟩
 ·rw [hg]
  exact (hC.queue0 ⟨arr,ha,hz⟩ v).2
 ·rcases List.mem_cons.1 hz' with rfl | hz'
  ·exact hrm.2.2.2.2 c (by simp)
  ·exact hrm.2.2.2.2 z (by simp [hz'])
end
structure DrS (g:Nat) (w:World) (y:Sls) (s:St) (hs:List AV):Prop where
 q:gJ w y.qa y.ql s.qs
 qg:∀k,inR y.qa y.ql k→g<k
 p:mI (g+1) w y.aa y.al hs
 k:jI (g+1) w hs s.apps
 m:nO (g+1) w y.ma y.ml s.ms
 c:kY (g+1) w y.ca y.cl s.cs
 cap:y.ql≤y.qc
 sm:aED y hs
 fit:dI s
 wf:aAF s
section
variable {g:Nat} {w w':World} {y:Sls} {s:St} {hs:List AV}
theorem DrS.row (h:DrS g w y s hs):gU w y s:=⟨h.q,aEB h.p.1 h.k.heads,h.m.1,h.c.1⟩
theorem DrS.av (h:DrS g w y s hs):fK w y.aa y.al hs:=h.p.1
theorem DrS.hd (h:DrS g w y s hs):jJ w hs s.apps:=h.k.heads
theorem DrS.below (h:DrS g w y s hs) (hb:Bw w w'):DrS g w' y s hs:=⟨h.q.below hb,h.qg,h.p.below hb,h.k.below hb,h.m.below hb,h.c.below hb,h.cap,h.sm,h.fit,h.wf⟩
theorem DrS.cur {len cap:Nat} (h:DrS g w y s hs) (hc:Cur w g ao len cap) (hc':Cur w' g ao len cap) (hg:w.grownBy w' (some g)):DrS g w' y s hs:=by
 have hm:=dW hc hc' hg
 have ho:=aD4 (w:=w) (B:=g+1) (g:=g) (Nat.lt_succ_self g)
 exact ⟨h.q.mks hm (fun k hk e=>by have:=h.qg k hk;omega),h.qg,h.p.off hm ho.p,h.k.off hm ho.a,h.m.off hm ho.m,h.c.off hm ho.c,h.cap,h.sm,h.fit,h.wf⟩
theorem DrS.of (h:dQ B w y s hs) (hB:g<B) (hf:dI s) (hw:aAF s):DrS g w y s hs:=
 ⟨h.q.1,fun k hk=>by have:=(h.q.2.lies k hk).1;omega,(h.p.base hB),h.k.base hB,h.m.base hB,h.c.base hB,h.cap.q,h.ans.some,hf,hw⟩
end
structure DT (w:World) (B g:Nat) (ao:Option Addr) (len cap:Nat) (b:Nat) (arr:Array Value) (wr:World):Prop where
 c:CSt w B g ao len cap wr
 gl:g<w.heap.size
 x:Blk wr b arr 29
 bl:w.heap.size<b
 r:Blk wr w.heap.size aJY 29
section
variable {w wr wy:World} {B g:Nat} {ao:Option Addr} {len cap:Nat} {b:Nat} {arr:Array Value}
theorem DT.below (h:DT w B g ao len cap b arr wr) (hb:Bw wr wy):DT w B g ao len cap b arr wy:=⟨h.c.below hb,h.gl,h.x.below hb,h.bl,h.r.below hb⟩
theorem DT.mks (h:DT w B g ao len cap b arr wr) (hm:Mks S wr wy) (hS:∀k,S k→w.heap.size≤k∧∃t N,Cel wr t k N∧t≠29):DT w B g ao len cap b arr wy:=by
 have hx:∀{k:Nat} {a:Array Value},Blk wr k a 29→¬S k:=fun hk e=>let ⟨_,t,N,h1,h2⟩:=hS _ e;h2 (h1.type ⟨_,hk,rfl⟩)
 exact ⟨h.c.mks hm (fun k e=>⟨(hS k e).1,Nat.lt_of_lt_of_le h.gl (hS k e).1⟩),h.gl,hm.blk h.x (hx h.x),h.bl,hm.blk h.r (hx h.r)⟩
theorem DT.cur (h:DT w B g ao len cap b arr wr) (hc:Cur wy g ao len cap) (hg:wr.grownBy wy (some g)):DT w B g ao len cap b arr wy:=by
 have hm:=dW h.c.1 hc hg
 have h1:=h.gl;have h2:=h.bl
 exact ⟨h.c.step hc hg,h.gl,hm.blk h.x (by omega),h.bl,hm.blk h.r (by omega)⟩
theorem DT.off (h:DT w B g ao len cap b arr wr) (hc:Cur wy g ao len cap) (hg:wr.grownBy wy (some g)) (H:dQ w.heap.size wr x s hs):dQ w.heap.size wy x s hs:=H.off (dW h.c.1 hc hg) (aD4 h.gl)
theorem DT.set (h:DT w B g ao len cap b arr wr) (j:Nat) (v:Value):DT w B g ao len cap b (arr.setIfInBounds j v) (wr.setCell ⟨b,j,none⟩ v):=by
 have hm:Mks (fun k=>k=b) wr (wr.setCell ⟨b,j,none⟩ v):=Mks.one _ wr b j v rfl
 have h1:=h.gl;have h2:=h.bl
 exact ⟨h.c.mks hm (fun k e=>by subst e;omega),h.gl,h.x.set j v,h.bl,hm.blk h.r (by omega)⟩
theorem DT.setH (h:DT w B g ao len cap b arr wr) (j:Nat) (v:Value) (H:dQ w.heap.size wr x s hs):dQ w.heap.size (wr.setCell ⟨b,j,none⟩ v) x s hs:=
 H.off (Mks.one (fun k=>k=b) wr b j v rfl) (nD h.x (by decide) (by decide) (by decide) (by decide) (by decide))
end
end
end Go.Proofs.YtngkddhcmfbjnaaGreat
