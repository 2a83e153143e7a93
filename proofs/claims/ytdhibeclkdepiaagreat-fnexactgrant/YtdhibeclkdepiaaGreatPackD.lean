/-
  Several texts of this claim in one, made short by program: StdJ, StdP, StdQ, QV, QBlk, SzQ2, ToQ, EqQ, TxtM, OpenQ.
-/
import Derived.Test.YtdhibeclkdepiaaGreatPackC
import Derived.Deep.RegionWith
import Derived.BigRegion
import Derived.Laws.MakeOwn
import Derived.ProofKit
import Derived.OpenShut
import Derived.ChangeSame
import Derived.Deep.Slices
set_option maxRecDepth 100000
set_option maxHeartbeats 16000000
set_option linter.unusedVariables false
set_option linter.unusedSimpArgs false
namespace Go.Proofs.YtdhibeclkdepiaaGreat
section
open Go.RowKit Go.Maps
theorem own_cell {w:World} {B b cap n sz j:Nat} {e:TypeId} {xs:List Value} (h:w.ownsRow B e sz (.slice (some ⟨b,0,none⟩) n cap) n xs) (hj:j<n*sz):∃u,w.cell? ⟨b,j,none⟩=some u:=by
 have:=h.cellAt j hj
 rw [this]
 exact ⟨_,List.getElem?_eq_getElem (by rw [h.1];exact hj)⟩
theorem HSt.swapped {K:List P4} {F:List Fr3} {w0 w:World} {bm bk g b cap i j:Nat} {l:List SE} (h:HSt K F w0 bm bk g w l) (hb:Blk w g #[.slice (some ⟨b,0,none⟩) l.length cap,cloV bk] 205) (hi:i<l.length) (hj:j<l.length) :
  HSt K F w0 bm bk g (stW (stW w b i (HeapM.at' seD l j)) b j (HeapM.at' seD l i)) (HeapM.swapL seD l i j):=by
 obtain ⟨_,hown,hFx⟩:=h.obj hb
 obtain ⟨b',cap',e,hbb,_⟩:=own_open (n:=0) hown (by omega)
 cases e
 obtain ⟨_,h3,h4,h5,h6,h7,h8⟩:=h
 have hFb:∀f ∈ F,f.1≠b:=fun f hf e=>hFx f hf (by rw [e];rfl)
 have hn:∀(P:World→Prop),(∀wx p v,P wx→P (wx.setCell ⟨b,p,none⟩ v))→∀wx k x,P wx→P (stW wx b k x):=fun P hp wx k x hx=>hp _ _ _ (hp _ _ _ (hp _ _ _ (hp _ _ _ (hp _ _ _ hx))))
 have o1:=own_stset hown hi (HeapM.at' seD l j)
 have hl1:(l.set i (HeapM.at' seD l j)).length=l.length:=by simp
 have o2:=own_stset (l:=l.set i (HeapM.at' seD l j)) (by rw [hl1];exact o1) (by rw [hl1];exact hj) (HeapM.at' seD l i)
 rw [hl1] at o2
 refine ⟨⟨.slice (some ⟨b,0,none⟩) l.length cap,?_,?_,hFx⟩,?_,?_,h5,?_,?_,fun f hf=>⟨?_,(h8 f hf).2⟩⟩
 ·exact hn (fun wx=>Blk wx g _ _) (fun wx p v hx=>hx.other b p v (by omega)) _ _ _ (hn (fun wx=>Blk wx g _ _) (fun wx p v hx=>hx.other b p v (by omega)) _ _ _ hb)
 ·rw [HeapM.swap_len]
  exact o2
 ·exact hn (fun wx=>Blk wx bk _ _) (fun wx p v hx=>hx.other b p v (by omega)) _ _ _ (hn (fun wx=>Blk wx bk _ _) (fun wx p v hx=>hx.other b p v (by omega)) _ _ _ h3)
 ·have hk:∀wx p v,HoldsK K bm wx→HoldsK K bm (wx.setCell ⟨b,p,none⟩ v):=fun wx p v hx=>hx.grown (grownBy_set (grownBy_refl wx (some b)) p v) (by simp;omega)
  exact hn (HoldsK K bm) hk _ _ _ (hn (HoldsK K bm) hk _ _ _ h4)
 ·intro x hx
  have:=(HeapM.swap_perm seD l i j hi hj).subset hx
  exact h6 x this
 ·exact hn (fun wx=>Below w0.heap.size w0 wx) (fun wx p v hx=>yC hx _ _ _ (by omega)) _ _ _ (hn (fun wx=>Below w0.heap.size w0 wx) (fun wx p v hx=>yC hx _ _ _ (by omega)) _ _ _ h7)
 ·exact hn (fun wx=>Blk wx f.1 _ _) (fun wx p v hx=>hx.other b p v (hFb f hf)) _ _ _ (hn (fun wx=>Blk wx f.1 _ _) (fun wx p v hx=>hx.other b p v (hFb f hf)) _ _ _ (h8 f hf).1)
theorem stSwap_any (K:List P4) (F:List Fr3) (w0:World) (bm bk g:Nat) (w:World) (l:List SE) (x y:Value) (i j:Nat) (h:HSt K F w0 bm bk g w l) (hb:w.heap[g]? = some (.cells #[x,y] 205 (0,0))) (hi:i<l.length) (hj:j<l.length) (hl:l.length≤1000000) :
  Calls Tryz.prog 234 #[.agg #[x,y],.int .i64 (i:Int),.int .i64 (j:Int)] w fun e w'=>e=.returned (.tuple #[])∧HSt K F w0 bm bk g w' (HeapM.swapL seD l i j):=by
 obtain ⟨rfl,hown,_⟩:=h.obj hb
 obtain ⟨b,cap,rfl,hbb,hcap⟩:=own_open (n:=0) hown (by omega)
 have hb0:=yA (Below.refl _ w) (.cells #[.slice (some ⟨b,0,none⟩) l.length cap,cloV bk] 205)
 have hb1:=hb0.drew
 have B0:=yD w #[.slice (some ⟨b,0,none⟩) l.length cap,cloV bk] 205
 have hown0:=hown.alloc (.cells #[.slice (some ⟨b,0,none⟩) l.length cap,cloV bk] 205)
 have HH:=hide (((h.below hb0).swapped (Blk.below (show Blk w g _ _ from hb) hb0) hi hj).below (Below.refl _ _).drew)
 obtain ⟨a0,a1,a2,a3,a4⟩:=own_elt hown0 hi
 obtain ⟨d0,d1,d2,d3,d4⟩:=own_elt hown0 hj
 have fz:=fun r=>hown0.frozenAt r
 obtain ⟨⟨n1,p1,p2,p3,p4⟩,hs1⟩:∃s,HeapM.at' seD l i=s:=⟨_,rfl⟩
 obtain ⟨⟨n2,q1,q2,q3,q4⟩,hs2⟩:∃s,HeapM.at' seD l j=s:=⟨_,rfl⟩
 rw [hs1] at a0 a1 a2 a3 a4 HH
 rw [hs2] at d0 d1 d2 d3 d4 HH
 simp only [stW] at a0 a1 a2 a3 a4 d0 d1 d2 d3 d4 HH
 have h1:=own_set hown0 (j:=i*5) (by omega) (.string (bs n2))
 have h2:=own_set h1 (j:=i*5+1) (by omega) (.int .i64 q1)
 have h3:=own_set h2 (j:=i*5+2) (by omega) (.int .i64 q2)
 have h4:=own_set h3 (j:=i*5+3) (by omega) (.int .i64 q3)
 have h5:=own_set h4 (j:=i*5+4) (by omega) (.int .i64 q4)
 obtain ⟨u0,m0⟩:=own_cell h1 (j:=j*5) (by omega)
 obtain ⟨u1,m1⟩:=own_cell h2 (j:=j*5+1) (by omega)
 obtain ⟨u2,m2⟩:=own_cell h3 (j:=j*5+2) (by omega)
 obtain ⟨u3,m3⟩:=own_cell h4 (j:=j*5+3) (by omega)
 obtain ⟨u4,m4⟩:=own_cell h5 (j:=j*5+4) (by omega)
 have c0:=B0.at 0
 simp at c0
 have hblt:=(hown.lt b rfl).2
 have hbn:¬b=w.heap.size:=by omega
 have hbn2:¬w.heap.size=b:=by omega
 have hij:(i:Int)<l.length:=by omega
 have hjj:(j:Int)<l.length:=by omega
 have f0:=fz (i*5);have f1:=fz (i*5+1);have f2:=fz (i*5+2);have f3:=fz (i*5+3);have f4:=fz (i*5+4)
 have g0:=fz (j*5);have g1:=fz (j*5+1);have g2:=fz (j*5+2);have g3:=fz (j*5+3);have g4:=fz (j*5+4)
 clear hblt h hb hown hown0 hs1 hs2 hb0 hb1 B0 fz h1 h2 h3 h4 h5
 go_enter Tryz.func234,Tryz.ntmps234
 go_wp2_with fail
 go_region
 all_goals
  go_wp2
  go_end0
  exact ⟨rfl,uH HH⟩
theorem HSt.pushed {K:List P4} {F:List Fr3} {w0 w:World} {bm bk g:Nat} {l:List SE} {v:Value} {z:SE} (h:HSt K F w0 bm bk g w l) (hF:∀f ∈ F,f.2.2≠209) (hz:z.2 ∈ K) {v':Value} {w1 w2:World} (hb:Below w.heap.size w w1) (hown:w1.ownsRow (g+1) 209 5 v l.length (stcs l))
  (ho:w2.ownsRow (g+1) 209 5 v' (l.length+1) (stcs l++stc z)) (hg:w1.grownBy w2 v.ownBlock):HSt K F w0 bm bk g (w2.setCell ⟨g,0,none⟩ v') (l++[z]):=by
 have hlow:∀k,k≤g→k<w1.heap.size→w2.heap[k]? = w1.heap[k]?:=fun k hk hlt=>hg.block k hlt (fun e=>by
  have:=(hown.lt k e.symm).1
  omega)
 obtain ⟨⟨v0,b1,_,_⟩,h3,h4,h5,h6,h7,h8⟩:=h
 have hFv:∀f ∈ F,∀k,v.ownBlock=some k→f.1≠k:=fun f hf k hk e=>by
  rcases hown.2 with ⟨e2,_⟩ | ⟨b2,_,cur,e2,_,hc,_⟩
  ·rw [e2] at hk;simp [Value.ownBlock] at hk
  ·rw [e2] at hk
   simp [Value.ownBlock] at hk
   have:=(h8 f hf).1.below hb
   unfold Blk at this
   rw [e,←hk,hc] at this
   simp at this
   exact hF f hf this.2.symm
 have fr2:∀f ∈ F,Blk w2 f.1 f.2.1 f.2.2:=fun f hf=>(hg.block f.1 ((h8 f hf).1.below hb).lt (fun e=>hFv f hf f.1 e.symm rfl)).trans ((h8 f hf).1.below hb)
 have b2:Blk w1 g _ _:=b1.below hb
 have b3:Blk w2 g _ _:=(hlow g (Nat.le_refl _) b2.lt).trans b2
 have c3:Blk w2 bk _ _:=(hlow bk (by omega) (h3.below hb).lt).trans (h3.below hb)
 have k2:HoldsK K bm w2:=(h4.below hb).grown hg (fun e=>by have:=(hown.lt bm e.symm).1;omega)
 have hFn:∀f ∈ F,some f.1≠v'.ownBlock:=fun f hf e=>by
  rcases ho.2 with ⟨e2,_⟩ | ⟨b2,_,cur,e2,_,hc,_⟩
  ·rw [e2] at e;simp [Value.ownBlock] at e
  ·rw [e2] at e
   simp [Value.ownBlock] at e
   have:=fr2 f hf
   unfold Blk at this
   rw [e,hc] at this
   simp at this
   exact hF f hf this.2.symm
 have hlen:(l++[z]).length=l.length+1:=by simp
 refine ⟨⟨v',?_,?_,hFn⟩,c3.other g 0 v' (by omega),k2.grown (grownBy_set (grownBy_refl w2 (some g)) 0 v') (by simp;omega),h5,?_,?_,fun f hf=>⟨(fr2 f hf).other g 0 v' (h8 f hf).2.2,(h8 f hf).2⟩⟩
 ·have:=b3.set 0 v'
  simpa using this
 ·rw [hlen,stcs_app]
  have e:stcs [z]=stc z:=by simp [stcs]
  rw [e]
  exact ho.kept (grownBy_set (grownBy_refl w2 (some g)) 0 v') (.inr (fun e=>by have:=(ho.lt g e).1;omega))
 ·intro x hx
  rcases List.mem_append.1 hx with hx | hx
  ·exact h6 x hx
  ·simp at hx;subst hx;exact hz
 ·have h8:Below w0.heap.size w0 w1:=yB h7 hb
  have h9:Below w0.heap.size w0 w2:=h8.grown hg h8.size (fun k e=>by have:=(hown.lt k e).1;omega)
  exact yC h9 _ _ _ (by omega)
theorem assertS (x:SE) (xt:TypeId) (wx:World):(Instr.typeAssert (.iface 209 (stv x)) xt 209 false).run Tryz.prog wx=.ok (stv x) wx:=by
 simp [Instr.typeAssert,go_sem]
theorem Tryz.infoStd:(Tryz.prog.info? 209).map (fun i=>(i.zero,i.size,i.bytes))=some (some (.agg #[.string ByteArray.empty,.int .i64 0,.int .i64 0,.int .i64 0,.int .i64 0]),5,48):=by kernel_rfl
theorem stPush_any (K:List P4) (F:List Fr3) (w0:World) (bm bk g:Nat) (w:World) (l:List SE) (z:SE) (h:HSt K F w0 bm bk g w l) (hF:∀f ∈ F,f.2.2≠209) (hz:z.2 ∈ K) (hl:l.length<1000000) :
  Calls Tryz.prog 233 #[.pointer (some ⟨g,0,none⟩),.iface 209 (stv z)] w fun e w'=>e=.returned (.tuple #[])∧HSt K F w0 bm bk g w' (l++[z]):=by
 obtain ⟨i0,hi,hz0,hz1,hz2⟩:=info_parts Tryz.infoStd
 obtain ⟨v,b1,hown,_⟩:=h.1
 have hb1:=(yA (Below.refl _ w) (.cells #[.string (bs z.1),.int .i64 z.2.1,.int .i64 z.2.2.1,.int .i64 z.2.2.2.1,.int .i64 z.2.2.2.2] 209)).drew
 obtain ⟨W,hW⟩:∃W,(w.alloc (.cells #[.string (bs z.1),.int .i64 z.2.1,.int .i64 z.2.2.1,.int .i64 z.2.2.2.1,.int .i64 z.2.2.2.2] 209)).drew=W:=⟨_,rfl⟩
 rw [hW] at hb1
 have hbk:Blk W w.heap.size #[.string (bs z.1),.int .i64 z.2.1,.int .i64 z.2.2.1,.int .i64 z.2.2.2.1,.int .i64 z.2.2.2.2] 209:=by rw [←hW];exact yD _ _ _
 have hownW:W.ownsRow (g+1) 209 5 v l.length (stcs l):=hown.kept (grownBy_below (grownBy_refl w none) hb1) (by by_cases e:v.ownBlock=none;exact .inl e;exact .inr e)
 have hnews:∀j u,(stc z)[j]? = some u→W.cell? (Addr.add ⟨w.heap.size,0,none⟩ j)=some u:=fun j u hu=>by
  rw [Lib.add_plain,Nat.zero_add,hbk.at j]
  simp only [stc] at hu
  simpa using hu
 obtain ⟨v',w2,hrun,hown',hgrow,_⟩:=run_append_own (P:=Tryz.prog) W (g+1) 203 203 209 i0 (.agg #[.string ByteArray.empty,.int .i64 0,.int .i64 0,.int .i64 0,.int .i64 0]) 5 48 Tryz.underlying203 hi hz0 hz1 hz2 rfl (by decide) v l.length (stcs l) hownW ⟨w.heap.size,0,none⟩ 1 1 (stc z) (by simp [stc]) hnews (fun u hu=>by simp [stc] at hu;rcases hu with rfl | rfl | rfl | rfl | rfl<;>rfl) (by unfold maxLen;omega) (by omega) (by have:=b1.lt;have:=hb1.size;omega)
 obtain ⟨b9,cap9,rfl⟩:∃b9 cap9,v'=.slice (some ⟨b9,0,none⟩) (l.length+1) cap9:=by
  rcases hown'.2 with ⟨_,e⟩ | ⟨b9,cap9,_,e,_⟩
  ·omega
  ·exact ⟨b9,cap9,e⟩
 have HH:=hide (h.pushed hF hz hb1 hownW hown' hgrow)
 have hlow:w2.heap[g]? = W.heap[g]?:=hgrow.block g (b1.below hb1).lt (fun e=>by have:=(hownW.lt g e.symm).1;omega)
 have b3:Blk w2 g _ _:=hlow.trans (b1.below hb1)
 have c0:=b1.at 0
 simp at c0
 have c1:=(b1.al (.cells #[.string (bs z.1),.int .i64 z.2.1,.int .i64 z.2.2.1,.int .i64 z.2.2.2.1,.int .i64 z.2.2.2.2] 209)).at 0
 simp at c1
 have c2:=b3.at 0
 simp at c2
 have f2:=b3.f 0
 have HV:=hide hown.2
 have hwg:¬w.heap.size=g:=by have:=b1.lt;omega
 have hgw:¬g=w.heap.size:=by omega
 rw [←hW] at hrun
 clear hown hownW hown' hgrow hnews hbk hb1 hW hlow b3 h b1
 obtain ⟨n1,p1,p2,p3,p4⟩:=z
 simp only at hrun c1
 have hta:=assertS (n1,p1,p2,p3,p4)
 rcases uH HV with ⟨rfl,hl0⟩ | ⟨b,cap,cur,rfl,_,_,hcap,_⟩
 all_goals
  clear HV
  simp [go_sem] at hrun
  go_enter Tryz.func233,Tryz.ntmps233
  go_wp2_with fail
  go_region
  all_goals
   go_wp2
   go_end0
   first
   | exact ⟨rfl,uH HH⟩
   | (have hx:=uH HH;rw [hl0] at hx;exact ⟨rfl,hx⟩)
theorem HSt.popped {K:List P4} {F:List Fr3} {w0 w:World} {bm bk g b cap:Nat} {l:List SE} (h:HSt K F w0 bm bk g w l) (hb:Blk w g #[.slice (some ⟨b,0,none⟩) l.length cap,cloV bk] 205) {n:Nat} (hn:n≤l.length) :
  HSt K F w0 bm bk g (w.setCell ⟨g,0,none⟩ (.slice (some ⟨b,0,none⟩) n cap)) (l.take n):=by
 obtain ⟨_,hown,hFx⟩:=h.obj hb
 obtain ⟨_,h3,h4,h5,h6,h7,h8⟩:=h
 have hlen:(l.take n).length=n:=by simp;omega
 refine ⟨⟨.slice (some ⟨b,0,none⟩) n cap,?_,?_,hFx⟩,h3.other g 0 _ (by omega),h4.grown (grownBy_set (grownBy_refl w (some g)) 0 _) (by simp;omega),h5,fun x hx=>h6 x (List.mem_of_mem_take hx),yC h7 _ _ _ (by omega),fun f hf=>⟨(h8 f hf).1.other g 0 _ (h8 f hf).2.2,(h8 f hf).2⟩⟩
 ·have:=hb.set 0 (.slice (some ⟨b,0,none⟩) n cap)
  simpa using this
 ·rw [hlen,stcs_take]
  obtain ⟨o1,o2⟩:=hown
  refine ⟨by rw [List.length_take,stcs_len];omega,?_⟩
  rcases o2 with ⟨e,_⟩ | ⟨g',cap',cur,e,hb',hc,k1,k2,k3,k4⟩
  ·cases e
  ·cases e
   refine .inr ⟨b,cap,cur,rfl,hb',?_,by omega,k2,k3,?_⟩
   ·rw [heap_setCell_other _ ⟨g,0,none⟩ b _ (by simp;omega)];exact hc
   ·rw [←k4,List.take_take,Nat.min_eq_left (by omega)]
theorem cutSt (g n cap k:Nat) (hk:k≤cap) (wx:World):(Instr.slice 203 (.slice (some ⟨g,0,none⟩) n cap) none (some (.int .i64 (k:Int))) none).run Tryz.prog wx=.ok (.slice (some ⟨g,0,none⟩) k cap) wx:=by
 rw [run_slice_h (P:=Tryz.prog) (w:=wx) 203 (some ⟨g,0,none⟩) n cap Tryz.underlying203 .i64 (k:Int) (by omega) (by omega)]
 rw [show (sizeOf (Tryz.prog.elem 203)).run Tryz.prog wx=.ok 5 wx from by kernel_rfl]
 simp [Result.andThen,sliced,Addr.add]
theorem stPop_any (K:List P4) (F:List Fr3) (w0:World) (bm bk g:Nat) (w:World) (l:List SE) (h:HSt K F w0 bm bk g w l) (h0:0<l.length) (hl:l.length≤1000000) :
  Calls Tryz.prog 232 #[.pointer (some ⟨g,0,none⟩)] w fun e w'=>e=.returned (.iface 209 (stv (HeapM.at' seD l (l.length - 1))))∧HSt K F w0 bm bk g w' (l.take (l.length - 1)):=by
 obtain ⟨v,b1,hown,_⟩:=h.1
 obtain ⟨b,cap,rfl,hbb,hcap⟩:=own_open (n:=0) hown h0
 obtain ⟨m,hm⟩:∃m,l.length - 1=m:=⟨_,rfl⟩
 have hml:m<l.length:=by omega
 obtain ⟨a0,a1,a2,a3,a4⟩:=own_elt hown hml
 rw [hm]
 obtain ⟨⟨n1,p1,p2,p3,p4⟩,hs1⟩:∃s,HeapM.at' seD l m=s:=⟨_,rfl⟩
 rw [hs1] at a0 a1 a2 a3 a4 ⊢
 simp only at a0 a1 a2 a3 a4
 have hlm:(l.length:Int) - 1=(m:Int):=by omega
 have hwr:IntKind.i64.wrap ((l.length:Int) - 1)=(m:Int):=by rw [IntKind.wrap_i64];omega
 have hcut:=cutSt b l.length cap m (by omega)
 have hb1:=yA (Below.refl _ w) (.cells #[.string (bs n1),.int .i64 p1,.int .i64 p2,.int .i64 p3,.int .i64 p4] 209)
 have HH:=hide ((h.below hb1).popped (b1.below hb1) (n:=m) (by omega))
 have c0:=b1.at 0
 simp at c0
 have c1:=(b1.below hb1).at 0
 simp at c1
 have f1:=(b1.below hb1).f 0
 have hne:¬w.heap.size=g:=by have:=b1.lt;omega
 have hne2:¬g=w.heap.size:=by omega
 have hmi:(m:Int)<(l.length:Int):=by omega
 clear h b1 hown hs1 hb1 hm
 go_enter Tryz.func232,Tryz.ntmps232
 go_wp2
 go_ret
 exact ⟨rfl,uH HH⟩
def HI (K:List P4) (F:List Fr3) (w0:World) (bm bk g:Nat) (w:World) (l:List SE):Prop:=HSt K F w0 bm bk g w l∧l.length≤1000000
theorem stObj (K:List P4) (F:List Fr3) (hK:K.length≤1000000000) (KW:∀p ∈ K,Wf4 p.1 p.2.1 p.2.2.1 p.2.2.2) (w0:World) (bm bk g:Nat) :
  HeapObj (∀f ∈ F,f.2.2≠209) seD aheadS g (HI K F w0 bm bk g) (fun _ x v=>v=.iface 209 (stv x)∧x.2 ∈ K) where
 obj:=fun w l h=>let ⟨v,b,_⟩:=h.1.1;⟨v,_,b⟩
 less:=fun w l x y i j h hb hi hj=>(stLess_any K F hK KW w0 bm bk g w l x y i j h.1 hb hi hj h.2).mono (fun e w' k=>⟨k.1,k.2,h.2⟩)
 swap:=fun w l x y i j h hb hi hj=>(stSwap_any K F w0 bm bk g w l x y i j h.1 hb hi hj h.2).mono (fun e w' k=>⟨k.1,k.2,by rw [HeapM.swap_len];exact h.2⟩)
 len:=fun w l x y h hb=>(stLen_any K F w0 bm bk g w l x y h.1 hb).mono (fun e w' k=>⟨k.1,k.2,h.2⟩)
 push:=fun hF w l a v h hv hl=>by
  obtain ⟨rfl,hk⟩:=hv
  exact (stPush_any K F w0 bm bk g w l a h.1 hF hk hl).mono (fun e w' k=>⟨k.1,k.2,by simp;omega⟩)
 pop:=fun w l h h0=>(stPop_any K F w0 bm bk g w l h.1 h0 h.2).mono (fun e w' k=>⟨⟨_,k.1,rfl,at_mem h.1.2.2.2.2.1 (by omega)⟩,k.2,by simp;have:=h.2;omega⟩)
theorem add_any (K:List P4) (F:List Fr3) (hK:K.length≤1000000000) (KW:∀p ∈ K,Wf4 p.1 p.2.1 p.2.2.1 p.2.2.2) (w0:World) (bm bk g:Nat) (w:World) (l:List SE) (z:SE) (h:HI K F w0 bm bk g w l) (hF:∀f ∈ F,f.2.2≠209) (hz:z.2 ∈ K) (hl:l.length<1000000) :
  Calls Tryz.prog 169 #[.pointer (some ⟨g,0,none⟩),stv z] w fun e w'=>e=.returned (.tuple #[])∧HI K F w0 bm bk g w' (HeapM.upL seD aheadS (l.length+1) (l++[z]) l.length):=by
 obtain ⟨n1,p1,p2,p3,p4⟩:=z
 have hb0:=yA (Below.refl _ w) (.cells #[.string (bs n1),.int .i64 p1,.int .i64 p2,.int .i64 p3,.int .i64 p4] 209)
 have C:=hide (push_any (stObj K F hK KW w0 bm bk g) hF l (n1,p1,p2,p3,p4) (.iface 209 (stv (n1,p1,p2,p3,p4))) _ ⟨h.1.below hb0,h.2⟩ ⟨rfl,hz⟩ hl)
 clear h hb0
 go_enter Tryz.func169,Tryz.ntmps169
 go_wp2_with fail
 refine (uH C).mono ?_
 rintro e w1 ⟨rfl,hh⟩
 have HH:=hide hh
 clear hh C
 go_wp2
 go_end0
 exact ⟨rfl,uH HH⟩
theorem HSt.more {K:List P4} {F:List Fr3} {w0 w:World} {bm bk g:Nat} {l:List SE} (h:HSt K F w0 bm bk g w l) {v:Value} (hb:Blk w g #[v,cloV bk] 205) (f:Fr3) (h2:FrB bm g f w) (hv:some f.1≠v.ownBlock):HSt K (f::F) w0 bm bk g w l:=by
 obtain ⟨⟨v0,h1,o1,hF⟩,h3,h4,h5,h6,h7,h8⟩:=h
 have e:=h1.symm.trans hb
 simp at e
 subst e
 exact ⟨⟨v0,h1,o1,fun k hk=>by rcases List.mem_cons.1 hk with rfl | hk;exact hv;exact hF k hk⟩,h3,h4,h5,h6,h7,fun k hk=>by rcases List.mem_cons.1 hk with rfl | hk;exact h2;exact h8 k hk⟩
theorem HSt.less {K:List P4} {f:Fr3} {F:List Fr3} {w0 w:World} {bm bk g:Nat} {l:List SE} (h:HSt K (f::F) w0 bm bk g w l):HSt K F w0 bm bk g w l:=by
 obtain ⟨⟨v0,h1,o1,hF⟩,h3,h4,h5,h6,h7,h8⟩:=h
 exact ⟨⟨v0,h1,o1,fun k hk=>hF k (List.mem_cons_of_mem _ hk)⟩,h3,h4,h5,h6,h7,fun k hk=>h8 k (List.mem_cons_of_mem _ hk)⟩
theorem HSt.write {K:List P4} {f:Fr3} {F:List Fr3} {w0 w:World} {bm bk g:Nat} {l:List SE} (h:HSt K (f::F) w0 bm bk g w l) (hk:f.1≠bk) (h0:w0.heap.size≤f.1) (hd:∀k ∈ F,k.1≠f.1) (j:Nat) (x:Value):HSt K ((f.1,f.2.1.setIfInBounds j x,f.2.2)::F) w0 bm bk g (w.setCell ⟨f.1,j,none⟩ x) l:=by
 obtain ⟨⟨v0,h1,o1,hF⟩,h3,h4,h5,h6,h7,h8⟩:=h
 have hf:=h8 f (List.mem_cons_self ..)
 have hv:=hF f (List.mem_cons_self ..)
 refine ⟨⟨v0,h1.other _ _ _ (fun e=>hf.2.2 e.symm),o1.kept (grownBy_set (grownBy_refl w (some f.1)) j x) (.inr (fun e=>hv e.symm)),?_⟩,h3.other _ _ _ (fun e=>hk e.symm),h4.grown (grownBy_set (grownBy_refl w (some f.1)) j x) (by simp;exact fun e=>hf.2.1 e.symm),h5,h6,yC h7 _ _ _ h0,?_⟩
 ·intro k hk'
  rcases List.mem_cons.1 hk' with rfl | hk'
  ·exact hv
  ·exact hF k (List.mem_cons_of_mem _ hk')
 ·intro k hk'
  rcases List.mem_cons.1 hk' with rfl | hk'
  ·exact ⟨hf.1.set j x,hf.2⟩
  ·have:=h8 k (List.mem_cons_of_mem _ hk')
   exact ⟨this.1.other _ _ _ (hd k hk'),this.2⟩
theorem least_any (K:List P4) (w:World):Calls Tryz.prog 167 #[] w fun e w'=>e=.returned (cloV (w.heap.size+1))∧Blk w' (w.heap.size+1) #[.map (some w.heap.size)] 222∧HoldsK K w.heap.size w'∧Below w.heap.size w w'∧w'.heap.size=w.heap.size+2:=by
 have hmm:=@run_makeMap Tryz.prog
 have hmf:∀(fn:Fn) (first cap:Array Value) (w:World),(Instr.makeFunc fn first cap).run Tryz.prog w=.ok (.func fn first cap) w:=fun _ _ _ _=>rfl
 go_enter Tryz.func167,Tryz.ntmps167
 go_wp2
 go_ret
 refine ⟨rfl,?_,holdsK_made K ?_,yA (yA (Below.refl _ _) _) _,by simp⟩
 ·have:=yD (w.alloc (Obj.map #[] 0)) #[Value.map (some w.heap.size)] 222
  rw [yE] at this
  exact this
 ·have:=(World.ownsMap_made w Tryz.prog 192 fracElem).alloc (.cells #[.map (some w.heap.size)] 222)
  exact this
theorem takeFirst_any (K:List P4) (F:List Fr3) (hK:K.length≤1000000000) (KW:∀p ∈ K,Wf4 p.1 p.2.1 p.2.2.1 p.2.2.2) (w0:World) (bm bk g:Nat) (w:World) (l:List SE) (h:HI K F w0 bm bk g w l) (h0:0<l.length) (hw0:w0.heap.size≤w.heap.size) :
  Calls Tryz.prog 172 #[.pointer (some ⟨g,0,none⟩)] w fun e w'=>e=.returned (stv (HeapM.at' seD (HeapM.popL seD aheadS l) (l.length - 1)))∧HI K F w0 bm bk g w' ((HeapM.popL seD aheadS l).take (l.length - 1)):=by
 obtain ⟨v,b1,hown,_⟩:=h.1.1
 have hgl:=b1.lt
 have h5:=h.1.2.2.2.1
 have hb0:=yA (Below.refl _ w) (.cells #[.string ⟨#[]⟩,.int .i64 0,.int .i64 0,.int .i64 0,.int .i64 0] 209)
 have hM:HI K ((w.heap.size,#[.string ⟨#[]⟩,.int .i64 0,.int .i64 0,.int .i64 0,.int .i64 0],209)::F) w0 bm bk g _ l:=⟨(h.1.below hb0).more (b1.below hb0) (w.heap.size,#[.string ⟨#[]⟩,.int .i64 0,.int .i64 0,.int .i64 0,.int .i64 0],209) ⟨yD _ _ _,by show w.heap.size≠bm;omega,by show w.heap.size≠g;omega⟩ (fun e=>by have:=(hown.lt w.heap.size e.symm).2;omega),h.2⟩
 have C:=hide (pop_any (stObj K _ hK KW w0 bm bk g) l _ hM h0 h.2)
 have HD:=hide (show ∀k ∈ F,k.1≠w.heap.size from fun k hk=>by have:=(h.1.2.2.2.2.2.2 k hk).1.lt;omega)
 obtain ⟨R,hR⟩:∃R,(HeapM.popL seD aheadS l).take (l.length - 1)=R:=⟨_,rfl⟩
 obtain ⟨⟨n1,p1,p2,p3,p4⟩,hs1⟩:∃s,HeapM.at' seD (HeapM.popL seD aheadS l) (l.length - 1)=s:=⟨_,rfl⟩
 rw [hR,hs1] at C ⊢
 have hbk:w.heap.size≠bk:=by omega
 clear h b1 hown hb0 hM hR hs1
 have hta:=assertS (n1,p1,p2,p3,p4)
 go_enter Tryz.func172,Tryz.ntmps172
 go_wp2_with fail
 refine (uH C).mono ?_
 rintro e w1 ⟨⟨v1,rfl,rfl,_⟩,hh⟩
 have q1:=hh.1.write hbk hw0 (uH HD) 0 (.string (bs n1))
 have q2:=q1.write hbk hw0 (uH HD) 1 (.int .i64 p1)
 have q3:=q2.write hbk hw0 (uH HD) 2 (.int .i64 p2)
 have q4:=q3.write hbk hw0 (uH HD) 3 (.int .i64 p3)
 have q5:=q4.write hbk hw0 (uH HD) 4 (.int .i64 p4)
 have bw:=(hh.1.2.2.2.2.2.2 _ (List.mem_cons_self ..)).1
 have c0:=bw.at 0;have c1:=bw.at 1;have c2:=bw.at 2;have c3:=bw.at 3;have c4:=bw.at 4
 have f0:=bw.f 0;have f1:=bw.f 1;have f2:=bw.f 2;have f3:=bw.f 3;have f4:=bw.f 4
 simp at c0 c1 c2 c3 c4
 have bz:=(q5.2.2.2.2.2.2 _ (List.mem_cons_self ..)).1
 have z0:=bz.at 0;have z1:=bz.at 1;have z2:=bz.at 2;have z3:=bz.at 3;have z4:=bz.at 4
 simp at z0 z1 z2 z3 z4
 have HQ:=hide (show HI K F w0 bm bk g _ R from ⟨q5.less,hh.2⟩)
 simp only at HQ f0 f1 f2 f3 f4
 clear hh q1 q2 q3 q4 q5 bw bz C
 go_wp2
 refine bodyPost_ret (v:=stv (n1,p1,p2,p3,p4)) (by simp [results,Tryz.results172,go_sem,z0,z1,z2,z3,z4]) rfl ⟨rfl,uH HQ⟩
end
section
open Go.RowKit
structure Q where
 name:List UInt8
 parent:List UInt8
 due:Int
 most:Int
abbrev qv (q:Q):Value:=.agg #[.string (bs q.name),.string (bs q.parent),.int .i64 q.due,.int .i64 q.most]
def QAt (w:World) (b p:Nat) (q:Q):Prop:=
 w.cell? ⟨b,p,none⟩=some (.string (bs q.name))∧w.cell? ⟨b,p+1,none⟩=some (.string (bs q.parent))∧w.cell? ⟨b,p+2,none⟩=some (.int .i64 q.due)∧w.cell? ⟨b,p+3,none⟩=some (.int .i64 q.most)
def QRow (w:World) (ao:Option Addr) (len:Nat) (l:List Q):Prop:=
 len=l.length∧(len=0∨∃b off,ao=some ⟨b,off,none⟩∧∀i (h:i<l.length),QAt w b (off+i*4) l[i])
theorem QAt.lt {w:World} {b p:Nat} {q:Q} (h:QAt w b p q):b<w.heap.size:=yG h.1
theorem QAt.below {w w':World} {b p:Nat} {q:Q} (h:QAt w b p q) (hb:Below w.heap.size w w'):QAt w' b p q:=
 ⟨(hb.cell h.lt).trans h.1,(hb.cell h.lt).trans h.2.1,(hb.cell h.lt).trans h.2.2.1,(hb.cell h.lt).trans h.2.2.2⟩
theorem QRow.below {w w':World} {ao:Option Addr} {len:Nat} {l:List Q} (h:QRow w ao len l) (hb:Below w.heap.size w w'):QRow w' ao len l:=by
 obtain ⟨h1,h2⟩:=h
 refine ⟨h1,?_⟩
 rcases h2 with h2 | ⟨b,off,h3,h4⟩
 ·exact .inl h2
 ·exact .inr ⟨b,off,h3,fun i h=>(h4 i h).below hb⟩
theorem QRow.nil (w:World) (ao:Option Addr):QRow w ao 0 []:=⟨rfl,.inl rfl⟩
theorem QRow.at {w:World} {ao:Option Addr} {len:Nat} {l:List Q} (h:QRow w ao len l) {i:Nat} (hi:i<len):∃b off,ao=some ⟨b,off,none⟩∧∀(h:i<l.length),QAt w b (off+i*4) l[i]:=by
 obtain ⟨h1,h2⟩:=h
 rcases h2 with h2 | ⟨b,off,h3,h4⟩
 ·omega
 ·exact ⟨b,off,h3,fun hi=>h4 i hi⟩
def QBlk (w:World) (t:TypeId) (g n k:Nat) (l:List Q):Prop:=
 ∃arr:Array Value,w.heap[g]? = some (.cells arr t (0,0))∧arr.size=n*4∧∀i (h:i<l.length),i<k→arr[i*4]? = some (.string (bs l[i].name))∧arr[i*4+1]? = some (.string (bs l[i].parent))∧arr[i*4+2]? = some (.int .i64 l[i].due)∧arr[i*4+3]? = some (.int .i64 l[i].most)
theorem QBlk.lt {w:World} {t:TypeId} {g n k:Nat} {l:List Q} (h:QBlk w t g n k l):g<w.heap.size:=let ⟨_,h,_⟩:=h;lt_of_block h
theorem QBlk.below {w w':World} {t:TypeId} {g n k:Nat} {l:List Q} (h:QBlk w t g n k l) (hb:Below w.heap.size w w'):QBlk w' t g n k l:=by
 have hlt:=h.lt
 obtain ⟨arr,h1,h2⟩:=h
 exact ⟨arr,(hb.block g hlt).trans h1,h2⟩
theorem QBlk.cell {w:World} {t:TypeId} {g n k:Nat} {l:List Q} (h:QBlk w t g n k l) {j:Nat} (hj:j<n*4):∃v,w.cell? ⟨g,j,none⟩=some v:=by
 obtain ⟨arr,h1,h2,_⟩:=h
 exact ⟨arr[j]'(by omega),by simp [World.cell?,h1,Array.getElem?_eq_getElem (show j<arr.size by omega)]⟩
theorem QBlk.frozen {w:World} {t:TypeId} {g n k:Nat} {l:List Q} (h:QBlk w t g n k l) (j:Nat):w.frozen? ⟨g,j,none⟩=false:=by
 obtain ⟨arr,h1,h2,_⟩:=h
 simp [World.frozen?,h1]
theorem QBlk.row {w:World} {t:TypeId} {g n:Nat} {l:List Q} (h:QBlk w t g n n l) (hl:n=l.length):QRow w (some ⟨g,0,none⟩) n l:=by
 obtain ⟨arr,h1,h2,h3⟩:=h
 refine ⟨hl,.inr ⟨g,0,rfl,fun i hi=>?_⟩⟩
 obtain ⟨a,b,c,d⟩:=h3 i hi (by omega)
 unfold QAt
 simp only [Nat.zero_add]
 exact ⟨by simp [World.cell?,h1,a],by simp [World.cell?,h1,b],by simp [World.cell?,h1,c],by simp [World.cell?,h1,d]⟩
theorem qblk_made (w:World) (t:TypeId) (z:Array Value) (n:Nat) (l:List Q):QBlk (w.alloc (.cells (madeCells z (n*4)) t)) t w.heap.size n 0 l:=
 ⟨madeCells z (n*4),by show (w.heap.push _)[w.heap.size]? = _;simp,size_madeCells _ _,fun i _ h=>absurd h (by omega)⟩
def putQ (w:World) (g p:Nat) (q:Q):World:=(((w.setCell ⟨g,p,none⟩ (.string (bs q.name))).setCell ⟨g,p+1,none⟩ (.string (bs q.parent))).setCell ⟨g,p+2,none⟩ (.int .i64 q.due)).setCell ⟨g,p+3,none⟩ (.int .i64 q.most)
theorem QBlk.step {w:World} {t:TypeId} {g n k:Nat} {l:List Q} (h:QBlk w t g n k l) (hk:k<n) (hl:k<l.length):QBlk (putQ w g (k*4) l[k]) t g n (k+1) l:=by
 obtain ⟨arr,h1,h2,h3⟩:=h
 have e1:=heap_setCell_same w g (k*4) _ _ (.string (bs l[k].name)) h1
 have e2:=heap_setCell_same _ g (k*4+1) _ _ (.string (bs l[k].parent)) e1
 have e3:=heap_setCell_same _ g (k*4+2) _ _ (.int .i64 l[k].due) e2
 have e4:=heap_setCell_same _ g (k*4+3) _ _ (.int .i64 l[k].most) e3
 refine ⟨_,e4,by simp [h2],fun i hi hik=>?_⟩
 by_cases e:i=k
 ·subst e
  have q1:i*4+3<arr.size:=by omega
  refine ⟨?_,?_,?_,?_⟩<;>simp [Array.getElem?_setIfInBounds,h2]<;>omega
 ·obtain ⟨a,b,c,d⟩:=h3 i hi (by omega)
  refine ⟨?_,?_,?_,?_⟩
  ·rw [←a];simp only [Array.getElem?_setIfInBounds];repeat rw [if_neg (by omega)]
  ·rw [←b];simp only [Array.getElem?_setIfInBounds];repeat rw [if_neg (by omega)]
  ·rw [←c];simp only [Array.getElem?_setIfInBounds];repeat rw [if_neg (by omega)]
  ·rw [←d];simp only [Array.getElem?_setIfInBounds];repeat rw [if_neg (by omega)]
def QAny (w:World) (t:TypeId) (g n:Nat):Prop:=QBlk w t g n 0 []
theorem QBlk.any {w:World} {t:TypeId} {g n k:Nat} {l:List Q} (h:QBlk w t g n k l):QAny w t g n:=by
 obtain ⟨arr,h1,h2,_⟩:=h
 exact ⟨arr,h1,h2,fun i hi=>absurd hi (by simp)⟩
theorem QAny.set {w:World} {t:TypeId} {g n:Nat} (h:QAny w t g n) (j:Nat) (v:Value):QAny (w.setCell ⟨g,j,none⟩ v) t g n:=by
 obtain ⟨arr,h1,h2,_⟩:=h
 exact ⟨_,heap_setCell_same w g j _ _ v h1,by simp [h2],fun i hi=>absurd hi (by simp)⟩
def szQ (q:Q) (a:Int):Int:=if a - q.name.length<0 then -1 else if a - q.name.length - q.parent.length<0 then -1 else a - q.name.length - q.parent.length
def FitQ (l:List Q):Prop:=l.length≤1048576∧∀q ∈ l,q.name.length≤1048576∧q.parent.length≤1048576
theorem szQueue_any (q:Q) (a:Int) (w:World) (ha0:0≤a) (ha1:a≤1048576) (hn:q.name.length≤9223372036854775807) (hp:q.parent.length≤9223372036854775807) :
  Calls Tryz.prog 48 #[qv q,.int .i64 a] w fun e w'=>e=.returned (.int .i64 (szQ q a))∧Below w.heap.size w w':=by
 obtain ⟨nm,pa,du,mo⟩:=q
 have z1:=bs_size nm
 have z2:=bs_size pa
 simp only at hn hp
 unfold szQ
 simp only
 by_cases h1:a - nm.length<0
 ·rw [if_pos h1]
  go_enter Tryz.func48,Tryz.ntmps48
  go_wp2
  go_ret
  refine ⟨rfl,?_⟩
  repeat (first | exact Below.refl _ _ | refine yA ?_ _ | refine Below.drew ?_ | refine yC ?_ _ _ _ (by omega))
 ·rw [if_neg h1]
  by_cases h2:a - nm.length - pa.length<0
  ·rw [if_pos h2]
   go_enter Tryz.func48,Tryz.ntmps48
   go_wp2
   go_ret
   refine ⟨rfl,?_⟩
   repeat (first | exact Below.refl _ _ | refine yA ?_ _ | refine Below.drew ?_ | refine yC ?_ _ _ _ (by omega))
  ·rw [if_neg h2]
   go_enter Tryz.func48,Tryz.ntmps48
   go_wp2
   go_ret
   refine ⟨rfl,?_⟩
   repeat (first | exact Below.refl _ _ | refine yA ?_ _ | refine Below.drew ?_ | refine yC ?_ _ _ _ (by omega))
theorem szQ_cases (q:Q) (a:Int) (ha0:0≤a) (ha1:a≤1048576):szQ q a = -1∨(0≤szQ q a∧szQ q a≤a∧q.name.length≤1048576∧q.parent.length≤1048576):=by
 unfold szQ
 split
 ·exact .inl rfl
 ·split
  ·exact .inl rfl
  ·right;omega
theorem szQueueS_any (ao:Option Addr) (len cap:Nat) (l:List Q) (w:World) (h:QRow w ao len l) (hlen:len≤9223372036854775807) (hm:∀q ∈ l,q.name.length≤9223372036854775807∧q.parent.length≤9223372036854775807) :
  Calls Tryz.prog 18 #[.slice ao len cap,.int .i64 1048576] w fun e w'=>∃r:Int,e=.returned (.int .i64 r)∧(r = -1∨(0≤r∧r≤1048576∧FitQ l))∧Below w.heap.size w w':=by
 have HR:=hide h
 have HL:=hide h.1
 have HM:=hide hm
 clear h hm
 by_cases hbig:len≤1048576
 ·have hb1:¬(1048576:Int) - len<0:=by omega
  go_enter Tryz.func18,Tryz.ntmps18
  go_wp2
  go_loopw [1,5] (fun s i wr=>∃(k:Nat) (a:Int),k≤len∧i=.int .i64 k∧s=.int .i64 a∧0≤a∧a≤1048576∧Hid (∀q ∈ l.take k,q.name.length≤1048576∧q.parent.length≤1048576)∧Hid (Below w.heap.size w wr)) (fun _ i _=>len - (intOf i).toNat)
  case atStart=>exact ⟨0,(1048576:Int) - len,Nat.zero_le _,rfl,rfl,by omega,by omega,hide (by simp),hide (Below.refl _ _)⟩
  case round=>
   obtain ⟨k,a,hk,rfl,rfl,ha0,ha1,HP,HB⟩:=hrel
   by_cases hlt:k<len
   ·obtain ⟨b,off,rfl,hq⟩:=((uH HR).below (uH HB)).at hlt
    have hkl:k<l.length:=by have:=uH HL;omega
    obtain ⟨c0,c1,c2,c3⟩:=hq hkl
    obtain ⟨n1,n2⟩:=uH HM l[k] (List.getElem_mem _)
    have htk:=List.take_succ_eq_append_getElem hkl
    obtain ⟨q,hs⟩:∃q,l[k]=q:=⟨_,rfl⟩
    rw [hs] at c0 c1 c2 c3 n1 n2 htk
    have HTK:=hide htk
    have C:=hide (fun wx=>szQueue_any q a wx ha0 ha1 n1 n2)
    obtain ⟨r,hr⟩:∃r,szQ q a=r:=⟨_,rfl⟩
    have hcs:=szQ_cases q a ha0 ha1
    rw [hr] at C hcs
    have HC:=hide hcs
    clear hq hs hkl hr hcs htk n1 n2
    go_wp2_with fail
    refine (uH C _).mono ?_
    rintro e w1 ⟨rfl,hb⟩
    have HB1:=hide (yB (uH HB) hb)
    clear hb C c0 c1 c2 c3
    rcases uH HC with hr | ⟨r0,r1,r2,r3⟩
    ·subst hr
     go_wp2
     go_ret
     exact ⟨-1,rfl,.inl rfl,uH HB1⟩
    ·have HN:=hide (show ∀q ∈ l.take (k+1),q.name.length≤1048576∧q.parent.length≤1048576 by
      rw [uH HTK]
      intro x hx
      rcases List.mem_append.1 hx with hx | hx
      ·exact uH HP x hx
      ·rw [List.mem_singleton.1 hx];exact ⟨r2,r3⟩)
     clear r2 r3 HP HTK HC
     go_wp2
     go_roundw
     case rel=>exact ⟨k+1,r,by omega,by go_num,rfl,by omega,by omega,HN,HB1⟩
     case measure=>simp [intOf];omega
   ·have HF:=hide (show FitQ l from ⟨by have:=uH HL;omega,fun q hq=>uH HP q (by rw [List.take_of_length_le (by have:=uH HL;omega)];exact hq)⟩)
    go_wp2
    go_ret
    exact ⟨a,rfl,.inr ⟨ha0,ha1,uH HF⟩,uH HB⟩
 ·have hb1:(1048576:Int) - len<0:=by omega
  go_enter Tryz.func18,Tryz.ntmps18
  go_wp2
  go_ret
  exact ⟨-1,rfl,.inl rfl,Below.refl _ _⟩
theorem toQueue_any (q:Q) (w:World) :
  Calls Tryz.prog 59 #[qv q] w fun e w'=>e=.returned (qv q)∧Below w.heap.size w w':=by
 obtain ⟨nm,pa,du,mo⟩:=q
 go_enter Tryz.func59,Tryz.ntmps59
 go_wp2
 refine bodyPost_ret (v:=qv ⟨nm,pa,du,mo⟩) (by simp [results,Tryz.results59,go_sem]) rfl ⟨rfl,?_⟩
 repeat (first | exact Below.refl _ _ | refine yA ?_ _ | refine Below.drew ?_ | refine yC ?_ _ _ _ (by omega))
theorem queueInfo:(Tryz.prog.info? 100).map (fun i=>(i.zero,i.size,i.bytes))=some (some (qv ⟨[],[],0,0⟩),4,48):=by kernel_rfl
theorem make_queues (n:Nat) (hn:n≤1048576) (w:World) :
  (Instr.makeSlice 29 (.int .i64 (n:Int)) (.int .i64 (n:Int))).run Tryz.prog w=.ok (.slice (some ⟨w.heap.size,0,none⟩) n n) (w.alloc (.cells (madeCells (qv ⟨[],[],0,0⟩).cells (n*4)) 100)):=by
 obtain ⟨i,hi,hz⟩:=Option.map_eq_some_iff.1 queueInfo
 simp only [Prod.mk.injEq] at hz
 obtain ⟨hz,hs,hb⟩:=hz
 have hr:=run_make (P:=Tryz.prog) w 29 100 i _ Tryz.underlying29 hi hz .i64 .i64 n n (by omega) (Int.le_refl _) (by rw [hb];omega) (by omega)
 simp only [Int.toNat_natCast,hs] at hr
 exact hr
theorem toQueueS_any (ao:Option Addr) (len cap:Nat) (l:List Q) (w:World) (h:QRow w ao len l) (hl:len≤1048576) :
  Calls Tryz.prog 25 #[.slice ao len cap] w fun e w'=>e=.returned (.slice (some ⟨w.heap.size,0,none⟩) len len)∧QBlk w' 100 w.heap.size len len l∧Below w.heap.size w w':=by
 have HR:=hide h
 have HL:=hide h.1
 have hmk:=make_queues len hl w
 obtain ⟨zs,hzs⟩:∃z,z=(qv ⟨[],[],0,0⟩).cells:=⟨_,rfl⟩
 rw [←hzs] at hmk
 clear h hzs
 go_enter Tryz.func25,Tryz.ntmps25
 go_wp2
 clear hmk
 go_loopw [4] (fun i wr=>∃k:Nat,k≤len∧i=.int .i64 k∧Hid (QBlk wr 100 w.heap.size len k l)∧Hid (Below w.heap.size w wr)) (fun i _=>len - (intOf i).toNat)
 case atStart=>exact ⟨0,Nat.zero_le _,rfl,hide (qblk_made w _ _ _ _),hide (yA (Below.refl _ _) _)⟩
 case round=>
  obtain ⟨k,hk,rfl,HQ,HB⟩:=hrel
  by_cases hlt:k<len
  ·obtain ⟨b,off,rfl,hq⟩:=((uH HR).below (uH HB)).at hlt
   have hkl:k<l.length:=by have:=uH HL;omega
   obtain ⟨c0,c1,c2,c3⟩:=hq hkl
   obtain ⟨q,hs⟩:∃q,l[k]=q:=⟨_,rfl⟩
   rw [hs] at c0 c1 c2 c3
   have hst:∀wx,QBlk wx 100 w.heap.size len k l→QBlk (putQ wx w.heap.size (k*4) q) 100 w.heap.size len (k+1) l:=fun wx hx=>by have:=hx.step hlt hkl;rw [hs] at this;exact this
   have HST:=hide hst
   clear hst hq hs hkl
   go_wp2_with fail
   refine (toQueue_any q _).mono ?_
   rintro e w1 ⟨rfl,hb⟩
   have HQ1:=hide ((uH HQ).below hb)
   have HB1:=hide (yB (uH HB) hb)
   clear hb c0 c1 c2 c3
   obtain ⟨v0,d0⟩:=(uH HQ1).cell (j:=k*4) (by omega)
   obtain ⟨v1,d1⟩:=(uH HQ1).cell (j:=k*4+1) (by omega)
   obtain ⟨v2,d2⟩:=(uH HQ1).cell (j:=k*4+2) (by omega)
   obtain ⟨v3,d3⟩:=(uH HQ1).cell (j:=k*4+3) (by omega)
   have f0:=(uH HQ1).frozen (k*4)
   have f1:=(uH HQ1).frozen (k*4+1)
   have f2:=(uH HQ1).frozen (k*4+2)
   have f3:=(uH HQ1).frozen (k*4+3)
   go_wp2
   go_roundw
   case rel=>exact ⟨k+1,by omega,by go_num,hide (uH HST _ (uH HQ1)),hide (yC (yC (yC (yC (uH HB1) _ _ _ (by omega)) _ _ _ (by omega)) _ _ _ (by omega)) _ _ _ (by omega))⟩
   case measure=>simp [intOf];omega
  ·have hkk:k=len:=by omega
   subst hkk
   go_wp2
   go_ret
   exact ⟨rfl,uH HQ,uH HB⟩
theorem eqQueue_same (q:Q) (w:World) :
  Calls Tryz.prog 74 #[qv q,qv q] w fun e w'=>e=.returned (.bool true)∧Below w.heap.size w w':=by
 obtain ⟨nm,pa,du,mo⟩:=q
 go_enter Tryz.func74,Tryz.ntmps74
 go_wp2
 go_ret
 refine ⟨rfl,?_⟩
 repeat (first | exact Below.refl _ _ | refine yA ?_ _ | refine Below.drew ?_ | refine yC ?_ _ _ _ (by omega))
def QTwo (w0:World) (b p c r:Nat) (q:Q) (w:World):Prop:=QAt w b p q∧QAt w c r q∧Below w0.heap.size w0 w
theorem QTwo.call {w0 w w':World} {b p c r:Nat} {q:Q} (h:QTwo w0 b p c r q w) (hb:Below w.heap.size w w'):QTwo w0 b p c r q w':=⟨h.1.below hb,h.2.1.below hb,yB h.2.2 hb⟩
theorem QTwo.drew {w0 w:World} {b p c r:Nat} {q:Q} (h:QTwo w0 b p c r q w):QTwo w0 b p c r q w.drew:=h.call (Below.refl _ _).drew
theorem QTwo.read (w0:World) (b p c r:Nat) (q:Q):∀wx,QTwo w0 b p c r q wx→wx.cell? ⟨b,p,none⟩=some (.string (bs q.name))∧wx.cell? ⟨b,p+1,none⟩=some (.string (bs q.parent))∧wx.cell? ⟨b,p+2,none⟩=some (.int .i64 q.due)∧wx.cell? ⟨b,p+3,none⟩=some (.int .i64 q.most)
  ∧wx.cell? ⟨c,r,none⟩=some (.string (bs q.name))∧wx.cell? ⟨c,r+1,none⟩=some (.string (bs q.parent))∧wx.cell? ⟨c,r+2,none⟩=some (.int .i64 q.due)∧wx.cell? ⟨c,r+3,none⟩=some (.int .i64 q.most):=
 fun wx h=>⟨h.1.1,h.1.2.1,h.1.2.2.1,h.1.2.2.2,h.2.1.1,h.2.1.2.1,h.2.1.2.2.1,h.2.1.2.2.2⟩
theorem eqQueueS_same (ao bo:Option Addr) (len cap ccap:Nat) (l:List Q) (w:World) (h:QRow w ao len l) (h':QRow w bo len l) (hl:len≤1048576) :
  Calls Tryz.prog 31 #[.slice ao len cap,.slice bo len ccap] w fun e w'=>e=.returned (.bool true)∧Below w.heap.size w w':=by
 have HR:=hide h
 have HR':=hide h'
 have HL:=hide h.1
 clear h h'
 go_enter Tryz.func31,Tryz.ntmps31
 go_wp2
 go_loopw [5] (fun i wr=>∃k:Nat,k≤len∧i=.int .i64 k∧Hid (Below w.heap.size w wr)) (fun i _=>len - (intOf i).toNat)
 case atStart=>exact ⟨0,Nat.zero_le _,rfl,hide (Below.refl _ _)⟩
 case round=>
  obtain ⟨k,hk,rfl,HB⟩:=hrel
  by_cases hlt:k<len
  ·obtain ⟨b,off,rfl,hq⟩:=((uH HR).below (uH HB)).at hlt
   obtain ⟨c,coff,rfl,hq'⟩:=((uH HR').below (uH HB)).at hlt
   have hkl:k<l.length:=by have:=uH HL;omega
   have A0:=hide (show QTwo w b (off+k*4) c (coff+k*4) l[k] wr from ⟨hq hkl,hq' hkl,uH HB⟩)
   obtain ⟨q,hs⟩:∃q,l[k]=q:=⟨_,rfl⟩
   rw [hs] at A0
   have R:=QTwo.read w b (off+k*4) c (coff+k*4) q
   have k0:(0:Int)≤k:=by omega
   have k1:(k:Int)<len:=by omega
   clear hq hq' hs hkl
   go_wp2_with fail
   go_region_held3 (fun wx=>QTwo w b (off+k*4) c (coff+k*4) q wx)
    (first | (with_reducible assumption) | exact (uH A0).drew | exact QTwo.call (by assumption) (by assumption))
    (first
    | (go_at_call 74;refine (eqQueue_same _ _).mono ?_;rintro e wt ⟨rfl,hb⟩;have SA:=QTwo.call (w0:=w) (b:=b) (p:=off+k*4) (c:=c) (r:=coff+k*4) (q:=q) (by assumption) hb))
   have HB2:=hide SA.2.2
   clear SA R A0
   go_wp2
   go_roundw
   case rel=>exact ⟨k+1,by omega,by go_num,HB2⟩
   case measure=>simp [intOf];omega
  ·go_wp2
   go_ret
   exact ⟨rfl,uH HB⟩
end
section
theorem bs_eq (l m:List UInt8):((bs l).toList==(bs m).toList)=decide (l=m):=by
 rw [ByteArray.toList_eq,ByteArray.toList_eq]
 by_cases h:l=m
 ·subst h;simp
 ·simp [bs,h]
theorem bs_empty (l:List UInt8):(bs l).toList.isEmpty=decide (l=[]):=by
 rw [ByteArray.toList_eq]
 cases l<;>simp [bs]
end
section
open Go.ChangeShapes Go.WideShapes Go.ChangeAt Go.RowKit Go.Deep
def QFit (q:Q):Prop:=q.name.length≤9223372036854775807∧q.parent.length≤9223372036854775807
end
end Go.Proofs.YtdhibeclkdepiaaGreat
