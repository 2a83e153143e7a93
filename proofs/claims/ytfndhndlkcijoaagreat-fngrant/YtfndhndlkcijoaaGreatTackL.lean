/-
  Texts in one: StdJ, StdP.
-/
import Derived.Test.YtfndhndlkcijoaaGreatTackH
import Derived.BigRegion
set_option maxRecDepth 100000
set_option maxHeartbeats 16000000
set_option linter.unusedVariables false
set_option linter.unusedSimpArgs false
open Go.Proofs.Tryz
namespace Go.Proofs.YtfndhndlkcijoaaGreat
section
open Go.RowKit Go.Maps
variable {F:List Fr3} {K:List P4} {l:List SE} {b bk bm cap g j n:Nat} {w w0:World}
theorem qP {B sz:Nat} {e:TypeId} {xs:List Value} (h:w.ownsRow B e sz (.slice (some ⟨b,0,none⟩) n cap) n xs) (hj:j<n*sz):∃u,w.cell? ⟨b,j,none⟩=some u:=by
 have:=h.cellAt j hj;rw [this];exact ⟨_,List.getElem?_eq_getElem (by rw [h.1];exact hj)⟩
theorem HSt.swapped {i:Nat} (h:HSt K F w0 bm bk g w l) (hb:Blk w g #[.slice (some ⟨b,0,none⟩) l.length cap,aBO bk] 85) (hi:i<l.length) (hj:j<l.length) :
  HSt K F w0 bm bk g (stW (stW w b i (HeapM.at' seD l j)) b j (HeapM.at' seD l i)) (HeapM.swapL seD l i j):=by
 obtain ⟨_,Hq,F9⟩:=h.obj hb;obtain ⟨b',cap',e,hbb,_⟩:=vJ (n:=0) Hq (by omega);cases e;obtain ⟨_,h3,h4,h5,h6,h7,h8⟩:=h;have PP:∀f ∈ F,f.1≠b:=fun f hf e=>F9 f hf (by rw [e];rfl)
 have hn:∀(P:World→Prop),(∀wx p v,P wx→P (wx.setCell ⟨b,p,none⟩ v))→∀wx k x,P wx→P (stW wx b k x):=fun P hp wx k x hx=>hp _ _ _ (hp _ _ _ (hp _ _ _ (hp _ _ _ (hp _ _ _ hx))))
 have o1:=aBb Hq hi (HeapM.at' seD l j);have hl1:(l.set i (HeapM.at' seD l j)).length=l.length:=by simp
 have o2:=aBb (l:=l.set i (HeapM.at' seD l j)) (by rw [hl1];exact o1) (by rw [hl1];exact hj) (HeapM.at' seD l i);rw [hl1] at o2;refine ⟨⟨.slice (some ⟨b,0,none⟩) l.length cap,?_,?_,F9⟩,?_,?_,h5,?_,?_,fun f hf=>⟨?_,(h8 f hf).2⟩⟩
 ·exact hn (fun wx=>Blk wx g _ _) (fun wx p v hx=>hx.other b p v (by omega)) _ _ _ (hn (fun wx=>Blk wx g _ _) (fun wx p v hx=>hx.other b p v (by omega)) _ _ _ hb)
 ·rw [HeapM.swap_len];exact o2
 ·exact hn (fun wx=>Blk wx bk _ _) (fun wx p v hx=>hx.other b p v (by omega)) _ _ _ (hn (fun wx=>Blk wx bk _ _) (fun wx p v hx=>hx.other b p v (by omega)) _ _ _ h3)
 ·have hk:∀wx p v,dY K bm wx→dY K bm (wx.setCell ⟨b,p,none⟩ v):=fun wx p v hx=>hx.grown (dP (aD wx (some b)) p v) (by simp;omega)
  exact hn (dY K bm) hk _ _ _ (hn (dY K bm) hk _ _ _ h4)
 ·intro x hx;have:=(HeapM.swap_perm seD l i j hi hj).subset hx;exact h6 x this
 ·exact hn (fun wx=>Bw w0 wx) (fun wx p v hx=>yC hx _ _ _ (by omega)) _ _ _ (hn (fun wx=>Bw w0 wx) (fun wx p v hx=>yC hx _ _ _ (by omega)) _ _ _ h7)
 ·exact hn (fun wx=>Blk wx f.1 _ _) (fun wx p v hx=>hx.other b p v (PP f hf)) _ _ _ (hn (fun wx=>Blk wx f.1 _ _) (fun wx p v hx=>hx.other b p v (PP f hf)) _ _ _ (h8 f hf).1)
theorem aE0 (K:List P4) (F:List Fr3) (w0:World) (bm bk g:Nat) (w:World) (l:List SE) (x y:Value) (i j:Nat) (h:HSt K F w0 bm bk g w l) (hb:w.heap[g]? = some (.cells #[x,y] 85 (0,0))) (hi:i<l.length) (hj:j<l.length) (hl:l.length≤1000000) :
  cP 246 #[.agg #[x,y],.int .i64 (i:Int),.int .i64 (j:Int)] w fun e w'=>e=.returned (.tuple #[])∧HSt K F w0 bm bk g w' (HeapM.swapL seD l i j):=by
 obtain ⟨rfl,Hq,_⟩:=h.obj hb;obtain ⟨b,cap,rfl,hbb,QM⟩:=vJ (n:=0) Hq (by omega);have hb0:=yA (yH _ w) (.cells #[.slice (some ⟨b,0,none⟩) l.length cap,aBO bk] 85);have hb1:=hb0.drew;have B0:=yD w #[.slice (some ⟨b,0,none⟩) l.length cap,aBO bk] 85;have ZB:=Hq.alloc (.cells #[.slice (some ⟨b,0,none⟩) l.length cap,aBO bk] 85);have HH:=aA (((h.below hb0).swapped (Blk.below (show Blk w g _ _ from hb) hb0) hi hj).below (yH _ _).drew);obtain ⟨a0,a1,a2,a3,a4⟩:=pQ ZB hi;obtain ⟨d0,d1,d2,d3,d4⟩:=pQ ZB hj;have fz:=fun r=>ZB.frozenAt r
 obtain ⟨⟨n1,p1,p2,p3,p4⟩,hs1⟩:∃s,HeapM.at' seD l i=s:=⟨_,rfl⟩;obtain ⟨⟨n2,q1,q2,q3,q4⟩,hs2⟩:∃s,HeapM.at' seD l j=s:=⟨_,rfl⟩;rw [hs1] at a0 a1 a2 a3 a4 HH;rw [hs2] at d0 d1 d2 d3 d4 HH;simp only [stW] at a0 a1 a2 a3 a4 d0 d1 d2 d3 d4 HH;have h1:=lD ZB (j:=i*5) (by omega) (.string (bs n2));have h2:=lD h1 (j:=i*5+1) (by omega) (.int .i64 q1);have h3:=lD h2 (j:=i*5+2) (by omega) (.int .i64 q2);have h4:=lD h3 (j:=i*5+3) (by omega) (.int .i64 q3);have h5:=lD h4 (j:=i*5+4) (by omega) (.int .i64 q4);obtain ⟨u0,m0⟩:=qP h1 (j:=j*5) (by omega);obtain ⟨u1,m1⟩:=qP h2 (j:=j*5+1) (by omega);obtain ⟨u2,m2⟩:=qP h3 (j:=j*5+2) (by omega);obtain ⟨u3,m3⟩:=qP h4 (j:=j*5+3) (by omega);obtain ⟨u4,m4⟩:=qP h5 (j:=j*5+4) (by omega);have c0:=B0.at 0;simp at c0;have Mv:=(Hq.lt b rfl).2;have hbn:¬b=w.heap.size:=by omega
 have hbn2:¬w.heap.size=b:=by omega
 have hij:(i:Int)<l.length:=by omega
 have hjj:(j:Int)<l.length:=by omega
 have f0:=fz (i*5);have f1:=fz (i*5+1);have f2:=fz (i*5+2);have f3:=fz (i*5+3);have f4:=fz (i*5+4);have g0:=fz (j*5);have g1:=fz (j*5+1);have g2:=fz (j*5+2);have g3:=fz (j*5+3);have g4:=fz (j*5+4);clear Mv h hb Hq ZB hs1 hs2 hb0 hb1 B0 fz h1 h2 h3 h4 h5;go_enter func246,ntmps246;go_wp2_with fail
 go_region
 all_goals
  go_wp2;go_end0
  exact ⟨rfl,uH HH⟩
theorem HSt.pushed {v:Value} {z:SE} (h:HSt K F w0 bm bk g w l) (hF:∀f ∈ F,f.2.2≠91) (hz:z.2 ∈ K) {v':Value} {w1 w2:World} (hb:Bw w w1) (Hq:w1.ownsRow (g+1) 91 5 v l.length (kX l))
  (ho:w2.ownsRow (g+1) 91 5 v' (l.length+1) (kX l++stc z)) (hg:w1.grownBy w2 v.ownBlock):HSt K F w0 bm bk g (w2.setCell ⟨g,0,none⟩ v') (l++[z]):=by
 have ZO:∀k,k≤g→k<w1.heap.size→w2.heap[k]? = w1.heap[k]?:=fun k hk hlt=>hg.block k hlt (fun e=>by
  have:=(Hq.lt k e.symm).1;omega)
 obtain ⟨⟨v0,b1,_,_⟩,h3,h4,h5,h6,h7,h8⟩:=h;have hFv:∀f ∈ F,∀k,v.ownBlock=some k→f.1≠k:=fun f hf k hk e=>by
  rcases Hq.2 with ⟨e2,_⟩ | ⟨b2,_,cur,e2,_,hc,_⟩
  ·rw [e2] at hk;simp [Value.ownBlock] at hk
  ·rw [e2] at hk;simp [Value.ownBlock] at hk;have:=(h8 f hf).1.below hb;unfold Blk at this;rw [e,←hk,hc] at this;simp at this;exact hF f hf this.2.symm
 have fr2:∀f ∈ F,Blk w2 f.1 f.2.1 f.2.2:=fun f hf=>(hg.block f.1 ((h8 f hf).1.below hb).lt (fun e=>hFv f hf f.1 e.symm rfl)).trans ((h8 f hf).1.below hb)
 have b2:Blk w1 g _ _:=b1.below hb;have b3:Blk w2 g _ _:=(ZO g (yJ _) b2.lt).trans b2;have c3:Blk w2 bk _ _:=(ZO bk (by omega) (h3.below hb).lt).trans (h3.below hb);have k2:dY K bm w2:=(h4.below hb).grown hg (fun e=>by have:=(Hq.lt bm e.symm).1;omega);have hFn:∀f ∈ F,some f.1≠v'.ownBlock:=fun f hf e=>by
  rcases ho.2 with ⟨e2,_⟩ | ⟨b2,_,cur,e2,_,hc,_⟩
  ·rw [e2] at e;simp [Value.ownBlock] at e
  ·rw [e2] at e;simp [Value.ownBlock] at e;have:=fr2 f hf;unfold Blk at this;rw [e,hc] at this;simp at this;exact hF f hf this.2.symm
 have Gq:(l++[z]).length=l.length+1:=by simp
 refine ⟨⟨v',?_,?_,hFn⟩,c3.other g 0 v' (by omega),k2.grown (dP (aD w2 (some g)) 0 v') (by simp;omega),h5,?_,?_,fun f hf=>⟨(fr2 f hf).other g 0 v' (h8 f hf).2.2,(h8 f hf).2⟩⟩
 ·have:=b3.set 0 v';simpa using this
 ·rw [Gq,aDh];have e:kX [z]=stc z:=by simp [kX]
  rw [e];exact ho.kept (dP (aD w2 (some g)) 0 v') (.inr (fun e=>by have:=(ho.lt g e).1;omega))
 ·intro x hx;rcases List.mem_append.1 hx with hx | hx
  ·exact h6 x hx
  ·simp at hx;subst hx;exact hz
 ·have h8:Bw w0 w1:=yB h7 hb;have h9:Bw w0 w2:=h8.grown hg h8.size (fun k e=>by have:=(Hq.lt k e).1;omega);exact yC h9 _ _ _ (by omega)
theorem aHJ (x:SE) (xt:TypeId) (wx:World):(Instr.typeAssert (.iface 91 (stv x)) xt 91 false).run Tryz.prog wx=.ok (stv x) wx:=by
 simp [Instr.typeAssert,go_sem]
theorem Tryz.infoStd:(Tryz.prog.info? 91).map (fun i=>(i.zero,i.size,i.bytes))=some (some (.agg #[.string .empty,.int .i64 0,.int .i64 0,.int .i64 0,.int .i64 0]),5,48):=by kernel_rfl
theorem aE1 (K:List P4) (F:List Fr3) (w0:World) (bm bk g:Nat) (w:World) (l:List SE) (z:SE) (h:HSt K F w0 bm bk g w l) (hF:∀f ∈ F,f.2.2≠91) (hz:z.2 ∈ K) (hl:l.length<1000000) :
  cP 245 #[.pointer (some ⟨g,0,none⟩),.iface 91 (stv z)] w fun e w'=>e=.returned (.tuple #[])∧HSt K F w0 bm bk g w' (l++[z]):=by
 obtain ⟨i0,hi,hz0,hz1,hz2⟩:=info_parts Tryz.infoStd;obtain ⟨v,b1,Hq,_⟩:=h.1;have hb1:=(yA (yH _ w) (.cells #[.string (bs z.1),.int .i64 z.2.1,.int .i64 z.2.2.1,.int .i64 z.2.2.2.1,.int .i64 z.2.2.2.2] 91)).drew;obtain ⟨W,hW⟩:∃W,(w.alloc (.cells #[.string (bs z.1),.int .i64 z.2.1,.int .i64 z.2.2.1,.int .i64 z.2.2.2.1,.int .i64 z.2.2.2.2] 91)).drew=W:=⟨_,rfl⟩;rw [hW] at hb1;have hbk:Blk W w.heap.size #[.string (bs z.1),.int .i64 z.2.1,.int .i64 z.2.2.1,.int .i64 z.2.2.2.1,.int .i64 z.2.2.2.2] 91:=by rw [←hW];exact yD _ _ _
 have Zv:W.ownsRow (g+1) 91 5 v l.length (kX l):=Hq.kept (aH (aD w none) hb1) (by by_cases e:v.ownBlock=none;exact .inl e;exact .inr e);have Gy:∀j u,(stc z)[j]? = some u→W.cell? (Addr.add ⟨w.heap.size,0,none⟩ j)=some u:=fun j u hu=>by
  rw [Lib.add_plain,Nat.zero_add,hbk.at j];simp only [stc] at hu;simpa using hu
 obtain ⟨v',w2,gq,Hy,Hw,_⟩:=run_append_own (P:=Tryz.prog) W (g+1) 83 83 91 i0 (.agg #[.string .empty,.int .i64 0,.int .i64 0,.int .i64 0,.int .i64 0]) 5 48 underlying83 hi hz0 hz1 hz2 rfl (by decide) v l.length (kX l) Zv ⟨w.heap.size,0,none⟩ 1 1 (stc z) (by simp [stc]) Gy (fun u hu=>by simp [stc] at hu;rcases hu with rfl | rfl | rfl | rfl | rfl<;>rfl) (by unfold maxLen;omega) (by omega) (by have:=b1.lt;have:=hb1.size;omega);obtain ⟨b9,cap9,rfl⟩:∃b9 cap9,v'=.slice (some ⟨b9,0,none⟩) (l.length+1) cap9:=by
  rcases Hy.2 with ⟨_,e⟩ | ⟨b9,cap9,_,e,_⟩
  ·omega
  ·exact ⟨b9,cap9,e⟩
 have HH:=aA (h.pushed hF hz hb1 Zv Hy Hw);have ZO:w2.heap[g]? = W.heap[g]?:=Hw.block g (b1.below hb1).lt (fun e=>by have:=(Zv.lt g e.symm).1;omega);have b3:Blk w2 g _ _:=ZO.trans (b1.below hb1);have c0:=b1.at 0;simp at c0;have c1:=(b1.al (.cells #[.string (bs z.1),.int .i64 z.2.1,.int .i64 z.2.2.1,.int .i64 z.2.2.2.1,.int .i64 z.2.2.2.2] 91)).at 0;simp at c1;have c2:=b3.at 0;simp at c2;have f2:=b3.f 0;have HV:=aA Hq.2;have hwg:¬w.heap.size=g:=by have:=b1.lt;omega
 have hgw:¬g=w.heap.size:=by omega
 rw [←hW] at gq;clear Hq Zv Hy Hw Gy hbk hb1 hW ZO b3 h b1;obtain ⟨n1,p1,p2,p3,p4⟩:=z;simp only at gq c1;have hta:=aHJ (n1,p1,p2,p3,p4);rcases uH HV with ⟨rfl,hl0⟩ | ⟨b,cap,cur,rfl,_,_,QM,_⟩
 all_goals
  clear HV;simp [go_sem] at gq;go_enter func245,ntmps245;go_wp2_with fail
  go_region
  all_goals
   go_wp2;go_end0
   first
   | exact ⟨rfl,uH HH⟩
   | (have hx:=uH HH;rw [hl0] at hx;exact ⟨rfl,hx⟩)
theorem HSt.popped (h:HSt K F w0 bm bk g w l) (hb:Blk w g #[.slice (some ⟨b,0,none⟩) l.length cap,aBO bk] 85) (hn:n≤l.length) :
  HSt K F w0 bm bk g (w.setCell ⟨g,0,none⟩ (.slice (some ⟨b,0,none⟩) n cap)) (l.take n):=by
 obtain ⟨_,Hq,F9⟩:=h.obj hb;obtain ⟨_,h3,h4,h5,h6,h7,h8⟩:=h;have Gq:(l.take n).length=n:=by simp;omega
 refine ⟨⟨.slice (some ⟨b,0,none⟩) n cap,?_,?_,F9⟩,h3.other g 0 _ (by omega),h4.grown (dP (aD w (some g)) 0 _) (by simp;omega),h5,fun x hx=>h6 x (List.mem_of_mem_take hx),yC h7 _ _ _ (by omega),fun f hf=>⟨(h8 f hf).1.other g 0 _ (h8 f hf).2.2,(h8 f hf).2⟩⟩
 ·have:=hb.set 0 (.slice (some ⟨b,0,none⟩) n cap);simpa using this
 ·rw [Gq,aBS];obtain ⟨o1,o2⟩:=Hq;refine ⟨by rw [List.length_take,aDg];omega,?_⟩;rcases o2 with ⟨e,_⟩ | ⟨g',cap',cur,e,hb',hc,k1,k2,k3,k4⟩
  ·cases e
  ·cases e;refine .inr ⟨b,cap,cur,rfl,hb',?_,by omega,k2,k3,?_⟩
   ·rw [heap_setCell_other _ ⟨g,0,none⟩ b _ (by simp;omega)];exact hc
   ·rw [←k4,List.take_take,Nat.min_eq_left (by omega)]
theorem aKx (g n cap k:Nat) (hk:k≤cap) (wx:World):(Instr.slice 83 (.slice (some ⟨g,0,none⟩) n cap) none (some (.int .i64 (k:Int))) none).run Tryz.prog wx=.ok (.slice (some ⟨g,0,none⟩) k cap) wx:=by
 rw [run_slice_h (P:=Tryz.prog) (w:=wx) 83 (some ⟨g,0,none⟩) n cap underlying83 .i64 (k:Int) (by omega) (by omega)];rw [show (sizeOf (Tryz.prog.elem 83)).run Tryz.prog wx=.ok 5 wx from by kernel_rfl];simp [Result.andThen,sliced,Addr.add]
theorem aFq (K:List P4) (F:List Fr3) (w0:World) (bm bk g:Nat) (w:World) (l:List SE) (h:HSt K F w0 bm bk g w l) (h0:0<l.length) (hl:l.length≤1000000) :
  cP 244 #[.pointer (some ⟨g,0,none⟩)] w fun e w'=>e=.returned (.iface 91 (stv (HeapM.at' seD l (l.length - 1))))∧HSt K F w0 bm bk g w' (l.take (l.length - 1)):=by
 obtain ⟨v,b1,Hq,_⟩:=h.1;obtain ⟨b,cap,rfl,hbb,QM⟩:=vJ (n:=0) Hq h0;obtain ⟨m,hm⟩:∃m,l.length - 1=m:=⟨_,rfl⟩;have GN:m<l.length:=by omega
 obtain ⟨a0,a1,a2,a3,a4⟩:=pQ Hq GN;rw [hm];obtain ⟨⟨n1,p1,p2,p3,p4⟩,hs1⟩:∃s,HeapM.at' seD l m=s:=⟨_,rfl⟩;rw [hs1] at a0 a1 a2 a3 a4 ⊢;simp only at a0 a1 a2 a3 a4;have hlm:(l.length:Int) - 1=(m:Int):=by omega
 have hwr:IntKind.i64.wrap ((l.length:Int) - 1)=(m:Int):=by rw [IntKind.wrap_i64];omega
 have hcut:=aKx b l.length cap m (by omega);have hb1:=yA (yH _ w) (.cells #[.string (bs n1),.int .i64 p1,.int .i64 p2,.int .i64 p3,.int .i64 p4] 91);have HH:=aA ((h.below hb1).popped (b1.below hb1) (n:=m) (by omega));have c0:=b1.at 0;simp at c0;have c1:=(b1.below hb1).at 0;simp at c1;have f1:=(b1.below hb1).f 0;have hne:¬w.heap.size=g:=by have:=b1.lt;omega
 have YL:¬g=w.heap.size:=by omega
 have F6:(m:Int)<(l.length:Int):=by omega
 clear h b1 Hq hs1 hb1 hm;go_enter func244,ntmps244;go_wp2;go_ret;exact ⟨rfl,uH HH⟩
end
end Go.Proofs.YtfndhndlkcijoaaGreat
