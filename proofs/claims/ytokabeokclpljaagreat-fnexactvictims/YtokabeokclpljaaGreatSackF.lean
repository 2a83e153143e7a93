/-
  Texts in one: StdI, StdJ.
-/
import Derived.Test.YtokabeokclpljaaGreatSackD
import Derived.Test.YtokabeokclpljaaGreatSackC
import Derived.BigRegion
set_option maxRecDepth 100000
set_option maxHeartbeats 16000000
set_option linter.unusedVariables false
set_option linter.unusedSimpArgs false
namespace Go.Proofs.YtokabeokclpljaaGreat
section
open Go.RowKit Go.Maps
def seD:SE:=([],0,0,0,0)
abbrev Fr3:=Nat×Array Value×TypeId
def FrB (bm g:Nat) (F:Fr3) (w:World):Prop:=Blk w F.1 F.2.1 F.2.2∧F.1≠bm∧F.1≠g
def HSt (K:List P4) (F:List Fr3) (w0:World) (bm bk g:Nat) (w:World) (l:List SE):Prop:=
 (∃v,Blk w g #[v,cloV bk] 180∧w.ownsRow (g+1) 183 5 v l.length (stcs l)∧(∀f ∈ F,some f.1≠v.ownBlock))∧Blk w bk #[.map (some bm)] 228∧HoldsK K bm w∧(bm<bk∧bk<g∧w0.heap.size≤bm)∧(∀x ∈ l,x.2 ∈ K)∧Below w0.heap.size w0 w∧∀f ∈ F,FrB bm g f w
theorem HSt.call {K:List P4} {F:List Fr3} {w0 w w':World} {bm bk g:Nat} {l:List SE} (h:HSt K F w0 bm bk g w l) (hh:HoldsK K bm w') (hg:w.grownBy w' (some bm)):HSt K F w0 bm bk g w' l:=by
 obtain ⟨⟨v,h1,h2,hF⟩,h3,h4,h5,h6,h7,h8⟩:=h
 refine ⟨⟨v,h1.gby1 hg (by omega),h2.kept hg ?_,hF⟩,h3.gby1 hg (by omega),hh,h5,h6,below_grownBy h7 hg h7.size h5.2.2,fun f hf=>⟨(h8 f hf).1.gby1 hg (h8 f hf).2.1,(h8 f hf).2⟩⟩
 right
 intro e
 have:=(h2.lt bm e).1
 omega
theorem HSt.below {K:List P4} {F:List Fr3} {w0 w w':World} {bm bk g:Nat} {l:List SE} (h:HSt K F w0 bm bk g w l) (hb:Below w.heap.size w w'):HSt K F w0 bm bk g w' l:=h.call (h.2.2.1.below hb) (grownBy_below (grownBy_refl _ _) hb)
theorem HSt.obj {K:List P4} {F:List Fr3} {w0 w:World} {bm bk g:Nat} {l:List SE} (h:HSt K F w0 bm bk g w l) {x y:Value} (hb:w.heap[g]? = some (.cells #[x,y] 180 (0,0))):y=cloV bk∧w.ownsRow (g+1) 183 5 x l.length (stcs l)∧∀f ∈ F,some f.1≠x.ownBlock:=by
 obtain ⟨⟨v,h1,h2,hF⟩,_⟩:=h
 have:=h1.symm.trans hb
 simp at this
 obtain ⟨rfl,e⟩:=this
 exact ⟨e.symm,h2,hF⟩
theorem own_open {w:World} {B n:Nat} {v:Value} {l:List SE} (h:w.ownsRow B 183 5 v l.length (stcs l)) (hl:0<l.length):∃b cap,v=.slice (some ⟨b,0,none⟩) l.length cap∧B≤b∧l.length≤cap:=by
 rcases h.2 with ⟨_,e⟩ | ⟨b,cap,cur,e,hb,_,hc,_⟩
 ·omega
 ·exact ⟨b,cap,e,hb,hc⟩
theorem own_len {w:World} {B:Nat} {v:Value} {l:List SE} (h:w.ownsRow B 183 5 v l.length (stcs l)):∃ao cap,v=.slice ao l.length cap:=by
 rcases h.2 with ⟨e,e2⟩ | ⟨b,cap,cur,e,_⟩
 ·exact ⟨none,0,by rw [e,e2]⟩
 ·exact ⟨_,_,e⟩
theorem own_elt {w:World} {B b cap:Nat} {l:List SE} (h:w.ownsRow B 183 5 (.slice (some ⟨b,0,none⟩) l.length cap) l.length (stcs l)) {i:Nat} (hi:i<l.length) :
  w.cell? ⟨b,i*5,none⟩=some (.string (bs (HeapM.at' seD l i).1))∧w.cell? ⟨b,i*5+1,none⟩=some (.int .i64 (HeapM.at' seD l i).2.1)∧w.cell? ⟨b,i*5+2,none⟩=some (.int .i64 (HeapM.at' seD l i).2.2.1)∧w.cell? ⟨b,i*5+3,none⟩=some (.int .i64 (HeapM.at' seD l i).2.2.2.1)∧w.cell? ⟨b,i*5+4,none⟩=some (.int .i64 (HeapM.at' seD l i).2.2.2.2):=by
 have e:HeapM.at' seD l i=l[i]:=by simp [HeapM.at',List.getD,hi]
 rw [e]
 obtain ⟨a0,a1,a2,a3,a4⟩:=stcs_at l i hi
 exact ⟨(h.cellAt _ (by omega)).trans a0,(h.cellAt _ (by omega)).trans a1,(h.cellAt _ (by omega)).trans a2,(h.cellAt _ (by omega)).trans a3,(h.cellAt _ (by omega)).trans a4⟩
theorem at_mem {K:List P4} {l:List SE} (h:∀x ∈ l,x.2 ∈ K) {i:Nat} (hi:i<l.length):(HeapM.at' seD l i).2 ∈ K:=by
 have e:HeapM.at' seD l i=l[i]:=by simp [HeapM.at',List.getD,hi]
 rw [e];exact h _ (yM _)
theorem stLen_any (K:List P4) (F:List Fr3) (w0:World) (bm bk g:Nat) (w:World) (l:List SE) (x y:Value) (h:HSt K F w0 bm bk g w l) (hb:w.heap[g]? = some (.cells #[x,y] 180 (0,0))) :
  Calls Tryz.prog 143 #[.agg #[x,y]] w fun e w'=>e=.returned (.int .i64 (l.length:Int))∧HSt K F w0 bm bk g w' l:=by
 obtain ⟨rfl,hown,_⟩:=h.obj hb
 obtain ⟨ao,cap,rfl⟩:=own_len hown
 have HH:=hide (h.below (yA (yH _ w) (.cells #[.slice ao l.length cap,cloV bk] 180)))
 clear h hb hown
 go_enter Tryz.func143,Tryz.ntmps143
 go_wp2
 go_ret
 exact ⟨rfl,uH HH⟩
def HBx (K:List P4) (F:List Fr3) (w0:World) (bm bk g k b cap:Nat) (l:List SE) (wx:World):Prop:=HSt K F w0 bm bk g wx l∧Blk wx k #[.slice (some ⟨b,0,none⟩) l.length cap,cloV bk] 180∧wx.ownsRow (g+1) 183 5 (.slice (some ⟨b,0,none⟩) l.length cap) l.length (stcs l)∧k≠bm
theorem HBx.call {K:List P4} {F:List Fr3} {w0 wx wy:World} {bm bk g k b cap:Nat} {l:List SE} (h:HBx K F w0 bm bk g k b cap l wx) (hh:HoldsK K bm wy) (hg:wx.grownBy wy (some bm)):HBx K F w0 bm bk g k b cap l wy:=by
 obtain ⟨h1,h2,h3,h4⟩:=h
 have h5:=h1.2.2.2.1
 refine ⟨h1.call hh hg,h2.gby1 hg h4,h3.kept hg (.inr (fun e=>?_)),h4⟩
 have:=(h3.lt bm e).1
 omega
theorem HBx.drew {K:List P4} {F:List Fr3} {w0 wx:World} {bm bk g k b cap:Nat} {l:List SE} (h:HBx K F w0 bm bk g k b cap l wx):HBx K F w0 bm bk g k b cap l wx.drew:=h.call (h.1.2.2.1.below (yH _ _).drew) (grownBy_below (grownBy_refl _ _) (yH _ _).drew)
theorem stLess_any (K:List P4) (F:List Fr3) (hK:K.length≤1000000000) (KW:∀p ∈ K,Wf4 p.1 p.2.1 p.2.2.1 p.2.2.2) (w0:World) (bm bk g:Nat) (w:World) (l:List SE) (x y:Value) (i j:Nat) (h:HSt K F w0 bm bk g w l) (hb:w.heap[g]? = some (.cells #[x,y] 180 (0,0))) (hi:i<l.length) (hj:j<l.length) (hl:l.length≤1000000) :
  Calls Tryz.prog 229 #[.agg #[x,y],.int .i64 (i:Int),.int .i64 (j:Int)] w fun e w'=>e=.returned (.bool (aheadS (HeapM.at' seD l i) (HeapM.at' seD l j)))∧HSt K F w0 bm bk g w' l:=by
 obtain ⟨rfl,hown,_⟩:=h.obj hb
 obtain ⟨b,cap,rfl,hbb,hcap⟩:=own_open (n:=0) hown (by omega)
 have hx:=at_mem h.2.2.2.2.1 hi
 have hy:=at_mem h.2.2.2.2.1 hj
 obtain ⟨a0,a1,a2,a3,a4⟩:=own_elt hown hi
 obtain ⟨d0,d1,d2,d3,d4⟩:=own_elt hown hj
 obtain ⟨⟨n1,p1,p2,p3,p4⟩,hs1⟩:∃s,HeapM.at' seD l i=s:=⟨_,rfl⟩
 obtain ⟨⟨n2,q1,q2,q3,q4⟩,hs2⟩:∃s,HeapM.at' seD l j=s:=⟨_,rfl⟩
 rw [hs1] at a0 a1 a2 a3 a4 hx ⊢
 rw [hs2] at d0 d1 d2 d3 d4 hy ⊢
 simp only at a0 a1 a2 a3 a4 d0 d1 d2 d3 d4
 have hb0:=yA (yH _ w) (.cells #[.slice (some ⟨b,0,none⟩) l.length cap,cloV bk] 180)
 have S1:=hide (show HBx K F w0 bm bk g w.heap.size b cap l (w.alloc (.cells #[.slice (some ⟨b,0,none⟩) l.length cap,cloV bk] 180)) from ⟨h.below hb0,yD _ _ _,hown.alloc _,by have:=h.2.2.1.lt;omega⟩)
 have C:=hide (fun wx (hc:HSt K F w0 bm bk g wx l)=>leastFn_any K hK KW (n1,p1,p2,p3,p4) (n2,q1,q2,q3,q4) hx hy bm bk wx hc.2.1 hc.2.2.1 (by have:=hc.2.2.2.1;omega))
 have R:∀wx,HBx K F w0 bm bk g w.heap.size b cap l wx→wx.cell? ⟨w.heap.size,0,none⟩=some (.slice (some ⟨b,0,none⟩) l.length cap)∧wx.cell? ⟨w.heap.size,1,none⟩=some (cloV bk)∧wx.cell? ⟨b,i*5,none⟩=some (.string (bs n1))∧wx.cell? ⟨b,i*5+1,none⟩=some (.int .i64 p1)∧wx.cell? ⟨b,i*5+2,none⟩=some (.int .i64 p2)∧wx.cell? ⟨b,i*5+3,none⟩=some (.int .i64 p3)∧wx.cell? ⟨b,i*5+4,none⟩=some (.int .i64 p4)∧wx.cell? ⟨b,j*5,none⟩=some (.string (bs n2))∧wx.cell? ⟨b,j*5+1,none⟩=some (.int .i64 q1)∧wx.cell? ⟨b,j*5+2,none⟩=some (.int .i64 q2)∧wx.cell? ⟨b,j*5+3,none⟩=some (.int .i64 q3)∧wx.cell? ⟨b,j*5+4,none⟩=some (.int .i64 q4):=fun wx k=>by
  obtain ⟨e0,e1,e2,e3,e4⟩:=own_elt k.2.2.1 hi
  obtain ⟨f0,f1,f2,f3,f4⟩:=own_elt k.2.2.1 hj
  rw [hs1] at e0 e1 e2 e3 e4
  rw [hs2] at f0 f1 f2 f3 f4
  exact ⟨by have:=k.2.1.at 0;simpa using this,by have:=k.2.1.at 1;simpa using this,e0,e1,e2,e3,e4,f0,f1,f2,f3,f4⟩
 have hij:(i:Int)<l.length:=by omega
 have hjj:(j:Int)<l.length:=by omega
 clear h hb hown hx hy a0 a1 a2 a3 a4 d0 d1 d2 d3 d4 hs1 hs2 hb0
 go_enter Tryz.func229,Tryz.ntmps229
 go_wp2_with fail
 go_region_held3 (fun wx=>HBx K F w0 bm bk g w.heap.size b cap l wx)
  (first | (with_reducible assumption) | exact (uH S1) | exact (uH S1).drew | exact HBx.drew (by assumption))
  (first
  | (go_at_call 182;refine (uH C _ ?_).mono ?_;(exact (show HBx K F w0 bm bk g w.heap.size b cap l _ by assumption).1);rintro e wt ⟨rfl,hh,hg⟩;have SA:=HBx.call (K:=K) (F:=F) (w0:=w0) (bm:=bm) (bk:=bk) (g:=g) (k:=w.heap.size) (b:=b) (cap:=cap) (l:=l) (by assumption) hh hg))
 all_goals
  have HE:=hide SA.1
  go_wp2
  go_ret
  exact ⟨rfl,uH HE⟩
theorem own_cell {w:World} {B b cap n sz j:Nat} {e:TypeId} {xs:List Value} (h:w.ownsRow B e sz (.slice (some ⟨b,0,none⟩) n cap) n xs) (hj:j<n*sz):∃u,w.cell? ⟨b,j,none⟩=some u:=by
 have:=h.cellAt j hj
 rw [this]
 exact ⟨_,List.getElem?_eq_getElem (by rw [h.1];exact hj)⟩
theorem HSt.swapped {K:List P4} {F:List Fr3} {w0 w:World} {bm bk g b cap i j:Nat} {l:List SE} (h:HSt K F w0 bm bk g w l) (hb:Blk w g #[.slice (some ⟨b,0,none⟩) l.length cap,cloV bk] 180) (hi:i<l.length) (hj:j<l.length) :
  HSt K F w0 bm bk g (stW (stW w b i (HeapM.at' seD l j)) b j (HeapM.at' seD l i)) (HeapM.swapL seD l i j):=by
 obtain ⟨_,hown,hFx⟩:=h.obj hb
 obtain ⟨b',cap',e,hbb,_⟩:=own_open (n:=0) hown (by omega)
 cases e
 obtain ⟨_,h3,h4,h5,h6,h7,h8⟩:=h
 have hFb:∀f ∈ F,f.1≠b:=fun f hf e=>hFx f hf (by rw [e];rfl)
 have hn:∀(P:World→Prop),(∀wx p v,P wx→P (wx.setCell ⟨b,p,none⟩ v))→∀wx k x,P wx→P (stW wx b k x):=fun P hp wx k x hx=>hp _ _ _ (hp _ _ _ (hp _ _ _ (hp _ _ _ (hp _ _ _ hx))))
 have o1:=own_stset hown hi (HeapM.at' seD l j)
 have hl1:(l.set i (HeapM.at' seD l j)).length=l.length:=by simp
 have o2:=own_stset (l:=l.set i (HeapM.at' seD l j)) (by rw [hl1];exact o1) (by rw [hl1];exact hj) (HeapM.at' seD l i)
 rw [hl1] at o2
 refine ⟨⟨.slice (some ⟨b,0,none⟩) l.length cap,?_,?_,hFx⟩,?_,?_,h5,?_,?_,fun f hf=>⟨?_,(h8 f hf).2⟩⟩
 ·exact hn (fun wx=>Blk wx g _ _) (fun wx p v hx=>hx.other b p v (by omega)) _ _ _ (hn (fun wx=>Blk wx g _ _) (fun wx p v hx=>hx.other b p v (by omega)) _ _ _ hb)
 ·rw [HeapM.swap_len]
  exact o2
 ·exact hn (fun wx=>Blk wx bk _ _) (fun wx p v hx=>hx.other b p v (by omega)) _ _ _ (hn (fun wx=>Blk wx bk _ _) (fun wx p v hx=>hx.other b p v (by omega)) _ _ _ h3)
 ·have hk:∀wx p v,HoldsK K bm wx→HoldsK K bm (wx.setCell ⟨b,p,none⟩ v):=fun wx p v hx=>hx.grown (grownBy_set (grownBy_refl wx (some b)) p v) (by simp;omega)
  exact hn (HoldsK K bm) hk _ _ _ (hn (HoldsK K bm) hk _ _ _ h4)
 ·intro x hx
  have:=(HeapM.swap_perm seD l i j hi hj).subset hx
  exact h6 x this
 ·exact hn (fun wx=>Below w0.heap.size w0 wx) (fun wx p v hx=>yC hx _ _ _ (by omega)) _ _ _ (hn (fun wx=>Below w0.heap.size w0 wx) (fun wx p v hx=>yC hx _ _ _ (by omega)) _ _ _ h7)
 ·exact hn (fun wx=>Blk wx f.1 _ _) (fun wx p v hx=>hx.other b p v (hFb f hf)) _ _ _ (hn (fun wx=>Blk wx f.1 _ _) (fun wx p v hx=>hx.other b p v (hFb f hf)) _ _ _ (h8 f hf).1)
theorem stSwap_any (K:List P4) (F:List Fr3) (w0:World) (bm bk g:Nat) (w:World) (l:List SE) (x y:Value) (i j:Nat) (h:HSt K F w0 bm bk g w l) (hb:w.heap[g]? = some (.cells #[x,y] 180 (0,0))) (hi:i<l.length) (hj:j<l.length) (hl:l.length≤1000000) :
  Calls Tryz.prog 232 #[.agg #[x,y],.int .i64 (i:Int),.int .i64 (j:Int)] w fun e w'=>e=.returned (.tuple #[])∧HSt K F w0 bm bk g w' (HeapM.swapL seD l i j):=by
 obtain ⟨rfl,hown,_⟩:=h.obj hb
 obtain ⟨b,cap,rfl,hbb,hcap⟩:=own_open (n:=0) hown (by omega)
 have hb0:=yA (yH _ w) (.cells #[.slice (some ⟨b,0,none⟩) l.length cap,cloV bk] 180)
 have hb1:=hb0.drew
 have B0:=yD w #[.slice (some ⟨b,0,none⟩) l.length cap,cloV bk] 180
 have hown0:=hown.alloc (.cells #[.slice (some ⟨b,0,none⟩) l.length cap,cloV bk] 180)
 have HH:=hide (((h.below hb0).swapped (Blk.below (show Blk w g _ _ from hb) hb0) hi hj).below (yH _ _).drew)
 obtain ⟨a0,a1,a2,a3,a4⟩:=own_elt hown0 hi
 obtain ⟨d0,d1,d2,d3,d4⟩:=own_elt hown0 hj
 have fz:=fun r=>hown0.frozenAt r
 obtain ⟨⟨n1,p1,p2,p3,p4⟩,hs1⟩:∃s,HeapM.at' seD l i=s:=⟨_,rfl⟩
 obtain ⟨⟨n2,q1,q2,q3,q4⟩,hs2⟩:∃s,HeapM.at' seD l j=s:=⟨_,rfl⟩
 rw [hs1] at a0 a1 a2 a3 a4 HH
 rw [hs2] at d0 d1 d2 d3 d4 HH
 simp only [stW] at a0 a1 a2 a3 a4 d0 d1 d2 d3 d4 HH
 have h1:=own_set hown0 (j:=i*5) (by omega) (.string (bs n2))
 have h2:=own_set h1 (j:=i*5+1) (by omega) (.int .i64 q1)
 have h3:=own_set h2 (j:=i*5+2) (by omega) (.int .i64 q2)
 have h4:=own_set h3 (j:=i*5+3) (by omega) (.int .i64 q3)
 have h5:=own_set h4 (j:=i*5+4) (by omega) (.int .i64 q4)
 obtain ⟨u0,m0⟩:=own_cell h1 (j:=j*5) (by omega)
 obtain ⟨u1,m1⟩:=own_cell h2 (j:=j*5+1) (by omega)
 obtain ⟨u2,m2⟩:=own_cell h3 (j:=j*5+2) (by omega)
 obtain ⟨u3,m3⟩:=own_cell h4 (j:=j*5+3) (by omega)
 obtain ⟨u4,m4⟩:=own_cell h5 (j:=j*5+4) (by omega)
 have c0:=B0.at 0
 simp at c0
 have hblt:=(hown.lt b rfl).2
 have hbn:¬b=w.heap.size:=by omega
 have hbn2:¬w.heap.size=b:=by omega
 have hij:(i:Int)<l.length:=by omega
 have hjj:(j:Int)<l.length:=by omega
 have f0:=fz (i*5);have f1:=fz (i*5+1);have f2:=fz (i*5+2);have f3:=fz (i*5+3);have f4:=fz (i*5+4)
 have g0:=fz (j*5);have g1:=fz (j*5+1);have g2:=fz (j*5+2);have g3:=fz (j*5+3);have g4:=fz (j*5+4)
 clear hblt h hb hown hown0 hs1 hs2 hb0 hb1 B0 fz h1 h2 h3 h4 h5
 go_enter Tryz.func232,Tryz.ntmps232
 go_wp2_with fail
 go_region
 all_goals
  go_wp2
  go_end0
  exact ⟨rfl,uH HH⟩
end
end Go.Proofs.YtokabeokclpljaaGreat
