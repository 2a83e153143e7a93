/-
  Texts in one: OrdI, LackI.
-/
import Derived.Test.YtngkddhcmfbjnaaGreatSackY
set_option maxRecDepth 100000
set_option maxHeartbeats 16000000
set_option linter.unusedVariables false
set_option linter.unusedSimpArgs false
namespace Go.Proofs.YtngkddhcmfbjnaaGreat
section
open Go.RowKit Go.Maps
variable {F:List Fr3} {K:List P4} {l:List SE} {B bk bm g:Nat} {v:Value} {w w0:World}
theorem SS.blk {cap:Nat} {xs:List ByteArray} (h:SS w g cap xs):∃cur,Blk w g cur 9∧xs.length≤cur.size∧cur.toList.take xs.length=xs.map Value.string:=by
 obtain ⟨cur,h1,h2,h3,h4,h5⟩:=h.block
 exact ⟨cur,h1,by omega,h5⟩
theorem bY.frame {ps:List (List UInt8)} (h:bY B w v ps):∃(vo:Option Addr) (vc:Nat) (F:List Fr3),v=.slice vo ps.length vc∧(∀f ∈ F,f.2.2=9∧B≤f.1∧Blk w f.1 f.2.1 f.2.2)∧∀wx:World,(∀f ∈ F,Blk wx f.1 f.2.1 f.2.2)→∀j (hj:j<ps.length),∃g,vo=some ⟨g,0,none⟩∧wx.cell? ⟨g,j,none⟩=some (.string (bs ps[j])):=by
 by_cases hp:ps=[]
 ·subst hp
  obtain ⟨a,c,rfl⟩:=kJ h
  exact ⟨a,c,[],rfl,fun f hf=>absurd hf (by simp),fun wx _ j hj=>absurd hj (by simp)⟩
 ·obtain ⟨g,c,rfl,hs,hB⟩:=kI h hp
  obtain ⟨cur,b1,b2,b3⟩:=hs.blk
  refine ⟨_,c,[(g,cur,9)],rfl,fun f hf=>?_,fun wx hx j hj=>⟨g,rfl,?_⟩⟩
  ·simp at hf;subst hf;exact ⟨rfl,hB,b1⟩
  ·have hx1:=hx (g,cur,9) (by simp)
   rw [Blk.at hx1 j]
   have e:=congrArg (fun z:List Value=>z[j]?) b3
   simp only [List.length_map] at e
   rw [List.getElem?_take_of_lt hj,Array.getElem?_toList] at e
   simp only at e ⊢
   rw [e]
   simp [hj]
theorem aEm (h:HSt K F w0 bm bk g w l):HSt K [] w0 bm bk g w l:=by
 obtain ⟨⟨v0,h1,o1,_⟩,h3,h4,h5,h6,h7,_⟩:=h
 exact ⟨⟨v0,h1,o1,fun k hk=>absurd hk (by simp)⟩,h3,h4,h5,h6,h7,fun k hk=>absurd hk (by simp)⟩
theorem HSt.rowNe {u:Value} (h:HSt K F w0 bm bk g w l) (hb:Blk w g #[v,u] 161) {k:Nat} {arr:Array Value} {te:TypeId} (hk:Blk w k arr te) (ht:te≠164):some k≠v.ownBlock:=fun e=>by
 obtain ⟨_,Hq,_⟩:=h.obj hb
 rcases Hq.2 with ⟨e2,_⟩ | ⟨b2,_,cur,e2,_,hc,_⟩
 ·rw [e2] at e;simp [Value.ownBlock] at e
 ·rw [e2] at e
  simp [Value.ownBlock] at e
  unfold Blk at hk
  rw [e,hc] at hk
  simp at hk
  exact ht hk.2.symm
theorem HSt.moreT (h:HSt K F w0 bm bk g w l) (f:Fr3) (h2:FrB bm g f w) (ht:f.2.2≠164):HSt K (f::F) w0 bm bk g w l:=by
 obtain ⟨v,b,_⟩:=h.1
 exact h.more b f h2 (h.rowNe b h2.1 ht)
theorem HSt.grow {w':World} {r:Option Nat} (h:HSt K [] w0 bm bk g w l) (hg:w.grownBy w' r) (hr:∀k,r=some k→g<k∧∃arr te,Blk w k arr te∧te≠164):HSt K [] w0 bm bk g w' l:=by
 have hh:=h
 obtain ⟨⟨v,h1,h2,_⟩,h3,h4,h5,h6,h7,_⟩:=h
 have ne:∀k,k≤g→some k≠r:=fun k hk e=>by have:=(hr k e.symm).1;omega
 have hv:v.ownBlock=none∨v.ownBlock≠r:=by
  rcases h2.2 with ⟨e2,_⟩ | ⟨b2,_,cur,e2,_,hc,_⟩
  ·left;rw [e2];rfl
  ·right
   intro e
   rw [e2] at e
   obtain ⟨_,arr,te,hk,ht⟩:=hr b2 e.symm
   unfold Blk at hk
   rw [hc] at hk
   simp at hk
   exact ht hk.2.symm
 exact ⟨⟨v,(hg.block g h1.lt (ne g (yJ _))).trans h1,h2.kept hg hv,fun f hf=>absurd hf (by simp)⟩,(hg.block bk h3.lt (ne bk (by omega))).trans h3,h4.grown hg (ne bm (by omega)),h5,h6,h7.grown hg h7.size (fun k e=>by have:=(hr k e).1;omega),fun f hf=>absurd hf (by simp)⟩
theorem aDc (l:List Q):(dG l).length≤20:=by
 cases h:aH l with
 | false=>rw [uK h];simp
 | true=>
  have h1:=iH l
  have:inB l.length 1 20=true:=by
   unfold aH at h
   simp only [yK] at h
   exact h.2
  simp [inB] at this
  omega
theorem aEn {K:List P4} {w0 w:World} {bm bk g:Nat} {l:List SE} (h:HSt K [] w0 bm bk g w l):∀F:List Fr3,(∀f ∈ F,FrB bm g f w∧f.2.2≠164)→HSt K F w0 bm bk g w l
 | [],_=>h
 | f::F,hf=>(aEn h F (fun k hk=>hf k (List.mem_cons_of_mem _ hk))).moreT f (hf f (List.mem_cons_self ..)).1 (hf f (List.mem_cons_self ..)).2
theorem aGb {o:List ByteArray} (h:w.ownsRow B 9 1 v o.length (iY o)):∃F:List Fr3,(∀f ∈ F,f.2.2=9∧B≤f.1∧Blk w f.1 f.2.1 f.2.2)∧(∀wx:World,(∀f ∈ F,Blk wx f.1 f.2.1 f.2.2)→wx.ownsRow B 9 1 v o.length (iY o))∧∀k,v.ownBlock=some k→∃f ∈ F,f.1=k:=by
 rcases h.2 with ⟨rfl,h0⟩ | ⟨g,cap,cur,rfl,hb,hc,k⟩
 ·exact ⟨[],fun f hf=>absurd hf (by simp),fun wx _=>⟨h.1,.inl ⟨rfl,h0⟩⟩,fun k hk=>by simp [Value.ownBlock] at hk⟩
 ·refine ⟨[(g,cur,9)],fun f hf=>?_,fun wx hx=>⟨h.1,.inr ⟨g,cap,cur,rfl,hb,hx (g,cur,9) (by simp),k⟩⟩,fun k' hk=>⟨_,List.mem_cons_self ..,by simpa [Value.ownBlock] using hk⟩⟩
  simp at hf;subst hf;exact ⟨rfl,hb,hc⟩
def aKS:Value→Nat
 | .slice _ n _=>n
 | _=>0
theorem aCM {n:Nat} {xs:List Value} (h:w.ownsRow B 9 1 v n xs):aKS v=n:=by
 rcases h.2 with ⟨rfl,e⟩ | ⟨_,_,_,rfl,_⟩
 ·exact e.symm
 ·rfl
theorem aKk (x:SE) (wx:World):(Instr.field 164 (stv x) 0).run Tryz.prog wx=.ok (.string (bs x.1)) wx:=by
 simp [Instr.field,go_sem,asAgg,stv]
def Tk (s:St) (P l:List SE):Prop:=HeapM.Heap leS seD l.length l∧(P++l).Perm ((dG s.qs).map (aAw s))∧HeapM.Sorted leS P∧∀p ∈ P,∀x ∈ l,leS p x
theorem Tk.pop {s:St} {P:List SE} (h:Tk s P l) (h0:0<l.length) :
  Tk s (P++[HeapM.at' seD (HeapM.popL seD gT l) (l.length - 1)]) ((HeapM.popL seD gT l).take (l.length - 1)):=by
 obtain ⟨h1,h2,h3,h4⟩:=h
 obtain ⟨p1,p2,p3,p4⟩:=HeapM.pop_heap aC1 aKe aKd l h0 h1
 have gz:((HeapM.popL seD gT l).take (l.length - 1)).length=l.length - 1:=by
  have:=p3.length_eq
  simp at this ⊢
  omega
 have QK:HeapM.at' seD l 0 ∈ l:=p3.subset (by simp)
 rw [p1]
 refine ⟨by rw [gz];exact p2,?_,HeapM.sorted_snoc _ _ h3 (fun y hy=>h4 y hy _ QK),?_⟩
 ·rw [List.append_assoc]
  refine (List.Perm.append_left P ?_).trans h2
  exact List.perm_append_comm.trans p3
 ·intro p hp x hx
  have hxl:x ∈ l:=p3.subset (by simp [hx])
  rcases List.mem_append.1 hp with hp | hp
  ·exact h4 p hp x hxl
  ·simp at hp;subst hp;exact p4 x hx
theorem qQ (x:Sls) (s:St) (w:World) (h:gU w x s) (hf:dI s) (hc:x.ql≤x.qc) (hw:aAF s) :
  cP 84 #[sv x s] w fun e w'=>∃v,e=.returned v∧bY w.heap.size w' v (gM s)∧Bw w w':=by
 obtain ⟨i0,hi,hz0,hz1,hz2⟩:=info_parts Tryz.infoS
 have GJ:x.ql≤1048576:=h.ql hf
 obtain ⟨K,mq⟩:∃K,(dG s.qs).map (fun n=>(aAw s n).2)=K:=⟨_,rfl⟩
 have hKl:K.length≤1048576:=by rw [←mq,List.length_map];have:=iH s.qs;have:=h.1.1;omega
 have hK:K.length≤1000000000:=by omega
 have KW:∀p ∈ K,Wf4 p.1 p.2.1 p.2.2.1 p.2.2.2:=fun p hp=>by
  rw [←mq] at hp
  obtain ⟨n,_,rfl⟩:=List.mem_map.1 hp
  exact aJ3 s n
 have PM:=aA (show ∀n ∈ dG s.qs,(aAw s n).2 ∈ K from fun n hn=>by rw [←mq];exact List.mem_map.2 ⟨n,hn,rfl⟩)
 have CV:=aA (fun wx (hb:Bw w wx)=>aA5 x.qa x.ql x.qc s.qs wx (h.1.below hb) GJ (fun q hq=>(hf.1.2 q hq).1) hc)
 have CS:=aA (fun nm wx (hb:Bw w wx)=>zT x s nm wx (h.below hb) hf hc hw)
 have CLD:=aA (fun wx=>aGw K wx)
 have HT0:=aA (aDc s.qs)
 have Rx:=aA (aD0 s)
 obtain ⟨lv,hlv⟩:∃l,dG s.qs=l:=⟨_,rfl⟩
 rw [hlv] at CV PM HT0 Rx
 have qw:=aA (show ∀P l,Tk s P l=(HeapM.Heap leS seD l.length l∧(P++l).Perm (lv.map (aAw s))∧HeapM.Sorted leS P∧∀p ∈ P,∀x ∈ l,leS p x) from fun P l=>by rw [Tk,hlv])
 have DJ:=aA (fun P l (h:Tk s P l) h0=>h.pop h0)
 have hlq:lv.length≤20:=uH HT0
 clear hlv h hf hc hw mq HT0
 obtain ⟨of,hof⟩:∃f,aAw s=f:=⟨_,rfl⟩
 obtain ⟨tk,htk⟩:∃f,Tk s=f:=⟨_,rfl⟩
 obtain ⟨oV,NL⟩:∃f,gM s=f:=⟨_,rfl⟩
 rw [hof] at CS PM
 rw [htk,hof] at qw
 rw [htk] at DJ
 rw [hof,NL] at Rx
 rw [NL]
 have ZV:=aA (show ∀n,(of n).1=n from fun n=>by rw [←hof];rfl)
 clear hof htk NL
 obtain ⟨qa,ql,qc,aa,al,ac,ma,ml,mc,ca,cl,cc⟩:=x
 obtain ⟨qs,cv,ez,nv,sj,aj,ms,cs⟩:=s
 simp only at CV CS GJ
 have HB0:=aA (yA (yH _ w) (.cells (svc ⟨qa,ql,qc,aa,al,ac,ma,ml,mc,ca,cl,cc⟩ ⟨qs,cv,ez,nv,sj,aj,ms,cs⟩) 29))
 have P0:=aA (yD w (svc ⟨qa,ql,qc,aa,al,ac,ma,ml,mc,ca,cl,cc⟩ ⟨qs,cv,ez,nv,sj,aj,ms,cs⟩) 29)
 go_enter Tryz.func84,Tryz.ntmps84
 go_wp2_with fail
 refine (uH CLD _).mono ?_
 rintro e w1 ⟨rfl,hbk,hh,hb,hz⟩
 rw [yE] at hbk hh hz
 obtain ⟨g,hg⟩:∃g,w1.heap.size=g:=⟨_,rfl⟩
 have hgs:g=w.heap.size+3:=by omega
 have GG:=yA (yH _ w1) (.cells #[.slice none 0 0,aBj (w.heap.size+1+1)] 161)
 have HB1:=aA (yB (yB (uH HB0) hb) GG)
 have P1:=aA (((uH P0).below hb).below GG)
 have G1:=aA (show Blk (w1.alloc (.cells #[.slice none 0 0,aBj (w.heap.size+1+1)] 161)) g #[.slice none 0 0,aBj (w.heap.size+1+1)] 161 from by rw [←hg];exact yD _ _ _)
 have M1:=aA (hbk.below GG)
 have H1:=aA (hh.below GG)
 clear hbk hh hb GG hz HB0 P0 CLD
 obtain ⟨q0,q1,q2,q3,q4,q5,q6,q7⟩:_∧_∧_∧_∧_∧_∧_∧_:=⟨(uH P1).at 0,(uH P1).at 1,(uH P1).at 2,(uH P1).at 3,(uH P1).at 4,(uH P1).at 5,(uH P1).at 6,(uH P1).at 7⟩
 simp at q0 q1 q2 q3 q4 q5 q6 q7
 go_wp2_with fail
 refine (uH CV _ (uH HB1)).mono ?_
 rintro e w2 ⟨v0,rfl,ht,hb⟩
 obtain ⟨vo,vc,F0,rfl,M5,Hw⟩:=ht.frame
 have GX:=aA Hw
 have HB2:=aA (yB (uH HB1) hb)
 have zz:w1.heap.size+1≤w2.heap.size:=by have:=hb.size;rw [yE] at this;exact this
 obtain ⟨F,BN⟩:∃F:List Fr3,(w.heap.size,svc ⟨qa,ql,qc,aa,al,ac,ma,ml,mc,ca,cl,cc⟩ ⟨qs,cv,ez,nv,sj,aj,ms,cs⟩,29)::F0=F:=⟨_,rfl⟩
 have HFS:=aA (show ∀f ∈ F,f.2.2≠164 from fun f hf=>by
  rw [←BN] at hf
  rcases List.mem_cons.1 hf with rfl | hf
  ·show (29:TypeId)≠164
   decide
  ·rw [(M5 f hf).1];decide)
 have UL:=aA (show (∀f ∈ F,FrB (w.heap.size+1) (w.heap.size+3) f w2) from fun f hf=>by
  rw [←BN] at hf
  rcases List.mem_cons.1 hf with rfl | hf
  ·exact ⟨(uH P1).below hb,by show w.heap.size≠w.heap.size+1;omega,by show w.heap.size≠w.heap.size+3;omega⟩
  ·have:=(M5 f hf).2.1
   rw [yE] at this
   exact ⟨(M5 f hf).2.2,by omega,by omega⟩)
 have FM:=aA (show ∀wx:World,(∀f ∈ F,Blk wx f.1 f.2.1 f.2.2)→Blk wx w.heap.size (svc ⟨qa,ql,qc,aa,al,ac,ma,ml,mc,ca,cl,cc⟩ ⟨qs,cv,ez,nv,sj,aj,ms,cs⟩) 29 from fun wx hx=>hx _ (by rw [←BN];exact List.mem_cons_self ..))
 have HRW:=aA (show ∀wx:World,(∀f ∈ F,Blk wx f.1 f.2.1 f.2.2)→∀j (hj:j<lv.length),∃g,vo=some ⟨g,0,none⟩∧wx.cell? ⟨g,j,none⟩=some (.string (bs lv[j])) from fun wx hx j hj=>uH GX wx (fun f hf=>hx f (by rw [←BN];exact List.mem_cons_of_mem _ hf)) j hj)
 have HI0:=aA (show HI K F w (w.heap.size+1) (w.heap.size+1+1) (w.heap.size+3) w2 [] from ⟨⟨⟨.slice none 0 0,by have:=(uH G1).below hb;rw [hgs] at this;exact this,World.ownsRow_nil _ _ _ _,fun f _ e=>by simp [Value.ownBlock] at e⟩,(uH M1).below hb,(uH H1).below hb,by omega,fun x hx=>absurd hx (by simp),uH HB2,uH UL⟩,by simp⟩)
 clear hb ht M5 Hw BN GX UL HB1 HB2 P1 G1 M1 H1 q0 q1 q2 q3 q4 q5 q6 q7 CV hg zz
 go_wp2
 go_loopw [5,14] (fun _ i wr=>∃(k:Nat) (l:List SE),k≤lv.length∧i=.int .i64 k∧l.length=k∧Hid (HI K F w (w.heap.size+1) (w.heap.size+1+1) (w.heap.size+3) wr l)∧Hid (HeapM.Heap leS seD l.length l)∧Hid (l.Perm ((lv.take k).map of))) (fun _ i _=>lv.length - (intOf i).toNat)
 case atStart=>exact ⟨0,[],Nat.zero_le _,rfl,rfl,HI0,aA (fun k h0 h1=>absurd h1 (by simp)),aA (by simp)⟩
 case round=>
  obtain ⟨k,l,hk,rfl,hlk,HH,PQ,YI⟩:=hrel
  by_cases hlt:k<lv.length
  ·have hbl:=fun f hf=>((uH HH).1.2.2.2.2.2.2 f hf).1
   obtain ⟨gv,rfl,hcv⟩:=uH HRW wr hbl k hlt
   have P2:=uH FM wr hbl
   obtain ⟨q0,q1,q2,q3,q4,q5,q6,q7⟩:_∧_∧_∧_∧_∧_∧_∧_:=⟨P2.at 0,P2.at 1,P2.at 2,P2.at 3,P2.at 4,P2.at 5,P2.at 6,P2.at 7⟩
   simp at q0 q1 q2 q3 q4 q5 q6 q7
   have htk:=List.take_succ_eq_append_getElem hlt
   have QK:=uH PM lv[k] (yM _)
   obtain ⟨nm,hnm⟩:∃nm,lv[k]=nm:=⟨_,rfl⟩
   rw [hnm] at hcv htk QK
   have C1:=aA (uH CS nm wr (uH HH).1.2.2.2.2.2.1)
   obtain ⟨z,hz⟩:∃z,of nm=z:=⟨_,rfl⟩
   rw [hz] at C1 QK
   have C2:=aA (fun wx (hx:HI K F w (w.heap.size+1) (w.heap.size+1+1) (w.heap.size+3) wx l)=>aKF K F hK KW w (w.heap.size+1) (w.heap.size+1+1) (w.heap.size+3) wx l z hx (uH HFS) QK (by omega))
   have jv:=aA (HeapM.push_heap (d:=seD) aC1 aKe aKd l z (uH PQ))
   have RU:=aA (show (l++[z]).Perm ((lv.take (k+1)).map of) by rw [htk,List.map_append,←hz];exact (uH YI).append_right _)
   obtain ⟨l2,hl2⟩:∃l2,HeapM.upL seD gT (l.length+1) (l++[z]) l.length=l2:=⟨_,rfl⟩
   rw [hl2] at C2 jv
   have Gx:l2.length=k+1:=by have:=(uH jv).2.length_eq;simp at this;omega
   obtain ⟨z1,z2,z3,z4,z5⟩:=z
   clear hnm htk hz QK hl2 hbl P2
   go_wp2_with fail
   refine (uH C1).mono ?_
   rintro e w4 ⟨rfl,hb⟩
   have UI:=aA (show HI K F w (w.heap.size+1) (w.heap.size+1+1) (w.heap.size+3) w4 l from ⟨(uH HH).1.below hb,(uH HH).2⟩)
   clear hb C1 q0 q1 q2 q3 q4 q5 q6 q7 hcv
   go_wp2_with fail
   refine (uH C2 _ (uH UI)).mono ?_
   rintro e w5 ⟨rfl,hh⟩
   have HH5:=aA hh
   clear hh C2 UI
   go_wp2
   go_roundw
   case rel=>exact ⟨k+1,l2,by omega,by go_num,Gx,HH5,aA (by have h9:=(uH jv).1;rw [hlk] at h9;rw [Gx];exact h9),aA ((uH jv).2.trans (uH RU))⟩
   case measure=>simp [intOf];omega
  ·have hkk:k=lv.length:=by omega
   have T0:=aA (show tk [] l by rw [uH qw];refine ⟨uH PQ,?_,trivial,fun p hp=>absurd hp (by simp)⟩;have:=uH YI;rw [hkk,List.take_length] at this;exact this)
   have HE:=aA (show HI K [] w (w.heap.size+1) (w.heap.size+1+1) (w.heap.size+3) wr l from ⟨aEm (uH HH).1,(uH HH).2⟩)
   have Jw:l.length≤20:=by omega
   clear HH PQ YI hlk
   subst hkk
   have Sj:w.heap.size≤(w.heap.size+4):=by omega
   go_wp2
   go_loopw [6] (fun v wr=>∃(l P:List SE) (o:List ByteArray),l.length+o.length≤20∧Hid (o=P.map (fun x=>bs x.1))∧Hid (tk P l)∧Hid (HI K [] w (w.heap.size+1) (w.heap.size+1+1) (w.heap.size+3) wr l)∧Hid (wr.ownsRow (w.heap.size+4) 9 1 v o.length (iY o))) (fun v _=>20 - aKS v)
   case atStart=>exact ⟨l,[],[],by simpa using Jw,aA rfl,T0,HE,aA (World.ownsRow_nil _ _ _ _)⟩
   case round=>
    obtain ⟨l,P,o,hlo,HO,HT,HH,HW⟩:=hrel
    clear HE T0 Jw
    obtain ⟨F2,hF2,Hw,Hq⟩:=aGb (uH HW)
    have HI2:=aA (show HI K F2 w (w.heap.size+1) (w.heap.size+1+1) (w.heap.size+3) wr l from ⟨aEn (uH HH).1 F2 (fun f hf=>⟨⟨(hF2 f hf).2.2,by have:=(hF2 f hf).2.1;omega,by have:=(hF2 f hf).2.1;omega⟩,by rw [(hF2 f hf).1];decide⟩),(uH HH).2⟩)
    have HRW:=aA Hw
    have HOB:=aA (show ∀k,∀u:Value,u.ownBlock=some k→True from fun _ _ _=>trivial)
    have Qq:=aA (show ∀f ∈ F2,f.2.2=9∧(w.heap.size+4)≤f.1 from fun f hf=>⟨(hF2 f hf).1,(hF2 f hf).2.1⟩)
    have PW:=aA Hq
    have hsl:=aCM (uH HW)
    have Vj:=aA hsl
    clear hF2 Hw Hq HH HW hsl HOB
    obtain ⟨vr,b1,_⟩:=(uH HI2).1.1
    have c0:=b1.at 0
    have c1:=b1.at 1
    simp at c0 c1
    have C1:=aA (aBw K F2 w (w.heap.size+1) (w.heap.size+1+1) (w.heap.size+3) wr l vr (aBj (w.heap.size+1+1)) (uH HI2).1 b1)
    have NP:l.length≤1000000:=(uH HI2).2
    clear b1
    go_wp2_with fail
    refine (uH C1).mono ?_
    rintro e w4 ⟨rfl,hh⟩
    have H4:=aA (show HI K F2 w (w.heap.size+1) (w.heap.size+1+1) (w.heap.size+3) w4 l from ⟨hh,NP⟩)
    clear hh C1 c0 c1 HI2
    by_cases h0:0<l.length
    ·have HT2:=aA (uH DJ P l (uH HT) h0)
     have Wz:w.heap.size≤w4.heap.size:=(uH H4).1.2.2.2.2.2.1.size
     have C2:=aA (aAs K F2 hK KW w (w.heap.size+1) (w.heap.size+1+1) (w.heap.size+3) w4 l (uH H4) h0 Wz)
     obtain ⟨l2,hl2⟩:∃l2,(HeapM.popL seD gT l).take (l.length - 1)=l2:=⟨_,rfl⟩
     obtain ⟨z,hz⟩:∃z,HeapM.at' seD (HeapM.popL seD gT l) (l.length - 1)=z:=⟨_,rfl⟩
     rw [hl2,hz] at C2 HT2
     have Gx:l2.length+1=l.length:=by
      have e1:=uH HT2
      have e0:=uH HT
      rw [uH qw] at e1 e0
      have p1:=e1.2.1.length_eq
      have p0:=e0.2.1.length_eq
      simp at p1 p0
      omega
     obtain ⟨z1,z2,z3,z4,z5⟩:=z
     clear hl2 hz HT
     have h0z:(0:Int)<(l.length:Int):=by omega
     have hfs:=aKk (z1,z2,z3,z4,z5)
     go_wp2_with fail
     refine (uH C2).mono ?_
     rintro e w5 ⟨rfl,hh⟩
     have Y4:=uH HRW w5 (fun f hf=>(hh.1.2.2.2.2.2.2 f hf).1)
     have H5:=aA hh
     have Fz:w.heap.size+3<w5.heap.size:=let ⟨_,b,_⟩:=hh.1.1;b.lt
     clear hh C2 H4 Wz
     go_wp2_with (at_builtin;refine wpList_append_own _ rfl _ _ 41 rfl (w.heap.size+4) 9 i0 (.string ByteArray.empty) 1 16 Tryz.underlying41 hi hz0 hz1 hz2 rfl (by decide) _ _ _ rfl (Y4.alloc _) ⟨w5.heap.size,0,none⟩ 1 1 [.string (bs z1)] rfl rfl ?c1 ?c2 ?c3 ?c4 ?c5 ?_)
     case c1=>intro j v hj;match j,hj with | 0,hj=>simp at hj;subst hj;simp [Addr.add]
     case c2=>intro v hv;simp at hv;subst hv;rfl
     case c3=>unfold maxLen;omega
     case c4=>omega
     case c5=>simp;omega
     intro v' w7 Hy Hz _
     have hgz:=Hz.size
     rw [yE] at hgz
     have R7:=aA (show w7.ownsRow (w.heap.size+4) 9 1 v' (o++[bs z1]).length (iY (o++[bs z1])) by simpa [iY] using Hy)
     have H7:=aA (show HI K [] w (w.heap.size+1) (w.heap.size+1+1) (w.heap.size+3) w7 l2 from ⟨((aEm (uH H5).1).below (yA (yH _ _) _)).grow Hz (fun k hk=>by
      obtain ⟨f,hf,rfl⟩:=uH PW k hk
      exact ⟨by have:=(uH Qq f hf).2;omega,_,_,((uH H5).1.2.2.2.2.2.2 f hf).1.al _,by rw [(uH Qq f hf).1];decide⟩),(uH H5).2⟩)
     have RN:=aA (aCM (uH R7))
     clear Hy Hz Y4 H5
     go_wp2
     go_roundw
     case rel=>exact ⟨l2,P++[(z1,z2,z3,z4,z5)],o++[bs z1],by simp;omega,aA (by rw [uH HO,List.map_append];rfl),HT2,H7,R7⟩
     case measure=>
      have e1:=uH Vj
      have e2:=uH RN
      simp at e2
      simp
      omega
    ·have hl0:l.length=0:=by omega
     obtain rfl:l=[]:=List.eq_nil_of_length_eq_zero hl0
     have JY:=aA (uH HRW w4 (fun f hf=>((uH H4).1.2.2.2.2.2.2 f hf).1))
     have G8:=aA (uH H4).1.2.2.2.2.2.1
     have zk:=aA (show P.map Prod.fst=oV by
      have e0:=uH HT
      rw [uH qw,List.append_nil] at e0
      exact uH Rx P e0.2.2.1 e0.2.1)
     go_wp2
     go_ret
     refine ⟨_,rfl,?_,uH G8⟩
     refine (bY.of (uH JY) ?_).base Sj
     rw [uH HO,←uH zk,List.map_map]
     rfl
def LFI (w w1:World) (nm:List UInt8) (ux uy tx ty dx dy nx ny:Int) (qa:Option Addr) (ql qc:Nat) (aa:Option Addr) (al ac:Nat) (ma:Option Addr) (ml mc:Nat) (ca:Option Addr) (cl cc:Nat) (qs:List Q) (cv ez nv sj:Int) (aj:List bN) (ms:List Mac) (cs:List Con) (c:Nat) (fs:List Bool) (us:List Nat):Act:={ tmps:=#[sv ⟨qa,ql,qc,aa,al,ac,ma,ml,mc,ca,cl,cc⟩ ⟨qs,cv,ez,nv,sj,aj,ms,cs⟩,.string (bs nm),.pointer (some ⟨w.heap.size,0,none⟩),undef,.pointer (some ⟨w.heap.size+1,0,none⟩),zZ (fs.getD 0 false) (us.getD 0 0),zZ (fs.getD 1 false) (us.getD 1 0),zZ (fs.getD 2 false) (us.getD 2 0),.pointer (some ⟨w.heap.size,0,none⟩),.slice qa ql qc,.string (bs nm),.bool true,.bool false,undef,.agg #[.slice qa ql qc,.int .i64 cv,.int .i64 ez,.int .i64 nv,.int .i64 sj,.slice aa al ac,.slice ma ml mc,.slice ca cl cc],.string (bs nm),vM (Nat.ble 1 c) (rv ux uy),.pointer (some ⟨w.heap.size,0,none⟩),.slice qa ql qc,.string (bs nm),.agg #[.slice qa ql qc,.int .i64 cv,.int .i64 ez,.int .i64 nv,.int .i64 sj,.slice aa al ac,.slice ma ml mc,.slice ca cl cc],vM (Nat.ble 2 c) (rv tx ty),vM (Nat.ble 3 c) (rv dx dy),.agg #[.slice qa ql qc,.int .i64 cv,.int .i64 ez,.int .i64 nv,.int .i64 sj,.slice aa al ac,.slice ma ml mc,.slice ca cl cc],.string (bs nm),vM (Nat.ble 4 c) (rv nx ny),undef,undef,undef,undef,undef,undef,undef,undef,undef,undef,undef,undef,undef,undef,undef],defers:=[] }
def LMI:Mul:=⟨18,[2,7,8,11],[12,13,14],[15,16,17],[true,true,false,true,true,true,true,false,false,true,true,false,false,false,false,false,false,false]⟩
theorem uQ (x:Sls) (s:St) (nm:List UInt8) (w:World) (h:gU w x s) (hf:dI s) (hc:x.ql≤x.qc) (hw:aAF s) :
  cP 12 #[sv x s,.string (bs nm)] w fun e w'=>e=.returned (rv (sG s nm).1 (sG s nm).2)∧Bw w w':=by
 have GJ:x.ql≤1048576:=h.ql hf
 have GN:x.ml≤1048576:=h.ml hf
 have CL:=aA (fun wx (hb:Bw w wx)=>uP x.qa x.ql x.qc s.qs nm wx (h.1.below hb) GJ (fun q hq=>(hf.1.2 q hq).1) hc)
 have CT:=aA (fun wx (hb:Bw w wx)=>kE x s wx (h.2.2.1.below hb) GN)
 have CD:=aA (fun wx (hb:Bw w wx)=>show cP 40 #[.slice x.qa x.ql x.qc,.string (bs nm),rv (bC s).1 (bC s).2] wx (fun e w'=>e=.returned (rv (iO s nm).1 (iO s nm).2)∧Bw wx w') from kF x.qa x.ql x.qc s.qs nm (bC s).1 (bC s).2 wx (h.1.below hb) GJ (fun q hq=>(hf.1.2 q hq).1) hc)
 have CU:=aA (fun wx (hb:Bw w wx)=>jN x s nm wx (h.below hb) hf hc hw)
 have CW:=aA (fun wx (hb:Bw w wx)=>aFC x s nm wx (h.below hb) hf)
 have HU:=aA (wK s nm)
 have HD:=aA (aCj s nm)
 have HW:=aA (aGK s nm)
 obtain ⟨lf,hlf⟩:∃b,oI s.qs nm=b:=⟨_,rfl⟩
 obtain ⟨⟨tx,ty⟩,ht⟩:∃t,bC s=t:=⟨_,rfl⟩
 obtain ⟨⟨dx,dy⟩,hd⟩:∃t,iO s nm=t:=⟨_,rfl⟩
 obtain ⟨⟨ux,uy⟩,hu⟩:∃t,aL s nm=t:=⟨_,rfl⟩
 obtain ⟨⟨nx,ny⟩,hn⟩:∃t,vK s nm=t:=⟨_,rfl⟩
 have HO:sG s nm=if lf=true then (nI dx ux nx,nI dy uy ny) else (0,0):=by simp only [sG,hlf,hu,hd,hn]
 rw [show (iL (aT s.ms)).1=tx from congrArg Prod.fst ht,show (iL (aT s.ms)).2.1=ty from congrArg Prod.snd ht] at CT
 rw [hlf] at CL
 rw [ht,hd] at CD
 rw [hu] at CU HU
 rw [hd] at HD
 rw [hn] at CW HW
 obtain ⟨⟨zx,zy⟩,hz⟩:∃z,(if lf=true then (nI dx ux nx,nI dy uy ny) else (0,0))=z:=⟨_,rfl⟩
 rw [HO,hz]
 have HZ:=aA hz
 clear hz
 simp only at CD CU CW HU HD HW
 obtain ⟨u0,u1,u2,u3⟩:=aO (uH HU)
 obtain ⟨d0,d1,d2,d3⟩:=aO (uH HD)
 obtain ⟨n0,n1,n2,n3⟩:=aO (uH HW)
 clear h hf hc hw hlf ht hd hu hn HO HU HD HW
 obtain ⟨qa,ql,qc,aa,al,ac,ma,ml,mc,ca,cl,cc⟩:=x
 obtain ⟨qs,cv,ez,nv,sj,aj,ms,cs⟩:=s
 simp only at CL CT CD CU CW GJ GN
 have HB0:=aA (bZ w (svc ⟨qa,ql,qc,aa,al,ac,ma,ml,mc,ca,cl,cc⟩ ⟨qs,cv,ez,nv,sj,aj,ms,cs⟩))
 have V0:=aA (gY w (svc ⟨qa,ql,qc,aa,al,ac,ma,ml,mc,ca,cl,cc⟩ ⟨qs,cv,ez,nv,sj,aj,ms,cs⟩))
 have P0:=aA ((eB w (svc ⟨qa,ql,qc,aa,al,ac,ma,ml,mc,ca,cl,cc⟩ ⟨qs,cv,ez,nv,sj,aj,ms,cs⟩)).al (.cells #[.int .i64 0,.int .i64 0] 37))
 go_enter Tryz.func12,Tryz.ntmps12
 go_wp2_with fail
 refine (uH CL _ (uH HB0)).mono ?_
 rintro e w1 ⟨rfl,hb⟩
 have HB1:=aA (yB (uH HB0) hb)
 have V1:=aA ((uH V0).below hb)
 have P1:=aA ((uH P0).below hb)
 clear hb HB0 V0 P0 CL
 cases lf
 case false=>
  have hz:=uH HZ
  simp at hz
  obtain ⟨rfl,rfl⟩:=hz
  have k0:=(uH V1).c0
  have k1:=(uH V1).c1
  have k2:=(uH V1).f 0
  have k3:=(uH V1).f 1
  have k4:=(uH V1).s0 (.int .i64 0)
  have k5:=(uH V1).s1 (.int .i64 0) (.int .i64 0)
  go_wp2
  refine bodyPost_ret (v:=rv 0 0) (by simp [results,Tryz.results12,go_sem,k4,k5]) rfl ⟨rfl,?_⟩
  repeat (first | exact uH HB1 | refine yA ?_ _ | refine Below.drew ?_ | refine yC ?_ _ _ _ (by omega))
 have hz:=uH HZ
 rw [if_pos rfl] at hz
 simp only [Prod.mk.injEq] at hz
 have Ww:=aA hz.1
 have Wv:=aA hz.2
 clear hz HZ
 obtain ⟨q0,q1,q2,q3,q4,q5,q6,q7⟩:_∧_∧_∧_∧_∧_∧_∧_:=⟨(uH P1).at 0,(uH P1).at 1,(uH P1).at 2,(uH P1).at 3,(uH P1).at 4,(uH P1).at 5,(uH P1).at 6,(uH P1).at 7⟩
 simp at q0 q1 q2 q3 q4 q5 q6 q7
 have R:∀wx,Kp w1 wx→wx.cell? ⟨w.heap.size,0,none⟩=some (.slice qa ql qc)∧wx.cell? ⟨w.heap.size,1,none⟩=some (.int .i64 cv)∧wx.cell? ⟨w.heap.size,2,none⟩=some (.int .i64 ez)∧wx.cell? ⟨w.heap.size,3,none⟩=some (.int .i64 nv)∧wx.cell? ⟨w.heap.size,4,none⟩=some (.int .i64 sj)∧wx.cell? ⟨w.heap.size,5,none⟩=some (.slice aa al ac)∧wx.cell? ⟨w.heap.size,6,none⟩=some (.slice ma ml mc)∧wx.cell? ⟨w.heap.size,7,none⟩=some (.slice ca cl cc):=fun wx h=>
  ⟨h.cell q0,h.cell q1,h.cell q2,h.cell q3,h.cell q4,h.cell q5,h.cell q6,h.cell q7⟩
 have A0:=aA (Kp.new w1)
 have HS:=aA (aK w1)
 clear P1 q0 q1 q2 q3 q4 q5 q6 q7
 go_wp2_with fail
 go_cut [5,6,7] from 14 to 25 (fun v5 v6 v7 wx=>∃g5 g6 g7,v5=.pointer (some ⟨g5,0,none⟩)∧v6=.pointer (some ⟨g6,0,none⟩)∧v7=.pointer (some ⟨g7,0,none⟩)∧Var wx 37 g5 ux uy∧Var wx 37 g6 dx dy∧Var wx 37 g7 nx ny∧w1.heap.size≤g5∧w1.heap.size≤g6∧w1.heap.size≤g7∧Kp w1 wx)
 case first=>
  refine wp_region_held_drew (S:=fun wx=>Kp w1 wx) (by kernel_rfl) ((uH HS).drew (uH A0)) (fun S0=>?_)
  refine tW 0 14 _ S0 ?_
  simp only [zW]
  refine tW 1 15 _ S0 ?_
  simp only [zW]
  refine tW 3 17 _ S0 ?_
  simp only [zW]
  refine tW 4 18 _ S0 ?_
  simp only [zW]
  refine tW 5 19 _ S0 ?_
  simp only [zW]
  refine tW 6 20 _ S0 ?_
  simp only [zW]
  refine tW 9 23 _ S0 ?_
  simp only [zW]
  refine tW 10 24 _ S0 ?_
  simp only [zW]
  refine mR (n':=4+3+3) (l':=LMI.lst 0 [false,false,false] 0) (a':=LFI w w1 nm ux uy tx ty dx dy nx ny qa ql qc aa al ac ma ml mc ca cl cc qs cv ez nv sj aj ms cs 0 [false,false,false] [0,0,0]) rfl (by kernel_rfl) rfl ?_
  refine jO (w1:=w1) LMI (LFI w w1 nm ux uy tx ty dx dy nx ny qa ql qc aa al ac ma ml mc ca cl cc qs cv ez nv sj aj ms cs) [(ux,uy),(dx,dy),(nx,ny)] rfl (by as_aux_lemma=>kernel_rfl) ?call ?al ?st ?fin _ S0
  case call=>
   intro c f us wz K hc hf hu kp hK
   obtain ⟨f0,f1,f2,rfl⟩:=vN hf
   obtain ⟨g5,g6,g7,rfl⟩:=vN hu
   have hc4:c<4:=hc
   rcases (show c=0∨c=1∨c=2∨c=3 by omega) with rfl | rfl | rfl | rfl
   show Mul.step _ _ _ 2 _ _ _
   have CC:=CU
   rotate_left
   show Mul.step _ _ _ 7 _ _ _
   have CC:=CT
   rotate_left
   show Mul.step _ _ _ 8 _ _ _
   have CC:=CD
   rotate_left
   show Mul.step _ _ _ 11 _ _ _
   have CC:=CW
   rotate_left
   all_goals
    refine ⟨_,rfl,?_⟩
    simp only [LFI,List.getD_cons_zero,List.getD_cons_succ]
    go_simp
    refine (uH CC _ (yB (uH HB1) kp)).mono ?_
    rintro e w2 ⟨rfl,hb⟩
    go_wp2_with fail
    first | exact hb | exact hK _ hb
  case al=>
   intro j c f us wz K hc hf hu hj hK
   obtain ⟨f0,f1,f2,rfl⟩:=vN hf
   obtain ⟨g5,g6,g7,rfl⟩:=vN hu
   have NS:j<3:=by rcases Nat.lt_or_ge j 3 with h | h;exact h;(obtain ⟨q,rfl⟩:=Nat.exists_eq_add_of_le h;simp [Nat.add_comm] at hj)
   rcases (show j=0∨j=1∨j=2 by omega) with rfl | rfl | rfl
   show Mul.step _ _ _ 12 _ _ _
   rotate_left
   show Mul.step _ _ _ 13 _ _ _
   rotate_left
   show Mul.step _ _ _ 14 _ _ _
   rotate_left
   all_goals
    refine ⟨_,rfl,?_⟩
    simp only [LFI,List.getD_cons_zero,List.getD_cons_succ]
    go_simp
    go_wp2_with fail
    exact hK
  case st=>
   intro s us wz K hs hu hv hK
   obtain ⟨g5,g6,g7,rfl⟩:=vN hu
   have hs4:s<3:=hs
   rcases (show s=0∨s=1∨s=2 by omega) with rfl | rfl | rfl
   replace hv:Var wz 37 g5 0 0:=hv
   show Mul.step _ _ _ 15 _ _ _
   rotate_left
   replace hv:Var wz 37 g6 0 0:=hv
   show Mul.step _ _ _ 16 _ _ _
   rotate_left
   replace hv:Var wz 37 g7 0 0:=hv
   show Mul.step _ _ _ 17 _ _ _
   rotate_left
   all_goals
    have y0:=hv.c0
    have y1:=hv.c1
    have y2:=hv.f 0
    have y3:=hv.f 1
    show Mul.step _ _ _ _ { tmps:=#[sv ⟨qa,ql,qc,aa,al,ac,ma,ml,mc,ca,cl,cc⟩ ⟨qs,cv,ez,nv,sj,aj,ms,cs⟩,.string (bs nm),.pointer (some ⟨w.heap.size,0,none⟩),undef,.pointer (some ⟨w.heap.size+1,0,none⟩),.pointer (some ⟨g5,0,none⟩),.pointer (some ⟨g6,0,none⟩),.pointer (some ⟨g7,0,none⟩),.pointer (some ⟨w.heap.size,0,none⟩),.slice qa ql qc,.string (bs nm),.bool true,.bool false,undef,.agg #[.slice qa ql qc,.int .i64 cv,.int .i64 ez,.int .i64 nv,.int .i64 sj,.slice aa al ac,.slice ma ml mc,.slice ca cl cc],.string (bs nm),rv ux uy,.pointer (some ⟨w.heap.size,0,none⟩),.slice qa ql qc,.string (bs nm),.agg #[.slice qa ql qc,.int .i64 cv,.int .i64 ez,.int .i64 nv,.int .i64 sj,.slice aa al ac,.slice ma ml mc,.slice ca cl cc],rv tx ty,rv dx dy,.agg #[.slice qa ql qc,.int .i64 cv,.int .i64 ez,.int .i64 nv,.int .i64 sj,.slice aa al ac,.slice ma ml mc,.slice ca cl cc],.string (bs nm),rv nx ny,undef,undef,undef,undef,undef,undef,undef,undef,undef,undef,undef,undef,undef,undef,undef],defers:=[] } _ _
    refine ⟨_,rfl,?_⟩
    simp only [LFI,List.getD_cons_zero,List.getD_cons_succ]
    go_simp
    go_wp2_with fail
    exact hK
  case fin=>
   intro us wz hu hV kp
   obtain ⟨g5,g6,g7,rfl⟩:=vN hu
   have v5:VB w1 wz g5 ux uy:=hV 0 (by decide)
   have v6:VB w1 wz g6 dx dy:=hV 1 (by decide)
   have v7:VB w1 wz g7 nx ny:=hV 2 (by decide)
   go_wp2_with fail
   go_meet
   exact ⟨g5,g6,g7,rfl,rfl,rfl,v5.2,v6.2,v7.2,v5.1,v6.1,v7.1,kp⟩
 case rest=>
  obtain ⟨g5,g6,g7,rfl,rfl,rfl,hv5,hv6,hv7,hg5,Wj,YY,hA⟩:=hcut
  obtain ⟨w4,rfl⟩:∃w4,w4=wc:=⟨wc,rfl⟩
  have V4:=aA (show Var w4 37 (w.heap.size+1) 0 0 from (uH V1).below hA)
  have hv1:=(uH V1).lt
  have n5:g5≠w.heap.size+1:=by omega
  have n6:g6≠w.heap.size+1:=by omega
  have n7:g7≠w.heap.size+1:=by omega
  have S4:LS w g5 g6 g7 ux uy dx dy nx ny w4.drew:=⟨hv5,hv6,hv7,(yB (uH HB1) hA).drew⟩
  have RL:∀wx,LS w g5 g6 g7 ux uy dx dy nx ny wx→wx.cell? ⟨g5,0,none⟩=some (.int .i64 ux)∧wx.cell? ⟨g5,1,none⟩=some (.int .i64 uy)∧wx.cell? ⟨g6,0,none⟩=some (.int .i64 dx)∧wx.cell? ⟨g6,1,none⟩=some (.int .i64 dy)∧wx.cell? ⟨g7,0,none⟩=some (.int .i64 nx)∧wx.cell? ⟨g7,1,none⟩=some (.int .i64 ny):=fun wx h=>⟨h.1.c0,h.1.c1,h.2.1.c0,h.2.1.c1,h.2.2.1.c0,h.2.2.1.c1⟩
  have L1:=aA (fun wx=>by have:=aA6 dx ux nx wx ⟨d0,d1⟩ ⟨u0,u1⟩;rw [uH Ww] at this;exact this)
  have L2:=aA (fun wx=>by have:=aA6 dy uy ny wx ⟨d2,d3⟩ ⟨u2,u3⟩;rw [uH Wv] at this;exact this)
  clear R A0 HS hv5 hv6 hv7 hA
  go_wp2_with fail
  refine wp_region_held_drew (S:=fun wx=>LS w g5 g6 g7 ux uy dx dy nx ny wx) (by kernel_rfl) S4 (fun S0=>?_)
  refine tW 0 26 _ S0 ?_
  simp only [zW]
  refine tW 1 27 _ S0 ?_
  simp only [zW]
  refine tW 2 28 _ S0 ?_
  simp only [zW]
  refine tW 3 29 _ S0 ?_
  simp only [zW]
  refine tW 4 30 _ S0 ?_
  simp only [zW]
  refine tW 5 31 _ S0 ?_
  simp only [zW]
  refine tW 7 33 _ S0 ?_
  simp only [zW]
  refine tW 8 34 _ S0 ?_
  simp only [zW]
  refine tW 9 35 _ S0 ?_
  simp only [zW]
  refine tW 10 36 _ S0 ?_
  simp only [zW]
  refine tW 11 37 _ S0 ?_
  simp only [zW]
  refine tW 12 38 _ S0 ?_
  simp only [zW]
  refine yRq 6 rfl (fun K hK=>?_)
  go_simp
  refine (uH L1 _).mono ?_
  rintro e wt ⟨rfl,rfl⟩
  have S1:=S0
  go_wp2_with fail
  refine hK.out _ _ S1 (fun S0=>?_)
  clear hK K S1
  try simp only [zW]
  refine yRq 13 rfl (fun K hK=>?_)
  go_simp
  refine (uH L2 _).mono ?_
  rintro e wt ⟨rfl,rfl⟩
  have S1:=S0
  go_wp2_with fail
  refine hK.out _ _ S1 (fun S0=>?_)
  clear hK K S1
  try simp only [zW]
  refine tW 14 40 _ S0 ?_
  simp only [zW]
  have c0:=(uH V4).c0
  have c1:=(uH V4).c1
  have c2:=(uH V4).f 0
  have c3:=(uH V4).f 1
  have k4:=(uH V4).s0 (.int .i64 zx)
  have k5:=(uH V4).s1 (.int .i64 zx) (.int .i64 zy)
  have S5:LS w g5 g6 g7 ux uy dx dy nx ny ((w4.setCell ⟨w.heap.size+1,0,none⟩ (.int .i64 zx)).setCell ⟨w.heap.size+1,1,none⟩ (.int .i64 zy)).drew:=⟨(S0.1.other _ _ _ n5).other _ _ _ n5,(S0.2.1.other _ _ _ n6).other _ _ _ n6,(S0.2.2.1.other _ _ _ n7).other _ _ _ n7,yC (yC S0.2.2.2 _ _ _ (by omega)) _ _ _ (by omega)⟩
  have GM:=aA S5.2.2.2
  refine yRq 15 rfl (fun K hK=>?_)
  go_simp
  go_wp2_with fail
  refine hK.out _ _ S5 (fun S0=>?_)
  clear hK K
  refine wpAnyH_done (by kernel_rfl) ?_ _
  go_wp2
  refine bodyPost_ret (v:=rv zx zy) (by simp [results,Tryz.results12,go_sem,k4,k5]) rfl ⟨rfl,uH GM⟩
end
end Go.Proofs.YtngkddhcmfbjnaaGreat
