/-
  Texts in one: Clone, LeavesI, TxtB, OrdI, PathI, OfQM, WithinI.
-/
import Derived.Test.YtdhibeclkdepiaaGreatShelf
import Derived.Test.YtdhibeclkdepiaaGreatPackL
set_option maxRecDepth 100000
set_option maxHeartbeats 16000000
set_option linter.unusedVariables false
set_option linter.unusedSimpArgs false
namespace Go.Proofs.YtdhibeclkdepiaaGreat
section
open Go.RowKit
theorem clone_any (s:ByteArray) (w:World) (hs:s.size≤281474976710656) :
  Calls Tryz.prog 67 #[.string s] w fun e w'=>e=.returned (.string s)∧Below w.heap.size w w':=by
 go_enter Tryz.func67,Tryz.ntmps67
 go_wp2_with fail
 refine (Tryz.stringslite_Clone s _ hs).mono ?_
 rintro e w1 ⟨rfl,hb⟩
 have HB:Hid (Below w.heap.size w w1):=hb
 clear hb
 go_wp2
 go_ret
 exact ⟨rfl,HB⟩
theorem texts_nil (B:Nat) (w:World):Texts B w (.slice none 0 0) []:=World.ownsRow_nil _ _ _ _
theorem Texts.open {B:Nat} {w:World} {v:Value} {ps:List (List UInt8)} (h:Texts B w v ps):∃ao cap,v=.slice ao ps.length cap∧∀j (hj:j<ps.length),∃g,ao=some ⟨g,0,none⟩∧w.cell? ⟨g,j,none⟩=some (.string (bs ps[j])):=by
 by_cases hp:ps=[]
 ·subst hp
  obtain ⟨a,c,rfl⟩:=texts_none h
  exact ⟨a,c,rfl,fun j hj=>by simp at hj⟩
 ·obtain ⟨g,c,rfl,hs,_⟩:=texts_some h hp
  exact ⟨_,c,rfl,fun j hj=>⟨g,rfl,hs.text hj⟩⟩
theorem leaves_any (ao:Option Addr) (len cap:Nat) (l:List Q) (w:World) (h:QRow w ao len l) (hl:len≤1048576) (hn:∀q ∈ l,q.name.length≤1048576) (hc:len≤cap) :
  Calls Tryz.prog 168 #[.slice ao len cap] w fun e w'=>∃v,e=.returned v∧Texts w.heap.size w' v (leavesOf l)∧Below w.heap.size w w':=by
 obtain ⟨i0,hi,hz0,hz1,hz2⟩:=info_parts Tryz.infoS
 have HR:=hide h
 have HL:=hide h.1
 have HN:=hide hn
 have CQ:=hide (implQueuesOk_any ao len cap l w h hl hn hc)
 have CL:=hide (fun x wx (hb:Below w.heap.size w wx)=>lone_any ao len cap l x wx (h.below hb) hl)
 have HLF:=hide (fun x=>leaf_lone l x)
 obtain ⟨ok,hok⟩:∃ok,queuesOk l=ok:=⟨_,rfl⟩
 rw [hok] at CQ HLF
 have HOK:=hide hok
 clear h hn hok
 go_enter Tryz.func168,Tryz.ntmps168
 go_wp2_with fail
 refine (uH CQ).mono ?_
 rintro e w1 ⟨rfl,hb⟩
 have HB1:=hide hb
 clear hb CQ
 cases ok
 case false=>
  go_wp2
  go_ret
  exact ⟨_,rfl,by rw [leavesOf_bad (uH HOK)];exact texts_nil _ _,uH HB1⟩
 go_wp2
 go_loopw [3,5,11] (fun v _ i wr=>∃(k:Nat) (o:List ByteArray),k≤len∧i=.int .i64 k∧o.length≤k∧Hid (o=(((l.take k).map Q.name).filter (leaf l)).map bs)∧Hid (wr.ownsRow w.heap.size 9 1 v o.length (scells o))∧Hid (Below w.heap.size w wr)) (fun _ _ i _=>len - (intOf i).toNat)
 case atStart=>exact ⟨0,[],Nat.zero_le _,rfl,Nat.le_refl _,hide (by simp),hide (World.ownsRow_nil _ _ _ _),HB1⟩
 case round=>
  obtain ⟨k,o,hk,rfl,hol,HO,HS,HB⟩:=hrel
  by_cases hlt:k<len
  ·have HR2:=hide ((uH HR).below (uH HB))
   obtain ⟨b,off,rfl,hq⟩:=(uH HR2).at hlt
   have hkl:k<l.length:=by have:=uH HL;omega
   obtain ⟨c0,c1,c2,c3⟩:=hq hkl
   have hz:=uH HN l[k] (List.getElem_mem _)
   have htk:=List.take_succ_eq_append_getElem hkl
   clear hq
   obtain ⟨⟨nm,pa,du,mo⟩,hs⟩:∃s,l[k]=s:=⟨_,rfl⟩
   rw [hs] at c0 c1 c2 c3 hz htk
   simp only at c0 c1 c2 c3 hz
   have HTK:=hide htk
   have HA:=hide (QBox.new wr ⟨nm,pa,du,mo⟩)
   have HB2:=hide (yA (uH HB) (qobj ⟨nm,pa,du,mo⟩))
   have HS2:=hide ((uH HS).alloc (qobj ⟨nm,pa,du,mo⟩))
   obtain ⟨f,hf⟩:∃f,lone l nm=f:=⟨_,rfl⟩
   have CL1:=hide (fun wx hb=>by have:=uH CL nm wx hb;rw [hf] at this;exact this)
   have HLF1:=hide (show leaf l nm=f by rw [uH HLF,hf];rfl)
   have hsz:(bs nm).size≤281474976710656:=by rw [bs_size];omega
   have k0:=(uH HA).c0
   simp only at k0
   clear hs hkl hf htk hz HR2
   go_wp2_with fail
   refine (uH CL1 _ (uH HB2)).mono ?_
   rintro e w2 ⟨rfl,hb⟩
   have HA3:=hide ((uH HA).below hb)
   have HB3:=hide (yB (uH HB2) hb)
   have HS3:=hide (sown_below (uH HS2) hb)
   clear hb HA HB2 HS2 k0 HB HS
   cases f with
   | false=>
    go_wp2
    go_roundw
    case rel=>exact ⟨k+1,o,by omega,by go_num,by omega,hide (by rw [uH HTK,List.map_append,List.filter_append];simp only [List.map_cons,List.map_nil,List.filter_cons,uH HLF1,List.filter_nil];rw [if_neg (by simp),List.append_nil];exact uH HO),HS3,HB3⟩
    case measure=>simp [intOf];omega
   | true=>
    have k0:=(uH HA3).c0
    simp only at k0
    go_wp2_with fail
    refine (clone_any (bs nm) _ hsz).mono ?_
    rintro e w3 ⟨rfl,hb⟩
    have hown:=sown_below (uH HS3) hb
    have hbel:=yB (uH HB3) hb
    have hwz:=hbel.size
    clear hb HA3 HB3 HS3 k0
    go_wp2_with (at_builtin;refine wpList_append_own _ rfl _ _ 175 rfl w.heap.size 9 i0 (.string ByteArray.empty) 1 16 Tryz.underlying175 hi hz0 hz1 hz2 rfl (by decide) _ _ _ rfl (hown.alloc _) ⟨w3.heap.size,0,none⟩ 1 1 [.string (bs nm)] rfl rfl ?c1 ?c2 ?c3 ?c4 ?c5 ?_)
    case c1=>intro j v hj;match j,hj with | 0,hj=>simp at hj;subst hj;simp [Addr.add]
    case c2=>intro v hv;simp at hv;subst hv;rfl
    case c3=>unfold maxLen;omega
    case c4=>omega
    case c5=>simp;omega
    intro v' w4 hown' hgrow _
    have R:=hide (srow_step hbel hown hown' hgrow (by omega))
    clear hown' hgrow hown hbel
    go_wp2
    go_roundw
    case rel=>exact ⟨k+1,o++[bs nm],by omega,by go_num,by simp;omega,hide (by rw [uH HTK,List.map_append,List.filter_append];simp only [List.map_cons,List.map_nil,List.filter_cons,uH HLF1,List.filter_nil];rw [if_pos (by first | rfl | trivial),List.map_append,←uH HO];rfl),hide (uH R).1,hide (uH R).2⟩
    case measure=>simp [intOf];omega
  ·have hkk:k=len:=by omega
   subst hkk
   go_wp2
   go_ret
   refine ⟨_,rfl,Texts.of (uH HS) ?_,uH HB⟩
   rw [uH HO,List.take_of_length_le (by have:=uH HL;omega)]
   rfl
theorem Texts.base {w:World} {B B':Nat} {v:Value} {ps:List (List UInt8)} (h:Texts B w v ps) (hb:B'≤B):Texts B' w v ps:=by
 obtain ⟨h1,h2⟩:=h
 refine ⟨h1,?_⟩
 rcases h2 with h2 | ⟨g,cap,cur,a,b,c⟩
 ·exact .inl h2
 ·exact .inr ⟨g,cap,cur,a,by omega,c⟩
theorem SS.own {w:World} {g cap:Nat} {ps:List (List UInt8)} (h:SS w g cap (ps.map bs)):Texts g w (.slice (some ⟨g,0,none⟩) ps.length cap) ps:=by
 have:=h
 unfold SS at this
 rw [List.length_map] at this
 unfold Texts
 rw [List.length_map]
 exact this
end
section
open Go.RowKit Go.Maps
theorem SS.blk {w:World} {g cap:Nat} {xs:List ByteArray} (h:SS w g cap xs):∃cur,Blk w g cur 9∧xs.length≤cur.size∧cur.toList.take xs.length=xs.map Value.string:=by
 obtain ⟨cur,h1,h2,h3,h4,h5⟩:=h.block
 exact ⟨cur,h1,by omega,h5⟩
theorem Texts.frame {B:Nat} {w:World} {v:Value} {ps:List (List UInt8)} (h:Texts B w v ps):∃(vo:Option Addr) (vc:Nat) (F:List Fr3),v=.slice vo ps.length vc∧(∀f ∈ F,f.2.2=9∧B≤f.1∧Blk w f.1 f.2.1 f.2.2)∧∀wx:World,(∀f ∈ F,Blk wx f.1 f.2.1 f.2.2)→∀j (hj:j<ps.length),∃g,vo=some ⟨g,0,none⟩∧wx.cell? ⟨g,j,none⟩=some (.string (bs ps[j])):=by
 by_cases hp:ps=[]
 ·subst hp
  obtain ⟨a,c,rfl⟩:=texts_none h
  exact ⟨a,c,[],rfl,fun f hf=>absurd hf (by simp),fun wx _ j hj=>absurd hj (by simp)⟩
 ·obtain ⟨g,c,rfl,hs,hB⟩:=texts_some h hp
  obtain ⟨cur,b1,b2,b3⟩:=hs.blk
  refine ⟨_,c,[(g,cur,9)],rfl,fun f hf=>?_,fun wx hx j hj=>⟨g,rfl,?_⟩⟩
  ·simp at hf;subst hf;exact ⟨rfl,hB,b1⟩
  ·have hx1:=hx (g,cur,9) (by simp)
   rw [Blk.at hx1 j]
   have e:=congrArg (fun z:List Value=>z[j]?) b3
   simp only [List.length_map] at e
   rw [List.getElem?_take_of_lt hj,Array.getElem?_toList] at e
   simp only at e ⊢
   rw [e]
   simp [hj]
theorem hst_none {K:List P4} {F:List Fr3} {w0 w:World} {bm bk g:Nat} {l:List SE} (h:HSt K F w0 bm bk g w l):HSt K [] w0 bm bk g w l:=by
 obtain ⟨⟨v0,h1,o1,_⟩,h3,h4,h5,h6,h7,_⟩:=h
 exact ⟨⟨v0,h1,o1,fun k hk=>absurd hk (by simp)⟩,h3,h4,h5,h6,h7,fun k hk=>absurd hk (by simp)⟩
theorem HSt.rowNe {K:List P4} {F:List Fr3} {w0 w:World} {bm bk g:Nat} {l:List SE} {v u:Value} (h:HSt K F w0 bm bk g w l) (hb:Blk w g #[v,u] 205) {k:Nat} {arr:Array Value} {te:TypeId} (hk:Blk w k arr te) (ht:te≠209):some k≠v.ownBlock:=fun e=>by
 obtain ⟨_,hown,_⟩:=h.obj hb
 rcases hown.2 with ⟨e2,_⟩ | ⟨b2,_,cur,e2,_,hc,_⟩
 ·rw [e2] at e;simp [Value.ownBlock] at e
 ·rw [e2] at e
  simp [Value.ownBlock] at e
  unfold Blk at hk
  rw [e,hc] at hk
  simp at hk
  exact ht hk.2.symm
theorem HSt.moreT {K:List P4} {F:List Fr3} {w0 w:World} {bm bk g:Nat} {l:List SE} (h:HSt K F w0 bm bk g w l) (f:Fr3) (h2:FrB bm g f w) (ht:f.2.2≠209):HSt K (f::F) w0 bm bk g w l:=by
 obtain ⟨v,b,_⟩:=h.1
 exact h.more b f h2 (h.rowNe b h2.1 ht)
theorem HSt.grow {K:List P4} {w0 w w':World} {bm bk g:Nat} {l:List SE} {r:Option Nat} (h:HSt K [] w0 bm bk g w l) (hg:w.grownBy w' r) (hr:∀k,r=some k→g<k∧∃arr te,Blk w k arr te∧te≠209):HSt K [] w0 bm bk g w' l:=by
 have hh:=h
 obtain ⟨⟨v,h1,h2,_⟩,h3,h4,h5,h6,h7,_⟩:=h
 have ne:∀k,k≤g→some k≠r:=fun k hk e=>by have:=(hr k e.symm).1;omega
 have hv:v.ownBlock=none∨v.ownBlock≠r:=by
  rcases h2.2 with ⟨e2,_⟩ | ⟨b2,_,cur,e2,_,hc,_⟩
  ·left;rw [e2];rfl
  ·right
   intro e
   rw [e2] at e
   obtain ⟨_,arr,te,hk,ht⟩:=hr b2 e.symm
   unfold Blk at hk
   rw [hc] at hk
   simp at hk
   exact ht hk.2.symm
 exact ⟨⟨v,(hg.block g h1.lt (ne g (Nat.le_refl _))).trans h1,h2.kept hg hv,fun f hf=>absurd hf (by simp)⟩,(hg.block bk h3.lt (ne bk (by omega))).trans h3,h4.grown hg (ne bm (by omega)),h5,h6,h7.grown hg h7.size (fun k e=>by have:=(hr k e).1;omega),fun f hf=>absurd hf (by simp)⟩
theorem leavesOf_20 (l:List Q):(leavesOf l).length≤20:=by
 cases h:queuesOk l with
 | false=>rw [leavesOf_bad h];simp
 | true=>
  have h1:=leavesOf_len l
  have:inB l.length 1 20=true:=by
   unfold queuesOk at h
   simp only [Bool.and_eq_true] at h
   exact h.2
  simp [inB] at this
  omega
theorem hst_more {K:List P4} {w0 w:World} {bm bk g:Nat} {l:List SE} (h:HSt K [] w0 bm bk g w l):∀F:List Fr3,(∀f ∈ F,FrB bm g f w∧f.2.2≠209)→HSt K F w0 bm bk g w l
 | [],_=>h
 | f::F,hf=>(hst_more h F (fun k hk=>hf k (List.mem_cons_of_mem _ hk))).moreT f (hf f (List.mem_cons_self ..)).1 (hf f (List.mem_cons_self ..)).2
theorem own_frame {B:Nat} {w:World} {v:Value} {o:List ByteArray} (h:w.ownsRow B 9 1 v o.length (scells o)):∃F:List Fr3,(∀f ∈ F,f.2.2=9∧B≤f.1∧Blk w f.1 f.2.1 f.2.2)∧(∀wx:World,(∀f ∈ F,Blk wx f.1 f.2.1 f.2.2)→wx.ownsRow B 9 1 v o.length (scells o))∧∀k,v.ownBlock=some k→∃f ∈ F,f.1=k:=by
 rcases h.2 with ⟨rfl,h0⟩ | ⟨g,cap,cur,rfl,hb,hc,k⟩
 ·exact ⟨[],fun f hf=>absurd hf (by simp),fun wx _=>⟨h.1,.inl ⟨rfl,h0⟩⟩,fun k hk=>by simp [Value.ownBlock] at hk⟩
 ·refine ⟨[(g,cur,9)],fun f hf=>?_,fun wx hx=>⟨h.1,.inr ⟨g,cap,cur,rfl,hb,hx (g,cur,9) (by simp),k⟩⟩,fun k' hk=>⟨_,List.mem_cons_self ..,by simpa [Value.ownBlock] using hk⟩⟩
  simp at hf;subst hf;exact ⟨rfl,hb,hc⟩
def slLen:Value→Nat
 | .slice _ n _=>n
 | _=>0
theorem own_slLen {w:World} {B n:Nat} {v:Value} {xs:List Value} (h:w.ownsRow B 9 1 v n xs):slLen v=n:=by
 rcases h.2 with ⟨rfl,e⟩ | ⟨_,_,_,rfl,_⟩
 ·exact e.symm
 ·rfl
theorem fieldS (x:SE) (wx:World):(Instr.field 209 (stv x) 0).run Tryz.prog wx=.ok (.string (bs x.1)) wx:=by
 simp [Instr.field,go_sem,asAgg,stv]
def Tk (s:St) (P l:List SE):Prop:=HeapM.Heap leS seD l.length l∧(P++l).Perm ((leavesOf s.qs).map (stOf s))∧HeapM.Sorted leS P∧∀p ∈ P,∀x ∈ l,leS p x
theorem Tk.pop {s:St} {P l:List SE} (h:Tk s P l) (h0:0<l.length) :
  Tk s (P++[HeapM.at' seD (HeapM.popL seD aheadS l) (l.length - 1)]) ((HeapM.popL seD aheadS l).take (l.length - 1)):=by
 obtain ⟨h1,h2,h3,h4⟩:=h
 obtain ⟨p1,p2,p3,p4⟩:=HeapM.pop_heap leS_order leS_1 leS_2 l h0 h1
 have hlen:((HeapM.popL seD aheadS l).take (l.length - 1)).length=l.length - 1:=by
  have:=p3.length_eq
  simp at this ⊢
  omega
 have hmem:HeapM.at' seD l 0 ∈ l:=p3.subset (by simp)
 rw [p1]
 refine ⟨by rw [hlen];exact p2,?_,HeapM.sorted_snoc _ _ h3 (fun y hy=>h4 y hy _ hmem),?_⟩
 ·rw [List.append_assoc]
  refine (List.Perm.append_left P ?_).trans h2
  exact List.perm_append_comm.trans p3
 ·intro p hp x hx
  have hxl:x ∈ l:=p3.subset (by simp [hx])
  rcases List.mem_append.1 hp with hp | hp
  ·exact h4 p hp x hxl
  ·simp at hp;subst hp;exact p4 x hx
theorem implQueueOrder_any (x:Sls) (s:St) (w:World) (h:SRow w x s) (hf:FitSt s) (hc:x.ql≤x.qc) (hw:WfSt s) :
  Calls Tryz.prog 135 #[sv x s] w fun e w'=>∃v,e=.returned v∧Texts w.heap.size w' v (orderV s)∧Below w.heap.size w w':=by
 obtain ⟨i0,hi,hz0,hz1,hz2⟩:=info_parts Tryz.infoS
 have hql:x.ql≤1048576:=h.ql hf
 obtain ⟨K,hKd⟩:∃K,(leavesOf s.qs).map (fun n=>(stOf s n).2)=K:=⟨_,rfl⟩
 have hKl:K.length≤1048576:=by rw [←hKd,List.length_map];have:=leavesOf_len s.qs;have:=h.1.1;omega
 have hK:K.length≤1000000000:=by omega
 have KW:∀p ∈ K,Wf4 p.1 p.2.1 p.2.2.1 p.2.2.2:=fun p hp=>by
  rw [←hKd] at hp
  obtain ⟨n,_,rfl⟩:=List.mem_map.1 hp
  exact stOf_wf s n
 have HKM:=hide (show ∀n ∈ leavesOf s.qs,(stOf s n).2 ∈ K from fun n hn=>by rw [←hKd];exact List.mem_map.2 ⟨n,hn,rfl⟩)
 have CV:=hide (fun wx (hb:Below w.heap.size w wx)=>leaves_any x.qa x.ql x.qc s.qs wx (h.1.below hb) hql (fun q hq=>(hf.1.2 q hq).1) hc)
 have CS:=hide (fun nm wx (hb:Below w.heap.size w wx)=>standingOf_any x s nm wx (h.below hb) hf hc hw)
 have CLD:=hide (fun wx=>least_any K wx)
 have HT0:=hide (leavesOf_20 s.qs)
 have HOT:=hide (order_taken s)
 obtain ⟨lv,hlv⟩:∃l,leavesOf s.qs=l:=⟨_,rfl⟩
 rw [hlv] at CV HKM HT0 HOT
 have HTK:=hide (show ∀P l,Tk s P l=(HeapM.Heap leS seD l.length l∧(P++l).Perm (lv.map (stOf s))∧HeapM.Sorted leS P∧∀p ∈ P,∀x ∈ l,leS p x) from fun P l=>by rw [Tk,hlv])
 have HPOP:=hide (fun P l (h:Tk s P l) h0=>h.pop h0)
 have hlq:lv.length≤20:=uH HT0
 clear hlv h hf hc hw hKd HT0
 obtain ⟨of,hof⟩:∃f,stOf s=f:=⟨_,rfl⟩
 obtain ⟨tk,htk⟩:∃f,Tk s=f:=⟨_,rfl⟩
 obtain ⟨oV,hoV⟩:∃f,orderV s=f:=⟨_,rfl⟩
 rw [hof] at CS HKM
 rw [htk,hof] at HTK
 rw [htk] at HPOP
 rw [hof,hoV] at HOT
 rw [hoV]
 have HF1:=hide (show ∀n,(of n).1=n from fun n=>by rw [←hof];rfl)
 clear hof htk hoV
 obtain ⟨qa,ql,qc,aa,al,ac,ma,ml,mc,ca,cl,cc⟩:=x
 obtain ⟨qs,clock,epoch,next,serial,apps,ms,cs⟩:=s
 simp only at CV CS hql
 have HB0:=hide (yA (Below.refl _ w) (.cells (svc ⟨qa,ql,qc,aa,al,ac,ma,ml,mc,ca,cl,cc⟩ ⟨qs,clock,epoch,next,serial,apps,ms,cs⟩) 34))
 have P0:=hide (yD w (svc ⟨qa,ql,qc,aa,al,ac,ma,ml,mc,ca,cl,cc⟩ ⟨qs,clock,epoch,next,serial,apps,ms,cs⟩) 34)
 go_enter Tryz.func135,Tryz.ntmps135
 go_wp2_with fail
 refine (uH CLD _).mono ?_
 rintro e w1 ⟨rfl,hbk,hh,hb,hz⟩
 rw [yE] at hbk hh hz
 obtain ⟨g,hg⟩:∃g,w1.heap.size=g:=⟨_,rfl⟩
 have hgs:g=w.heap.size+3:=by omega
 have hba:=yA (Below.refl _ w1) (.cells #[.slice none 0 0,cloV (w.heap.size+1+1)] 205)
 have HB1:=hide (yB (yB (uH HB0) hb) hba)
 have P1:=hide (((uH P0).below hb).below hba)
 have G1:=hide (show Blk (w1.alloc (.cells #[.slice none 0 0,cloV (w.heap.size+1+1)] 205)) g #[.slice none 0 0,cloV (w.heap.size+1+1)] 205 from by rw [←hg];exact yD _ _ _)
 have M1:=hide (hbk.below hba)
 have H1:=hide (hh.below hba)
 clear hbk hh hb hba hz HB0 P0 CLD
 obtain ⟨q0,q1,q2,q3,q4,q5,q6,q7⟩:_∧_∧_∧_∧_∧_∧_∧_:=⟨(uH P1).at 0,(uH P1).at 1,(uH P1).at 2,(uH P1).at 3,(uH P1).at 4,(uH P1).at 5,(uH P1).at 6,(uH P1).at 7⟩
 simp at q0 q1 q2 q3 q4 q5 q6 q7
 go_wp2_with fail
 refine (uH CV _ (uH HB1)).mono ?_
 rintro e w2 ⟨v0,rfl,ht,hb⟩
 obtain ⟨vo,vc,F0,rfl,hF0,hrow⟩:=ht.frame
 have HROW:=hide hrow
 have HB2:=hide (yB (uH HB1) hb)
 have zz:w1.heap.size+1≤w2.heap.size:=by have:=hb.size;rw [yE] at this;exact this
 obtain ⟨F,hFd⟩:∃F:List Fr3,(w.heap.size,svc ⟨qa,ql,qc,aa,al,ac,ma,ml,mc,ca,cl,cc⟩ ⟨qs,clock,epoch,next,serial,apps,ms,cs⟩,34)::F0=F:=⟨_,rfl⟩
 have HFS:=hide (show ∀f ∈ F,f.2.2≠209 from fun f hf=>by
  rw [←hFd] at hf
  rcases List.mem_cons.1 hf with rfl | hf
  ·show (34:TypeId)≠209
   decide
  ·rw [(hF0 f hf).1];decide)
 have HFR:=hide (show (∀f ∈ F,FrB (w.heap.size+1) (w.heap.size+3) f w2) from fun f hf=>by
  rw [←hFd] at hf
  rcases List.mem_cons.1 hf with rfl | hf
  ·exact ⟨(uH P1).below hb,by show w.heap.size≠w.heap.size+1;omega,by show w.heap.size≠w.heap.size+3;omega⟩
  ·have:=(hF0 f hf).2.1
   rw [yE] at this
   exact ⟨(hF0 f hf).2.2,by omega,by omega⟩)
 have HBX:=hide (show ∀wx:World,(∀f ∈ F,Blk wx f.1 f.2.1 f.2.2)→Blk wx w.heap.size (svc ⟨qa,ql,qc,aa,al,ac,ma,ml,mc,ca,cl,cc⟩ ⟨qs,clock,epoch,next,serial,apps,ms,cs⟩) 34 from fun wx hx=>hx _ (by rw [←hFd];exact List.mem_cons_self ..))
 have HRW:=hide (show ∀wx:World,(∀f ∈ F,Blk wx f.1 f.2.1 f.2.2)→∀j (hj:j<lv.length),∃g,vo=some ⟨g,0,none⟩∧wx.cell? ⟨g,j,none⟩=some (.string (bs lv[j])) from fun wx hx j hj=>uH HROW wx (fun f hf=>hx f (by rw [←hFd];exact List.mem_cons_of_mem _ hf)) j hj)
 have HI0:=hide (show HI K F w (w.heap.size+1) (w.heap.size+1+1) (w.heap.size+3) w2 [] from ⟨⟨⟨.slice none 0 0,by have:=(uH G1).below hb;rw [hgs] at this;exact this,World.ownsRow_nil _ _ _ _,fun f _ e=>by simp [Value.ownBlock] at e⟩,(uH M1).below hb,(uH H1).below hb,by omega,fun x hx=>absurd hx (by simp),uH HB2,uH HFR⟩,by simp⟩)
 clear hb ht hF0 hrow hFd HROW HFR HB1 HB2 P1 G1 M1 H1 q0 q1 q2 q3 q4 q5 q6 q7 CV hg zz
 go_wp2
 go_loopw [5,14] (fun _ i wr=>∃(k:Nat) (l:List SE),k≤lv.length∧i=.int .i64 k∧l.length=k∧Hid (HI K F w (w.heap.size+1) (w.heap.size+1+1) (w.heap.size+3) wr l)∧Hid (HeapM.Heap leS seD l.length l)∧Hid (l.Perm ((lv.take k).map of))) (fun _ i _=>lv.length - (intOf i).toNat)
 case atStart=>exact ⟨0,[],Nat.zero_le _,rfl,rfl,HI0,hide (fun k h0 h1=>absurd h1 (by simp)),hide (by simp)⟩
 case round=>
  obtain ⟨k,l,hk,rfl,hlk,HH,HHP,HPM⟩:=hrel
  by_cases hlt:k<lv.length
  ·have hbl:=fun f hf=>((uH HH).1.2.2.2.2.2.2 f hf).1
   obtain ⟨gv,rfl,hcv⟩:=uH HRW wr hbl k hlt
   have P2:=uH HBX wr hbl
   obtain ⟨q0,q1,q2,q3,q4,q5,q6,q7⟩:_∧_∧_∧_∧_∧_∧_∧_:=⟨P2.at 0,P2.at 1,P2.at 2,P2.at 3,P2.at 4,P2.at 5,P2.at 6,P2.at 7⟩
   simp at q0 q1 q2 q3 q4 q5 q6 q7
   have htk:=List.take_succ_eq_append_getElem hlt
   have hmem:=uH HKM lv[k] (List.getElem_mem _)
   obtain ⟨nm,hnm⟩:∃nm,lv[k]=nm:=⟨_,rfl⟩
   rw [hnm] at hcv htk hmem
   have C1:=hide (uH CS nm wr (uH HH).1.2.2.2.2.2.1)
   obtain ⟨z,hz⟩:∃z,of nm=z:=⟨_,rfl⟩
   rw [hz] at C1 hmem
   have C2:=hide (fun wx (hx:HI K F w (w.heap.size+1) (w.heap.size+1+1) (w.heap.size+3) wx l)=>add_any K F hK KW w (w.heap.size+1) (w.heap.size+1+1) (w.heap.size+3) wx l z hx (uH HFS) hmem (by omega))
   have HP2:=hide (HeapM.push_heap (d:=seD) leS_order leS_1 leS_2 l z (uH HHP))
   have HPT:=hide (show (l++[z]).Perm ((lv.take (k+1)).map of) by rw [htk,List.map_append,←hz];exact (uH HPM).append_right _)
   obtain ⟨l2,hl2⟩:∃l2,HeapM.upL seD aheadS (l.length+1) (l++[z]) l.length=l2:=⟨_,rfl⟩
   rw [hl2] at C2 HP2
   have hlen2:l2.length=k+1:=by have:=(uH HP2).2.length_eq;simp at this;omega
   obtain ⟨z1,z2,z3,z4,z5⟩:=z
   clear hnm htk hz hmem hl2 hbl P2
   go_wp2_with fail
   refine (uH C1).mono ?_
   rintro e w4 ⟨rfl,hb⟩
   have HH4:=hide (show HI K F w (w.heap.size+1) (w.heap.size+1+1) (w.heap.size+3) w4 l from ⟨(uH HH).1.below hb,(uH HH).2⟩)
   clear hb C1 q0 q1 q2 q3 q4 q5 q6 q7 hcv
   go_wp2_with fail
   refine (uH C2 _ (uH HH4)).mono ?_
   rintro e w5 ⟨rfl,hh⟩
   have HH5:=hide hh
   clear hh C2 HH4
   go_wp2
   go_roundw
   case rel=>exact ⟨k+1,l2,by omega,by go_num,hlen2,HH5,hide (by have h9:=(uH HP2).1;rw [hlk] at h9;rw [hlen2];exact h9),hide ((uH HP2).2.trans (uH HPT))⟩
   case measure=>simp [intOf];omega
  ·have hkk:k=lv.length:=by omega
   have T0:=hide (show tk [] l by rw [uH HTK];refine ⟨uH HHP,?_,trivial,fun p hp=>absurd hp (by simp)⟩;have:=uH HPM;rw [hkk,List.take_length] at this;exact this)
   have HE:=hide (show HI K [] w (w.heap.size+1) (w.heap.size+1+1) (w.heap.size+3) wr l from ⟨hst_none (uH HH).1,(uH HH).2⟩)
   have hlk2:l.length≤20:=by omega
   clear HH HHP HPM hlk
   subst hkk
   have hww:w.heap.size≤(w.heap.size+4):=by omega
   go_wp2
   go_loopw [6] (fun v wr=>∃(l P:List SE) (o:List ByteArray),l.length+o.length≤20∧Hid (o=P.map (fun x=>bs x.1))∧Hid (tk P l)∧Hid (HI K [] w (w.heap.size+1) (w.heap.size+1+1) (w.heap.size+3) wr l)∧Hid (wr.ownsRow (w.heap.size+4) 9 1 v o.length (scells o))) (fun v _=>20 - slLen v)
   case atStart=>exact ⟨l,[],[],by simpa using hlk2,hide rfl,T0,HE,hide (World.ownsRow_nil _ _ _ _)⟩
   case round=>
    obtain ⟨l,P,o,hlo,HO,HT,HH,HW⟩:=hrel
    clear HE T0 hlk2
    obtain ⟨F2,hF2,hrow,hown⟩:=own_frame (uH HW)
    have HI2:=hide (show HI K F2 w (w.heap.size+1) (w.heap.size+1+1) (w.heap.size+3) wr l from ⟨hst_more (uH HH).1 F2 (fun f hf=>⟨⟨(hF2 f hf).2.2,by have:=(hF2 f hf).2.1;omega,by have:=(hF2 f hf).2.1;omega⟩,by rw [(hF2 f hf).1];decide⟩),(uH HH).2⟩)
    have HRW:=hide hrow
    have HOB:=hide (show ∀k,∀u:Value,u.ownBlock=some k→True from fun _ _ _=>trivial)
    have HF2:=hide (show ∀f ∈ F2,f.2.2=9∧(w.heap.size+4)≤f.1 from fun f hf=>⟨(hF2 f hf).1,(hF2 f hf).2.1⟩)
    have HFB:=hide hown
    have hsl:=own_slLen (uH HW)
    have HSL:=hide hsl
    clear hF2 hrow hown HH HW hsl HOB
    obtain ⟨vr,b1,_⟩:=(uH HI2).1.1
    have c0:=b1.at 0
    have c1:=b1.at 1
    simp at c0 c1
    have C1:=hide (stLen_any K F2 w (w.heap.size+1) (w.heap.size+1+1) (w.heap.size+3) wr l vr (cloV (w.heap.size+1+1)) (uH HI2).1 b1)
    have hmax:l.length≤1000000:=(uH HI2).2
    clear b1
    go_wp2_with fail
    refine (uH C1).mono ?_
    rintro e w4 ⟨rfl,hh⟩
    have H4:=hide (show HI K F2 w (w.heap.size+1) (w.heap.size+1+1) (w.heap.size+3) w4 l from ⟨hh,hmax⟩)
    clear hh C1 c0 c1 HI2
    by_cases h0:0<l.length
    ·have HT2:=hide (uH HPOP P l (uH HT) h0)
     have hz4:w.heap.size≤w4.heap.size:=(uH H4).1.2.2.2.2.2.1.size
     have C2:=hide (takeFirst_any K F2 hK KW w (w.heap.size+1) (w.heap.size+1+1) (w.heap.size+3) w4 l (uH H4) h0 hz4)
     obtain ⟨l2,hl2⟩:∃l2,(HeapM.popL seD aheadS l).take (l.length - 1)=l2:=⟨_,rfl⟩
     obtain ⟨z,hz⟩:∃z,HeapM.at' seD (HeapM.popL seD aheadS l) (l.length - 1)=z:=⟨_,rfl⟩
     rw [hl2,hz] at C2 HT2
     have hlen2:l2.length+1=l.length:=by
      have e1:=uH HT2
      have e0:=uH HT
      rw [uH HTK] at e1 e0
      have p1:=e1.2.1.length_eq
      have p0:=e0.2.1.length_eq
      simp at p1 p0
      omega
     obtain ⟨z1,z2,z3,z4,z5⟩:=z
     clear hl2 hz HT
     have h0z:(0:Int)<(l.length:Int):=by omega
     have hfs:=fieldS (z1,z2,z3,z4,z5)
     go_wp2_with fail
     refine (uH C2).mono ?_
     rintro e w5 ⟨rfl,hh⟩
     have hrow5:=uH HRW w5 (fun f hf=>(hh.1.2.2.2.2.2.2 f hf).1)
     have H5:=hide hh
     have hz5:w.heap.size+3<w5.heap.size:=let ⟨_,b,_⟩:=hh.1.1;b.lt
     clear hh C2 H4 hz4
     go_wp2_with (at_builtin;refine wpList_append_own _ rfl _ _ 175 rfl (w.heap.size+4) 9 i0 (.string ByteArray.empty) 1 16 Tryz.underlying175 hi hz0 hz1 hz2 rfl (by decide) _ _ _ rfl (hrow5.alloc _) ⟨w5.heap.size,0,none⟩ 1 1 [.string (bs z1)] rfl rfl ?c1 ?c2 ?c3 ?c4 ?c5 ?_)
     case c1=>intro j v hj;match j,hj with | 0,hj=>simp at hj;subst hj;simp [Addr.add]
     case c2=>intro v hv;simp at hv;subst hv;rfl
     case c3=>unfold maxLen;omega
     case c4=>omega
     case c5=>simp;omega
     intro v' w7 hown' hgrow _
     have hgz:=hgrow.size
     rw [yE] at hgz
     have R7:=hide (show w7.ownsRow (w.heap.size+4) 9 1 v' (o++[bs z1]).length (scells (o++[bs z1])) by simpa [scells] using hown')
     have H7:=hide (show HI K [] w (w.heap.size+1) (w.heap.size+1+1) (w.heap.size+3) w7 l2 from ⟨((hst_none (uH H5).1).below (yA (Below.refl _ _) _)).grow hgrow (fun k hk=>by
      obtain ⟨f,hf,rfl⟩:=uH HFB k hk
      exact ⟨by have:=(uH HF2 f hf).2;omega,_,_,((uH H5).1.2.2.2.2.2.2 f hf).1.al _,by rw [(uH HF2 f hf).1];decide⟩),(uH H5).2⟩)
     have HSL7:=hide (own_slLen (uH R7))
     clear hown' hgrow hrow5 H5
     go_wp2
     go_roundw
     case rel=>exact ⟨l2,P++[(z1,z2,z3,z4,z5)],o++[bs z1],by simp;omega,hide (by rw [uH HO,List.map_append];rfl),HT2,H7,R7⟩
     case measure=>
      have e1:=uH HSL
      have e2:=uH HSL7
      simp at e2
      simp
      omega
    ·have hl0:l.length=0:=by omega
     obtain rfl:l=[]:=List.eq_nil_of_length_eq_zero hl0
     have hrow4:=hide (uH HRW w4 (fun f hf=>((uH H4).1.2.2.2.2.2.2 f hf).1))
     have HB4:=hide (uH H4).1.2.2.2.2.2.1
     have HFIN:=hide (show P.map Prod.fst=oV by
      have e0:=uH HT
      rw [uH HTK,List.append_nil] at e0
      exact uH HOT P e0.2.2.1 e0.2.1)
     go_wp2
     go_ret
     refine ⟨_,rfl,?_,uH HB4⟩
     refine (Texts.of (uH hrow4) ?_).base hww
     rw [uH HO,←uH HFIN,List.map_map]
     rfl
end
section
open Go.RowKit Go.Shelf
attribute [local go_sem] Oper.semAt_some
theorem implPath_any (ao:Option Addr) (len cap:Nat) (l:List Q) (nm:List UInt8) (w:World) (h:QRow w ao len l) (hl:len≤1048576) (hn:∀q ∈ l,q.name.length≤1048576) (hc:len≤cap) :
  Calls Tryz.prog 173 #[.slice ao len cap,.string (bs nm)] w fun e w'=>∃v,e=.returned v∧Texts w.heap.size w' v (path l nm)∧Below w.heap.size w w':=by
 obtain ⟨i0,hi,hz0,hz1,hz2⟩:=info_parts Tryz.infoS
 have HR:=hide h
 have HL:=hide h.1
 have CQ:=hide (implQueuesOk_any ao len cap l w h hl hn hc)
 have HN:=hide hn
 have HP:=hide (fun ho:queuesOk l=true=>ups_path ho nm)
 have HZ:=hide (show queuesOk l=false→path l nm=[] by intro e;rw [path,e];rfl)
 obtain ⟨o,ho⟩:∃o,queuesOk l=o:=⟨_,rfl⟩
 rw [ho] at CQ HP HZ
 clear ho hn h
 have hmx:Tryz.prog.follows .mixedOrders=true:=by kernel_rfl
 refine (callsIn_wide (n:=3)).1 ?_
 refine callsIn_of_wp_marks Tryz.func173 rfl trivial ?_ rfl
 simp only [Tryz.ntmps173,List.size_toArray,List.length_cons,List.length_nil,Nat.reduceAdd,Nat.reduceSub,Array.replicate_succ,Array.replicate_zero,List.push_toArray,List.append_toArray,List.nil_append,List.cons_append]
 gi_wp2_with fail
 refine ⟨trivial,?_⟩
 first | refine ⟨(by intro e;cases e),?_⟩ | skip
 refine (callsIn_wide.2 (uH CQ)).mono ?_
 rintro e w1 ⟨rfl,hb⟩
 have HB1:=hide hb
 clear hb CQ
 cases o with
 | false=>
  have hz:=uH HZ (by first | rfl | trivial)
  gi_wp2
  exact ⟨_,results_tmp rfl _ _ _,_,rfl,Texts.of (o:=[]) (World.ownsRow_nil _ _ _ _) (by rw [hz];rfl),uH HB1⟩
 | true=>
  have hpa:=uH HP (by first | rfl | trivial)
  have HPA:=hide hpa
  have HBo:=hide (((Go.Boxed.new w1 175 (.slice none 0 0)).alloc (.cells #[.slice ao len cap] 29)).alloc (.cells #[.string (bs nm)] 9))
  have hBq:(((w1.alloc (.cells #[.slice none 0 0] 175)).alloc (.cells #[.slice ao len cap] 29)).alloc (.cells #[.string (bs nm)] 9)).cell? ⟨w1.heap.size+1,0,none⟩=some (.slice ao len cap):=by
   have:=((Go.Boxed.new (w1.alloc (.cells #[.slice none 0 0] 175)) 29 (.slice ao len cap)).alloc (.cells #[.string (bs nm)] 9)).cell
   simpa using this
  have hBn:(((w1.alloc (.cells #[.slice none 0 0] 175)).alloc (.cells #[.slice ao len cap] 29)).alloc (.cells #[.string (bs nm)] 9)).cell? ⟨w1.heap.size+1+1,0,none⟩=some (.string (bs nm)):=by
   have:=(Go.Boxed.new ((w1.alloc (.cells #[.slice none 0 0] 175)).alloc (.cells #[.slice ao len cap] 29)) 9 (.string (bs nm))).cell
   simpa using this
  have HB0:=hide (yA (yA (yA (uH HB1) (.cells #[.slice none 0 0] 175)) (.cells #[.slice ao len cap] 29)) (.cells #[.string (bs nm)] 9))
  have HC:=hide (above_stops (3 - 1) (w1.heap.size+1) (w1.heap.size+1+1) ao len cap l nm w _ (uH HR) (uH HB0) hl hc hBq hBn)
  clear HP HZ hpa hBq hBn
  gi_wp2_with fail
  refine ⟨trivial,?_⟩
  first | refine ⟨(by intro e;cases e),?_⟩ | skip
  refine (callsIn_wide.2 (above_any ao len cap nm _)).mono ?_
  rintro e w2 ⟨rfl,rfl⟩
  gi_wp2
  have hsz:(((w1.alloc (.cells #[.slice none 0 0] 175)).alloc (.cells #[.slice ao len cap] 29)).alloc (.cells #[.string (bs nm)] 9)).heap.size=w1.heap.size+3:=by simp
  obtain ⟨W0,hW0⟩:∃W0,((w1.alloc (.cells #[.slice none 0 0] 175)).alloc (.cells #[.slice ao len cap] 29)).alloc (.cells #[.string (bs nm)] 9)=W0:=⟨_,rfl⟩
  rw [hW0] at hsz HBo HB0 HC ⊢
  have hw1:=(uH HB1).size
  clear hW0
  refine wpIn_rangeFunc_ownH rfl (by omega) (gf:=206) (lb:=#[.pointer (some ⟨w1.heap.size+1,0,none⟩),.pointer (some ⟨w1.heap.size+1+1,0,none⟩)]) rfl trivial (enters_of Tryz.func206 (by kernel_rfl) rfl)
   (uH HC) kpq_t (kpq_b (by omega)) (Below.refl _ _) (fun _=>rfl)
   (fun pre W=>(∃v,Go.Boxed W w1.heap.size 175 v∧W.ownsRow w.heap.size 9 1 v pre.length (scells (pre.map (fun q=>bs q.1.name)))∧True)∧Below w.heap.size w W)
   (fun _ _ _=>False)
   (OwnFrom.and (Own.from (holdsRow_own w.heap.size w1.heap.size 175 9 1 (fun pre:List { q:Q // q ∈ l }=>pre.length) (fun pre:List { q:Q // q ∈ l }=>scells (pre.map (fun q=>bs q.1.name))) (fun _ _=>True)) _) (ownFrom_below (Nat.le_refl _) (by omega)))
   (fun _ _ _ _ _ hs _ _=>hs)
   ⟨⟨_,uH HBo,World.ownsRow_nil _ _ _ _,trivial⟩,uH HB0⟩
   (fun x a' W=>∃Bx,w1.heap.size<Bx∧QBox W Bx x.1∧a' = { tmps:=#[.slice ao len cap,.string (bs nm),undef,undef,.slice none 0 0,.pointer (some ⟨w1.heap.size,0,none⟩),.pointer (some ⟨Bx,0,none⟩),.slice ao len cap,.bool true,.bool false,.slice ao len cap,.string (bs nm),.func (.func 206) #[] #[.pointer (some ⟨w1.heap.size+1,0,none⟩),.pointer (some ⟨w1.heap.size+1+1,0,none⟩)],qv x.1,undef,undef,undef,undef,undef,undef,undef],defers:=[] })
   (fun x a' _ X Y row hs hg hr=>by
    obtain ⟨Bx,h1,h2,h3⟩:=hs
    refine ⟨Bx,h1,(hg.block Bx h2.lt (fun e=>?_)).trans h2,h3⟩
    obtain ⟨_,o,ho,hc⟩:=hr Bx e.symm
    rw [show X.heap[Bx]? = _ from h2] at ho
    cases ho
    cases hc)
   ?assign ?body ?done ?stop
  case assign=>
   rintro lp pre x W K ⟨⟨v,hv,hrow,_⟩,hB⟩ hK
   gi_wp2
   exact hK _ _ ((KeepsOthers.alloc _ _).from _) (kpq_of hB.size (yA (Below.refl _ W) _)) ⟨⟨v,hv.alloc _,hrow.alloc _,trivial⟩,yA hB _⟩ ⟨W.heap.size,hv.lt,QBox.new W x.1,rfl⟩
  case body=>
   rintro lp pre x a' W hlp _ ⟨⟨v,hv,hrow,_⟩,hB⟩ ⟨Bx,hBx,hX,rfl⟩ hlt
   have hc0:=hv.cell
   have hx0:=hX.c0
   have hname:(bs x.1.name).size≤281474976710656:=by rw [bs_size];have:=uH HN x.1 x.2;omega
   have hpl:pre.length≤1048576:=by have:=uH HL;omega
   have HV:=hide hv
   have HX:=hide hX
   have HRW:=hide hrow
   have HB:=hide hB
   clear hv hX hrow hB
   gi_wp2_with fail
   gi_region_with_o (first | (refine ⟨trivial,?_⟩;gi_at_call 67;refine (CallsIn.inRound lp (callsIn_wide.2 (clone_any _ _ hname))).mono ?_;rintro e w3 ⟨rfl,hb3⟩;have HW3:=hide (yB (Below.refl _ W).drew hb3);have hc3:=(boxed_below (uH HV) (uH HW3)).cell;have hc3b:=((boxed_below (uH HV) (uH HW3)).alloc (.cells #[.string (bs x.1.name)] 9)).cell;obtain ⟨g,cp,w4,hrun,hc4,hf4,HFIN⟩:=gather_step 175 9 (.string ByteArray.empty) 16 i0 Tryz.underlying175 hi hz0 hz1 hz2 rfl (by decide) (by decide) (by omega) (boxed_below (uH HV) (uH HW3)) (row_below (uH HRW) (uH HW3)) hpl (Nat.le_trans (uH HB).size (uH HW3).size) (uH HB1).size (.string (bs x.1.name)) rfl;clear hb3;simp [go_sem] at hrun))
   all_goals gi_wp2
   all_goals
    obtain ⟨f1,f2,f3,f4,f5⟩:=uH HFIN
    exact ⟨((keeps_below (uH HW3)).trans f3).from _,⟨((uH HW3).mono (uH HB).size).trans f4,fun k q hq=>f5 k q (hq.below (uH HW3))⟩,⟨⟨_,f1,by simpa using f2,trivial⟩,((uH HB).trans ((uH HW3).mono (uH HB).size)).trans f4⟩⟩
  case done=>
   rintro D ys W hD hys ⟨⟨v,hv,hrow,_⟩,hB⟩ hK
   have hc:=hv.cell
   gi_wp2
   refine ⟨by simp,.inl ⟨_,_,rfl,run_takeDeferred hK,?_⟩⟩
   exact ⟨_,results_tmp rfl _ _ _,v,rfl,Texts.of (o:=ys.map (fun q=>bs q.1.name)) (by have:=ownsRow_putObj hrow (.deferred none) hK rfl;simpa using this) (by rw [←uH HPA,←hys];simp),hB.trans (belowK_b (w:=w) (Nat.le_refl _) W D _ _ (by omega) hK rfl rfl)⟩
  case stop=>
   rintro D c pre W _ _ h _
   exact h.elim
end
section
open Go.RowKit
theorem mostFn_any (w:World) (q:Q) :
  Calls Tryz.prog 196 #[qv q] w fun e w'=>e=.returned (.int .i64 (fieldOf true q))∧Below w.heap.size w w':=by
 go_enter Tryz.func196,Tryz.ntmps196
 go_wp2
 go_ret
 exact ⟨rfl,yA (Below.refl _ _) _⟩
theorem implMostOf_any (ao:Option Addr) (len cap:Nat) (l:List Q) (nm:List UInt8) (a b:Int) (w:World) (h:QRow w ao len l) (hl:len≤1048576) (hn:∀q ∈ l,q.name.length≤1048576) (hc:len≤cap) :
  Calls Tryz.prog 175 #[.slice ao len cap,.string (bs nm),rv a b] w fun e w'=>e=.returned (rv (ofR l nm a b true).1 (ofR l nm a b true).2)∧Below w.heap.size w w':=by
 have hmf:∀(fn:Fn) (first cap:Array Value) (w:World),(Instr.makeFunc fn first cap).run Tryz.prog w=.ok (.func fn first cap) w:=fun _ _ _ _=>rfl
 have HB0:=hide (yA (yA (Below.refl _ w) (.cells #[.int .i64 a,.int .i64 b] 36)) (.cells #[.int .i64 0,.int .i64 0] 36))
 have HV2:=hide (var_new2 w 36 36 a b 0 0)
 have C:=hide (partOf_any 196 (enters_of Tryz.func196 (by kernel_rfl) rfl) true (fun wx q=>mostFn_any wx q) ao len cap l nm a b _ (h.below (uH HB0)) hl hn hc)
 obtain ⟨⟨x,y⟩,hxy⟩:∃p,ofR l nm a b true=p:=⟨_,rfl⟩
 rw [hxy] at C ⊢
 clear hxy h hn
 go_enter Tryz.func175,Tryz.ntmps175
 go_wp2_with fail
 refine (uH C).mono ?_
 rintro e w1 ⟨rfl,hb⟩
 have V2:=(uH HV2).below hb
 have k0:=V2.c0
 have k1:=V2.c1
 have k2:=V2.f 0
 have k3:=V2.f 1
 have k4:=V2.s0 (.int .i64 x)
 have k5:=V2.s1 (.int .i64 x) (.int .i64 y)
 have HB:=hide (yB (uH HB0) hb)
 clear hb V2 HV2 HB0 C
 go_wp2
 refine bodyPost_ret (v:=rv x y) (by simp [results,Tryz.results175,go_sem,k4,k5]) rfl ⟨rfl,?_⟩
 repeat (first | exact uH HB | refine yA ?_ _ | refine Below.drew ?_ | refine yC ?_ _ _ _ (by omega))
theorem implWithin_any (a b c d:Int) (w:World) :
  Calls Tryz.prog 137 #[rv a b,rv c d] w fun e w'=>e=.returned (.bool (within a b c d))∧Below w.heap.size w w':=by
 have HV1:=hide ((var_new w 36 a b).al (.cells #[.int .i64 c,.int .i64 d] 36))
 have HV2:=hide (var_new2 w 36 36 a b c d)
 have HB0:=hide (yA (yA (Below.refl _ w) (.cells #[.int .i64 a,.int .i64 b] 36)) (.cells #[.int .i64 c,.int .i64 d] 36))
 have hc:=hide (pairOk_any a b c d)
 cases h0:resOk a b&&resOk c d
 ·rw [show within a b c d=false by rw [within,h0];rfl]
  go_enter Tryz.func137,Tryz.ntmps137
  go_wp2_with fail
  refine (uH hc _).mono ?_
  rw [h0]
  rintro e w1 ⟨rfl,hb⟩
  have V1:=(uH HV1).below hb
  have V2:=(uH HV2).below hb
  have a1:=V1.c0
  have a2:=V1.c1
  have a3:=V2.c0
  have a4:=V2.c1
  have HB:=hide (yB (uH HB0) hb)
  clear hb HV1 HV2 HB0 V1 V2 hc
  go_wp2
  go_ret
  exact ⟨rfl,uH HB⟩
 ·by_cases h3:a≤c
  ·by_cases h4:b≤d
   ·rw [show within a b c d=true by rw [within,h0];simp [h3,h4]]
    go_enter Tryz.func137,Tryz.ntmps137
    go_wp2_with fail
    refine (uH hc _).mono ?_
    rw [h0]
    rintro e w1 ⟨rfl,hb⟩
    have V1:=(uH HV1).below hb
    have V2:=(uH HV2).below hb
    have a1:=V1.c0
    have a2:=V1.c1
    have a3:=V2.c0
    have a4:=V2.c1
    have HB:=hide (yB (uH HB0) hb)
    clear hb HV1 HV2 HB0 V1 V2 hc
    go_wp2
    go_ret
    exact ⟨rfl,uH HB⟩
   ·rw [show within a b c d=false by rw [within,h0];simp [h4]]
    go_enter Tryz.func137,Tryz.ntmps137
    go_wp2_with fail
    refine (uH hc _).mono ?_
    rw [h0]
    rintro e w1 ⟨rfl,hb⟩
    have V1:=(uH HV1).below hb
    have V2:=(uH HV2).below hb
    have a1:=V1.c0
    have a2:=V1.c1
    have a3:=V2.c0
    have a4:=V2.c1
    have HB:=hide (yB (uH HB0) hb)
    clear hb HV1 HV2 HB0 V1 V2 hc
    go_wp2
    go_ret
    exact ⟨yF (decide_eq_false (by omega)),uH HB⟩
  ·rw [show within a b c d=false by rw [within,h0];simp [h3]]
   go_enter Tryz.func137,Tryz.ntmps137
   go_wp2_with fail
   refine (uH hc _).mono ?_
   rw [h0]
   rintro e w1 ⟨rfl,hb⟩
   have V1:=(uH HV1).below hb
   have V2:=(uH HV2).below hb
   have a1:=V1.c0
   have a2:=V1.c1
   have a3:=V2.c0
   have a4:=V2.c1
   have HB:=hide (yB (uH HB0) hb)
   clear hb HV1 HV2 HB0 V1 V2 hc
   go_wp2
   go_ret
   exact ⟨rfl,uH HB⟩
end
end Go.Proofs.YtdhibeclkdepiaaGreat
