/-
  Texts in one: GatherI, BackI, PathI.
-/
import Derived.Test.YtfndhndlkcijoaaGreatTackR
import Derived.Maps.AppendAt
set_option maxRecDepth 100000
set_option maxHeartbeats 16000000
set_option linter.unusedVariables false
set_option linter.unusedSimpArgs false
open Go.Proofs.Tryz
namespace Go.Proofs.YtfndhndlkcijoaaGreat
section
open Go.RowKit Go.Shelf
variable {xs:List Value} {B k n p size t:Nat} {q:Q} {v:Value} {w w':World}
theorem aHj {w1:World} (h:mF w k q) {base e:Nat} (hr:w.ownsRow base e size v n xs) (he:e≠105) (hg:w.grownBy w1 v.ownBlock):mF w1 k q:=by
 refine (hg.block k h.lt ?_).trans h;rcases hr.2 with ⟨rfl,_⟩ | ⟨g,cap,cur,rfl,_,hgb,_⟩
 ·simp [Value.ownBlock]
 ·intro e';obtain rfl:k=g:=by simpa [Value.ownBlock] using e'
  have:=(show w.heap[k]? = _ from h).symm.trans hgb;simp [aF6] at this;exact he this.2.symm
theorem aE6 {u:Value} (h:mF w k q) (hv:Go.Boxed w B t v):mF (w.setCell ⟨B,0,none⟩ u) k q:=by
 refine ((grownBy_setCell' w B u).block k h.lt ?_).trans h;intro e';obtain rfl:k=B:=by simpa using e'
 have:=(show w.heap[k]? = _ from h).symm.trans hv;simp [aF6] at this
theorem dU (h:Go.Boxed w B t v) (hb:Bw w w'):Go.Boxed w' B t v:=(hb.block B h.lt).trans h
theorem pY (hb:Bw w w'):KeepsOthers w w':=KeepsOthers.of_grownBy (row:=none) (aH (aD w none) hb) (fun j o e=>by cases e)
theorem qK {e:Nat} (h:w.ownsRow B e size v n xs) (hb:Bw w w'):w'.ownsRow B e size v n xs:=
 h.kept (aH (aD w none) hb) (by by_cases e:v.ownBlock=none;exact .inl e;exact .inr e)
theorem xH (T E:TypeId) (z:Value) (bytes:Nat) (i0:TypeInfo) (hu:Tryz.prog.underlying T=some (.slice E)) (hi:Tryz.prog.info? E=some i0) (hz0:i0.zero=some z) (hz1:i0.size=1) (hz2:i0.bytes=bytes) (hzc:z.cells.size=1) (hTE:T≠E) (hEQ:E≠105) (hby:bytes≤16)
  {base B n:Nat} {v:Value} {xs:List Value} {w3:World} (hv:Go.Boxed w3 B T v) (hr:w3.ownsRow base E 1 v n xs) (hn:n≤1048576) (hbase:base≤w3.heap.size) (hB:base≤B) (y:Value) (hy:y.oneCell'=true) :
  ∃g cp w4,(Builtin.append_ #[T,T] T #[v,.slice (some ⟨w3.heap.size,0,none⟩) 1 1]).run Tryz.prog (w3.alloc (.cells #[y] E))=.ok (.slice (some ⟨g,0,none⟩) (n+1) cp) w4∧w4.cell? ⟨B,0,none⟩=some v∧w4.frozen? ⟨B,0,none⟩=false
   ∧Hid (Go.Boxed (w4.setCell ⟨B,0,none⟩ (.slice (some ⟨g,0,none⟩) (n+1) cp)) B T (.slice (some ⟨g,0,none⟩) (n+1) cp)∧(w4.setCell ⟨B,0,none⟩ (.slice (some ⟨g,0,none⟩) (n+1) cp)).ownsRow base E 1 (.slice (some ⟨g,0,none⟩) (n+1) cp) (n+1) (xs++[y])
    ∧KeepsOthers w3 (w4.setCell ⟨B,0,none⟩ (.slice (some ⟨g,0,none⟩) (n+1) cp))∧Below base w3 (w4.setCell ⟨B,0,none⟩ (.slice (some ⟨g,0,none⟩) (n+1) cp))∧∀k q,mF w3 k q→mF (w4.setCell ⟨B,0,none⟩ (.slice (some ⟨g,0,none⟩) (n+1) cp)) k q):=by
 have h16:(n+1)*bytes≤140737488355328:=by have:(n+1)*bytes≤1048577*16:=Nat.mul_le_mul (by omega) hby;omega
 obtain ⟨v',w4,gq,Hy,Hw,_⟩:=run_append_own (P:=Tryz.prog) (w3.alloc (.cells #[y] E)) base T T E i0 z 1 bytes hu hi hz0 hz1 hz2 hzc (by decide) v n xs (hr.alloc _) ⟨w3.heap.size,0,none⟩ 1 1 [y] rfl
  (by intro j u hj;match j,hj with | 0,hj=>simp at hj;subst hj;simp [Addr.add]) (by intro u hu;simp at hu;subst hu;exact hy) (by unfold maxLen;omega) h16 (by simp;omega)
 obtain ⟨g,cp,rfl⟩:=ownsRow_succ Hy;obtain ⟨hv1,hv2,hr2,hk2,hb2⟩:=hv.appended hTE hr hbase hB Hy Hw;refine ⟨g,cp,w4,gq,hv1.cell,hv1.frozen,aA ⟨hv2,hr2,hk2,hb2,fun k q hq=>?_⟩⟩;have h1:mF (w3.alloc (.cells #[y] E)) k q:=hq.below (yA (yH _ w3) _);exact aE6 (aHj h1 (hr.alloc _) hEQ Hw) hv1
attribute [local go_sem] Oper.semAt_some
abbrev aKY (st:List Int):List Value:=st.map (Value.int .i64)
def KpC (p:Nat) (W W':World):Prop:=∀k o,k≠p→W.heap[k]? = some o→o.isCells=true→W'.heap[k]? = some o
theorem aJ2 {A B C:World} (h:KpC p A B) (k:KpC p B C):KpC p A C:=fun i o hi ho hc=>k i o hi (h i o hi ho hc) hc
theorem aKu (W:World) (l:Nat) (o o':Obj) (hl:w.heap.size≤l) (h:W.heap[l]? = some o) (h1:o.isCells=false) (h2:o.isWalk=false):KpC p W (W.putObj l o'):=fun k q hk hq hc=>by
 have hne:k≠l:=fun e=>by
  subst e;rw [hq] at h;cases h;rw [h1] at hc;cases hc
 exact ((grownBy_putObj' W l o').block k (lt_of_block hq) (by simp;omega)).trans hq
theorem aG3 {W W':World} (h:Bw W W'):KpC p W W':=fun k o _ ho _=>(h.block k (lt_of_block ho)).trans ho
theorem aG2 (W:World) (j:Nat) (u:Value):KpC p W (W.setCell ⟨p,j,none⟩ u):=fun k o hk ho _=>(heap_setCell_other W ⟨p,j,none⟩ k u hk).trans ho
theorem aI0 (n l Bs:Nat) (J:List (Int×Int)→World→Prop) (W:World) (QH:W.cell? ⟨Bs,0,none⟩=some (.slice none 0 0)) (h0:J [] W) :
  CallsIn Fence.wide n Tryz.prog 193 #[.func (.yield l) #[] #[],.pointer (some ⟨Bs,0,none⟩)] W fun e W'=>(∃v,e=.returned v)∧J [] W':=by
 refine callsIn_of_wp func193 rfl trivial ?_ rfl;simp only [ntmps193,List.size_toArray,List.length_cons,List.length_nil,Nat.reduceAdd,Nat.reduceSub,Array.replicate_succ,Array.replicate_zero,List.push_toArray,List.append_toArray,List.nil_append,List.cons_append]
 gi_wp2
 gi_loopw [3] (fun i wr=>i=.int .i64 (-1)∧J [] wr) (fun _ _=>0)
 case atStart=>exact ⟨by go_num,h0⟩
 case round=>
  obtain ⟨rfl,hJs⟩:=hrel
  gi_wp2
  go_end0
  exact ⟨⟨_,rfl⟩,hJs⟩
theorem aHF (n l Bs p g cap:Nat) (st:List Int) (J Jx:List (Int×Int)→World→Prop)
  (hY:∀pre x W1,J pre W1→pre.length<st.length→YieldAt Fence.wide (n - 1) Tryz.prog l #[.int .i64 x.1,.int .i64 x.2] W1 fun e W'=>
   (e=.returned (.bool true)∧J (pre++[x]) W'∧KpC p W1 W')∨(e=.returned (.bool false)∧Jx (pre++[x]) W'))
  (W:World) (cur:Array Value) (QH:Go.Boxed W Bs 63 (.slice (some ⟨g,0,none⟩) st.length cap)) (hg:W.heap[g]? = some (.cells cur 3 (0,0))) (hcur:∀j (h:j<st.length),cur[j]? = some (.int .i64 st[j])) (hp:Bs≠p) (hpg:g≠p) (hl:st.length≤1048576) (h0:J [] W) :
  CallsIn Fence.wide n Tryz.prog 193 #[.func (.yield l) #[] #[],.pointer (some ⟨Bs,0,none⟩)] W fun e W'=>(∃v,e=.returned v)∧
   ((∃ys:List (Int×Int),Hid (ys.map Prod.snd=st.reverse)∧J ys W')∨(∃pre,Jx pre W')):=by
 have HY:=aA hY;have DV:=aA QH;have HG:=aA hg;have HCU:=aA hcur;have H0:=aA h0;have hc0:=QH.cell;clear hY QH hg hcur h0;refine callsIn_of_wp func193 rfl trivial ?_ rfl;simp only [ntmps193,List.size_toArray,List.length_cons,List.length_nil,Nat.reduceAdd,Nat.reduceSub,Array.replicate_succ,Array.replicate_zero,List.push_toArray,List.append_toArray,List.nil_append,List.cons_append]
 gi_wp2
 clear hc0
 gi_loopw [3] (fun i wr=>∃(k:Nat) (pre:List (Int×Int)),k≤st.length∧i=.int .i64 ((k:Int) - 1)∧Hid (pre.length+k=st.length)∧Hid (pre.map Prod.snd=(st.drop k).reverse)∧Hid (J pre wr)∧Hid (Go.Boxed wr Bs 63 (.slice (some ⟨g,0,none⟩) st.length cap))∧Hid (wr.heap[g]? = some (.cells cur 3 (0,0)))) (fun i _=>(intOf i+1).toNat)
 case atStart=>exact ⟨st.length,[],yJ _,by go_num,aA (by simp),aA (by simp),H0,DV,HG⟩
 case round=>
  obtain ⟨k,pre,hk,rfl,HL,HM,HJ,HB,YB⟩:=hrel;cases k with
  | zero=>
   gi_wp2
   (go_end0);exact ⟨⟨_,rfl⟩,.inl ⟨pre,aA (by rw [uH HM];rfl),uH HJ⟩⟩
  | succ j=>
   (have hj:j<st.length:=by omega);have Gz:wr.cell? ⟨g,j,none⟩=some (.int .i64 st[j]):=by have:=uH HCU j hj;simp [World.cell?,uH YB,this]
   have KL:=(uH HB).cell;obtain ⟨fn,tmps,assign,body,hy,hR⟩:=uH HY pre ((j:Int),st[j]) wr (uH HJ) (by have:=uH HL;omega);have HRR:=aA hR;have XW:=aA (show (pre++[((j:Int),st[j])]).map Prod.snd=(st.drop j).reverse by rw [List.map_append,uH HM,List.drop_eq_getElem_cons hj,List.reverse_cons];rfl);(have hij:((j+1:Nat):Int) - 1=(j:Int):=by omega);obtain ⟨y,Kk⟩:∃y,st[j]=y:=⟨_,rfl⟩;rw [Kk] at Gz hy HRR XW;simp only at hy;rw [hij];(have j0:(0:Int)≤j:=by omega);(have j1:(j:Int)<st.length:=by omega);clear hR Kk hij HM
   gi_wp2
   refine ⟨(by intro e;cases e),?_⟩;refine (uH HRR).mono ?_;rintro e W3 (⟨rfl,hJ3,hk3⟩ | ⟨rfl,ZW⟩)
   ·have HB3:=aA (show Go.Boxed W3 Bs 63 (.slice (some ⟨g,0,none⟩) st.length cap) from hk3 Bs _ hp (uH HB) rfl);have VA:=aA (hk3 g _ hpg (uH YB) rfl);have Yw:=aA hJ3;clear hk3 hJ3 Gz KL hy HRR
    gi_wp2
    go_roundw;(case rel=>exact ⟨j,pre++[((j:Int),y)],by omega,by go_num,aA (by have:=uH HL;simp;omega),XW,Yw,HB3,VA⟩);case measure=>simp [intOf]
   ·gi_wp2
    refine bodyPost_ret (results_none rfl _ _ _) rfl ?_;exact ⟨⟨_,rfl⟩,.inr ⟨_,ZW⟩⟩
theorem aFP (n Bs p base:Nat) (v:Value) (st:List Int) (w:World) (QH:Go.Boxed w Bs 63 v) (Hz:w.ownsRow base 3 1 v st.length (aKY st)) (hp:Bs≠p) (hpv:some p≠v.ownBlock) (hl:st.length≤1048576) :
  SeqStopsK Fence.wide n Tryz.prog 193 #[.pointer (some ⟨Bs,0,none⟩)] (fun x:Int×Int=>#[.int .i64 x.1,.int .i64 x.2]) (KpC p) (fun ys=>Hid (ys.map Prod.snd=st.reverse)) (fun _=>True) st.length w:=by
 intro l J Jx W hW hJ hJx hY h0;have hB:Go.Boxed W Bs 63 v:=dU QH hW;have hr:=qK Hz hW;rcases hr.2 with ⟨rfl,hz⟩ | ⟨g,cap,cur,rfl,_,hgb,hle,_,hsz,hx⟩
 ·have:st=[]:=List.eq_nil_of_length_eq_zero hz;subst this;exact (aI0 n l Bs J W hB.cell h0).mono fun e W' ⟨he,hj⟩=>⟨he,.inl ⟨[],aA rfl,hj⟩⟩
 ·refine (aHF n l Bs p g cap st J Jx hY W cur hB hgb (fun j h=>?_) hp (fun e=>hpv (by simp [Value.ownBlock,e])) hl h0).mono ?_
  ·(have e1:(cur.toList.take (st.length*1))[j]? = some (.int .i64 st[j]):=by rw [hx];simp [h]);rw [List.getElem?_take_of_lt (by omega)] at e1;simpa using e1
  ·rintro e W' ⟨he,⟨ys,h1,h2⟩ | ⟨pre,h2⟩⟩
   ·exact ⟨he,.inl ⟨ys,h1,h2⟩⟩
   ·exact ⟨he,.inr ⟨pre,trivial,h2⟩⟩
theorem aI1 (v:Value) (w:World) (hv:v.oneCell'=true) :
  cP 153 #[v] w fun e w'=>e=.returned (.func (.func 193) #[] #[.pointer (some ⟨w.heap.size,0,none⟩)])∧w.alloc (.cells #[v] 63)=w':=by
 have ZE:∀(fn:Fn) (first cap:Array Value) (w:World),(Instr.makeFunc fn first cap).run Tryz.prog w=.ok (.func fn first cap) w:=fun _ _ _ _=>rfl
 go_enter func153,ntmps153
 go_wp2;go_ret;exact ⟨rfl,rfl⟩
attribute [local go_sem] Oper.semAt_some
theorem uL (ao:Option Addr) (len cap:Nat) (l:List Q) (nm:List UInt8) (w:World) (h:gH w ao len l) (hl:len≤1048576) (hn:∀q ∈ l,q.name.length≤1048576) (hc:len≤cap) :
  cP 26 #[.slice ao len cap,.string (bs nm)] w fun e w'=>∃v,e=.returned v∧bZ w.heap.size w' v (path l nm)∧Bw w w':=by
 obtain ⟨i0,hi,hz0,hz1,hz2⟩:=info_parts Tryz.infoS;have HR:=aA h;have HL:=aA h.1;have CQ:=aA (fC ao len cap l w h hl hn hc);have HN:=aA hn;have HP:=aA (fun ho:aF l=true=>aA4 ho nm);have HZ:=aA (show aF l=false→path l nm=[] by intro e;rw [path,e];rfl);obtain ⟨o,ho⟩:∃o,aF l=o:=⟨_,rfl⟩;rw [ho] at CQ HP HZ;clear ho hn h;have hmx:Tryz.prog.follows .mixedOrders=true:=by kernel_rfl
 refine (callsIn_wide (n:=3)).1 ?_;refine callsIn_of_wp_marks func26 rfl trivial ?_ rfl;simp only [ntmps26,List.size_toArray,List.length_cons,List.length_nil,Nat.reduceAdd,Nat.reduceSub,Array.replicate_succ,Array.replicate_zero,List.push_toArray,List.append_toArray,List.nil_append,List.cons_append]
 gi_wp2_with fail
 refine ⟨trivial,?_⟩;first | refine ⟨(by intro e;cases e),?_⟩ | skip
 refine (callsIn_wide.2 (uH CQ)).mono ?_;rintro e w1 ⟨rfl,hb⟩;have HB1:=aA hb;clear hb CQ;cases o with
 | false=>
  have hz:=uH HZ (by first | rfl | trivial)
  gi_wp2
  exact ⟨_,results_tmp rfl _ _ _,_,rfl,bZ.of (o:=[]) (World.ownsRow_nil _ _ _ _) (by rw [hz];rfl),uH HB1⟩
 | true=>
  have qj:=uH HP (by first | rfl | trivial);have KQ:=aA qj;have DW:=aA (((Go.Boxed.new w1 40 (.slice none 0 0)).alloc (.cells #[.slice ao len cap] 24)).alloc (.cells #[.string (bs nm)] 9));have Kw:(((w1.alloc (.cells #[.slice none 0 0] 40)).alloc (.cells #[.slice ao len cap] 24)).alloc (.cells #[.string (bs nm)] 9)).cell? ⟨w1.heap.size+1,0,none⟩=some (.slice ao len cap):=by have:=((Go.Boxed.new (w1.alloc (.cells #[.slice none 0 0] 40)) 24 (.slice ao len cap)).alloc (.cells #[.string (bs nm)] 9)).cell;simpa using this
  have Ky:(((w1.alloc (.cells #[.slice none 0 0] 40)).alloc (.cells #[.slice ao len cap] 24)).alloc (.cells #[.string (bs nm)] 9)).cell? ⟨w1.heap.size+1+1,0,none⟩=some (.string (bs nm)):=by have:=(Go.Boxed.new ((w1.alloc (.cells #[.slice none 0 0] 40)).alloc (.cells #[.slice ao len cap] 24)) 9 (.string (bs nm))).cell;simpa using this
  have HB0:=aA (yA (yA (yA (uH HB1) (.cells #[.slice none 0 0] 40)) (.cells #[.slice ao len cap] 24)) (.cells #[.string (bs nm)] 9));have HC:=aA (qB (3 - 1) (w1.heap.size+1) (w1.heap.size+1+1) ao len cap l nm w _ (uH HR) (uH HB0) hl hc Kw Ky);clear HP HZ qj Kw Ky
  gi_wp2_with fail
  refine ⟨trivial,?_⟩;first | refine ⟨(by intro e;cases e),?_⟩ | skip
  refine (callsIn_wide.2 (xY ao len cap nm _)).mono ?_;rintro e w2 ⟨rfl,rfl⟩
  gi_wp2
  have hsz:(((w1.alloc (.cells #[.slice none 0 0] 40)).alloc (.cells #[.slice ao len cap] 24)).alloc (.cells #[.string (bs nm)] 9)).heap.size=w1.heap.size+3:=by simp
  obtain ⟨W0,hW0⟩:∃W0,((w1.alloc (.cells #[.slice none 0 0] 40)).alloc (.cells #[.slice ao len cap] 24)).alloc (.cells #[.string (bs nm)] 9)=W0:=⟨_,rfl⟩;rw [hW0] at hsz DW HB0 HC ⊢;have hw1:=(uH HB1).size;clear hW0;refine wpIn_rangeFunc_ownH rfl (by omega) (gf:=147) (lb:=#[.pointer (some ⟨w1.heap.size+1,0,none⟩),.pointer (some ⟨w1.heap.size+1+1,0,none⟩)]) rfl trivial (enters_of func147 (by kernel_rfl) rfl)
   (uH HC) aJ0 (aJ1 (by omega)) (yH _ _) (fun _=>rfl)
   (fun pre W=>(∃v,Go.Boxed W w1.heap.size 40 v∧W.ownsRow w.heap.size 9 1 v pre.length (iP (pre.map (fun q=>bs q.1.name)))∧True)∧Bw w W)
   (fun _ _ _=>False)
   (OwnFrom.and (Own.from (holdsRow_own w.heap.size w1.heap.size 40 9 1 (fun pre:List { q:Q // q ∈ l }=>pre.length) (fun pre:List { q:Q // q ∈ l }=>iP (pre.map (fun q=>bs q.1.name))) (fun _ _=>True)) _) (ownFrom_below (yJ _) (by omega)))
   (fun _ _ _ _ _ hs _ _=>hs)
   ⟨⟨_,uH DW,World.ownsRow_nil _ _ _ _,trivial⟩,uH HB0⟩
   (fun x a' W=>∃Bx,w1.heap.size<Bx∧mF W Bx x.1∧a' = { tmps:=#[.slice ao len cap,.string (bs nm),undef,undef,.slice none 0 0,.pointer (some ⟨w1.heap.size,0,none⟩),.pointer (some ⟨Bx,0,none⟩),.slice ao len cap,.bool true,.bool false,.slice ao len cap,.string (bs nm),.func (.func 147) #[] #[.pointer (some ⟨w1.heap.size+1,0,none⟩),.pointer (some ⟨w1.heap.size+1+1,0,none⟩)],qv x.1,undef,undef,undef,undef,undef,undef,undef],defers:=[] })
   (fun x a' _ X Y row hs hg hr=>by
    obtain ⟨Bx,h1,h2,h3⟩:=hs;refine ⟨Bx,h1,(hg.block Bx h2.lt (fun e=>?_)).trans h2,h3⟩;obtain ⟨_,o,ho,hc⟩:=hr Bx e.symm;rw [show X.heap[Bx]? = _ from h2] at ho;cases ho;cases hc)
   ?assign ?body ?done ?stop
  case assign=>
   rintro lp pre x W K ⟨⟨v,hv,Hz,_⟩,hB⟩ hK
   gi_wp2
   exact hK _ _ ((KeepsOthers.alloc _ _).from _) (aEE hB.size (yA (yH _ W) _)) ⟨⟨v,hv.alloc _,Hz.alloc _,trivial⟩,yA hB _⟩ ⟨W.heap.size,hv.lt,mF.new W x.1,rfl⟩
  case body=>
   rintro lp pre x a' W hlp _ ⟨⟨v,hv,Hz,_⟩,hB⟩ ⟨Bx,hBx,hX,rfl⟩ hlt;have hc0:=hv.cell;have hx0:=hX.c0;(have ZC:(bs x.1.name).size≤281474976710656:=by rw [cK];have:=uH HN x.1 x.2;omega);(have hpl:pre.length≤1048576:=by have:=uH HL;omega);have HV:=aA hv;have HX:=aA hX;have HRW:=aA Hz;have HB:=aA hB;clear hv hX Hz hB
   gi_wp2_with fail
   gi_region_with_o (first | (refine ⟨trivial,?_⟩;gi_at_call 87;refine (CallsIn.inRound lp (callsIn_wide.2 (iW _ _ ZC))).mono ?_;rintro e w3 ⟨rfl,hb3⟩;have HW3:=aA (yB (yH _ W).drew hb3);have hc3:=(dU (uH HV) (uH HW3)).cell;have Mk:=((dU (uH HV) (uH HW3)).alloc (.cells #[.string (bs x.1.name)] 9)).cell;obtain ⟨g,cp,w4,gq,hc4,hf4,QW⟩:=xH 40 9 (.string .empty) 16 i0 underlying40 hi hz0 hz1 hz2 rfl (by decide) (by decide) (by omega) (dU (uH HV) (uH HW3)) (qK (uH HRW) (uH HW3)) hpl (Nat.le_trans (uH HB).size (uH HW3).size) (uH HB1).size (.string (bs x.1.name)) rfl;clear hb3;simp [go_sem] at gq))
   (all_goals gi_wp2);all_goals obtain ⟨f1,f2,f3,f4,f5⟩:=uH QW;exact ⟨((pY (uH HW3)).trans f3).from _,⟨((uH HW3).mono (uH HB).size).trans f4,fun k q hq=>f5 k q (hq.below (uH HW3))⟩,⟨⟨_,f1,by simpa using f2,trivial⟩,((uH HB).trans ((uH HW3).mono (uH HB).size)).trans f4⟩⟩
  case done=>
   rintro D ys W hD hys ⟨⟨v,hv,Hz,_⟩,hB⟩ hK;have hc:=hv.cell
   gi_wp2
   refine ⟨by simp,.inl ⟨_,_,rfl,run_takeDeferred hK,?_⟩⟩;exact ⟨_,results_tmp rfl _ _ _,v,rfl,bZ.of (o:=ys.map (fun q=>bs q.1.name)) (by have:=ownsRow_putObj Hz (.deferred none) hK rfl;simpa using this) (by rw [←uH KQ,←hys];simp),hB.trans (belowK_b (w:=w) (yJ _) W D _ _ (by omega) hK rfl rfl)⟩
  case stop=>rintro D c pre W _ _ h _;exact h.elim
end
end Go.Proofs.YtfndhndlkcijoaaGreat
