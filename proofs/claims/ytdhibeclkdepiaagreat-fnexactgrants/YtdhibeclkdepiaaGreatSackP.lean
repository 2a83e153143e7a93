/-
  Texts in one: AboveI, GatherI, BackI, RoomM, HmI, MarkO, MarkV, Hav, CpC, RmL, CopyN, TakC, TakP, AppR, RowE, InsC, GrK, UsedByS.
-/
import Derived.Test.YtdhibeclkdepiaaGreatSackN
import Derived.Maps.AppendAt
import Derived.Test.YtdhibeclkdepiaaGreatSackM
import Derived.Laws.CopyOwn
import Derived.Deep.RegionLaw
import Derived.Deep.AppendLies
import Derived.OneCell
import Derived.ArgAppend
import Derived.Lib.Overlaps
import Derived.Lib.AppendZerosOnto
import Derived.Lib.JoinLaws
import Derived.Deep.AppendSrc
import Derived.Deep.DeepAppendWide
import Derived.Laws.Externs
set_option maxRecDepth 100000
set_option maxHeartbeats 16000000
set_option linter.unusedVariables false
set_option linter.unusedSimpArgs false
namespace Go.Proofs.YtdhibeclkdepiaaGreat
section
open Go.RowKit Go.Shelf
attribute [local go_sem] Oper.semAt_some
def KpQ (n:Nat) (W W':World):Prop:=Below n W W'∧∀k q,mF W k q→mF W' k q
theorem aKY {n:Nat} {A B C:World} (h:KpQ n A B) (k:KpQ n B C):KpQ n A C:=⟨h.1.trans k.1,fun i q hq=>k.2 i q (h.2 i q hq)⟩
theorem aKZ {n:Nat} {w:World} (hn:n≤w.heap.size) (W:World) (l:Nat) (o o':Obj) (hl:w.heap.size≤l) (h:W.heap[l]? = some o) (h1:o.isCells=false) (h2:o.isWalk=false):KpQ n W (W.putObj l o'):=by
 refine ⟨belowK_b hn W l o o' hl h h1 h2,fun k q hq=>?_⟩
 have hne:k≠l:=fun e=>by
  subst e
  rw [show W.heap[k]? = _ from hq] at h
  cases h
  cases h1
 exact ((grownBy_putObj' W l o').block k hq.lt (by simp;omega)).trans hq
theorem aFD {n:Nat} {W W':World} (hn:n≤W.heap.size) (h:Below W.heap.size W W'):KpQ n W W':=⟨h.mono hn,fun k q hq=>hq.below h⟩
def aEj:Value→Nat
 | .slice _ n _=>n
 | _=>0
theorem aKj {J:List Q→World→Prop} {B:Nat} (hJ:AbidesFrom B J) {pre:List Q} {W W':World} (h:J pre W) (hb:Below W.heap.size W W'):J pre W':=
 hJ pre W W' none h (aG (aC W none) hb) (fun r e=>by cases e)
theorem aI4 (n l Bq Bn:Nat) (ao:Option Addr) (len cap:Nat) (ls:List Q) (nm:List UInt8) (w0 W:World) (J Jx:List Q→World→Prop) (hJ:AbidesFrom W.heap.size J)
  (hY:∀pre x W1,x ∈ ls→J pre W1→pre.length<ls.length→YieldAt Fence.wide (n - 1) Tryz.prog l #[qv x] W1 fun e W'=>
   (e=.returned (.bool true)∧J (pre++[x]) W'∧KpQ w0.heap.size W1 W')∨(e=.returned (.bool false)∧Jx (pre++[x]) W'))
  (hq:W.cell? ⟨Bq,0,none⟩=some (.slice ao len cap)) (hnm:W.cell? ⟨Bn,0,none⟩=some (.string (bs nm))) (h:iG w0 ao len ls) (hb:Below w0.heap.size w0 W) (hl:len≤1048576) (hc:len≤cap) (h0:J [] W) :
  CallsIn Fence.wide n Tryz.prog 206 #[.func (.yield l) #[] #[],.pointer (some ⟨Bq,0,none⟩),.pointer (some ⟨Bn,0,none⟩)] W fun e W'=>(∃v,e=.returned v)∧
   ((∃ys,ys=ups ls nm∧J ys W')∨(∃pre,pre <+: ups ls nm∧Jx pre W')):=by
 have HR:=aA h
 have HL:=aA h.1
 have HB:=aA hb
 have HJ:=aA hJ
 have HY:=aA hY
 have H0:=aA h0
 have CP:=aA (fun wx (hb:Below w0.heap.size w0 wx) (k:Nat) (hk:k≤len) (x:List UInt8)=>qK ao k cap (ls.take k) x wx ((h.below hb).take hk) (by omega))
 obtain ⟨p0,hp0⟩:∃p,place (ls.take len) nm=p:=⟨_,rfl⟩
 have CP0:=aA (by have:=uH CP W.drew hb.drew len (yJ _) nm;rw [hp0] at this;exact this)
 have HU0:=aA (show ups ls nm=[]++ups (ls.take len) nm by rw [show ls.take len=ls by rw [h.1];exact List.take_length];rfl)
 have HP0:=aA hp0
 have HN:=aA (aAs (ls.length+1) ls nm)
 clear h hb hJ hY h0 hp0
 have hmx:Tryz.prog.follows .mixedOrders=true:=by kernel_rfl
 refine callsIn_of_wp Tryz.func206 rfl trivial ?_ rfl
 simp only [Tryz.ntmps206,List.size_toArray,List.length_cons,List.length_nil,Nat.reduceAdd,Nat.reduceSub,Array.replicate_succ,Array.replicate_zero,List.push_toArray,List.append_toArray,List.nil_append,List.cons_append]
 gi_wp2_with fail
 gi_region_o
 gi_wp2_with fail
 refine ⟨trivial,(by intro e;cases e),?_⟩
 refine (callsIn_wide.2 (uH CP0)).mono ?_
 rintro e w1 ⟨rfl,hb⟩
 have HB1:=aA (yB (uH HB).drew hb)
 have H1:=aA (aKj (uH HJ) (uH H0) (yB (yH _ W).drew hb))
 clear hb HB H0 CP0 hq hnm
 gi_wp2
 gi_loopw [4,5,6,7] (fun a s i _ wr=>∃(k:Nat) (x:List UInt8) (pre:List Q) (p:Int),k≤len∧a=.slice ao k cap∧s=.string (bs x)∧i=.int .i64 p∧Hid (place (ls.take k) x=p)∧Hid (ups ls nm=pre++ups (ls.take k) x)∧Hid (J pre wr)∧Hid (Below w0.heap.size w0 wr)) (fun a _ _ _ _=>aEj a)
 case atStart=>exact ⟨len,nm,[],p0,yJ _,rfl,rfl,rfl,HP0,HU0,H1,HB1⟩
 case round=>
  obtain ⟨k,x,pre,p,hk,rfl,rfl,rfl,HP,HU,HJ1,HBr⟩:=hrel
  clear HB1 H1 HP0 HU0
  by_cases h0:0≤p
  ·obtain ⟨j,rfl⟩:∃j:Nat,p=j:=⟨p.toNat,by omega⟩
   have hjk:j<k:=by have:=eG (ls.take k) x;rw [uH HP] at this;simp at this;omega
   have hjl:j<(ls.take k).length:=by simp;have:=uH HL;omega
   have hst:=aIn hjl (uH HP)
   obtain ⟨b,off,rfl,hq⟩:=(((uH HR).below (uH HBr)).take hk).at hjk
   obtain ⟨c0,c1,c2,c3⟩:=hq hjl
   rw [List.take_take,show min j k=j by omega] at hst
   obtain ⟨⟨qn,pa,du,mo⟩,hs⟩:∃s,(ls.take k)[j]=s:=⟨_,rfl⟩
   have hin:(⟨qn,pa,du,mo⟩:Q) ∈ ls:=by rw [←hs];exact List.mem_of_mem_take (yM _)
   rw [hs] at c0 c1 c2 c3 hst
   simp only at c0 c1 c2 c3 hst
   have HA:=aA (mF.new wr ⟨qn,pa,du,mo⟩)
   have HB2:=aA (yA (uH HBr) (aGi ⟨qn,pa,du,mo⟩))
   have hlt:pre.length<ls.length:=by
    have e:=congrArg List.length (uH HU)
    rw [hst] at e
    have:=uH HN
    rw [show gN (ls.length+1) ls nm=ups ls nm from rfl,e] at this
    simp at this
    omega
   obtain ⟨fn,tmps,assign,body,hy,hR⟩:=uH HY pre ⟨qn,pa,du,mo⟩ _ hin (aKj (uH HJ) (uH HJ1) (yA (yH _ wr) (aGi ⟨qn,pa,du,mo⟩))) hlt
   have HRR:=aA hR
   have HST:=aA hst
   have k0:=(uH HA).c0
   have k1:=(uH HA).c1
   have k2:=(uH HA).c2
   have k3:=(uH HA).c3
   simp only at k0 k1 k2 k3
   clear hq hR hst hs hjl hlt hin
   gi_wp2
   refine ⟨(by intro e;cases e),?_⟩
   refine (uH HRR).mono ?_
   rintro e W3 (⟨rfl,hJ3,hk3⟩ | ⟨rfl,hJx3⟩)
   ·have HA3:=aA (hk3.2 _ _ (uH HA))
    have HB3:=aA ((uH HB2).trans hk3.1)
    have HJ3:=aA hJ3
    clear k0 k1 k2 k3 hJ3 hk3 hy HRR c0 c1 c2 c3
    have k1:=(uH HA3).c1
    simp only at k1
    have hcut:=aLS b off k cap j (by omega)
    have hjc:(j:Int)≤cap:=by omega
    obtain ⟨p',hp'⟩:∃p,place (ls.take j) pa=p:=⟨_,rfl⟩
    have CPj:=aA (by have:=uH CP W3.drew (uH HB3).drew j (by omega) pa;rw [hp'] at this;exact this)
    have HP':=aA hp'
    clear hp'
    gi_wp2_with fail
    gi_region_o
    gi_wp2_with fail
    refine ⟨trivial,(by intro e;cases e),?_⟩
    refine (callsIn_wide.2 (uH CPj)).mono ?_
    rintro e w4 ⟨rfl,hb⟩
    have HB4:=aA (yB (uH HB3).drew hb)
    have HJ4:=aA (aKj (uH HJ) (uH HJ3) (yB (yH _ W3).drew hb))
    clear hb CPj k1
    gi_wp2
    go_roundw
    case rel=>exact ⟨j,pa,pre++[⟨qn,pa,du,mo⟩],p',by omega,rfl,rfl,rfl,HP',aA (by rw [uH HU,uH HST];simp),HJ4,HB4⟩
    case measure=>simp [aEj];omega
   ·gi_wp2
    refine bodyPost_ret (results_none rfl _ _ _) rfl ?_
    exact ⟨⟨_,rfl⟩,.inr ⟨pre++[⟨qn,pa,du,mo⟩],⟨ups (ls.take j) pa,by rw [uH HU,uH HST];simp⟩,hJx3⟩⟩
  ·gi_wp2
   go_end0
   have he:pre=ups ls nm:=by rw [uH HU,aIp (by rw [uH HP];omega)];simp
   subst he
   exact ⟨⟨_,rfl⟩,.inl (by first | exact uH HJ1 | exact ⟨_,rfl,uH HJ1⟩)⟩
theorem yT (ao:Option Addr) (len cap:Nat) (nm:List UInt8) (w:World) :
  Calls Tryz.prog 194 #[.slice ao len cap,.string (bs nm)] w fun e w'=>e=.returned (.func (.func 206) #[] #[.pointer (some ⟨w.heap.size,0,none⟩),.pointer (some ⟨w.heap.size+1,0,none⟩)])∧(w.alloc (.cells #[.slice ao len cap] 29)).alloc (.cells #[.string (bs nm)] 9)=w':=by
 have hmf:∀(fn:Fn) (first cap:Array Value) (w:World),(Instr.makeFunc fn first cap).run Tryz.prog w=.ok (.func fn first cap) w:=fun _ _ _ _=>rfl
 go_enter Tryz.func194,Tryz.ntmps194
 go_wp2
 go_ret
 exact ⟨rfl,rfl⟩
theorem pR (n Bq Bn:Nat) (ao:Option Addr) (len cap:Nat) (ls:List Q) (nm:List UInt8) (w0 w:World) (h:iG w0 ao len ls) (hb:Below w0.heap.size w0 w) (hl:len≤1048576) (hc:len≤cap)
  (hq:w.cell? ⟨Bq,0,none⟩=some (.slice ao len cap)) (hn:w.cell? ⟨Bn,0,none⟩=some (.string (bs nm))) :
  SeqStopsK Fence.wide n Tryz.prog 206 #[.pointer (some ⟨Bq,0,none⟩),.pointer (some ⟨Bn,0,none⟩)] (fun x : { q:Q // q ∈ ls }=>#[qv x.1]) (KpQ w0.heap.size) (fun ys=>ys.map Subtype.val=ups ls nm) (fun pre=>pre.map Subtype.val <+: ups ls nm) ls.length w:=by
 intro l J Jx W hW hJ hJx hY h0
 refine (aI4 n l Bq Bn ao len cap ls nm w0 W (fun pre W=>∃p:List { q:Q // q ∈ ls },p.map Subtype.val=pre∧J p W) (fun pre W=>∃p:List { q:Q // q ∈ ls },p.map Subtype.val=pre∧Jx p W)
  (fun s A B row hs hg hr=>by obtain ⟨p,e,hj⟩:=hs;exact ⟨p,e,hJ p A B row hj hg hr⟩) ?_ ((hW.cell (p:=⟨Bq,0,none⟩) (yG hq)).trans hq) ((hW.cell (p:=⟨Bn,0,none⟩) (yG hn)).trans hn) h (yB hb hW) hl hc ⟨[],rfl,h0⟩).mono ?_
 ·rintro pre x W1 hx ⟨p,rfl,hj⟩ hlt
  obtain ⟨fn,tmps,assign,body,hy,hR⟩:=hY p ⟨x,hx⟩ W1 hj (by simpa using hlt)
  refine ⟨fn,tmps,assign,body,hy,hR.mono ?_⟩
  rintro e W' (⟨rfl,hj',hk⟩ | ⟨rfl,hj'⟩)
  ·exact .inl ⟨rfl,⟨p++[⟨x,hx⟩],by simp,hj'⟩,hk⟩
  ·exact .inr ⟨rfl,⟨p++[⟨x,hx⟩],by simp,hj'⟩⟩
 ·rintro e W' ⟨hv,⟨ys,hy,p,hp,hj⟩ | ⟨pre,hpre,p,hp,hj⟩⟩
  ·exact ⟨hv,.inl ⟨p,hp.trans hy,hj⟩⟩
  ·exact ⟨hv,.inr ⟨p,(show p.map Subtype.val <+: ups ls nm by rw [hp];exact hpre),hj⟩⟩
theorem aIv {w w1:World} {k:Nat} {q:Q} (h:mF w k q) {base size n e:Nat} {v:Value} {xs:List Value} (hr:w.ownsRow base e size v n xs) (he:e≠100) (hg:w.grownBy w1 v.ownBlock):mF w1 k q:=by
 refine (hg.block k h.lt ?_).trans h
 rcases hr.2 with ⟨rfl,_⟩ | ⟨g,cap,cur,rfl,_,hgb,_⟩
 ·simp [Value.ownBlock]
 ·intro e'
  obtain rfl:k=g:=by simpa [Value.ownBlock] using e'
  have:=(show w.heap[k]? = _ from h).symm.trans hgb
  simp [aGi] at this
  exact he this.2.symm
theorem aFg {w:World} {k B t:Nat} {q:Q} {v u:Value} (h:mF w k q) (hv:Go.Boxed w B t v):mF (w.setCell ⟨B,0,none⟩ u) k q:=by
 refine ((grownBy_setCell' w B u).block k h.lt ?_).trans h
 intro e'
 obtain rfl:k=B:=by simpa using e'
 have:=(show w.heap[k]? = _ from h).symm.trans hv
 simp [aGi] at this
theorem dN {w w':World} {B t:Nat} {v:Value} (h:Go.Boxed w B t v) (hb:Below w.heap.size w w'):Go.Boxed w' B t v:=(hb.block B h.lt).trans h
theorem mQ {w w':World} (hb:Below w.heap.size w w'):KeepsOthers w w':=KeepsOthers.of_grownBy (row:=none) (aG (aC w none) hb) (fun j o e=>by cases e)
theorem nM {w w':World} {B e size n:Nat} {v:Value} {xs:List Value} (h:w.ownsRow B e size v n xs) (hb:Below w.heap.size w w'):w'.ownsRow B e size v n xs:=
 h.kept (aG (aC w none) hb) (by by_cases e:v.ownBlock=none;exact .inl e;exact .inr e)
theorem xM (T E:TypeId) (z:Value) (bytes:Nat) (i0:TypeInfo) (hu:Tryz.prog.underlying T=some (.slice E)) (hi:Tryz.prog.info? E=some i0) (hz0:i0.zero=some z) (hz1:i0.size=1) (hz2:i0.bytes=bytes) (hzc:z.cells.size=1) (hTE:T≠E) (hEQ:E≠100) (hby:bytes≤16)
  {base B n:Nat} {v:Value} {xs:List Value} {w3:World} (hv:Go.Boxed w3 B T v) (hr:w3.ownsRow base E 1 v n xs) (hn:n≤1048576) (hbase:base≤w3.heap.size) (hB:base≤B) (y:Value) (hy:y.oneCell'=true) :
  ∃g cp w4,(Builtin.append_ #[T,T] T #[v,.slice (some ⟨w3.heap.size,0,none⟩) 1 1]).run Tryz.prog (w3.alloc (.cells #[y] E))=.ok (.slice (some ⟨g,0,none⟩) (n+1) cp) w4∧w4.cell? ⟨B,0,none⟩=some v∧w4.frozen? ⟨B,0,none⟩=false
   ∧Hid (Go.Boxed (w4.setCell ⟨B,0,none⟩ (.slice (some ⟨g,0,none⟩) (n+1) cp)) B T (.slice (some ⟨g,0,none⟩) (n+1) cp)∧(w4.setCell ⟨B,0,none⟩ (.slice (some ⟨g,0,none⟩) (n+1) cp)).ownsRow base E 1 (.slice (some ⟨g,0,none⟩) (n+1) cp) (n+1) (xs++[y])
    ∧KeepsOthers w3 (w4.setCell ⟨B,0,none⟩ (.slice (some ⟨g,0,none⟩) (n+1) cp))∧Below base w3 (w4.setCell ⟨B,0,none⟩ (.slice (some ⟨g,0,none⟩) (n+1) cp))∧∀k q,mF w3 k q→mF (w4.setCell ⟨B,0,none⟩ (.slice (some ⟨g,0,none⟩) (n+1) cp)) k q):=by
 have h16:(n+1)*bytes≤140737488355328:=by
  have:(n+1)*bytes≤1048577*16:=Nat.mul_le_mul (by omega) hby
  omega
 obtain ⟨v',w4,hrun,hown',hgrow,_⟩:=run_append_own (P:=Tryz.prog) (w3.alloc (.cells #[y] E)) base T T E i0 z 1 bytes hu hi hz0 hz1 hz2 hzc (by decide) v n xs (hr.alloc _) ⟨w3.heap.size,0,none⟩ 1 1 [y] rfl
  (by intro j u hj;match j,hj with | 0,hj=>simp at hj;subst hj;simp [Addr.add]) (by intro u hu;simp at hu;subst hu;exact hy) (by unfold maxLen;omega) h16 (by simp;omega)
 obtain ⟨g,cp,rfl⟩:=ownsRow_succ hown'
 obtain ⟨hv1,hv2,hr2,hk2,hb2⟩:=hv.appended hTE hr hbase hB hown' hgrow
 refine ⟨g,cp,w4,hrun,hv1.cell,hv1.frozen,aA ⟨hv2,hr2,hk2,hb2,fun k q hq=>?_⟩⟩
 have h1:mF (w3.alloc (.cells #[y] E)) k q:=hq.below (yA (yH _ w3) _)
 exact aFg (aIv h1 (hr.alloc _) hEQ hgrow) hv1
attribute [local go_sem] Oper.semAt_some
abbrev aLP (st:List Int):List Value:=st.map (Value.int .i64)
def KpC (p:Nat) (W W':World):Prop:=∀k o,k≠p→W.heap[k]? = some o→o.isCells=true→W'.heap[k]? = some o
theorem aGL {p:Nat} {A B C:World} (h:KpC p A B) (k:KpC p B C):KpC p A C:=fun i o hi ho hc=>k i o hi (h i o hi ho hc) hc
theorem aLM {p:Nat} {w:World} (W:World) (l:Nat) (o o':Obj) (hl:w.heap.size≤l) (h:W.heap[l]? = some o) (h1:o.isCells=false) (h2:o.isWalk=false):KpC p W (W.putObj l o'):=fun k q hk hq hc=>by
 have hne:k≠l:=fun e=>by
  subst e
  rw [hq] at h
  cases h
  rw [h1] at hc
  cases hc
 exact ((grownBy_putObj' W l o').block k (lt_of_block hq) (by simp;omega)).trans hq
theorem aCj {p:Nat} {W W':World} (h:Below W.heap.size W W'):KpC p W W':=fun k o _ ho _=>(h.block k (lt_of_block ho)).trans ho
theorem aBV {p:Nat} (W:World) (j:Nat) (u:Value):KpC p W (W.setCell ⟨p,j,none⟩ u):=fun k o hk ho _=>(heap_setCell_other W ⟨p,j,none⟩ k u hk).trans ho
theorem aJ8 (n l Bs:Nat) (J:List (Int×Int)→World→Prop) (W:World) (hBs:W.cell? ⟨Bs,0,none⟩=some (.slice none 0 0)) (h0:J [] W) :
  CallsIn Fence.wide n Tryz.prog 211 #[.func (.yield l) #[] #[],.pointer (some ⟨Bs,0,none⟩)] W fun e W'=>(∃v,e=.returned v)∧J [] W':=by
 refine callsIn_of_wp Tryz.func211 rfl trivial ?_ rfl
 simp only [Tryz.ntmps211,List.size_toArray,List.length_cons,List.length_nil,Nat.reduceAdd,Nat.reduceSub,Array.replicate_succ,Array.replicate_zero,List.push_toArray,List.append_toArray,List.nil_append,List.cons_append]
 gi_wp2
 gi_loopw [3] (fun i wr=>i=.int .i64 (-1)∧J [] wr) (fun _ _=>0)
 case atStart=>exact ⟨by go_num,h0⟩
 case round=>
  obtain ⟨rfl,hJs⟩:=hrel
  gi_wp2
  go_end0
  exact ⟨⟨_,rfl⟩,hJs⟩
theorem aIT (n l Bs p g cap:Nat) (st:List Int) (J Jx:List (Int×Int)→World→Prop)
  (hY:∀pre x W1,J pre W1→pre.length<st.length→YieldAt Fence.wide (n - 1) Tryz.prog l #[.int .i64 x.1,.int .i64 x.2] W1 fun e W'=>
   (e=.returned (.bool true)∧J (pre++[x]) W'∧KpC p W1 W')∨(e=.returned (.bool false)∧Jx (pre++[x]) W'))
  (W:World) (cur:Array Value) (hBs:Go.Boxed W Bs 246 (.slice (some ⟨g,0,none⟩) st.length cap)) (hg:W.heap[g]? = some (.cells cur 3 (0,0))) (hcur:∀j (h:j<st.length),cur[j]? = some (.int .i64 st[j])) (hp:Bs≠p) (hpg:g≠p) (hl:st.length≤1048576) (h0:J [] W) :
  CallsIn Fence.wide n Tryz.prog 211 #[.func (.yield l) #[] #[],.pointer (some ⟨Bs,0,none⟩)] W fun e W'=>(∃v,e=.returned v)∧
   ((∃ys:List (Int×Int),Hid (ys.map Prod.snd=st.reverse)∧J ys W')∨(∃pre,Jx pre W')):=by
 have HY:=aA hY
 have HBs:=aA hBs
 have HG:=aA hg
 have HCU:=aA hcur
 have H0:=aA h0
 have hc0:=hBs.cell
 clear hY hBs hg hcur h0
 refine callsIn_of_wp Tryz.func211 rfl trivial ?_ rfl
 simp only [Tryz.ntmps211,List.size_toArray,List.length_cons,List.length_nil,Nat.reduceAdd,Nat.reduceSub,Array.replicate_succ,Array.replicate_zero,List.push_toArray,List.append_toArray,List.nil_append,List.cons_append]
 gi_wp2
 clear hc0
 gi_loopw [3] (fun i wr=>∃(k:Nat) (pre:List (Int×Int)),k≤st.length∧i=.int .i64 ((k:Int) - 1)∧Hid (pre.length+k=st.length)∧Hid (pre.map Prod.snd=(st.drop k).reverse)∧Hid (J pre wr)∧Hid (Go.Boxed wr Bs 246 (.slice (some ⟨g,0,none⟩) st.length cap))∧Hid (wr.heap[g]? = some (.cells cur 3 (0,0)))) (fun i _=>(intOf i+1).toNat)
 case atStart=>exact ⟨st.length,[],yJ _,by go_num,aA (by simp),aA (by simp),H0,HBs,HG⟩
 case round=>
  obtain ⟨k,pre,hk,rfl,HL,HM,HJ,HB,HGr⟩:=hrel
  cases k with
  | zero=>
   gi_wp2
   go_end0
   exact ⟨⟨_,rfl⟩,.inl ⟨pre,aA (by rw [uH HM];rfl),uH HJ⟩⟩
  | succ j=>
   have hj:j<st.length:=by omega
   have hcell:wr.cell? ⟨g,j,none⟩=some (.int .i64 st[j]):=by
    have:=uH HCU j hj
    simp [World.cell?,uH HGr,this]
   have hbox:=(uH HB).cell
   obtain ⟨fn,tmps,assign,body,hy,hR⟩:=uH HY pre ((j:Int),st[j]) wr (uH HJ) (by have:=uH HL;omega)
   have HRR:=aA hR
   have HM2:=aA (show (pre++[((j:Int),st[j])]).map Prod.snd=(st.drop j).reverse by rw [List.map_append,uH HM,List.drop_eq_getElem_cons hj,List.reverse_cons];rfl)
   have hij:((j+1:Nat):Int) - 1=(j:Int):=by omega
   obtain ⟨y,hyy⟩:∃y,st[j]=y:=⟨_,rfl⟩
   rw [hyy] at hcell hy HRR HM2
   simp only at hy
   rw [hij]
   have j0:(0:Int)≤j:=by omega
   have j1:(j:Int)<st.length:=by omega
   clear hR hyy hij HM
   gi_wp2
   refine ⟨(by intro e;cases e),?_⟩
   refine (uH HRR).mono ?_
   rintro e W3 (⟨rfl,hJ3,hk3⟩ | ⟨rfl,hJx3⟩)
   ·have HB3:=aA (show Go.Boxed W3 Bs 246 (.slice (some ⟨g,0,none⟩) st.length cap) from hk3 Bs _ hp (uH HB) rfl)
    have HG3:=aA (hk3 g _ hpg (uH HGr) rfl)
    have HJ3:=aA hJ3
    clear hk3 hJ3 hcell hbox hy HRR
    gi_wp2
    go_roundw
    case rel=>exact ⟨j,pre++[((j:Int),y)],by omega,by go_num,aA (by have:=uH HL;simp;omega),HM2,HJ3,HB3,HG3⟩
    case measure=>simp [intOf]
   ·gi_wp2
    refine bodyPost_ret (results_none rfl _ _ _) rfl ?_
    exact ⟨⟨_,rfl⟩,.inr ⟨_,hJx3⟩⟩
theorem aAk (n Bs p base:Nat) (v:Value) (st:List Int) (w:World) (hBs:Go.Boxed w Bs 246 v) (hrow:w.ownsRow base 3 1 v st.length (aLP st)) (hp:Bs≠p) (hpv:some p≠v.ownBlock) (hl:st.length≤1048576) :
  SeqStopsK Fence.wide n Tryz.prog 211 #[.pointer (some ⟨Bs,0,none⟩)] (fun x:Int×Int=>#[.int .i64 x.1,.int .i64 x.2]) (KpC p) (fun ys=>Hid (ys.map Prod.snd=st.reverse)) (fun _=>True) st.length w:=by
 intro l J Jx W hW hJ hJx hY h0
 have hB:Go.Boxed W Bs 246 v:=dN hBs hW
 have hr:=nM hrow hW
 rcases hr.2 with ⟨rfl,hz⟩ | ⟨g,cap,cur,rfl,_,hgb,hle,_,hsz,hx⟩
 ·have:st=[]:=List.eq_nil_of_length_eq_zero hz
  subst this
  exact (aJ8 n l Bs J W hB.cell h0).mono fun e W' ⟨he,hj⟩=>⟨he,.inl ⟨[],aA rfl,hj⟩⟩
 ·refine (aIT n l Bs p g cap st J Jx hY W cur hB hgb (fun j h=>?_) hp (fun e=>hpv (by simp [Value.ownBlock,e])) hl h0).mono ?_
  ·have e1:(cur.toList.take (st.length*1))[j]? = some (.int .i64 st[j]):=by rw [hx];simp [h]
   rw [List.getElem?_take_of_lt (by omega)] at e1
   simpa using e1
  ·rintro e W' ⟨he,⟨ys,h1,h2⟩ | ⟨pre,h2⟩⟩
   ·exact ⟨he,.inl ⟨ys,h1,h2⟩⟩
   ·exact ⟨he,.inr ⟨pre,trivial,h2⟩⟩
theorem aFP (v:Value) (w:World) (hv:v.oneCell'=true) :
  Calls Tryz.prog 207 #[v] w fun e w'=>e=.returned (.func (.func 211) #[] #[.pointer (some ⟨w.heap.size,0,none⟩)])∧w.alloc (.cells #[v] 246)=w':=by
 have hmf:∀(fn:Fn) (first cap:Array Value) (w:World),(Instr.makeFunc fn first cap).run Tryz.prog w=.ok (.func fn first cap) w:=fun _ _ _ _=>rfl
 go_enter Tryz.func207,Tryz.ntmps207
 go_wp2
 go_ret
 exact ⟨rfl,rfl⟩
end
section
open Go.RowKit
def iZ (s:St) (x:List UInt8):Int×Int:=ofR s.qs x (dY s).1 (dY s).2 true
def qJ (s:St) (rx ry:Int) (x:List UInt8):Bool:=
 aI 1 (aN s x).1 (aN s x).2 rx ry&&within ((aN s x).1+1*rx) ((aN s x).2+1*ry) (iZ s x).1 (iZ s x).2
def aDf (s:St) (nm:List UInt8) (rx ry:Int):Bool:=decide (0<(path s.qs nm).length)&&(path s.qs nm).all (qJ s rx ry)
def bH (s:St):List (List UInt8)→Int→Int→Int×Int×Bool
 | [],a,b=>(a,b,true)
 | x::t,a,b=>if aI (-1) (iZ s x).1 (iZ s x).2 (aN s x).1 (aN s x).2=true then bH s t (min a ((iZ s x).1 + -1*(aN s x).1)) (min b ((iZ s x).2 + -1*(aN s x).2)) else (0,0,false)
theorem aBT {s:St} {l:List (List UInt8)} {k:Nat} (h:k<l.length) (a b:Int):bH s (l.drop k) a b=if aI (-1) (iZ s l[k]).1 (iZ s l[k]).2 (aN s l[k]).1 (aN s l[k]).2=true then bH s (l.drop (k+1)) (min a ((iZ s l[k]).1 + -1*(aN s l[k]).1)) (min b ((iZ s l[k]).2 + -1*(aN s l[k]).2)) else (0,0,false):=by
 rw [List.drop_eq_getElem_cons h,bH]
theorem aCe {s:St} {l:List (List UInt8)} {k:Nat} (h:l.length≤k) (a b:Int):bH s (l.drop k) a b=(a,b,true):=by
 rw [List.drop_of_length_le h];rfl
theorem aIs (m1 m2 u1 u2 rx ry:Int) (hr:aL rx ry=true) (hb:aI (-1) m1 m2 u1 u2=true):(aI 1 u1 u2 rx ry&&within (u1+1*rx) (u2+1*ry) m1 m2)=(decide (rx≤m1 + -1*u1)&&decide (ry≤m2 + -1*u2)):=by
 rw [Bool.eq_iff_iff]
 simp only [aI,within,aL,inB,yK,yL] at hr hb ⊢
 omega
theorem aKD (m1 m2 u1 u2 rx ry:Int) (hr:aL rx ry=true) (hb:aI (-1) m1 m2 u1 u2=false):(aI 1 u1 u2 rx ry&&within (u1+1*rx) (u2+1*ry) m1 m2)=false:=by
 rw [Bool.eq_false_iff] at hb ⊢
 intro h
 apply hb
 simp only [aI,within,aL,inB,yK,yL] at hr h ⊢
 omega
theorem aFe {s:St} {rx ry:Int} {x:List UInt8} (hr:aL rx ry=true) (hb:aI (-1) (iZ s x).1 (iZ s x).2 (aN s x).1 (aN s x).2=true):qJ s rx ry x=(decide (rx≤(iZ s x).1 + -1*(aN s x).1)&&decide (ry≤(iZ s x).2 + -1*(aN s x).2)):=aIs _ _ _ _ _ _ hr hb
theorem aHK {s:St} {rx ry:Int} {x:List UInt8} (hr:aL rx ry=true) (hb:aI (-1) (iZ s x).1 (iZ s x).2 (aN s x).1 (aN s x).2=false):qJ s rx ry x=false:=aKD _ _ _ _ _ _ hr hb
theorem aCA {s:St} {rx ry:Int} (hr:aL rx ry=true):∀(ps:List (List UInt8)) (a b:Int),aL a b=true→((bH s ps a b).2.2&&within rx ry (bH s ps a b).1 (bH s ps a b).2.1)=(decide (rx≤a)&&decide (ry≤b)&&ps.all (qJ s rx ry))
 | [],a,b,h=>by rw [Bool.eq_iff_iff];simp [bH,within,hr,h];exact ⟨fun h=>⟨of_decide_eq_true h.1,of_decide_eq_true h.2⟩,fun h=>⟨decide_eq_true h.1,decide_eq_true h.2⟩⟩
 | x::t,a,b,h=>by
  rw [bH,List.all_cons]
  cases hb:aI (-1) (iZ s x).1 (iZ s x).2 (aN s x).1 (aN s x).2 with
  | true=>
   rw [if_pos rfl,aCA hr t _ _ ?_,aFe hr hb]
   ·rw [Bool.eq_iff_iff]
    simp only [yK,yL]
    constructor
    ·rintro ⟨⟨h1,h2⟩,h3⟩
     exact ⟨⟨by omega,by omega⟩,⟨by omega,by omega⟩,h3⟩
    ·rintro ⟨⟨h1,h2⟩,⟨h3,h4⟩,h5⟩
     exact ⟨⟨by omega,by omega⟩,h5⟩
   ·simp only [aI,aL,inB,yK,yL] at h hb ⊢
    omega
  | false=>
   rw [if_neg (by simp),aHK hr hb]
   simp
theorem aKE (s:St) (nm:List UInt8) (rx ry:Int):aDf s nm rx ry=((bH s (path s.qs nm) 1000000000 1000000000).2.2&&decide (0<(path s.qs nm).length)&&within rx ry (bH s (path s.qs nm) 1000000000 1000000000).1 (bH s (path s.qs nm) 1000000000 1000000000).2.1):=by
 rw [aDf]
 cases hr:aL rx ry with
 | false=>
  have h1:∀a b,within rx ry a b=false:=fun a b=>by rw [within,hr];rfl
  rw [h1,Bool.and_false]
  cases hp:path s.qs nm with
  | nil=>simp
  | cons x t=>
   have h2:qJ s rx ry x=false:=by rw [qJ,aI,hr];simp
   simp [h2]
 | true=>
  have e:=aCA (s:=s) hr (path s.qs nm) 1000000000 1000000000 (by decide)
  have hr':=hr
  simp only [aL,inB,yK,yL] at hr'
  rw [decide_eq_true (show rx≤1000000000 by omega),decide_eq_true (show ry≤1000000000 by omega)] at e
  simp only [Bool.true_and] at e
  rw [←e]
  cases (bH s (path s.qs nm) 1000000000 1000000000).2.2<;>simp [Bool.and_comm]
def aKF (w:World) (c:Array Value) (rx ry:Int):World:=(w.alloc (.cells c 34)).alloc (.cells #[.int .i64 rx,.int .i64 ry] 36)
theorem aDe (w:World) (c:Array Value) (rx ry:Int):Below w.heap.size w (aKF w c rx ry):=yA (yA (yH _ w) _) _
theorem aHJ (w:World) (c:Array Value) (rx ry:Int):Blk (aKF w c rx ry) w.heap.size c 34:=(yD w c _).al _
theorem aHI (w:World) (c:Array Value) (rx ry:Int):Var (aKF w c rx ry) 36 (w.heap.size+1) rx ry:=by
 have:=aH (w.alloc (.cells c 34)) 36 rx ry
 rwa [yE] at this
end
section
open Go.RowKit Go.Maps
def idV (s:St):Int:=s.epoch*100000+s.serial % 100000
def mW (s:St):Bool:=decide (idV s≤1000000000)&&!(s.cs.any fun c=>c.id==idV s)
theorem pE (x:Sls) (s:St) (nm:List UInt8) (w:World) (h:jC w x s) (hf:bD s) (hnm:nm.length≤1048576) :
  Calls Tryz.prog 45 #[sv x s,.string (bs nm)] w fun e w'=>e=.returned (.bool (bF nm s.ms).isSome)∧Below w.heap.size w w':=by
 have hml:x.ml≤1048576:=by have:=h.len.2.2.1;have:=hf.2.2.1.1;omega
 have CM:=aA (fun wx (hb:Below w.heap.size w wx)=>pM x s wx (h.2.2.1.below hb) hml (fun m hm=>hf.2.2.1.2 m hm))
 obtain ⟨kl,hkey⟩:=aAa (nm:=nm) (k:=0) (by omega) (by decide)
 have HKEY:=aA hkey
 obtain ⟨o,ho⟩:∃o,(bF nm s.ms).isSome=o:=⟨_,rfl⟩
 have HO:=aA ho
 rw [ho]
 clear h hf hkey ho
 obtain ⟨qa,ql,qc,aa,al,ac,ma,ml,mc,ca,cl,cc⟩:=x
 obtain ⟨qs,clock,epoch,next,serial,apps,ms,cs⟩:=s
 have HB0:=aA (yA (yH _ w) (.cells (svc ⟨qa,ql,qc,aa,al,ac,ma,ml,mc,ca,cl,cc⟩ ⟨qs,clock,epoch,next,serial,apps,ms,cs⟩) 34))
 go_enter Tryz.func45,Tryz.ntmps45
 go_wp2_with fail
 refine (uH CM _ (uH HB0)).mono ?_
 rintro e w1 ⟨bm,rfl,⟨hbm,D,hown,hk⟩,hb⟩
 have hlk:=aKT hown hk (uH HKEY)
 have HB1:=aA (yB (uH HB0) hb)
 clear hb HB0 CM hown hk hbm
 rw [uH HO] at hlk
 go_wp2
 go_ret
 exact ⟨rfl,by repeat (first | exact uH HB1 | refine yA ?_ _)⟩
theorem aFx (x:Sls) (s:St) (w:World) (h:jC w x s) (hf:bD s) (ha:aLX s.cs) (he:0≤s.epoch∧s.epoch≤1000000000) (hs:0≤s.serial∧s.serial≤1000000000) :
  Calls Tryz.prog 105 #[sv x s] w fun e w'=>e=.returned (.tuple #[.int .i64 (idV s),.bool (mW s)])∧Below w.heap.size w w':=by
 have C:=aA (fun wx (hb:Below w.heap.size w wx)=>rH x s (idV s) wx (h.below hb) hf ha)
 have HI:=aA (show idV s=s.epoch*100000+s.serial % 100000 from rfl)
 have hm:=Int.emod_nonneg s.serial (show (100000:Int)≠0 by decide)
 have hm2:=Int.emod_lt_of_pos s.serial (show (0:Int)<100000 by decide)
 obtain ⟨d,hd⟩:∃d,idV s=d:=⟨_,rfl⟩
 have HF:=aA (show ∀f:Bool,(f=true↔∃c ∈ s.cs,c.id=d)→(decide (d≤1000000000)&&!f)=mW s from fun f hf=>by
  have:f=s.cs.any (fun c=>c.id==d):=by
   rw [Bool.eq_iff_iff,hf,List.any_eq_true]
   simp
  rw [mW,hd,this])
 obtain ⟨fr,hfr⟩:∃d,mW s=d:=⟨_,rfl⟩
 rw [hfr] at HF ⊢
 rw [hd] at C HI ⊢
 clear h hf ha hd hfr
 obtain ⟨qa,ql,qc,aa,al,ac,ma,ml,mc,ca,cl,cc⟩:=x
 obtain ⟨qs,clock,epoch,next,serial,apps,ms,cs⟩:=s
 simp only at C HI HF he hs hm hm2
 have HB0:=aA (yA (yH _ w) (.cells (svc ⟨qa,ql,qc,aa,al,ac,ma,ml,mc,ca,cl,cc⟩ ⟨qs,clock,epoch,next,serial,apps,ms,cs⟩) 34))
 have hmt:serial.tmod 100000=serial % 100000:=Int.tmod_eq_emod_of_nonneg hs.1
 obtain ⟨sm,hsm⟩:∃z,serial % 100000=z:=⟨_,rfl⟩
 rw [hsm] at hmt hm hm2 HI
 go_enter Tryz.func105,Tryz.ntmps105
 go_wp2_with fail
 rw [←uH HI]
 refine (uH C _ (uH HB0)).mono ?_
 rintro e w1 ⟨p,f,rfl,_,_,_,h4,hb⟩
 have HB1:=aA (yB (uH HB0) hb)
 have HZ:=aA (uH HF f h4)
 clear h4 hb HB0 C HF HI
 by_cases hd:d≤1000000000
 ·have HZ2:=aA (show (!f)=fr by have:=uH HZ;rwa [decide_eq_true hd,Bool.true_and] at this)
  go_wp2
  refine bodyPost_ret (v:=.tuple #[.int .i64 d,.bool fr]) (by simp [results,Tryz.results105,go_sem,←uH HZ2]) rfl ⟨rfl,uH HB1⟩
 ·have HZ2:=aA (show false=fr by have:=uH HZ;rwa [decide_eq_false hd,Bool.false_and] at this)
  go_wp2
  refine bodyPost_ret (v:=.tuple #[.int .i64 d,.bool fr]) (by simp [results,Tryz.results105,go_sem,←uH HZ2]) rfl ⟨rfl,uH HB1⟩
end
section
open Go.RowKit
theorem Cel.type {w:World} {t t':TypeId} {g N N':Nat} (h:Cel w t g N) (h':Cel w t' g N'):t=t':=by
 obtain ⟨a,h1,_⟩:=h
 obtain ⟨b,h2,_⟩:=h'
 rw [h1] at h2
 cases h2
 rfl
structure Mks (S:Nat→Prop) (w w':World):Prop where
 os:w'.os=w.os
 tape:w'.tape=w.tape
 output:w'.output=w.output
 size:w.heap.size≤w'.heap.size
 block:∀k,k<w.heap.size→¬S k→w'.heap[k]? = w.heap[k]?
 cel:∀t g N,Cel w t g N→Cel w' t g N
theorem Mks.refl (S:Nat→Prop) (w:World):Mks S w w:=⟨rfl,rfl,rfl,yJ _,fun _ _ _=>rfl,fun _ _ _ h=>h⟩
theorem Mks.trans {S:Nat→Prop} {a b c:World} (h:Mks S a b) (k:Mks S b c):Mks S a c:=
 ⟨k.os.trans h.os,k.tape.trans h.tape,k.output.trans h.output,Nat.le_trans h.size k.size,fun i hi ho=>(k.block i (Nat.lt_of_lt_of_le hi h.size) ho).trans (h.block i hi ho),fun t g N x=>k.cel t g N (h.cel t g N x)⟩
theorem Mks.mono {S S':Nat→Prop} {a b:World} (h:Mks S a b) (hs:∀k,S k→S' k):Mks S' a b:=
 ⟨h.os,h.tape,h.output,h.size,fun i hi ho=>h.block i hi (fun hk=>ho (hs i hk)),h.cel⟩
theorem Mks.of_below {S:Nat→Prop} {w w':World} (hb:Below w.heap.size w w'):Mks S w w':=⟨hb.os,hb.tape,hb.output,hb.size,fun i hi _=>hb.block i hi,fun t g N x=>x.below hb⟩
theorem Mks.on {S:Nat→Prop} {a w w':World} (h:Mks S a w) (hb:Below w.heap.size w w'):Mks S a w':=h.trans (.of_below hb)
theorem Mks.one (S:Nat→Prop) (w:World) (g j:Nat) (v:Value) (hg:S g):Mks S w (w.setCell ⟨g,j,none⟩ v):=
 ⟨rfl,rfl,rfl,by simp [World.setCell],fun k _ ho=>Below.heap_setCell _ _ _ _ (by show k≠g;intro e;exact ho (e ▸ hg)),fun t g' N x=>x.set g j v⟩
theorem Mks.sc {S:Nat→Prop} {a w:World} (h:Mks S a w) (g j:Nat) (v:Value) (hg:S g):Mks S a (w.setCell ⟨g,j,none⟩ v):=h.trans (.one S w g j v hg)
theorem Mkd.mks {g:Nat} {w w':World} (h:Mkd g (g+1) w w'):Mks (fun k=>k=g) w w':=⟨h.os,h.tape,h.output,h.size,fun i hi ho=>h.block i hi (by omega),h.cel⟩
theorem Mks.below {S:Nat→Prop} {B:Nat} {a w:World} (h:Mks S a w) (hS:∀k,S k→B≤k) (hB:B≤a.heap.size):Below B a w:=
 ⟨h.os,h.tape,h.output,h.size,fun k hk=>h.block k (by omega) (fun hs=>by have:=hS k hs;omega)⟩
theorem Mks.blk {S:Nat→Prop} {g:Nat} {a w:World} {arr:Array Value} {t:TypeId} (h:Mks S a w) (hb:Blk a g arr t) (ho:¬S g):Blk w g arr t:=(h.block g hb.lt ho).trans hb
def inR (ao:Option Addr) (n:Nat) (k:Nat):Prop:=n≠0∧∃o,ao=some ⟨k,o,none⟩
def dU (B E:Nat) (w:World) (t:TypeId) (sz:Nat) (ao:Option Addr) (n:Nat):Prop:=n=0∨∃g M,ao=some ⟨g,0,none⟩∧B≤g∧g<E∧Cel w t g (M*sz)∧n≤M
theorem iN {w:World} {B sz n n' c:Nat} {e:TypeId} {ao:Option Addr} {xs:List Value} (h:w.ownsRow B e sz (.slice ao n c) n' xs):dU B w.heap.size w e sz ao c:=by
 rcases h.2 with ⟨h1,_⟩ | ⟨g,cap,cur,h1,h2,h3,_,_,h4,_⟩
 ·cases h1;exact .inl rfl
 ·cases h1;exact .inr ⟨g,c,rfl,h2,lt_of_block h3,⟨cur,h3,h4⟩,yJ _⟩
theorem dU.below {B E:Nat} {w w':World} {t:TypeId} {sz n:Nat} {ao:Option Addr} (h:dU B E w t sz ao n) (hb:Below w.heap.size w w'):dU B E w' t sz ao n:=by
 rcases h with h | ⟨g,M,h1,h2,h3,h4,h5⟩
 ·exact .inl h
 ·exact .inr ⟨g,M,h1,h2,h3,h4.below hb,h5⟩
theorem dU.mks {B E:Nat} {w w':World} {t:TypeId} {sz n:Nat} {ao:Option Addr} {S:Nat→Prop} (h:dU B E w t sz ao n) (hb:Mks S w w'):dU B E w' t sz ao n:=by
 rcases h with h | ⟨g,M,h1,h2,h3,h4,h5⟩
 ·exact .inl h
 ·exact .inr ⟨g,M,h1,h2,h3,hb.cel _ _ _ h4,h5⟩
theorem dU.sc {B E:Nat} {w:World} {t:TypeId} {sz n:Nat} {ao:Option Addr} (h:dU B E w t sz ao n) (k j:Nat) (v:Value):dU B E (w.setCell ⟨k,j,none⟩ v) t sz ao n:=by
 rcases h with h | ⟨g,M,h1,h2,h3,h4,h5⟩
 ·exact .inl h
 ·exact .inr ⟨g,M,h1,h2,h3,h4.set k j v,h5⟩
theorem dU.mono {B E B' E':Nat} {w:World} {t:TypeId} {sz n:Nat} {ao:Option Addr} (h:dU B E w t sz ao n) (h1:B'≤B) (h2:E≤E'):dU B' E' w t sz ao n:=by
 rcases h with h | ⟨g,M,a,b,c,d⟩
 ·exact .inl h
 ·exact .inr ⟨g,M,a,by omega,by omega,d⟩
theorem dU.lies {B E:Nat} {w:World} {t:TypeId} {sz n:Nat} {ao:Option Addr} (h:dU B E w t sz ao n):∀k,inR ao n k→B≤k∧k<E∧∃N,Cel w t k N:=by
 rintro k ⟨hn,o,e⟩
 rcases h with h | ⟨g,M,h1,h2,h3,h4,h5⟩
 ·exact absurd h hn
 ·rw [h1] at e
  cases e
  exact ⟨h2,h3,_,h4⟩
theorem dU.apart {B E B' E':Nat} {w:World} {t t':TypeId} {sz sz' n n':Nat} {ao bo:Option Addr} (h:dU B E w t sz ao n) (h':dU B' E' w t' sz' bo n') (ht:t≠t'):∀k,inR ao n k→¬inR bo n' k:=fun k hk hk'=>by
 obtain ⟨_,_,N,h1⟩:=h.lies k hk
 obtain ⟨_,_,N',h2⟩:=h'.lies k hk'
 exact ht (h1.type h2)
theorem dG {S:Nat→Prop} {w w':World} {g p:Nat} {u:Value} (h:w.cell? ⟨g,p,none⟩=some u) (hm:Mks S w w') (hg:¬S g):w'.cell? ⟨g,p,none⟩=some u:=
 (World.cell?_of_block (w:=w) (a:=⟨g,p,none⟩) (hm.block g (yG h) hg)).trans h
theorem iG.mks {S:Nat→Prop} {w w':World} {ao:Option Addr} {len:Nat} {l:List Q} (h:iG w ao len l) (hm:Mks S w w') (hs:∀k,inR ao len k→¬S k):iG w' ao len l:=by
 obtain ⟨h1,h2⟩:=h
 refine ⟨h1,?_⟩
 rcases h2 with h2 | ⟨b,off,h3,h4⟩
 ·exact .inl h2
 ·by_cases hz:len=0
  ·exact .inl hz
  ·have hb:=hs b ⟨hz,off,h3⟩
   exact .inr ⟨b,off,h3,fun i h=>let ⟨a,c,d,e⟩:=h4 i h;⟨dG a hm hb,dG c hm hb,dG d hm hb,dG e hm hb⟩⟩
theorem bE.mks {S:Nat→Prop} {w w':World} {ao:Option Addr} {len:Nat} {l:List Mac} (h:bE w ao len l) (hm:Mks S w w') (hs:∀k,inR ao len k→¬S k):bE w' ao len l:=by
 obtain ⟨h1,h2⟩:=h
 refine ⟨h1,?_⟩
 rcases h2 with h2 | ⟨b,off,h3,h4⟩
 ·exact .inl h2
 ·by_cases hz:len=0
  ·exact .inl hz
  ·have hb:=hs b ⟨hz,off,h3⟩
   exact .inr ⟨b,off,h3,fun i h=>let ⟨a,c,d,e⟩:=h4 i h;⟨dG a hm hb,dG c hm hb,dG d hm hb,dG e hm hb⟩⟩
theorem bC.mks {S:Nat→Prop} {w w':World} {ao:Option Addr} {len:Nat} {l:List Con} (h:bC w ao len l) (hm:Mks S w w') (hs:∀k,inR ao len k→¬S k):bC w' ao len l:=by
 obtain ⟨h1,h2⟩:=h
 refine ⟨h1,?_⟩
 rcases h2 with h2 | ⟨b,off,h3,h4⟩
 ·exact .inl h2
 ·by_cases hz:len=0
  ·exact .inl hz
  ·have hb:=hs b ⟨hz,off,h3⟩
   exact .inr ⟨b,off,h3,fun i h=>let ⟨a,c,d,e,f⟩:=h4 i h;⟨dG a hm hb,dG c hm hb,dG d hm hb,dG e hm hb,dG f hm hb⟩⟩
theorem aO.mks {S:Nat→Prop} {w w':World} {ao:Option Addr} {len:Nat} {l:List Ask} (h:aO w ao len l) (hm:Mks S w w') (hs:∀k,inR ao len k→¬S k):aO w' ao len l:=by
 obtain ⟨h1,h2⟩:=h
 refine ⟨h1,?_⟩
 rcases h2 with h2 | ⟨b,off,h3,h4⟩
 ·exact .inl h2
 ·by_cases hz:len=0
  ·exact .inl hz
  ·have hb:=hs b ⟨hz,off,h3⟩
   exact .inr ⟨b,off,h3,fun i h=>let ⟨a,c,d,e,f⟩:=h4 i h;⟨dG a hm hb,dG c hm hb,dG d hm hb,dG e hm hb,dG f hm hb⟩⟩
theorem fA.mks {S:Nat→Prop} {w w':World} {ao:Option Addr} {len:Nat} {l:List AV} (h:fA w ao len l) (hm:Mks S w w') (hs:∀k,inR ao len k→¬S k):fA w' ao len l:=by
 obtain ⟨h1,h2⟩:=h
 refine ⟨h1,?_⟩
 rcases h2 with h2 | ⟨b,off,h3,h4⟩
 ·exact .inl h2
 ·by_cases hz:len=0
  ·exact .inl hz
  ·have hb:=hs b ⟨hz,off,h3⟩
   exact .inr ⟨b,off,h3,fun i h=>let ⟨a,c,d⟩:=h4 i h;⟨dG a hm hb,dG c hm hb,dG d hm hb⟩⟩
theorem nD.mks {S:Nat→Prop} {w w':World} (hm:Mks S w w'):∀(l:List AV) (K:Nat),nD w K l→(∀v ∈ l,∀k,inR v.ao v.len k→¬S k)→nD w' K l
 | [],_,_,_=>trivial
 | v::t,K,h,hs=>⟨h.1.mks hm (hs v (by simp)),nD.mks hm t _ h.2 (fun u hu=>hs u (by simp [hu]))⟩
theorem aAp {w:World}:∀(l:List AV) (K:Nat) (v:AV),nD w K l→aO w v.ao v.len (kF (iP K l+2) v.len)→nD w K (l++[v])
 | [],K,v,_,h=>⟨h,trivial⟩
 | u::t,K,v,h,h'=>⟨h.1,aAp t _ v h.2 h'⟩
theorem aFI:∀(l:List AV) (K:Nat) (v:AV),hsM K (l++[v])=hsM K l++[⟨(iP K l:Int),109::dgs (iP K l+1),v.ao,v.len,v.cap⟩]
 | [],K,v=>rfl
 | u::t,K,v=>by simp only [List.cons_append,hsM,iP,aFI t]
theorem aDB:∀(l:List AV) (K j:Nat),iP K (l.take j)≤iP K l
 | [],K,j=>by simp
 | v::t,K,0=>by simp only [List.take_zero,iP];have:=sO t (K+2+5*v.len);omega
 | v::t,K,j+1=>by simp only [List.take_succ_cons,iP];exact aDB t _ _
theorem aIA:∀(l:List AV) (K m:Nat),(∀v ∈ l,v.len≤m)→iP K l≤K+l.length*(2+5*m)
 | [],K,m,_=>by simp [iP]
 | v::t,K,m,h=>by
  have h1:=aIA t (K+2+5*v.len) m (fun u hu=>h u (by simp [hu]))
  have h2:=h v (by simp)
  simp only [iP,List.length_cons,Nat.add_mul]
  omega
def aIc (u v:AV):Prop:=u.len=0∨v.len=0∨u.ao≠v.ao
theorem sG (ao:Option Addr) (c:Nat) (K:Int) (w:World) :
  Calls Tryz.prog 37 #[.slice ao 0 c,.int .i64 K] w fun e w'=>e=.returned (.int .i64 K)∧w=w':=by
 go_enter Tryz.func37,Tryz.ntmps37
 go_wp2
 go_loopw [1,5] (fun s i wr=>i=.int .i64 0∧s=.int .i64 K∧wr=w) (fun _ _ _=>0)
 case atStart=>exact ⟨rfl,rfl,rfl⟩
 case round=>
  obtain ⟨rfl,rfl,rfl⟩:=hrel
  go_wp2
  go_ret
  exact ⟨rfl,rfl⟩
theorem zK (ao:Option Addr) (c:Nat) (K:Int) (w:World) :
  Calls Tryz.prog 16 #[.slice ao 0 c,.int .i64 K] w fun e w'=>e=.returned (.int .i64 K)∧w=w':=by
 go_enter Tryz.func16,Tryz.ntmps16
 go_wp2
 go_loopw [1,5] (fun s i wr=>i=.int .i64 0∧s=.int .i64 K∧wr=w) (fun _ _ _=>0)
 case atStart=>exact ⟨rfl,rfl,rfl⟩
 case round=>
  obtain ⟨rfl,rfl,rfl⟩:=hrel
  go_wp2
  go_ret
  exact ⟨rfl,rfl⟩
theorem aBP (ao:Option Addr) (c:Nat) (K:Int) (w:World) :
  Calls Tryz.prog 77 #[.slice ao 0 c,.int .i64 K] w fun e w'=>e=.returned (.int .i64 K)∧w=w':=by
 go_enter Tryz.func77,Tryz.ntmps77
 go_wp2
 go_loopw [1,5] (fun s i wr=>i=.int .i64 0∧s=.int .i64 K∧wr=w) (fun _ _ _=>0)
 case atStart=>exact ⟨rfl,rfl,rfl⟩
 case round=>
  obtain ⟨rfl,rfl,rfl⟩:=hrel
  go_wp2
  go_ret
  exact ⟨rfl,rfl⟩
theorem aBQ (ao:Option Addr) (c:Nat) (K:Int) (w:World) :
  Calls Tryz.prog 36 #[.slice ao 0 c,.int .i64 K] w fun e w'=>e=.returned (.int .i64 K)∧w=w':=by
 go_enter Tryz.func36,Tryz.ntmps36
 go_wp2
 go_loopw [1,5] (fun s i wr=>i=.int .i64 0∧s=.int .i64 K∧wr=w) (fun _ _ _=>0)
 case atStart=>exact ⟨rfl,rfl,rfl⟩
 case round=>
  obtain ⟨rfl,rfl,rfl⟩:=hrel
  go_wp2
  go_ret
  exact ⟨rfl,rfl⟩
theorem zJ {B E n c:Nat} {ao:Option Addr} {w:World} (h:dU B E w 100 4 ao n) (hn:n≤1048576) :
  Calls Tryz.prog 35 #[.slice ao n c,.int .i64 1] w fun e w'=>e=.returned (.int .i64 (1+4*(n:Int)))∧iG w' ao n (nH n)∧Mks (inR ao n) w w':=by
 by_cases hz:n=0
 ·subst hz
  refine (wO ao c w).mono ?_
  rintro e w' ⟨rfl,rfl⟩
  exact ⟨rfl,⟨rfl,.inl rfl⟩,.refl _ _⟩
 ·rcases h with h | ⟨g,M,rfl,h2,h3,h4,h5⟩
  ·exact absurd h hz
  ·have ha:aKk w 100 g M:=by obtain ⟨arr,h1,h2⟩:=h4;exact ⟨arr,h1,h2,fun i hi=>absurd hi (by simp)⟩
   refine (wP g n M (d:=c) w ha h5 hn).mono ?_
   rintro e w' ⟨rfl,hq,hg⟩
   refine ⟨rfl,hq.rowOf (aA2 _).symm,hg.os,hg.tape,hg.output,hg.size,fun k hk hs=>hg.block k hk (fun e=>hs ⟨hz,0,by rw [Option.some.inj e]⟩),fun t g' N x=>?_⟩
   by_cases e:g'=g
   ·subst e
    obtain rfl:=x.type h4
    obtain ⟨a1,h1,h6,_⟩:=hq
    obtain ⟨a2,h2',h3'⟩:=x
    obtain ⟨a3,h4',h5'⟩:=h4
    rw [h2'] at h4'
    cases h4'
    exact ⟨a1,h1,by omega⟩
   ·exact x.of_block (hg.block g' x.lt (fun e'=>e (Option.some.inj e')))
theorem uU {B E n c:Nat} {ao:Option Addr} {w:World} (K:Nat) (h:dU B E w 104 4 ao n) (hn:n≤1048576) (h0:0<K) (h1:K≤1000000000000000) :
  Calls Tryz.prog 37 #[.slice ao n c,.int .i64 (K:Int)] w fun e w'=>e=.returned (.int .i64 ((K:Int)+4*(n:Int)))∧bE w' ao n (kR K n)∧Mks (inR ao n) w w':=by
 by_cases hz:n=0
 ·subst hz
  refine (sG ao c K w).mono ?_
  rintro e w' ⟨rfl,rfl⟩
  exact ⟨by simp,⟨by simp [kR],.inl rfl⟩,.refl _ _⟩
 ·rcases h with h | ⟨g,M,rfl,h2,h3,h4,h5⟩
  ·exact absurd h hz
  ·refine (sH g n M K (d:=c) w h4 h5 hn h0 h1).mono ?_
   rintro e w' ⟨rfl,hq,hg⟩
   exact ⟨rfl,hq,hg.mks.mono (fun k e=>⟨hz,0,by rw [e]⟩)⟩
theorem qU {B E n c:Nat} {ao:Option Addr} {w:World} (K:Nat) (h:dU B E w 38 5 ao n) (hn:n≤1048576) (h0:0<K) (h1:K≤1000000000000000) :
  Calls Tryz.prog 16 #[.slice ao n c,.int .i64 (K:Int)] w fun e w'=>e=.returned (.int .i64 ((K:Int)+5*(n:Int)))∧bC w' ao n (kE K n)∧Mks (inR ao n) w w':=by
 by_cases hz:n=0
 ·subst hz
  refine (zK ao c K w).mono ?_
  rintro e w' ⟨rfl,rfl⟩
  exact ⟨by simp,⟨by simp [kE],.inl rfl⟩,.refl _ _⟩
 ·rcases h with h | ⟨g,M,rfl,h2,h3,h4,h5⟩
  ·exact absurd h hz
  ·refine (zL g n M K (d:=c) w h4 h5 hn h0 h1).mono ?_
   rintro e w' ⟨rfl,hq,hg⟩
   exact ⟨rfl,hq,hg.mks.mono (fun k e=>⟨hz,0,by rw [e]⟩)⟩
theorem aC3 {B E n c:Nat} {ao:Option Addr} {w:World} (K:Nat) (h:dU B E w 77 5 ao n) (hn:n≤1048576) (h0:0<K) (h1:K≤1000000000000000) :
  Calls Tryz.prog 77 #[.slice ao n c,.int .i64 (K:Int)] w fun e w'=>e=.returned (.int .i64 ((K:Int)+5*(n:Int)))∧aO w' ao n (kF K n)∧Mks (inR ao n) w w':=by
 by_cases hz:n=0
 ·subst hz
  refine (aBP ao c K w).mono ?_
  rintro e w' ⟨rfl,rfl⟩
  exact ⟨by simp,⟨by simp [kF],.inl rfl⟩,.refl _ _⟩
 ·rcases h with h | ⟨g,M,rfl,h2,h3,h4,h5⟩
  ·exact absurd h hz
  ·refine (qV g n M K (d:=c) w h4 h5 hn h0 h1).mono ?_
   rintro e w' ⟨rfl,hq,hg⟩
   exact ⟨rfl,hq,hg.mks.mono (fun k e=>⟨hz,0,by rw [e]⟩)⟩
def kN (w:World) (g M:Nat) (l:List AV):Prop:=Cel w 74 g (M*3)∧l.length≤M∧∀i (h:i<l.length),aGk w g (i*3) l[i]
theorem kN.below {w w':World} {g M:Nat} {l:List AV} (h:kN w g M l) (hb:Below w.heap.size w w'):kN w' g M l:=⟨h.1.below hb,h.2.1,fun i hi=>(h.2.2 i hi).below hb⟩
theorem kN.mks {S:Nat→Prop} {w w':World} {g M:Nat} {l:List AV} (h:kN w g M l) (hm:Mks S w w') (hs:¬S g):kN w' g M l:=
 ⟨hm.cel _ _ _ h.1,h.2.1,fun i hi=>let ⟨a,b,c⟩:=h.2.2 i hi;⟨dG a hm hs,dG b hm hs,dG c hm hs⟩⟩
theorem kN.id {w:World} {g M i:Nat} {l:List AV} (h:kN w g M l) (hi:i<l.length) (x:Int):kN (w.setCell ⟨g,i*3,none⟩ (.int .i64 x)) g M (l.set i ⟨x,l[i].queue,l[i].ao,l[i].len,l[i].cap⟩):=by
 refine ⟨h.1.set _ _ _,by simpa using h.2.1,fun j hj=>?_⟩
 have hj':j<l.length:=by simpa using hj
 obtain ⟨a,b,c⟩:=h.2.2 j hj'
 by_cases e:i=j
 ·subst e
  simp only [List.getElem_set_self]
  exact ⟨World.cell?_setCell_same _ ⟨g,i*3,none⟩ _ a,bI b (by omega),bI c (by omega)⟩
 ·rw [List.getElem_set_ne e]
  exact ⟨bI a (by omega),bI b (by omega),bI c (by omega)⟩
theorem kN.qu {w:World} {g M i:Nat} {l:List AV} (h:kN w g M l) (hi:i<l.length) (x:List UInt8):kN (w.setCell ⟨g,i*3+1,none⟩ (.string (bs x))) g M (l.set i ⟨l[i].id,x,l[i].ao,l[i].len,l[i].cap⟩):=by
 refine ⟨h.1.set _ _ _,by simpa using h.2.1,fun j hj=>?_⟩
 have hj':j<l.length:=by simpa using hj
 obtain ⟨a,b,c⟩:=h.2.2 j hj'
 by_cases e:i=j
 ·subst e
  simp only [List.getElem_set_self]
  exact ⟨bI a (by omega),World.cell?_setCell_same _ ⟨g,i*3+1,none⟩ _ b,bI c (by omega)⟩
 ·rw [List.getElem_set_ne e]
  exact ⟨bI a (by omega),bI b (by omega),bI c (by omega)⟩
theorem kN.row {w:World} {g M:Nat} {l:List AV} (h:kN w g M l):fA w (some ⟨g,0,none⟩) l.length l:=⟨rfl,.inr ⟨g,0,rfl,fun i hi=>by rw [Nat.zero_add];exact h.2.2 i hi⟩⟩
theorem aC4 {B E n c:Nat} {ao:Option Addr} {w:World} (K:Nat) (hs:List AV) (h:dU B E w 74 3 ao n) (hr:fA w ao n hs) (ha:∀v ∈ hs,dU B E w 77 5 v.ao v.len∧v.len≤1048576) (hp:hs.Pairwise aIc) (hn:n≤1048576) (h0:0<K) (h1:iP K hs≤100000000000000) :
  Calls Tryz.prog 36 #[.slice ao n c,.int .i64 (K:Int)] w fun e w'=>e=.returned (.int .i64 (iP K hs:Int))∧fA w' ao n (hsM K hs)∧nD w' K hs∧Mks (fun k=>inR ao n k∨∃v ∈ hs,inR v.ao v.len k) w w':=by
 by_cases hz:n=0
 ·subst hz
  have hl:hs=[]:=List.length_eq_zero_iff.1 hr.1.symm
  subst hl
  refine (aBQ ao c K w).mono ?_
  rintro e w' ⟨rfl,rfl⟩
  exact ⟨rfl,⟨rfl,.inl rfl⟩,trivial,.refl _ _⟩
 rcases h with h | ⟨g,M,rfl,h2,h3,h4,h5⟩
 ·exact absurd h hz
 have HLN:=aA hr.1
 have HA:=aA ha
 have HP:=aA hp
 have HV:=aA (show kN w g M (hsM K (hs.take 0)++hs.drop 0) from by
  refine ⟨h4,?_,fun i hi=>?_⟩
  ·simp [hsM];have:=hr.1;omega
  ·simp only [List.take_zero,hsM,List.nil_append,List.drop_zero] at hi ⊢
   rcases hr.2 with e | ⟨b,off,e,hh⟩
   ·exact absurd e hz
   ·cases e
    have:=hh i hi
    rwa [Nat.zero_add] at this)
 have HE:=aA (fun j=>aDB hs K j)
 have HG:=aA (fun j=>sO (hs.take j) K)
 obtain ⟨S,hS⟩:∃S:Nat→Prop,S=(fun k=>inR (some ⟨g,0,none⟩) n k∨∃v ∈ hs,inR v.ao v.len k):=⟨_,rfl⟩
 have HSg:=aA (show S g by rw [hS];exact .inl ⟨hz,0,rfl⟩)
 have HSv:=aA (show ∀v ∈ hs,∀k,inR v.ao v.len k→S k by rw [hS];exact fun v hv k hk=>.inr ⟨v,hv,hk⟩)
 rw [←hS]
 clear hr ha hp h4 hS h2 h3
 go_enter Tryz.func36,Tryz.ntmps36
 go_wp2
 go_loopw [1,5] (fun s i wr=>∃(j:Nat) (k:Nat),j≤n∧i=.int .i64 j∧s=.int .i64 (k:Int)∧Hid (k=iP K (hs.take j))∧Hid (kN wr g M (hsM K (hs.take j)++hs.drop j))∧Hid (nD wr K (hs.take j))∧Hid (Mks S w wr)) (fun _ i _=>n - (intOf i).toNat)
 case atStart=>exact ⟨0,K,Nat.zero_le _,rfl,rfl,aA (by simp [iP]),HV,aA (by simp [nD]),aA (Mks.refl _ _)⟩
 case round=>
  obtain ⟨j,k,hj,rfl,rfl,HK,HQ,HM,HS⟩:=hrel
  by_cases hlt:j<n
  ·have hjl:j<hs.length:=by have:=uH HLN;omega
   have hst:=xP hs K j hjl
   have hle:=uH HE (j+1)
   have hgk:=uH HG j
   rw [←uH HK] at hst hgk
   have hjL:j<(hsM K (hs.take j)++hs.drop j).length:=by rw [List.length_append,kI,List.length_take,List.length_drop];omega
   have hLj:(hsM K (hs.take j)++hs.drop j)[j]=hs[j]:=by
    rw [List.getElem_append_right (by rw [kI,List.length_take];omega)]
    simp [kI,Nat.min_eq_left (Nat.le_of_lt hjl)]
   have hcel:=(uH HQ).1
   obtain ⟨v0,d0⟩:=hcel.cell (j:=j*3) (by have:=(uH HQ).2.1;omega)
   have f0:=hcel.frozen (j*3)
   have HQ1:=aA ((uH HQ).id hjL (k:Int))
   have HG1:=aA ((uH HS).sc g (j*3) (.int .i64 (k:Int)) (uH HSg))
   have HM1:=aA ((uH HM).mks (Mks.one (fun x=>x=g) _ g (j*3) (.int .i64 (k:Int)) rfl) _ _ (fun v hv x hx e=>by
    have hv':=((uH HA v (List.mem_of_mem_take hv)).1.mks (uH HS))
    obtain ⟨_,_,N,hc⟩:=hv'.lies x hx
    subst e
    exact absurd (hc.type hcel) (by decide)))
   have hk0:0<k:=by omega
   have hvl:=(uH HA _ (yM hjl)).2
   have hk1:k≤100000000000000:=by omega
   obtain ⟨⟨vi,vq,va,vl,vc⟩,hv⟩:∃v,hs[j]=v:=⟨_,rfl⟩
   have HVV:=aA hv
   rw [hv] at hst hvl
   rw [hLj,hv] at HQ1
   simp only at hst hvl HQ1
   have HN:=aA (show (k+2+5*vl:Nat)=iP K (hs.take (j+1)) from hst.symm)
   clear hst hle hgk hLj hv hcel HQ HM HS hjL
   go_wp2_with fail
   refine (aV ((k:Int)+1) _ (by omega) (by omega)).mono ?_
   rintro e w1 ⟨rfl,hb⟩
   have HQ2:=aA ((uH HQ1).below hb)
   have HG2:=aA ((uH HG1).on hb)
   have HM2:=aA (nD.below hb _ _ (uH HM1))
   clear hb d0 f0 HQ1 HG1 HM1
   have hjL:j<((hsM K (hs.take j)++hs.drop j).set j ⟨(k:Int),vq,va,vl,vc⟩).length:=by rw [List.length_set,List.length_append,kI,List.length_take,List.length_drop];have:=uH HLN;omega
   have hcel:=(uH HQ2).1
   obtain ⟨v1,d1⟩:=hcel.cell (j:=j*3+1) (by have:=(uH HQ2).2.1;omega)
   have f1:=hcel.frozen (j*3+1)
   have HQ3:=aA (show kN _ g M _ from (uH HQ2).qu hjL (109::dgs (k+1)))
   simp only [List.getElem_set_self,List.set_set] at HQ3
   have HG3:=aA ((uH HG2).sc g (j*3+1) (.string (bs (109::dgs (k+1)))) (uH HSg))
   have HM3:=aA ((uH HM2).mks (Mks.one (fun x=>x=g) _ g (j*3+1) (.string (bs (109::dgs (k+1)))) rfl) _ _ (fun v hv x hx e=>by
    have hv':=((uH HA v (List.mem_of_mem_take hv)).1.mks (uH HG2))
    obtain ⟨_,_,N,hc⟩:=hv'.lies x hx
    subst e
    exact absurd (hc.type hcel) (by decide)))
   have hmk:mk ((k:Int)+1).toNat=bs (109::dgs (k+1)):=by rw [show ((k:Int)+1).toNat=k+1 by omega];rfl
   have hjL3:j<((hsM K (hs.take j)++hs.drop j).set j ⟨(k:Int),109::dgs (k+1),va,vl,vc⟩).length:=by rw [List.length_set,List.length_append,kI,List.length_take,List.length_drop];have:=uH HLN;omega
   have d2:=((uH HQ3).2.2 j hjL3).2.2
   simp only [List.getElem_set_self] at d2
   have hown:=(uH HA _ (yM (show j<hs.length by have:=uH HLN;omega))).1.mks (uH HG3)
   rw [uH HVV] at hown
   simp only at hown
   have CA:=aA (by have:=aC3 (c:=vc) (k+2) hown hvl (by omega) (by omega);rw [show ((k+2:Nat):Int)=(k:Int)+1+1 by omega] at this;exact this)
   have HOW:=aA hown
   rw [hmk]
   clear hcel HQ2 HG2 HM2 hjL hjL3 hown hmk
   go_wp2_with fail
   refine (uH CA).mono ?_
   rintro e w2 ⟨rfl,hrow,hm⟩
   have HR4:=aA hrow
   have HQ4:=aA ((uH HQ3).mks hm (fun hk=>by
    obtain ⟨_,_,N,hc⟩:=(uH HOW).lies g hk
    exact absurd (hc.type (uH HQ3).1) (by decide)))
   have HG4:=aA ((uH HG3).trans (hm.mono (fun x hx=>uH HSv hs[j] (yM (show j<hs.length by have:=uH HLN;omega)) x (by rw [uH HVV];exact hx))))
   have HM4:=aA ((uH HM3).mks hm _ _ (fun v hv x hx hx'=>by
    obtain ⟨i,hi,rfl⟩:=List.getElem_of_mem hv
    have hi':i<j∧i<hs.length:=by rw [List.length_take] at hi;omega
    have hap:=(List.pairwise_iff_getElem.1 (uH HP)) i j hi'.2 (by have:=uH HLN;omega) hi'.1
    rw [List.getElem_take] at hx
    rw [uH HVV] at hap
    obtain ⟨hn1,o1,e1⟩:=hx
    obtain ⟨hn2,o2,e2⟩:=hx'
    rcases hap with e | e | e
    ·exact hn1 e
    ·exact hn2 e
    ·have hi1:=(uH HA hs[i] (yM hi'.2)).1
     have hi2:=uH HOW
     rcases hi1 with z | ⟨g1,M1,z,_⟩
     ·exact hn1 z
     ·rcases hi2 with y | ⟨g2,M2,y,_⟩
      ·exact hn2 y
      ·rw [z] at e1
       rw [y] at e2
       cases e1
       cases e2
       exact e (z.trans y.symm)))
   clear hrow hm CA HQ3 HG3 HM3 d1 f1 d2
   go_wp2
   go_roundw
   case rel=>
    have hjl:j<hs.length:=by have:=uH HLN;omega
    have htk:hs.take (j+1)=hs.take j++[hs[j]]:=by rw [List.take_succ_eq_append_getElem hjl]
    refine ⟨j+1,k+2+5*vl,by omega,by go_num,by refine congrArg _ ?_;omega,HN,aA ?_,aA ?_,HG4⟩
    ·have:=uH HQ4
     rw [List.drop_eq_getElem_cons hjl] at this
     rw [htk,aFI,uH HVV,←uH HK]
     rw [List.set_append_right _ _ (by rw [kI,List.length_take];omega)] at this
     rw [kI,List.length_take,Nat.min_eq_left (by omega),Nat.sub_self,sB] at this
     rw [List.append_assoc]
     exact this
    ·rw [htk]
     refine aAp _ _ _ (uH HM4) ?_
     rw [uH HVV,←uH HK]
     exact uH HR4
   case measure=>simp [intOf];omega
  ·have hjn:j=n:=by omega
   have hth:hs.take j=hs:=List.take_of_length_le (by have:=uH HLN;omega)
   have hdr:hs.drop j=[]:=List.drop_of_length_le (by have:=uH HLN;omega)
   have j1:¬(j:Int)<n:=by omega
   have hke:k=iP K hs:=by rw [uH HK,hth]
   go_wp2
   go_ret
   refine ⟨rfl,?_,by have:=uH HM;rwa [hth] at this,uH HS⟩
   have:=(uH HQ).row
   rw [hth,hdr,List.append_nil,kI,←uH HLN] at this
   exact this
structure aLb (x:Sls):Prop where
 q:x.ql≤x.qc
 a:x.al≤x.ac
 m:x.ml≤x.mc
 c:x.cl≤x.cc
def RmS (B E:Nat) (w:World) (x:Sls) (hs:List AV):Prop:=dU B E w 100 4 x.qa x.qc∧dU B E w 74 3 x.aa x.ac∧dU B E w 104 4 x.ma x.mc∧dU B E w 38 5 x.ca x.cc∧∀v ∈ hs,dU B E w 77 5 v.ao v.cap
theorem RmS.map {B E B' E':Nat} {w w':World} {x:Sls} {hs:List AV} (h:RmS B E w x hs) (f:∀{t:TypeId} {sz n:Nat} {ao:Option Addr},dU B E w t sz ao n→dU B' E' w' t sz ao n):RmS B' E' w' x hs:=⟨f h.1,f h.2.1,f h.2.2.1,f h.2.2.2.1,fun v hv=>f (h.2.2.2.2 v hv)⟩
theorem RmS.below {B E:Nat} {w w':World} {x:Sls} {hs:List AV} (h:RmS B E w x hs) (hb:Below w.heap.size w w'):RmS B E w' x hs:=h.map (fun k=>k.below hb)
theorem RmS.mono {B E B' E':Nat} {w:World} {x:Sls} {hs:List AV} (h:RmS B E w x hs) (h1:B'≤B) (h2:E≤E'):RmS B' E' w x hs:=h.map (fun k=>k.mono h1 h2)
theorem RmS.mks {B E:Nat} {S:Nat→Prop} {w w':World} {x:Sls} {hs:List AV} (h:RmS B E w x hs) (hm:Mks S w w'):RmS B E w' x hs:=h.map (fun k=>k.mks hm)
theorem RmS.sc {B E:Nat} {w:World} {x:Sls} {hs:List AV} (h:RmS B E w x hs) (k j:Nat) (v:Value):RmS B E (w.setCell ⟨k,j,none⟩ v) x hs:=h.map (fun o=>o.sc k j v)
structure p8 (B E:Nat) (w:World) (x:Sls) (s:St) (hs:List AV):Prop where
 row:jC w x s
 q:dU B E w 100 4 x.qa x.ql
 a:dU B E w 74 3 x.aa x.al
 m:dU B E w 104 4 x.ma x.ml
 c:dU B E w 38 5 x.ca x.cl
 av:fA w x.aa x.al hs
 heads:jH w hs s.apps
 asks:∀v ∈ hs,dU B E w 77 5 v.ao v.len
 apart:hs.Pairwise aIc
 cap:aLb x
 rm:RmS B E w x hs
theorem jH.below {w w':World} {hs:List AV} {l:List bY} (h:jH w hs l) (hb:Below w.heap.size w w'):jH w' hs l:=⟨h.1,fun i h1 h2=>let ⟨a,b,c,d⟩:=h.2 i h1 h2;⟨a,b,c.below hb,d⟩⟩
theorem p8.below {B E:Nat} {w w':World} {x:Sls} {s:St} {hs:List AV} (h:p8 B E w x s hs) (hb:Below w.heap.size w w'):p8 B E w' x s hs:=
 ⟨h.row.below hb,h.q.below hb,h.a.below hb,h.m.below hb,h.c.below hb,h.av.below hb,h.heads.below hb,fun v hv=>(h.asks v hv).below hb,h.apart,h.cap,h.rm.below hb⟩
theorem p8.mono {B E B' E':Nat} {w:World} {x:Sls} {s:St} {hs:List AV} (h:p8 B E w x s hs) (h1:B'≤B) (h2:E≤E'):p8 B' E' w x s hs:=
 ⟨h.row,h.q.mono h1 h2,h.a.mono h1 h2,h.m.mono h1 h2,h.c.mono h1 h2,h.av,h.heads,fun v hv=>(h.asks v hv).mono h1 h2,h.apart,h.cap,h.rm.mono h1 h2⟩
theorem p8.mks {B E:Nat} {S:Nat→Prop} {w w':World} {x:Sls} {s:St} {hs:List AV} (h:p8 B E w x s hs) (hm:Mks S w w') (hS:∀k,S k→k<B∨E≤k):p8 B E w' x s hs:=by
 have key:∀{t:TypeId} {sz n:Nat} {ao:Option Addr},dU B E w t sz ao n→∀k,inR ao n k→¬S k:=fun ho k hk hs=>by
  obtain ⟨h1,h2,_⟩:=ho.lies k hk
  have:=hS k hs
  omega
 have hrow:jH w' hs s.apps:=⟨h.heads.1,fun i h1 h2=>by
  obtain ⟨a,b,c,d⟩:=h.heads.2 i h1 h2
  exact ⟨a,b,c.mks hm (key (h.asks _ (yM h1))),d⟩⟩
 have hav:=h.av.mks hm (key h.a)
 refine ⟨⟨h.row.1.mks hm (key h.q),?_,h.row.2.2.1.mks hm (key h.m),h.row.2.2.2.mks hm (key h.c)⟩,h.q.mks hm,h.a.mks hm,h.m.mks hm,h.c.mks hm,hav,hrow,fun v hv=>(h.asks v hv).mks hm,h.apart,h.cap,h.rm.mks hm⟩
 refine ⟨h.row.2.1.1,?_⟩
 rcases hav.2 with e | ⟨b,off,e,hh⟩
 ·exact .inl e
 ·refine .inr ⟨b,off,e,fun i hi=>?_⟩
  have hi':i<hs.length:=by rw [h.heads.1];exact hi
  obtain ⟨a1,a2,a3,a4⟩:=hrow.2 i hi' hi
  obtain ⟨c1,c2,c3⟩:=hh i hi'
  rw [a1] at c1
  rw [a2] at c2
  exact ⟨hs[i].ao,hs[i].len,hs[i].cap,c1,c2,c3,a3,a4⟩
theorem aKg {w:World} {hs:List AV} {l:List bY} (h:jH w hs l) (hf:aBh l):∀v ∈ hs,v.len≤1048576:=by
 intro v hv
 obtain ⟨i,hi,rfl⟩:=List.getElem_of_mem hv
 have hi':i<l.length:=by rw [←h.1];exact hi
 have h1:=(h.2 i hi hi').2.2.1.1
 have h2:=(hf.2 l[i] (yM hi')).2.1
 omega
structure SMk (w:World) (x:Sls) (hs:List AV):Prop where
 q:iG w x.qa x.ql (nH x.ql)
 a:fA w x.aa x.al (hsM (1+4*x.ql) hs)
 k:nD w (1+4*x.ql) hs
 m:bE w x.ma x.ml (kR (iP (1+4*x.ql) hs) x.ml)
 c:bC w x.ca x.cl (kE (iP (1+4*x.ql) hs+4*x.ml) x.cl)
 z:x.ql=0∨∃g,x.qa=some ⟨g,0,none⟩
theorem SMk.below {w w':World} {x:Sls} {hs:List AV} (h:SMk w x hs) (hb:Below w.heap.size w w'):SMk w' x hs:=⟨h.q.below hb,h.a.below hb,nD.below hb _ _ h.k,h.m.below hb,h.c.below hb,h.z⟩
def aDA (x:Sls) (hs:List AV):Nat:=iP (1+4*x.ql) hs+4*x.ml+5*x.cl
def inS (x:Sls) (hs:List AV) (k:Nat):Prop:=inR x.qa x.ql k∨(inR x.aa x.al k∨∃v ∈ hs,inR v.ao v.len k)∨inR x.ma x.ml k∨inR x.ca x.cl k
theorem p8.ins {B E:Nat} {w:World} {x:Sls} {s:St} {hs:List AV} (h:p8 B E w x s hs):∀k,inS x hs k→B≤k∧k<E:=by
 rintro k (hk | (hk | ⟨v,hv,hk⟩) | hk | hk)
 ·exact ⟨(h.q.lies k hk).1,(h.q.lies k hk).2.1⟩
 ·exact ⟨(h.a.lies k hk).1,(h.a.lies k hk).2.1⟩
 ·exact ⟨((h.asks v hv).lies k hk).1,((h.asks v hv).lies k hk).2.1⟩
 ·exact ⟨(h.m.lies k hk).1,(h.m.lies k hk).2.1⟩
 ·exact ⟨(h.c.lies k hk).1,(h.c.lies k hk).2.1⟩
structure aIg (x:Sls) (hs:List AV):Prop where
 q:x.ql≤1048576
 a:x.al≤1048576
 m:x.ml≤1048576
 c:x.cl≤1048576
 k:∀v ∈ hs,v.len≤1048576
 n:hs.length=x.al
theorem p8.lim {B E:Nat} {w:World} {x:Sls} {s:St} {hs:List AV} (h:p8 B E w x s hs) (hf:bD s):aIg x hs:=
 ⟨by have:=h.row.1.1;have:=hf.1.1;omega,by have:=h.row.2.1.1;have:=hf.2.1.1;omega,by have:=h.row.2.2.1.1;have:=hf.2.2.1.1;omega,by have:=h.row.2.2.2.1;have:=hf.2.2.2.1;omega,aKg h.heads hf.2.1,h.av.1.symm⟩
theorem aIg.e {x:Sls} {hs:List AV} (h:aIg x hs):1+4*x.ql≤iP (1+4*x.ql) hs∧iP (1+4*x.ql) hs≤10000000000000:=by
 have h1:=sO hs (1+4*x.ql)
 have h2:=aIA hs (1+4*x.ql) 1048576 h.k
 have h3:=h.q
 have h4:hs.length*(2+5*1048576)≤1048576*(2+5*1048576):=Nat.mul_le_mul_right _ (by have:=h.n;have:=h.a;omega)
 omega
theorem aBO {B E:Nat} {x:Sls} {s:St} {hs:List AV} {w:World} (h:p8 B E w x s hs) (hE:E≤w.heap.size) (hl:aIg x hs) :
  Calls Tryz.prog 11 #[sv x s,.int .i64 1] w fun e w'=>e=.returned (.int .i64 (aDA x hs:Int))∧SMk w' x hs∧Mks (inS x hs) w w':=by
 have hb0:=yA (yH _ w) (.cells (svc x s) 34)
 have P0:=aA (yD w (svc x s) 34)
 have HA:=aA (h.below hb0)
 have HG0:=aA (show Mks (inS x hs) w _ from .of_below hb0)
 have hlim:=hl.e
 have hsq:=hl.q
 have hsa:=hl.a
 have hsm:=hl.m
 have hsc:=hl.c
 have HK:=aA hl.k
 have hIN:=aA h.ins
 have HZ:=aA (show x.ql=0∨∃g,x.qa=some ⟨g,0,none⟩ by rcases h.q with e | ⟨g,M,e,_⟩;exact .inl e;exact .inr ⟨g,e⟩)
 have hES:aDA x hs=iP (1+4*x.ql) hs+4*x.ml+5*x.cl:=rfl
 obtain ⟨e1,he1⟩:∃e,iP (1+4*x.ql) hs=e:=⟨_,rfl⟩
 have HE1:=aA he1
 rw [he1] at hlim hES
 rw [hES]
 clear h hb0 hl he1 hES
 obtain ⟨qs,clock,epoch,next,serial,apps,ms,cs⟩:=s
 obtain ⟨qa,ql,qc,aa,al,ac,ma,ml,mc,ca,cl,cc⟩:=x
 simp only at *
 have CQ:=aA (zJ (c:=qc) (uH HA).q hsq)
 go_enter Tryz.func11,Tryz.ntmps11
 go_wp2_with fail
 refine (uH CQ).mono ?_
 rintro e w1 ⟨rfl,hrow,hm1⟩
 have hin:∀k,inR qa ql k→k<w.heap.size:=fun k hk=>by have:=uH hIN k (.inl hk);omega
 have P1:=aA (hm1.blk (uH P0) (fun hk=>by have:=hin _ hk;omega))
 have R1:=aA hrow
 have OQ:=aA ((uH HA).q.mks hm1)
 have OA:=aA ((uH HA).a.mks hm1)
 have OM:=aA ((uH HA).m.mks hm1)
 have OC:=aA ((uH HA).c.mks hm1)
 have AVR:=aA ((uH HA).av.mks hm1 ((uH HA).a.apart (uH HA).q (by decide)))
 have OK:=aA (fun v hv=>((uH HA).asks v hv).mks hm1)
 have AP:=aA (uH HA).apart
 have HG1:=aA ((uH HG0).trans (hm1.mono (fun k hk=>.inl hk)))
 have p5:=(uH P1).at 5
 simp at p5
 have CA:=aA (by have:=aC4 (c:=ac) (1+4*ql) hs (uH OA) (uH AVR) (fun v hv=>⟨uH OK v hv,uH HK v hv⟩) (uH AP) hsa (by omega) (by have:=uH HE1;omega);rw [uH HE1,show ((1+4*ql:Nat):Int)=1+4*(ql:Int) by omega] at this;exact this)
 clear hrow hm1 P0 CQ HG0 HA hin
 go_wp2_with fail
 refine (uH CA).mono ?_
 rintro e w2 ⟨rfl,hrow,hask,hm2⟩
 have hin:∀k,(inR aa al k∨∃v ∈ hs,inR v.ao v.len k)→k<w.heap.size:=fun k hk=>by have:=uH hIN k (.inr (.inl hk));omega
 have P2:=aA (hm2.blk (uH P1) (fun hk=>by have:=hin _ hk;omega))
 have R2:=aA ((uH R1).mks hm2 (fun k hk hk'=>by
  rcases hk' with h | ⟨v,hv,h⟩
  ·exact (uH OQ).apart (uH OA) (by decide) k hk h
  ·exact (uH OQ).apart (uH OK v hv) (by decide) k hk h))
 have A2:=aA hrow
 have K2:=aA hask
 have OQ2:=aA ((uH OQ).mks hm2)
 have OA2:=aA ((uH OA).mks hm2)
 have OM2:=aA ((uH OM).mks hm2)
 have OC2:=aA ((uH OC).mks hm2)
 have OK2:=aA (fun v hv=>(uH OK v hv).mks hm2)
 have HG2:=aA ((uH HG1).trans (hm2.mono (fun k hk=>.inr (.inl hk))))
 have p6:=(uH P2).at 6
 simp at p6
 have CM:=aA (uU (c:=mc) e1 (uH OM2) hsm (by omega) (by omega))
 clear hrow hask hm2 P1 CA HG1 p5 R1 OQ OA OM OC OK AVR hin
 go_wp2_with fail
 refine (uH CM).mono ?_
 rintro e w3 ⟨rfl,hrow,hm3⟩
 have hin:∀k,inR ma ml k→k<w.heap.size:=fun k hk=>by have:=uH hIN k (.inr (.inr (.inl hk)));omega
 have P3:=aA (hm3.blk (uH P2) (fun hk=>by have:=hin _ hk;omega))
 have R3:=aA ((uH R2).mks hm3 ((uH OQ2).apart (uH OM2) (by decide)))
 have A3:=aA ((uH A2).mks hm3 ((uH OA2).apart (uH OM2) (by decide)))
 have K3:=aA ((uH K2).mks hm3 _ _ (fun v hv=>(uH OK2 v hv).apart (uH OM2) (by decide)))
 have M3:=aA hrow
 have OQ3:=aA ((uH OQ2).mks hm3)
 have OA3:=aA ((uH OA2).mks hm3)
 have OM3:=aA ((uH OM2).mks hm3)
 have OC3:=aA ((uH OC2).mks hm3)
 have OK3:=aA (fun v hv=>(uH OK2 v hv).mks hm3)
 have HG3:=aA ((uH HG2).trans (hm3.mono (fun k hk=>.inr (.inr (.inl hk)))))
 have p7:=(uH P3).at 7
 simp at p7
 have CC:=aA (by have:=qU (c:=cc) (e1+4*ml) (uH OC3) hsc (by omega) (by omega);rw [show ((e1+4*ml:Nat):Int)=(e1:Int)+4*(ml:Int) by omega] at this;exact this)
 clear hrow hm3 P2 CM HG2 p6 R2 A2 K2 OQ2 OA2 OM2 OC2 OK2 hin
 go_wp2_with fail
 refine (uH CC).mono ?_
 rintro e w4 ⟨rfl,hrow,hm4⟩
 have R4:=aA ((uH R3).mks hm4 ((uH OQ3).apart (uH OC3) (by decide)))
 have A4:=aA ((uH A3).mks hm4 ((uH OA3).apart (uH OC3) (by decide)))
 have K4:=aA ((uH K3).mks hm4 _ _ (fun v hv=>(uH OK3 v hv).apart (uH OC3) (by decide)))
 have M4:=aA ((uH M3).mks hm4 ((uH OM3).apart (uH OC3) (by decide)))
 have C4:=aA hrow
 have HG4:=aA ((uH HG3).trans (hm4.mono (fun k hk=>.inr (.inr (.inr hk)))))
 clear hrow hm4 P3 CC HG3 p7 R3 A3 K3 M3 OQ3 OA3 OM3 OC3 OK3
 go_wp2
 go_ret
 refine ⟨?_,⟨uH R4,uH A4,uH K4,?_,?_,uH HZ⟩,uH HG4⟩
 ·refine bV ?_
  omega
 ·show bE _ _ _ (kR (iP (1+4*ql) hs) ml)
  rw [uH HE1]
  exact uH M4
 ·show bC _ _ _ (kE (iP (1+4*ql) hs+4*ml) cl)
  rw [uH HE1]
  exact uH C4
theorem rC {x:Sls} {hs:List AV} {w:World} (s:St) (h:SMk w x hs) (hl:aIg x hs) :
  Calls Tryz.prog 12 #[sv x s,.int .i64 1] w fun e w'=>e=.returned (.int .i64 (aDA x hs:Int))∧Below w.heap.size w w':=by
 have hb0:=yA (yH _ w) (.cells (svc x s) 34)
 have P0:=aA (yD w (svc x s) 34)
 have HA:=aA (h.below hb0)
 have HB0:=aA hb0
 have hlim:=hl.e
 have hsq:=hl.q
 have hsa:=hl.a
 have hsm:=hl.m
 have hsc:=hl.c
 have HK:=aA hl.k
 have hES:aDA x hs=iP (1+4*x.ql) hs+4*x.ml+5*x.cl:=rfl
 obtain ⟨e1,he1⟩:∃e,iP (1+4*x.ql) hs=e:=⟨_,rfl⟩
 have HE1:=aA he1
 rw [he1] at hlim hES
 rw [hES]
 clear h hb0 hl he1 hES
 obtain ⟨qs,clock,epoch,next,serial,apps,ms,cs⟩:=s
 obtain ⟨qa,ql,qc,aa,al,ac,ma,ml,mc,ca,cl,cc⟩:=x
 simp only at *
 have HN0:¬(1+4*(ql:Int))<0:=by omega
 have HN1:¬(e1:Int)<0:=by omega
 have HN2:¬((e1:Int)+4*(ml:Int))<0:=by omega
 have HN3:¬((e1:Int)+4*(ml:Int)+5*(cl:Int))<0:=by omega
 have CQ:∀wx,Below w.heap.size w wx→SMk wx ⟨qa,ql,qc,aa,al,ac,ma,ml,mc,ca,cl,cc⟩ hs→Calls Tryz.prog 38 #[.slice qa ql qc,.int .i64 1] wx fun e w'=>e=.returned (.int .i64 (1+4*(ql:Int)))∧Below wx.heap.size wx w':=fun wx _ hx=>by
  have hq:=hx.q
  have hz:=hx.z
  simp only at hq hz
  rcases hz with hz | ⟨g,rfl⟩
  ·subst hz
   refine (xG qa qc wx).mono ?_
   rintro e w' ⟨rfl,rfl⟩
   exact ⟨rfl,yH _ _⟩
  ·exact zU g ql qc wx hq hsq
 have CQ':=aA CQ
 clear CQ
 go_enter Tryz.func12,Tryz.ntmps12
 go_wp2_with fail
 refine (uH CQ' _ (uH HB0) (uH HA)).mono ?_
 rintro e w1 ⟨rfl,hb⟩
 have P1:=aA ((uH P0).below hb)
 have HA1:=aA ((uH HA).below hb)
 have HB1:=aA (yB (uH HB0) hb)
 have p5:=(uH P1).at 5
 simp at p5
 have CA:=aA (by have:=aCv aa al ac (1+4*ql) hs w1 (uH HA1).a (uH HA1).k hsa (uH HK) (by omega) (by have:=uH HE1;omega);rw [uH HE1,show ((1+4*ql:Nat):Int)=1+4*(ql:Int) by omega] at this;exact this)
 clear hb P0 HA HB0 CQ'
 go_wp2_with fail
 refine (uH CA).mono ?_
 rintro e w2 ⟨rfl,hb⟩
 have P2:=aA ((uH P1).below hb)
 have HA2:=aA ((uH HA1).below hb)
 have HB2:=aA (yB (uH HB1) hb)
 have p6:=(uH P2).at 6
 simp at p6
 have CM:=aA (by have hmm:=(uH HA2).m;simp only [uH HE1] at hmm;exact uX ma ml mc e1 w2 hmm hsm (by omega) (by omega))
 clear hb P1 HA1 HB1 CA p5
 go_wp2_with fail
 refine (uH CM).mono ?_
 rintro e w3 ⟨rfl,hb⟩
 have P3:=aA ((uH P2).below hb)
 have HA3:=aA ((uH HA2).below hb)
 have HB3:=aA (yB (uH HB2) hb)
 have p7:=(uH P3).at 7
 simp at p7
 have CC:=aA (by have hmm:=(uH HA3).c;simp only [uH HE1] at hmm;have:=rD ca cl cc (e1+4*ml) w3 hmm hsc (by omega) (by omega);rw [show ((e1+4*ml:Nat):Int)=(e1:Int)+4*(ml:Int) by omega] at this;exact this)
 clear hb P2 HA2 HB2 CM p6
 go_wp2_with fail
 refine (uH CC).mono ?_
 rintro e w4 ⟨rfl,hb⟩
 have HB4:=aA (yB (uH HB3) hb)
 clear hb P3 HA3 HB3 CC p7
 go_wp2
 go_ret
 refine ⟨bV ?_,uH HB4⟩
 omega
theorem dU.grow {B E:Nat} {w w':World} {t:TypeId} {sz n:Nat} {ao:Option Addr} (h:dU B E w t sz ao n) (hb:Below w.heap.size w w') (hE:E≤w.heap.size):dU B w'.heap.size w' t sz ao n:=(h.below hb).mono (yJ _) (Nat.le_trans hE hb.size)
theorem qQ {B E k:Nat} {w:World} {t:TypeId} {sz n:Nat} {ao:Option Addr} (h:dU B E w t sz ao n) (hk:k<B∨E≤k):∀i,inR ao n i→¬(i=k):=fun i hi e=>by
 obtain ⟨h1,h2,_⟩:=h.lies i hi
 omega
def vD (B:Nat) (w:World) (ao:Option Addr) (n:Nat) (l:List Q):Prop:=iG w ao n l∧dU B w.heap.size w 100 4 ao n
theorem vD.below {B n:Nat} {w w':World} {ao:Option Addr} {l:List Q} (h:vD B w ao n l) (hb:Below w.heap.size w w'):vD B w' ao n l:=⟨h.1.below hb,h.2.grow hb (yJ _)⟩
theorem vD.sc {B n k j:Nat} {v:Value} {w:World} {ao:Option Addr} {l:List Q} (h:vD B w ao n l) (hk:k<B):vD B (w.setCell ⟨k,j,none⟩ v) ao n l:=
 ⟨h.1.mks (Mks.one (fun x=>x=k) w k j v rfl) (qQ h.2 (.inl hk)),by rw [bG];exact h.2.mks (Mks.one (fun x=>x=k) w k j v rfl)⟩
theorem uR.has {B:Nat} {w:World} {v:Value} {l:List Q} (h:uR B w v l):∃ao cap,v=.slice ao l.length cap∧l.length≤cap∧vD B w ao l.length l:=by
 obtain ⟨ao,cap,e,hr,hc,hg⟩:=vZ h
 refine ⟨ao,cap,e,hc,hr,?_⟩
 by_cases hz:l=[]
 ·exact .inl (by rw [hz];rfl)
 ·obtain ⟨g,cur,e,h1,h2,h3⟩:=hg hz
  exact .inr ⟨g,cap,e,h1,lt_of_block h2,⟨cur,h2,h3⟩,hc⟩
def uS (B:Nat) (w:World) (ao:Option Addr) (n:Nat) (l:List Mac):Prop:=bE w ao n l∧dU B w.heap.size w 104 4 ao n
theorem uS.below {B n:Nat} {w w':World} {ao:Option Addr} {l:List Mac} (h:uS B w ao n l) (hb:Below w.heap.size w w'):uS B w' ao n l:=⟨h.1.below hb,h.2.grow hb (yJ _)⟩
theorem uS.sc {B n k j:Nat} {v:Value} {w:World} {ao:Option Addr} {l:List Mac} (h:uS B w ao n l) (hk:k<B):uS B (w.setCell ⟨k,j,none⟩ v) ao n l:=
 ⟨h.1.mks (Mks.one (fun x=>x=k) w k j v rfl) (qQ h.2 (.inl hk)),by rw [bG];exact h.2.mks (Mks.one (fun x=>x=k) w k j v rfl)⟩
theorem aEw {B:Nat} {w:World} {v:Value} {l:List Mac} (h:aIh B w v l):∃ao cap,v=.slice ao l.length cap∧l.length≤cap∧uS B w ao l.length l:=by
 obtain ⟨ao,cap,e,hr,hc,hg⟩:=aJK h
 refine ⟨ao,cap,e,hc,hr,?_⟩
 by_cases hz:l=[]
 ·exact .inl (by rw [hz];rfl)
 ·obtain ⟨g,cur,e,h1,h2,h3⟩:=hg hz
  exact .inr ⟨g,cap,e,h1,lt_of_block h2,⟨cur,h2,h3⟩,hc⟩
def qA (B:Nat) (w:World) (ao:Option Addr) (n:Nat) (l:List Con):Prop:=bC w ao n l∧dU B w.heap.size w 38 5 ao n
theorem qA.below {B n:Nat} {w w':World} {ao:Option Addr} {l:List Con} (h:qA B w ao n l) (hb:Below w.heap.size w w'):qA B w' ao n l:=⟨h.1.below hb,h.2.grow hb (yJ _)⟩
theorem qA.sc {B n k j:Nat} {v:Value} {w:World} {ao:Option Addr} {l:List Con} (h:qA B w ao n l) (hk:k<B):qA B (w.setCell ⟨k,j,none⟩ v) ao n l:=
 ⟨h.1.mks (Mks.one (fun x=>x=k) w k j v rfl) (qQ h.2 (.inl hk)),by rw [bG];exact h.2.mks (Mks.one (fun x=>x=k) w k j v rfl)⟩
theorem qA.base {B B' n:Nat} {w:World} {ao:Option Addr} {l:List Con} (h:qA B w ao n l) (hb:B'≤B):qA B' w ao n l:=⟨h.1,h.2.mono hb (yJ _)⟩
theorem aBa {B:Nat} {w:World} {v:Value} {l:List Con} (h:aGh B w v l):∃ao cap,v=.slice ao l.length cap∧l.length≤cap∧qA B w ao l.length l:=by
 obtain ⟨ao,cap,e,hr,hc,hg⟩:=aJ4 h
 refine ⟨ao,cap,e,hc,hr,?_⟩
 by_cases hz:l=[]
 ·exact .inl (by rw [hz];rfl)
 ·obtain ⟨g,cur,e,h1,h2,h3⟩:=hg hz
  exact .inr ⟨g,cap,e,h1,lt_of_block h2,⟨cur,h2,h3⟩,hc⟩
def p9 (B:Nat) (w:World) (ao:Option Addr) (n:Nat) (hs:List AV):Prop:=fA w ao n hs∧dU B w.heap.size w 74 3 ao n
theorem p9.below {B n:Nat} {w w':World} {ao:Option Addr} {l:List AV} (h:p9 B w ao n l) (hb:Below w.heap.size w w'):p9 B w' ao n l:=⟨h.1.below hb,h.2.grow hb (yJ _)⟩
theorem p9.sc {B n k j:Nat} {v:Value} {w:World} {ao:Option Addr} {l:List AV} (h:p9 B w ao n l) (hk:k<B):p9 B (w.setCell ⟨k,j,none⟩ v) ao n l:=
 ⟨h.1.mks (Mks.one (fun x=>x=k) w k j v rfl) (qQ h.2 (.inl hk)),by rw [bG];exact h.2.mks (Mks.one (fun x=>x=k) w k j v rfl)⟩
theorem aEp {B:Nat} {w:World} {v:Value} {l:List AV} (h:aBm B w v l):∃ao cap,v=.slice ao l.length cap∧l.length≤cap∧p9 B w ao l.length l:=by
 obtain ⟨ao,cap,e,hr,hc,hg⟩:=aIx h
 refine ⟨ao,cap,e,hc,hr,?_⟩
 by_cases hz:l=[]
 ·exact .inl (by rw [hz];rfl)
 ·obtain ⟨g,cur,e,h1,h2,h3⟩:=hg hz
  exact .inr ⟨g,cap,e,h1,lt_of_block h2,⟨cur,h2,h3⟩,hc⟩
structure kX (B:Nat) (w:World) (ns:List AV) (l:List bY):Prop where
 heads:jH w ns l
 own:∀v ∈ ns,dU B w.heap.size w 77 5 v.ao v.len
 apart:ns.Pairwise aIc
theorem kX.below {B:Nat} {w w':World} {ns:List AV} {l:List bY} (h:kX B w ns l) (hb:Below w.heap.size w w'):kX B w' ns l:=⟨h.heads.below hb,fun v hv=>(h.own v hv).grow hb (yJ _),h.apart⟩
theorem kX.sc {B k j:Nat} {v:Value} {w:World} {ns:List AV} {l:List bY} (h:kX B w ns l) (hk:k<B∨∃t N,Cel w t k N∧t≠77):kX B (w.setCell ⟨k,j,none⟩ v) ns l:=by
 have key:∀u ∈ ns,∀i,inR u.ao u.len i→¬(i=k):=fun u hu i hi e=>by
  obtain ⟨h1,h2,N,hc⟩:=(h.own u hu).lies i hi
  subst e
  rcases hk with hk | ⟨t,N',hc',ht⟩
  ·omega
  ·exact ht (hc'.type hc)
 refine ⟨⟨h.heads.1,fun i h1 h2=>?_⟩,fun u hu=>?_,h.apart⟩
 ·obtain ⟨a,b,c,d⟩:=h.heads.2 i h1 h2
  exact ⟨a,b,c.mks (Mks.one (fun x=>x=k) w k j v rfl) (key _ (yM h1)),d⟩
 ·rw [bG]
  exact (h.own u hu).mks (Mks.one (fun x=>x=k) w k j v rfl)
theorem kX.nil (B:Nat) (w:World):kX B w [] []:=⟨⟨rfl,fun i h=>absurd h (by simp)⟩,fun v hv=>absurd hv (by simp),.nil⟩
theorem vJ {B:Nat} {w:World} {v:Value} {l:List Ask} (h:tH B w v l):∃ao cap,v=.slice ao l.length cap∧l.length≤cap∧aO w ao l.length l∧dU B w.heap.size w 77 5 ao l.length:=by
 obtain ⟨ao,cap,e,hr,hc,hg⟩:=h.row
 refine ⟨ao,cap,e,hc,hr,?_⟩
 by_cases hz:l=[]
 ·exact .inl (by rw [hz];rfl)
 ·obtain ⟨g,cur,e,h1,h2,h3⟩:=hg hz
  exact .inr ⟨g,cap,e,h1,lt_of_block h2,⟨cur,h2,h3⟩,hc⟩
theorem kX.snoc {B:Nat} {w w':World} {ns:List AV} {l:List bY} (h:kX B w ns l) (hb:Below w.heap.size w w') (hB:B≤w.heap.size) (id:Int) (qu:List UInt8) (ao:Option Addr) (cap:Nat) (k:List Ask) (hc:k.length≤cap)
  (hr:aO w' ao k.length k) (ho:dU w.heap.size w'.heap.size w' 77 5 ao k.length):kX B w' (ns++[⟨id,qu,ao,k.length,cap⟩]) (l++[⟨id,qu,k⟩]):=by
 have h':=h.below hb
 refine ⟨⟨by simp [h.heads.1],fun i h1 h2=>?_⟩,fun v hv=>?_,?_⟩
 ·by_cases hi:i<ns.length
  ·have hi':i<l.length:=by rw [←h.heads.1];exact hi
   rw [List.getElem_append_left hi,List.getElem_append_left hi']
   exact h'.heads.2 i hi hi'
  ·have hi1:i=ns.length:=by simp at h1;omega
   subst hi1
   have hl:ns.length=l.length:=h.heads.1
   simp only [List.getElem_append_right (yJ _),Nat.sub_self,List.getElem_cons_zero]
   rw [List.getElem_append_right (by omega)]
   simp only [hl,Nat.sub_self,List.getElem_cons_zero]
   exact ⟨trivial,trivial,hr,hc⟩
 ·rcases List.mem_append.1 hv with hv | hv
  ·exact h'.own v hv
  ·simp at hv
   subst hv
   exact ho.mono hB (yJ _)
 ·refine List.pairwise_append.2 ⟨h.apart,by simp,fun u hu v hv=>?_⟩
  simp at hv
  subst hv
  rcases h.own u hu with e | ⟨g1,M1,e1,_,h3,_⟩
  ·exact .inl e
  ·rcases ho with e | ⟨g2,M2,e2,h4,_⟩
   ·exact .inr (.inl e)
   ·refine .inr (.inr (fun e=>?_))
    simp only at e
    rw [e1,e2] at e
    cases e
    omega
theorem aI0 {w:World} {ao:Option Addr} {n:Nat} {hs:List AV} {l:List bY} (h:fA w ao n hs) (hh:jH w hs l):eO w ao n l:=by
 refine ⟨h.1.trans hh.1,?_⟩
 rcases h.2 with e | ⟨b,off,e,hc⟩
 ·exact .inl e
 ·refine .inr ⟨b,off,e,fun i hi=>?_⟩
  have hi':i<hs.length:=by rw [hh.1];exact hi
  obtain ⟨a1,a2,a3,a4⟩:=hh.2 i hi' hi
  obtain ⟨c1,c2,c3⟩:=hc i hi'
  rw [a1] at c1
  rw [a2] at c2
  exact ⟨hs[i].ao,hs[i].len,hs[i].cap,c1,c2,c3,a3,a4⟩
theorem aDd {B:Nat} {w:World} {x:Sls} {s:St} {hs:List AV} (q:vD B w x.qa x.ql s.qs) (a:p9 B w x.aa x.al hs) (k:kX B w hs s.apps) (m:uS B w x.ma x.ml s.ms) (c:qA B w x.ca x.cl s.cs) (cap:aLb x) (rm:RmS B w.heap.size w x hs):p8 B w.heap.size w x s hs:=
 ⟨⟨q.1,aI0 a.1 k.heads,m.1,c.1⟩,q.2,a.2,m.2,c.2,a.1,k.heads,k.own,k.apart,cap,rm⟩
theorem qA.blk {B n k:Nat} {w:World} {ao:Option Addr} {l:List Con} (h:qA B w ao n l) (hk:k<n):∃g,ao=some ⟨g,0,none⟩∧B≤g∧g<w.heap.size∧(∀j,w.frozen? ⟨g,j,none⟩=false)∧∀i (hi:i<l.length),oP w g (i*5) l[i]:=by
 obtain ⟨⟨h1,h2⟩,h3⟩:=h
 rcases h3 with e | ⟨g,M,rfl,hB,hE,hc,hn⟩
 ·omega
 ·rcases h2 with e | ⟨b,off,e,hh⟩
  ·omega
  ·cases e
   exact ⟨g,rfl,hB,hE,fun j=>hc.frozen j,fun i hi=>by have:=hh i hi;rwa [Nat.zero_add] at this⟩
theorem xU (ao:Option Addr) (len cap:Nat) (cs:List Con) (w:World) (h:bC w ao len cs) (hl:len≤1048576) (hn:∀c ∈ cs,c.node.length≤1048576) :
  Calls Tryz.prog 68 #[.slice ao len cap] w fun e w'=>∃co cd,e=.returned (.slice co cs.length cd)∧cs.length≤cd∧qA w.heap.size w' co cs.length cs∧dU w.heap.size w'.heap.size w' 38 5 co cd∧Below w.heap.size w w':=by
 have HF:=aA hn
 have CC:=aA (aBd ao len cap cs w h hl)
 have hll:=aA h.1
 clear h hn
 go_enter Tryz.func68,Tryz.ntmps68
 go_wp2_with fail
 refine (uH CC).mono ?_
 rintro e w9 ⟨v,rfl,ho,hb⟩
 obtain ⟨co,cd,rfl,hcd,hch⟩:=aBa ho
 obtain ⟨n4,hn4⟩:∃n,cs.length=n:=⟨_,rfl⟩
 rw [hn4] at hch hcd ⊢
 have OC:=aA hch
 have HO9:=aA (iN ho)
 have HB9:=aA hb
 have HN4:=aA hn4
 have hl4:n4≤1048576:=by have:=uH hll;omega
 clear ho hb hch CC hn4
 go_wp2
 go_loopw [4,5,10] (fun _ _ i wr=>∃(q:Nat),q≤n4∧i=.int .i64 q∧Hid (qA w.heap.size wr co n4 cs)∧Hid (dU w.heap.size wr.heap.size wr 38 5 co cd)∧Hid (Below w.heap.size w wr)) (fun _ _ i _=>n4 - (intOf i).toNat)
 case atStart=>exact ⟨0,Nat.zero_le _,rfl,OC,HO9,HB9⟩
 case round=>
  obtain ⟨q,hq,rfl,HC,HO,HB⟩:=hrel
  clear OC HO9 HB9
  by_cases hlt:q<n4
  ·obtain ⟨g,rfl,hgB,hgE,hfz,hat⟩:=(uH HC).blk hlt
   have hjl:q<cs.length:=by have:=uH HN4;omega
   obtain ⟨c0,c1,c2,c3,c4⟩:=hat q hjl
   have hnm:=uH HF cs[q] (yM hjl)
   obtain ⟨⟨ci,cap,cn,me,cp⟩,hm⟩:∃m,cs[q]=m:=⟨_,rfl⟩
   rw [hm] at c0 c1 c2 c3 c4 hnm
   simp only at c0 c1 c2 c3 c4 hnm
   have HW:=aA (yA (yH _ wr) (.cells #[.int .i64 ci,.int .i64 cap,.string (bs cn),.int .i64 me,.int .i64 cp] 38))
   have XC:=aA ((uH HC).below (uH HW))
   have XB:=aA (yB (uH HB) (uH HW))
   have XO:=aA ((uH HO).grow (uH HW) (yJ _))
   have XA:=aA (yD wr #[.int .i64 ci,.int .i64 cap,.string (bs cn),.int .i64 me,.int .i64 cp] 38)
   have D0:=aA (gD c0 (uH HW))
   have D1:=aA (gD c1 (uH HW))
   have D2:=aA (gD c2 (uH HW))
   have D3:=aA (gD c3 (uH HW))
   have D4:=aA (gD c4 (uH HW))
   have CL:=aA (fun wx=>pG ⟨ci,cap,cn,me,cp⟩ wx hnm)
   have j0:(0:Int)≤q:=by omega
   have j1:(q:Int)<n4:=by omega
   clear hat hm hjl hfz hnm
   obtain ⟨W,hW⟩:∃W,wr.alloc (.cells #[.int .i64 ci,.int .i64 cap,.string (bs cn),.int .i64 me,.int .i64 cp] 38)=W:=⟨_,rfl⟩
   have XA1:=uH XA
   rw [hW] at XC XB XO D0 D1 D2 D3 D4 XA1
   have xa0:=(uH XA).at 0
   have xa1:=(uH XA).at 1
   have xa2:=(uH XA).at 2
   have xa3:=(uH XA).at 3
   have xa4:=(uH XA).at 4
   simp at xa0 xa1 xa2 xa3 xa4
   have HWW:=aA hW
   clear hW HW HC HB HO XA XA1
   go_wp2_with fail
   refine (uH CL _).mono ?_
   rintro e w6 ⟨rfl,hb⟩
   rw [uH HWW] at hb
   have HB6:=aA (yB (yH _ W) hb)
   clear c0 c1 c2 c3 c4
   have c0:=gD (uH D0) (uH HB6);have c1:=gD (uH D1) (uH HB6);have c2:=gD (uH D2) (uH HB6);have c3:=gD (uH D3) (uH HB6);have c4:=gD (uH D4) (uH HB6)
   have s0:=iI c0;have s1:=iI c1;have s2:=iI c2;have s3:=iI c3;have s4:=iI c4
   obtain ⟨g',e',_,_,hfz,_⟩:=((uH XC).below (uH HB6)).blk hlt
   cases e'
   have z0:=hfz (q*5);have z1:=hfz (q*5+1);have z2:=hfz (q*5+2);have z3:=hfz (q*5+3);have z4:=hfz (q*5+4)
   clear hb hfz
   go_wp2
   go_roundw
   case rel=>exact ⟨q+1,by omega,by go_num,aA ((uH XC).below (uH HB6)),aA ((uH XO).grow (uH HB6) (yJ _)),aA (yB (uH XB) (uH HB6))⟩
   case measure=>simp [intOf];omega
  ·obtain rfl:q=n4:=by omega
   have j1:¬(q:Int)<q:=by omega
   clear hlt
   go_wp2
   go_ret
   rw [uH HN4]
   exact ⟨co,cd,rfl,hcd,uH HC,uH HO,uH HB⟩
def RmL (B:Nat) (w:World) (l:List (TypeId×Nat×Option Addr×Nat)):Prop:=∀p ∈ l,dU B w.heap.size w p.1 p.2.1 p.2.2.1 p.2.2.2
theorem RmL.nil (B:Nat) (w:World):RmL B w []:=fun p hp=>absurd hp (by simp)
theorem RmL.cons {B:Nat} {w:World} {l:List (TypeId×Nat×Option Addr×Nat)} {t:TypeId} {sz c:Nat} {ao:Option Addr} (h:dU B w.heap.size w t sz ao c) (hl:RmL B w l):RmL B w ((t,sz,ao,c)::l):=fun p hp=>by
 rcases List.mem_cons.1 hp with rfl | hp
 ·exact h
 ·exact hl p hp
theorem RmL.sub {B:Nat} {w:World} {l l':List (TypeId×Nat×Option Addr×Nat)} (h:RmL B w l) (hs:∀p ∈ l',p ∈ l):RmL B w l':=fun p hp=>h p (hs p hp)
theorem RmL.below {B:Nat} {w w':World} {l:List (TypeId×Nat×Option Addr×Nat)} (h:RmL B w l) (hb:Below w.heap.size w w'):RmL B w' l:=fun p hp=>((h p hp).below hb).mono (yJ _) hb.size
theorem mK {B:Nat} {w:World} {t:TypeId} {sz n:Nat} {ao:Option Addr} (h:dU B w.heap.size w t sz ao n) (k j:Nat) (v:Value):dU B (w.setCell ⟨k,j,none⟩ v).heap.size (w.setCell ⟨k,j,none⟩ v) t sz ao n:=(h.sc k j v).mono (yJ _) (by rw [bG];exact yJ _)
theorem RmL.sc {B:Nat} {w:World} {l:List (TypeId×Nat×Option Addr×Nat)} (h:RmL B w l) (k j:Nat) (v:Value):RmL B (w.setCell ⟨k,j,none⟩ v) l:=fun p hp=>mK (h p hp) k j v
theorem RmL.grown {B:Nat} {w w':World} {l:List (TypeId×Nat×Option Addr×Nat)} {t':TypeId} {r:Option Nat} (h:RmL B w l) (hg:w.grownBy w' r) (hr:∀k,r=some k→∃N,Cel w t' k N) (ht:∀p ∈ l,t'≠p.1):RmL B w' l:=fun p hp=>by
 rcases h p hp with e | ⟨g,M,e,h1,h2,h3,h4⟩
 ·exact .inl e
 ·refine .inr ⟨g,M,e,h1,Nat.lt_of_lt_of_le h2 hg.size,h3.of_block (hg.block g h2 (fun e2=>?_)),h4⟩
  obtain ⟨N,hc⟩:=hr g e2.symm
  exact ht p hp (hc.type h3)
def RL4 (co:Option Addr) (cd:Nat) (mo:Option Addr) (md:Nat) (qo:Option Addr) (qd:Nat) (ns:List AV):List (TypeId×Nat×Option Addr×Nat):=(38,5,co,cd)::(104,4,mo,md)::(100,4,qo,qd)::ns.map (fun v=>(77,5,v.ao,v.cap))
theorem aIt (co:Option Addr) (cd:Nat) (mo:Option Addr) (md:Nat) (qo:Option Addr) (qd:Nat) (ns:List AV) (v:AV):∀p ∈ RL4 co cd mo md qo qd (ns++[v]),p ∈ (77,5,v.ao,v.cap)::RL4 co cd mo md qo qd ns:=fun p hp=>by
 simp only [RL4,List.map_append,List.map_cons,List.map_nil,List.mem_cons,List.mem_append,List.not_mem_nil,or_false] at hp ⊢
 rcases hp with h | h | h | h | h<;>simp [h]
theorem aKG (co:Option Addr) (cd:Nat) (mo:Option Addr) (md:Nat) (qo:Option Addr) (qd:Nat) (ns:List AV):∀p ∈ RL4 co cd mo md qo qd ns,74≠p.1:=fun p hp=>by
 simp only [RL4,List.mem_cons,List.mem_map] at hp
 rcases hp with rfl | rfl | rfl | ⟨v,_,rfl⟩<;>(simp only;decide)
theorem aJo {B:Nat} {w:World} {x:Sls} {hs:List AV} (h:RmL B w (RL4 x.ca x.cc x.ma x.mc x.qa x.qc hs)) (ha:dU B w.heap.size w 74 3 x.aa x.ac):RmS B w.heap.size w x hs:=
 ⟨h (100,4,x.qa,x.qc) (by simp [RL4]),ha,h (104,4,x.ma,x.mc) (by simp [RL4]),h (38,5,x.ca,x.cc) (by simp [RL4]),fun v hv=>h (77,5,v.ao,v.cap) (by simp only [RL4,List.mem_cons,List.mem_map];exact .inr (.inr (.inr ⟨v,hv,rfl⟩)))⟩
def Lay (w:World) (t:TypeId) (g M:Nat) (cs:List Value):Prop:=∃R:List Value,w.heap[g]? = some (.cells (cs++R).toArray t (0,0))∧(cs++R).length=M
theorem Lay.lt {w:World} {t:TypeId} {g M:Nat} {cs:List Value} (h:Lay w t g M cs):g<w.heap.size:=let ⟨_,h,_⟩:=h;lt_of_block h
theorem Lay.of_block {w w':World} {t:TypeId} {g M:Nat} {cs:List Value} (h:Lay w t g M cs) (e:w'.heap[g]? = w.heap[g]?):Lay w' t g M cs:=let ⟨R,h1,h2⟩:=h;⟨R,e.trans h1,h2⟩
theorem Lay.below {w w':World} {t:TypeId} {g M:Nat} {cs:List Value} (h:Lay w t g M cs) (hb:Below w.heap.size w w'):Lay w' t g M cs:=h.of_block (hb.block g h.lt)
theorem Lay.other {w:World} {t:TypeId} {g M:Nat} {cs:List Value} (h:Lay w t g M cs) (k j:Nat) (v:Value) (hk:g≠k):Lay (w.setCell ⟨k,j,none⟩ v) t g M cs:=h.of_block (heap_setCell_other w ⟨k,j,none⟩ g v hk)
theorem Lay.cel {w:World} {t:TypeId} {g M:Nat} {cs:List Value} (h:Lay w t g M cs):Cel w t g M:=let ⟨R,h1,h2⟩:=h;⟨_,h1,by simpa using h2⟩
theorem Lay.cell {w:World} {t:TypeId} {g M:Nat} {cs:List Value} (h:Lay w t g M cs) {j:Nat} {u:Value} (hj:cs[j]? = some u):w.cell? ⟨g,j,none⟩=some u:=by
 obtain ⟨R,h1,h2⟩:=h
 have hl:j<cs.length:=(List.getElem?_eq_some_iff.1 hj).1
 simp [World.cell?,h1,List.getElem?_append_left hl,hj]
theorem dH:∀a b:List Con,aD (a++b)=aD a++aD b
 | [],b=>rfl
 | q::t,b=>by rw [List.cons_append,aD,aD,dH t b,List.append_assoc]
theorem Lay.rowC {w:World} {g M:Nat} {l:List Con} (h:Lay w 38 g M (aD l)):bC w (some ⟨g,0,none⟩) l.length l:=by
 refine ⟨rfl,.inr ⟨g,0,rfl,fun i hi=>?_⟩⟩
 obtain ⟨a,b,c,d,e⟩:=nR l i hi
 unfold oP
 simp only [Nat.zero_add]
 exact ⟨h.cell a,h.cell b,h.cell c,h.cell d,h.cell e⟩
theorem Mks.grown {g:Nat} {w w':World} (h:Mks (fun k=>k=g) w w'):w.grownBy w' (some g):=⟨h.os,h.tape,h.output,h.size,fun k hk hne=>h.block k hk (fun e=>hne (by rw [e]))⟩
theorem Lay.rowP {w:World} {g M:Nat} {l:List AV} (h:Lay w 74 g M (dB l)):fA w (some ⟨g,0,none⟩) l.length l:=by
 refine ⟨rfl,.inr ⟨g,0,rfl,fun i hi=>?_⟩⟩
 obtain ⟨a,b,c⟩:=kC l i hi
 unfold aGk
 simp only [Nat.zero_add]
 exact ⟨h.cell a,h.cell b,h.cell c⟩
theorem aA7 {w:World} {t:TypeId} {g N:Nat} {cs:List Value} (hc:Cel w t g N) (h:∀j u,cs[j]? = some u→w.cell? ⟨g,j,none⟩=some u) (hl:cs.length≤N):Lay w t g N cs:=by
 obtain ⟨arr,h1,h2⟩:=hc
 refine ⟨arr.toList.drop cs.length,?_,by simp;omega⟩
 have e:cs++arr.toList.drop cs.length=arr.toList:=by
  apply List.ext_getElem?
  intro j
  by_cases hj:j<cs.length
  ·rw [List.getElem?_append_left hj]
   have h3:=h j cs[j] (List.getElem?_eq_getElem hj)
   simp [World.cell?,h1] at h3
   rw [List.getElem?_eq_getElem hj,Array.getElem?_toList]
   exact h3.symm
  ·rw [List.getElem?_append_right (by omega),List.getElem?_drop]
   congr 1
   omega
 rw [e]
 simpa using h1
theorem eT {S:Nat→Prop} {g:Nat} (hg:S g):∀(vs:List Value) (o:Nat) (a w:World),Mks S a w→Mks S a (w.setCells g o vs)
 | [],_,_,_,h=>h
 | v::r,o,a,w,h=>eT hg r (o+1) a _ (h.sc g o v hg)
theorem Cel.isThere {w:World} {t:TypeId} {g N:Nat} (h:Cel w t g N) {j:Nat} (hj:j<N):(w.cell? ⟨g,j,none⟩).isSome=true:=by
 obtain ⟨arr,h1,h2⟩:=h
 have h3:j<arr.size:=by omega
 simp [World.cell?,h1,h3]
theorem aGZ {w w':World} (h:w.grownBy w' none):Below w.heap.size w w':=(yH _ w).grown h (yJ _) (fun k e=>by cases e)
structure aLY (B:Nat) (w:World) (e:TypeId) (sz:Nat) (ao:Option Addr) (n:Nat) (all:List Value) (g cap:Nat) (w':World):Prop where
 cells:∀j u,all[j]? = some u→w'.cell? ⟨g,j,none⟩=some u
 own:dU B w'.heap.size w' e sz (some ⟨g,0,none⟩) cap
 cap:n≤cap
 mks:Mks (fun k=>∃N,Cel w e k N∧B≤k) w w'
 pos:ao=some ⟨g,0,none⟩∧Mks (fun k=>k=g) w w'∨w.heap.size≤g∧Below w.heap.size w w'
theorem nE {P:Program} (w:World) {ops:Array Oper} {rest:List Oper} {o:Oper} {a:Act} {Q:Exit→Act→World→Prop} (hgd:o.guard=none) (s x:Operand) (t:TypeId)
  (ho:o.op=.call { callee:=.builtin .append,args:=#[s,x],argTypes:=#[t,t] })
  (e:TypeId) (i:TypeInfo) (z:Value) (size bytes:Nat) (ht:P.underlying t=some (.slice e)) (hi:P.info? e=some i) (hz:i.zero=some z)
  (hsize:i.size=size) (hby:i.bytes=bytes) (hzs:z.cells.size=size) (hsz:0<size)
  (B E:Nat) (ao:Option Addr) (n cap:Nat) (olds:List Value) (hs:a.eval s=.slice ao n cap) (hrm:dU B E w e size ao cap) (hnc:n≤cap) (hB:B≤w.heap.size)
  (hlo:olds.length=n*size) (holds:∀b off,ao=some ⟨b,off,none⟩→∀j u,olds[j]? = some u→w.cell? ⟨b,off+j,none⟩=some u)
  (ad:Addr) (m c:Nat) (news:List Value) (hx:a.eval x=.slice (some ad) m c) (hn:news.length=m*size) (hc:∀j u,news[j]? = some u→w.cell? (ad.add j)=some u) (h1c:∀u ∈ news,u.oneCell'=true) (hm:0<m)
  (b1:n+m≤maxLen) (b2:(n+m)*bytes≤140737488355328)
  (h:∀g cap' w',aLY B w e size ao (n+m) (olds++news) g cap' w'→wpList P ops Q rest (a.put o.dst (.slice (some ⟨g,0,none⟩) (n+m) cap')) w'):wpList P ops Q (o::rest) a w:=by
 by_cases hr:n+m≤cap
 ·rcases hrm with e0 | ⟨g,M,rfl,h1,h2,h3,h4⟩
  ·omega
  ·have hle:(n+m)*size≤M*size:=Nat.mul_le_mul_right _ (by omega)
   rw [Nat.add_mul] at hle
   refine wpList_append_arg w hgd s x t ho e i z size bytes ht hi hz hsize hby hzs hsz g 0 n cap olds hs hlo (fun j u hj=>holds g 0 rfl j u hj) ad m c news hx hn hc h1c (fun _ j hj=>⟨h3.isThere (by omega),h3.frozen _⟩) b1 b2 (fun _=>h g cap _ ⟨fun j u hj=>?_,?_,hr,eT ⟨_,h3,h1⟩ _ _ _ _ (Mks.refl _ _),.inl ⟨rfl,eT (S:=fun k=>k=g) rfl _ _ _ _ (Mks.refl _ _)⟩⟩) (fun hlt=>by omega)
   ·by_cases hj2:j<olds.length
    ·rw [List.getElem?_append_left hj2] at hj
     rw [World.cell?_setCells_out g news (0+n*size) w ⟨g,j,none⟩ (fun _ _=>by left;show j<0+n*size;omega)]
     have:=holds g 0 rfl j u hj
     rwa [Nat.zero_add] at this
    ·rw [List.getElem?_append_right (by omega)] at hj
     have hjl:j - olds.length<news.length:=(List.getElem?_eq_some_iff.1 hj).1
     have:=World.cell?_setCells_in g news (0+n*size) w (fun k hk=>h3.isThere (by omega)) (j - olds.length) hjl
     rw [show 0+n*size+(j - olds.length)=j by omega] at this
     rw [this]
     rw [List.getElem?_eq_getElem hjl] at hj
     exact hj
   ·have hk:Mks (fun k=>k=g) w (w.setCells g (0+n*size) news):=eT (S:=fun k=>k=g) rfl _ _ _ _ (Mks.refl _ _)
    exact .inr ⟨g,M,rfl,h1,Nat.lt_of_lt_of_le h3.lt hk.size,hk.cel _ _ _ h3,h4⟩
 ·have hnone:ao=none→n=0∧cap=0:=fun e0=>by
   rcases hrm with h0 | ⟨g,M,h1,_⟩
   ·omega
   ·rw [e0] at h1;cases h1
  refine wpList_append_grows w hgd s x t ho e i z size bytes ht hi hz hsize hby hzs hsz ao n cap olds hs hnone hlo (fun b hb j u hj=>?_) ad m c news hx hn hc h1c (by omega) b1 b2 (fun v' w' h1 h2=>?_)
  ·rcases hrm with h0 | ⟨g,M,h1,_⟩
   ·have hn0:n=0:=by omega
    rw [hn0,Nat.zero_mul] at hlo
    rw [List.eq_nil_of_length_eq_zero hlo] at hj
    simp at hj
   ·obtain rfl:=Option.some.inj (hb.symm.trans h1)
    rw [Addr.add_lit]
    exact holds g 0 hb j u hj
  ·obtain ⟨g,cap',rfl,hg1,hg2⟩:=h1.form (by omega)
   have hb:=aGZ h2
   rcases h1.2 with ⟨e0,_⟩ | ⟨g',c',cur,e0,k1,k2,k3,k4,k5,k6⟩
   ·cases e0
   ·cases e0
    refine h g cap' w' ⟨fun j u hj=>?_,.inr ⟨g,cap',rfl,by omega,lt_of_block k2,⟨cur,k2,k5⟩,yJ _⟩,k3,Mks.of_below hb,.inr ⟨by omega,hb⟩⟩
    have hjl:j<(olds++news).length:=(List.getElem?_eq_some_iff.1 hj).1
    rw [←k6] at hj hjl
    rw [List.length_take] at hjl
    rw [List.getElem?_take_of_lt (by omega)] at hj
    simp [World.cell?,k2]
    simpa using hj
theorem Lay.frozen {w:World} {t:TypeId} {g M:Nat} {cs:List Value} (h:Lay w t g M cs) (j:Nat):w.frozen? ⟨g,j,none⟩=false:=h.cel.frozen j
theorem Lay.isThere {w:World} {t:TypeId} {g M:Nat} {cs:List Value} (h:Lay w t g M cs) {j:Nat} (hj:j<M):(w.cell? ⟨g,j,none⟩).isSome=true:=by
 obtain ⟨R,h1,h2⟩:=h
 have h3:j<(cs++R).length:=by omega
 simp [World.cell?,h1,List.getElem?_eq_getElem h3]
theorem Lay.drew {w:World} {t:TypeId} {g M:Nat} {cs:List Value} (h:Lay w t g M cs):Lay w.drew t g M cs:=h
theorem Lay.cells {w:World} {t:TypeId} {g M:Nat} {cs:List Value} (h:Lay w t g M cs) (o:Nat) (vs:List Value) (hf:o+vs.length≤M) (new:List Value) (hn:new.length≤M)
  (hi:∀j u,new[j]? = some u→(o≤j∧j<o+vs.length→vs[j - o]? = some u)∧(¬(o≤j∧j<o+vs.length)→w.cell? ⟨g,j,none⟩=some u)):Lay (w.setCells g o vs) t g M new:=by
 refine aA7 ?_ (fun j u hj=>?_) hn
 ·exact (eT (S:=fun k=>k=g) rfl vs o w w (Mks.refl _ _)).cel _ _ _ h.cel
 ·by_cases e:o≤j∧j<o+vs.length
  ·have h1:=World.cell?_setCells_in g vs o w (fun k hk=>h.isThere (by omega)) (j - o) (by omega)
   rw [show o+(j - o)=j by omega] at h1
   rw [h1]
   have h2:=(hi j u hj).1 e
   rw [List.getElem?_eq_getElem (by omega)] at h2
   exact h2
  ·rw [World.cell?_setCells_out g vs o w ⟨g,j,none⟩ (fun _ _=>by show j<o∨o+vs.length≤j;omega)]
   exact (hi j u hj).2 e
theorem aO.lay {w:World} {g N n:Nat} {l:List Ask} (h:aO w (some ⟨g,0,none⟩) n l) (hc:Cel w 77 g N) (hn:l.length*5≤N):Lay w 77 g N (aK l):=
 aA7 hc (fun j u hj=>by have:=oN h j u hj;rwa [Nat.zero_add] at this) (by rw [aU];exact hn)
theorem Lay.rowA {w:World} {g M:Nat} {l:List Ask} (h:Lay w 77 g M (aK l)):aO w (some ⟨g,0,none⟩) l.length l:=by
 refine ⟨rfl,.inr ⟨g,0,rfl,fun i hi=>?_⟩⟩
 obtain ⟨a,b,c,d,e⟩:=lW l i hi
 rw [Nat.zero_add]
 exact ⟨h.cell a,h.cell b,h.cell c,h.cell d,h.cell e⟩
theorem bC.lay {w:World} {g N n:Nat} {l:List Con} (h:bC w (some ⟨g,0,none⟩) n l) (hc:Cel w 38 g N) (hn:l.length*5≤N):Lay w 38 g N (aD l):=
 aA7 hc (fun j u hj=>by have:=fQ h j u hj;rwa [Nat.zero_add] at this) (by rw [bP];exact hn)
def vC (B:Nat) (w:World) (t:TypeId) (sz:Nat) (ao:Option Addr) (n cap:Nat):Prop:=n≤cap∧(cap=0∨∃g M,ao=some ⟨g,0,none⟩∧B≤g∧Cel w t g (M*sz)∧cap≤M)
theorem vC.mks {S:Nat→Prop} {B:Nat} {w w':World} {t:TypeId} {sz n cap:Nat} {ao:Option Addr} (h:vC B w t sz ao n cap) (hm:Mks S w w'):vC B w' t sz ao n cap:=by
 obtain ⟨h1,h3⟩:=h
 refine ⟨h1,?_⟩
 rcases h3 with h3 | ⟨g,M,e,hB,hc,hM⟩
 ·exact .inl h3
 ·exact .inr ⟨g,M,e,hB,hm.cel _ _ _ hc,hM⟩
theorem vC.below {B:Nat} {w w':World} {t:TypeId} {sz n cap:Nat} {ao:Option Addr} (h:vC B w t sz ao n cap) (hb:Below w.heap.size w w'):vC B w' t sz ao n cap:=h.mks (S:=fun _=>False) (.of_below hb)
theorem vC.own {B:Nat} {w:World} {t:TypeId} {sz n cap:Nat} {ao:Option Addr} (h:vC B w t sz ao n cap):dU B w.heap.size w t sz ao n:=by
 obtain ⟨h1,h3⟩:=h
 rcases h3 with h3 | ⟨g,M,e,hB,hc,hM⟩
 ·exact .inl (by omega)
 ·exact .inr ⟨g,M,e,hB,hc.lt,hc,by omega⟩
theorem vC.all {B:Nat} {w:World} {t:TypeId} {sz n cap:Nat} {ao:Option Addr} (h:vC B w t sz ao n cap):dU B w.heap.size w t sz ao cap:=by
 rcases h.2 with h3 | ⟨g,M,e,hB,hc,hM⟩
 ·exact .inl h3
 ·exact .inr ⟨g,M,e,hB,hc.lt,hc,hM⟩
theorem aKC {B E:Nat} {w:World} {t:TypeId} {sz n cap:Nat} {ao:Option Addr} (h:dU B E w t sz ao cap) (hn:n≤cap):vC B w t sz ao n cap:=by
 refine ⟨hn,?_⟩
 rcases h with h | ⟨g,M,h1,h2,h3,h4,h5⟩
 ·exact .inl h
 ·exact .inr ⟨g,M,h1,h2,h4,h5⟩
theorem aBF {P:Program} (w:World) (t e ty:TypeId) (z:Value) (ht:P.underlying t=some (.slice e)) (hv:∀w,(zeroValue e).run P w=.ok z w) (zs:List Value) (hz:(Builtin.zeroCells z.cells 1).toList=zs) (h1:∀v ∈ zs,v.oneCell'=true) (b o c:Nat)
  (hc:∀j,j<zs.length→(w.cell? ⟨b,o+j,none⟩).isSome=true) (hf:∀j,j<zs.length→w.frozen? ⟨b,o+j,none⟩=false) :
  (Builtin.clear_ #[t] ty #[.slice (some ⟨b,o,none⟩) 1 c]).run P w=.ok (.tuple #[]) (w.setCells b o zs):=by
 have hst:=run_storeCells_cells (P:=P) b o zs 0 w (by simpa using hc) (by simpa using hf) h1
 simp only [Nat.add_zero] at hst
 simp [Builtin.clear_,run_underlying ht,hv,hz,hst]
theorem aK4:∃i0 z,Tryz.prog.info? 38=some i0∧i0.size=5∧i0.zero=some z∧z.cells.size=5∧0<i0.bytes∧i0.bytes≤100:=by
 have h:(Tryz.prog.info? 38).map (fun i=>(i.size,i.zero.map (fun z=>z.cells.size),decide (0<i.bytes∧i.bytes≤100)))=some (5,some 5,true):=by kernel_rfl
 cases hq:Tryz.prog.info? 38 with
 | none=>rw [hq] at h;simp at h
 | some i=>
  rw [hq] at h
  simp at h
  cases hz:i.zero with
  | none=>rw [hz] at h;simp at h
  | some z=>rw [hz] at h;simp at h;exact ⟨i,z,rfl,h.1,hz,h.2.1,h.2.2.1,h.2.2.2⟩
theorem oL (l:List Con) (q:Con) (i:Nat):aD (l.take i++q::l.drop i)=aD (l.take i)++(fG q++aD (l.drop i)):=by
 rw [dH];rfl
def CRm (B:Nat) (w:World) (ao:Option Addr) (n cap:Nat) (l:List Con):Prop:=bC w ao n l∧vC B w 38 5 ao n cap
def lG (B:Nat) (ao:Option Addr) (n cap:Nat) (l:List Con) (w:World) (e:Ending) (w':World):Prop:=
 ∃ao' cap',e=.returned (.slice ao' (n+1) cap')∧CRm B w' ao' (n+1) cap' l∧Mks (fun k=>cap≠0∧∃N,Cel w 38 k N∧B≤k∧∃o,ao=some ⟨k,o,none⟩) w w'∧(cap≠0∧ao'=ao∨∃g',ao'=some ⟨g',0,none⟩∧w.heap.size≤g')
theorem CRm.cells {B g n cap:Nat} {w:World} {l:List Con} (h:CRm B w (some ⟨g,0,none⟩) n cap l) (h0:0<cap):∃M,B≤g∧Lay w 38 g (M*5) (aD l)∧cap≤M∧n=l.length∧n≤cap:=by
 obtain ⟨h1,h2,h4⟩:=h
 rcases h4 with e | ⟨g',M,e,hB,hc,hM⟩
 ·omega
 ·cases e
  have hl:=h1.1
  exact ⟨M,hB,aA7 hc (fun j u hj=>by have:=fQ h1 j u hj;rwa [Nat.zero_add] at this) (by rw [bP,←hl];exact Nat.mul_le_mul_right _ (by omega)),hM,hl,h2⟩
theorem Lay.Crm {B g n cap M:Nat} {w:World} {l:List Con} (h:Lay w 38 g (M*5) (aD l)) (hB:B≤g) (hM:cap≤M) (hn:n=l.length) (hc:n≤cap):CRm B w (some ⟨g,0,none⟩) n cap l:=by
 subst hn
 refine ⟨?_,hc,.inr ⟨g,M,rfl,hB,h.cel,hM⟩⟩
 exact h.rowC
theorem aEL {B:Nat} (g n cap gv m:Nat) (hm:m=1) (l:List Con) (q:Con) (w:World) (h:CRm B w (some ⟨g,0,none⟩) n cap l) (hv:Blk w gv (fG q).toArray 38) (hne:g≠gv) (hroom:n+1≤cap) (hn:n≤1048576) :
  Calls Tryz.prog 72 #[.slice (some ⟨g,0,none⟩) n cap,.int .i64 (n:Int),.slice (some ⟨gv,0,none⟩) m m] w (lG B (some ⟨g,0,none⟩) n cap (l++[q]) w):=by
 obtain ⟨i0,z,hi0,hsz,hz0,hzc,hb0,hb1⟩:=aK4
 obtain ⟨M,hB,hlay,hM,hl,hnc⟩:=h.cells (by omega)
 have hnl:(fG q).length=5:=rfl
 obtain ⟨N',hN'⟩:∃k,k=n+1:=⟨_,rfl⟩
 obtain ⟨W',hW'⟩:∃k,k=(w.setCells g (0+n*i0.size) (fG q)):=⟨_,rfl⟩
 have HRUN:=aA (fun ty=>show (Builtin.append_ #[32,32] ty #[.slice (some ⟨g,0,none⟩) n cap,.slice (some ⟨gv,0,none⟩) m m]).run Tryz.prog w=.ok (.slice (some ⟨g,0,none⟩) N' cap) W' from by
  rw [hm,hN',hW']
  exact run_append_room_cells (P:=Tryz.prog) w 32 ty 38 i0 Tryz.underlying32 hi0 g 0 n cap ⟨gv,0,none⟩ 1 1 (fG q) (by rw [hsz,hnl]) (fun j u hj=>by
   rw [Addr.add_lit]
   have h1:=hv.at j
   rw [List.getElem?_toArray,hj] at h1
   rw [Nat.zero_add]
   exact h1) (fun u hu=>dQ [q] u (by simpa [aD] using hu)) hroom (fun j hj=>hlay.isThere (by rw [hsz];rw [hnl] at hj;have:=Nat.mul_le_mul_right 5 (show n+1≤M by omega);omega)) (fun j hj=>hlay.frozen _))
 have HA:=aA (show lG B (some ⟨g,0,none⟩) n cap (l++[q]) w (.returned (.slice (some ⟨g,0,none⟩) N' cap)) W' from by
  rw [hN',hW']
  exact ⟨some ⟨g,0,none⟩,cap,rfl,Lay.Crm (M:=M) (hlay.cells _ _ (by rw [hsz,hnl];have:=Nat.mul_le_mul_right 5 (show n+1≤M by omega);omega) _ (by rw [bP,List.length_append];have:=Nat.mul_le_mul_right 5 (show n+1≤M by omega);simp;omega) (fun j u hj=>by
   rw [dH] at hj
   have hcl:(aD l).length=n*5:=by rw [bP,hl]
   rw [hsz,hnl]
   refine ⟨fun e=>?_,fun e=>?_⟩
   ·rw [List.getElem?_append_right (by omega),hcl] at hj
    simpa [aD,Nat.zero_add] using hj
   ·by_cases e2:j<n*5
    ·rw [List.getElem?_append_left (by omega)] at hj
     exact hlay.cell hj
    ·have:=(List.getElem?_eq_some_iff.1 hj).1
     simp [aD,hcl] at this
     omega)) hB hM (by simp [hl]) (by omega),eT (by exact ⟨by omega,_,hlay.cel,hB,0,rfl⟩) _ _ _ _ (Mks.refl _ _),.inl ⟨by omega,rfl⟩⟩)
 have hcn:¬cap=n:=by omega
 have n0:¬(m:Int)=0:=by omega
 clear h hv hlay hl hm hi0 hz0 hroom hzc hb0 hb1 hnl hM
 clear hW' hN'
 clear hsz
 go_enter Tryz.func72,Tryz.ntmps72
 go_wp2_with (at_builtin;refine Lib.wpList_append_run _ rfl _ _ _ _ rfl _ _ rfl rfl _ _ (uH HRUN _) ?_)
 go_ret
 exact uH HA
theorem vN (z:Value) (k s:Nat) (h:z.cells.size=s):(Builtin.zeroCells z.cells k).size=k*s:=by simp [Builtin.zeroCells,h]
theorem aCn {B:Nat} (ao:Option Addr) (n cap gv m:Nat) (hm:m=1) (l:List Con) (q:Con) (w:World) (h:CRm B w ao n cap l) (hv:Blk w gv (fG q).toArray 38) (hroom:¬n+1≤cap) (hn:n≤1048576) (hBw:B≤w.heap.size) :
  Calls Tryz.prog 72 #[.slice ao n cap,.int .i64 (n:Int),.slice (some ⟨gv,0,none⟩) m m] w (lG B ao n cap (l++[q]) w):=by
 obtain ⟨i0,z,hi0,hsz,hz0,hzc,hb0,hb1⟩:=aK4
 have hl:=h.1.1
 have hnc:=h.2.1
 have hnl:(fG q).length=5:=rfl
 have hold:(Builtin.firstCells i0.size n (.slice ao n cap)).run Tryz.prog w.drew=.ok (aD l).toArray w.drew:=by
  rcases h.2.2 with h0 | ⟨g,M,rfl,hB,hc,hM⟩
  ·have:l=[]:=List.eq_nil_of_length_eq_zero (by omega)
   subst this
   obtain rfl:n=0:=by omega
   cases ao with
   | none=>exact run_firstCells_none w.drew _ _ _ _
   | some ad=>exact run_firstCells_some w.drew _ 0 ad 0 cap [] (by simp) (fun j v hj=>by simp at hj)
  ·exact run_firstCells_some w.drew _ n ⟨g,0,none⟩ n cap (aD l) (by rw [bP,hsz,hl]) (fun j v hj=>by rw [Addr.add_lit];exact fQ h.1 j v hj)
 have hsrc:Src Tryz.prog i0.size 32 (.slice (some ⟨gv,0,none⟩) 1 1) 1 (fG q) w:=Src.ofSlice w Tryz.underlying32 ⟨gv,0,none⟩ 1 1 _ (by rw [hsz,hnl]) (fun j u hj=>by
  rw [Addr.add_lit]
  have h1:=hv.at j
  rw [List.getElem?_toArray,hj] at h1
  rw [Nat.zero_add]
  exact h1) (fun u hu=>dQ [q] u (by simpa [aD] using hu))
 have hG1:=grownCap_ge w (n+1) cap 38
 obtain ⟨G,hG⟩:∃G,grownCap w (n+1) cap 38=G:=⟨_,rfl⟩
 obtain ⟨N',hN'⟩:∃k,k=n+1:=⟨_,rfl⟩
 obtain ⟨W',hW'⟩:∃k,k=(w.drew.alloc (.cells ((aD l++fG q).toArray++Builtin.zeroCells z.cells (G - (n+1))) 38)):=⟨_,rfl⟩
 have HRUN:=aA (fun ty=>show (Builtin.append_ #[32,32] ty #[.slice ao n cap,.slice (some ⟨gv,0,none⟩) m m]).run Tryz.prog w=.ok (.slice (some ⟨w.heap.size,0,none⟩) N' G) W' from by
  rw [hm,hN',hW',←hG]
  exact run_append_grow_src w 32 32 ty 38 i0 z Tryz.underlying32 hi0 hz0 ao n cap (aD l) hold _ 1 (fG q) hsrc (by omega) (by omega) (growslice_fits_wide (by omega) (by
   have h1:(n+1+(n+1) / 4+192)≤2000000:=by omega
   have:=Nat.mul_le_mul h1 hb1
   omega)))
 rw [hG] at hG1
 have HA:=aA (show lG B ao n cap (l++[q]) w (.returned (.slice (some ⟨w.heap.size,0,none⟩) N' G)) W' from by
  rw [hN',hW']
  have hbel:Below w.heap.size w (w.drew.alloc (.cells ((aD l++fG q).toArray++Builtin.zeroCells z.cells (G - (n+1))) 38)):=yA (yH _ w).drew _
  refine ⟨_,G,rfl,Lay.Crm (M:=G) (w:=w.drew.alloc (.cells ((aD l++fG q).toArray++Builtin.zeroCells z.cells (G - (n+1))) 38)) ⟨(Builtin.zeroCells z.cells (G - (n+1))).toList,?_,?_⟩ hBw (yJ _) (by simp [hl]) (by omega),.of_below hbel,.inr ⟨_,rfl,yJ _⟩⟩
  ·have e:(aD (l++[q])++(Builtin.zeroCells z.cells (G - (n+1))).toList).toArray=(aD l++fG q).toArray++Builtin.zeroCells z.cells (G - (n+1)):=by
    rw [dH]
    simp [aD]
   rw [e]
   show (w.heap.push _)[w.heap.size]? = _
   rw [Array.getElem?_push,if_pos rfl]
  ·have h1:=vN z (G - (n+1)) 5 hzc
   have h2:(Builtin.zeroCells z.cells (G - (n+1))).toList.length=(G - (n+1))*5:=by rw [Array.length_toList];exact h1
   have h3:(aD (l++[q])).length=(n+1)*5:=by rw [bP];simp [hl]
   rw [List.length_append,h3,h2,←Nat.add_mul]
   congr 1
   omega)
 have HA2:=aA (show lG B ao n n (l++[q]) w (.returned (.slice (some ⟨w.heap.size,0,none⟩) N' G)) W' from by have h1:=uH HA;rw [show cap=n by omega] at h1;exact h1)
 have n0:¬(m:Int)=0:=by omega
 have HN0:=aA (fun (e:ao=none)=>show n=0 from by
  subst e
  rcases h.2.2 with h0 | ⟨g,M,e,_⟩
  ·have:=h.2.1;omega
  ·cases e)
 clear h hv hold hsrc hl hm hi0 hz0 hroom hzc hb0 hb1 hnl hG hG1
 clear hW' hN'
 clear hsz
 go_enter Tryz.func72,Tryz.ntmps72
 cases ao with
 | none=>
  have h0:n=0:=uH HN0 rfl
  subst h0
  go_wp2_with (at_builtin;refine Lib.wpList_append_run _ rfl _ _ _ _ rfl _ _ rfl rfl _ _ (uH HRUN _) ?_)
  go_ret
  exact uH HA
 | some a=>
  obtain ⟨ab,aof,asp⟩:=a
  go_wp2_with (at_builtin;refine Lib.wpList_append_run _ rfl _ _ _ _ rfl _ _ rfl rfl _ _ (uH HRUN _) ?_)
  all_goals (go_ret;first | exact uH HA | exact uH HA2)
structure Kc (B W:Nat) (ca:Option Addr) (cc:Nat) (w w':World):Prop where
 below:Below B w w'
 con:∀g arr,g<W→Blk w g arr 38→(cc≠0→∀o,ca≠some ⟨g,o,none⟩)→Blk w' g arr 38
theorem Kc.trans {B W cc:Nat} {ca:Option Addr} {a b c:World} (h:Kc B W ca cc a b) (k:Kc B W ca cc b c):Kc B W ca cc a c:=
 ⟨h.below.trans k.below,fun g arr hg hb ho=>k.con g arr hg (h.con g arr hg hb ho) ho⟩
theorem Kc.of {B W cc:Nat} {ca:Option Addr} {a b:World} (h:Below a.heap.size a b) (hB:B≤a.heap.size):Kc B W ca cc a b:=⟨h.mono hB,fun g arr _ hb _=>hb.below h⟩
theorem Kc.mks {S:Nat→Prop} {B W cc:Nat} {ca:Option Addr} {a b:World} (h:Mks S a b) (hB:∀k,S k→B≤k) (hz:B≤a.heap.size) (hc:∀k arr,k<W→Blk a k arr 38→S k→cc≠0∧∃o,ca=some ⟨k,o,none⟩):Kc B W ca cc a b:=
 ⟨h.below hB hz,fun g arr hg hb ho=>h.blk hb (fun hs=>let ⟨h1,o,h2⟩:=hc g arr hg hb hs;ho h1 o h2)⟩
theorem aFO {w:World} {g:Nat} {arr arr':Array Value} {t t':TypeId} (h:Blk w g arr t) (h':Blk w g arr' t'):t=t':=Cel.type ⟨_,h,rfl⟩ ⟨_,h',rfl⟩
end
section
open Go.RowKit Go.Maps
theorem aBo {p:Con→Bool} (l:List Con):(aJ p l).length≤l.length:=by simp [aJ];exact List.length_filter_le _ _
theorem aFj (l:List Q) (nm:List UInt8) (h:l.length≤1048575):(path l nm).length≤1048576:=by
 have key:∀(n:Nat) (p:Int),(eB l n p).length≤n:=by
  intro n
  induction n with
  | zero=>intro p;simp [eB]
  | succ n ih=>
   intro p
   rw [eB]
   split
   ·simp;exact ih _
   ·simp
 rw [path]
 split
 ·exact Nat.le_trans (key _ _) (by omega)
 ·simp
theorem oU (x:Sls) (s:St) (nm:List UInt8) (w:World) (h:jC w x s) (hf:bD s) :
  Calls Tryz.prog 164 #[sv x s,.string (bs nm)] w fun e w'=>e=.returned (rv (aN s nm).1 (aN s nm).2)∧Below w.heap.size w w':=by
 obtain ⟨i0,hi,hz0,hz1,hz2⟩:=info_parts Tryz.infoR
 have hql:x.ql≤1048576:=by have:=h.len.1;have:=hf.1.1;omega
 have hal:x.al≤1048576:=by have:=h.len.2.1;have:=hf.2.1.1;omega
 have hcl:x.cl≤1048576:=by have:=h.len.2.2.2;have:=hf.2.2.2.1;omega
 have HR:=aA h.2.2.2
 have HL:=aA h.2.2.2.1
 have HAR:=aA h.2.1
 have HAL:=aA h.2.1.1
 have CA:=aA (fun wx (hb:Below w.heap.size w wx) (id:Int)=>aA9 x s id wx (h.2.1.below hb) hal)
 have CP:=aA (fun wx (hb:Below w.heap.size w wx) (qu:List UInt8)=>nK x.qa x.ql x.qc s.qs qu wx (h.1.below hb) hql (fun q hq=>(hf.1.2 q hq).1))
 have HPL:=aA (fun qu:List UInt8=>show (path s.qs qu).length≤1048576 by
  cases ho:aF s.qs with
  | false=>simp [path,ho]
  | true=>
   refine aFj _ _ ?_
   have h2:=(r9.1 (by have:=kQ s.qs;rw [ho] at this;simp at this;exact this.1)).2.2
   omega)
 obtain ⟨⟨⟨sx,sy,so⟩,hsum⟩,hlc⟩:(∃y,gX (aJ (byQ s nm) s.cs)=y)∧(aJ (byQ s nm) s.cs).length≤1048576:=⟨⟨_,rfl⟩,by have:=aBo (p:=byQ s nm) s.cs;have:=h.len.2.2.2;omega⟩
 have CS:=aA (fun ao cap wx (h:aGd wx ao (aJ (byQ s nm) s.cs).length (aJ (byQ s nm) s.cs))=>by have:=lQ ao _ cap (aJ (byQ s nm) s.cs) wx h hlc;rw [hsum] at this;exact this)
 have HBQ:=aA (fun q:Con=>show byQ s nm q=match dK q.app s.apps with | none=>false | some a=>(path s.qs a.queue).any (fun x=>decide (x=nm)) from rfl)
 rw [show (aN s nm).1=sx by rw [aN,hsum],show (aN s nm).2=sy by rw [aN,hsum]]
 have HFP:=aA (fun id:Int=>aDR id s.apps)
 obtain ⟨p,hp⟩:∃p,byQ s nm=p:=⟨_,rfl⟩
 rw [hp] at HBQ CS
 have HLC:=aA (fun k=>show (aJ p (s.cs.take k)).length≤1048576 by have:=aBo (p:=p) (s.cs.take k);have:=h.len.2.2.2;simp only [List.length_take] at *;omega)
 clear h hf hsum hp hlc
 obtain ⟨qa,ql,qc,aa,al,ac,ma,ml,mc,ca,cl,cc⟩:=x
 obtain ⟨qs,clock,epoch,next,serial,apps,ms,cs⟩:=s
 simp only at CA CP CS HBQ HR HL HAR HAL HLC HFP HPL hql hal hcl
 have HB0:=aA (cK w (svc ⟨qa,ql,qc,aa,al,ac,ma,ml,mc,ca,cl,cc⟩ ⟨qs,clock,epoch,next,serial,apps,ms,cs⟩))
 have V0:=aA (iF w (svc ⟨qa,ql,qc,aa,al,ac,ma,ml,mc,ca,cl,cc⟩ ⟨qs,clock,epoch,next,serial,apps,ms,cs⟩))
 have P0:=aA ((fD w (svc ⟨qa,ql,qc,aa,al,ac,ma,ml,mc,ca,cl,cc⟩ ⟨qs,clock,epoch,next,serial,apps,ms,cs⟩)).al (.cells #[.int .i64 0,.int .i64 0] 36))
 have HO0:=aA (rX (sQ w (svc ⟨qa,ql,qc,aa,al,ac,ma,ml,mc,ca,cl,cc⟩ ⟨qs,clock,epoch,next,serial,apps,ms,cs⟩)))
 obtain ⟨W0,hW0⟩:∃W,sQ w (svc ⟨qa,ql,qc,aa,al,ac,ma,ml,mc,ca,cl,cc⟩ ⟨qs,clock,epoch,next,serial,apps,ms,cs⟩)=W:=⟨_,rfl⟩
 have P0:=aA (show Blk W0 w.heap.size (svc ⟨qa,ql,qc,aa,al,ac,ma,ml,mc,ca,cl,cc⟩ ⟨qs,clock,epoch,next,serial,apps,ms,cs⟩) 34 by rw [←hW0];exact uH P0)
 have hsz0:W0.heap.size=w.heap.size+1+1:=by rw [←hW0];exact rP _ _
 rw [hW0] at HB0 V0 HO0
 have HW0:=aA hW0
 have HSZ:=aA hsz0
 clear hW0 hsz0
 go_enter Tryz.func164,Tryz.ntmps164
 go_wp2
 go_loopw [5,6] (fun v i wr=>∃(k:Nat),k≤cl∧i=.int .i64 k∧Hid (yZ W0.heap.size wr v (aJ p (cs.take k)))∧Hid (Below W0.heap.size W0 wr)) (fun _ i _=>cl - (intOf i).toNat)
 case atStart=>
  obtain rfl:=uH HW0
  refine ⟨0,Nat.zero_le _,rfl,aA ?_,aA (yA (yH _ _) _)⟩
  have:=uH HO0
  rw [uH HSZ] at this ⊢
  exact this
 case round=>
  obtain ⟨k,hk,rfl,HO,HB⟩:=hrel
  have PB:=(uH P0).below (uH HB)
  have HPB:=aA PB
  obtain ⟨q0,q1,q2,q3,q4,q5,q6,q7⟩:_∧_∧_∧_∧_∧_∧_∧_:=⟨PB.at 0,PB.at 1,PB.at 2,PB.at 3,PB.at 4,PB.at 5,PB.at 6,PB.at 7⟩
  simp at q0 q1 q2 q3 q4 q5 q6 q7
  have HBw:=aA (yB (uH HB0) (uH HB))
  clear PB
  by_cases hlt:k<cl
  ·obtain ⟨b,off,rfl,hq⟩:=((uH HR).below (uH HBw)).at hlt
   have hkl:k<cs.length:=by have:=uH HL;omega
   have hst:=nW (p:=p) hkl
   have HQ:=aA (hq hkl)
   obtain ⟨m,hs⟩:∃q,cs[k]=q:=⟨_,rfl⟩
   rw [hs] at HQ hst
   have hal2:=uH HLC k
   obtain ⟨acc,hacc⟩:∃a,aJ p (cs.take k)=a:=⟨_,rfl⟩
   rw [hacc] at hst hal2 HO
   obtain ⟨id,ap,no,me,cp⟩:=m
   obtain ⟨c0,c1,c2,c3,c4⟩:=uH HQ
   simp only at c0 c1 c2 c3 c4
   have hbq:=uH HBQ ⟨id,ap,no,me,cp⟩
   simp only at hbq
   have hfp:=uH HFP ap
   obtain ⟨at0,ha⟩:∃a,aJe apps ap=a:=⟨_,rfl⟩
   have CAk:=aA (fun wx (hb:Below w.heap.size w wx)=>by have:=uH CA wx hb ap;rw [ha] at this;exact this)
   rw [ha] at hfp
   have k0:(0:Int)≤k:=by omega
   have k1:(k:Int)<cl:=by omega
   have HFP2:=aA hfp
   have HBQ2:=aA hbq
   have HST:=aA hst
   have R:∀wx,Kp wr wx→wx.cell? ⟨w.heap.size,0,none⟩=some (.slice qa ql qc)∧wx.cell? ⟨w.heap.size,1,none⟩=some (.int .i64 clock)∧wx.cell? ⟨w.heap.size,2,none⟩=some (.int .i64 epoch)∧wx.cell? ⟨w.heap.size,3,none⟩=some (.int .i64 next)∧wx.cell? ⟨w.heap.size,4,none⟩=some (.int .i64 serial)∧wx.cell? ⟨w.heap.size,5,none⟩=some (.slice aa al ac)∧wx.cell? ⟨w.heap.size,6,none⟩=some (.slice ma ml mc)∧wx.cell? ⟨w.heap.size,7,none⟩=some (.slice (some ⟨b,off,none⟩) cl cc)∧wx.cell? ⟨b,off+k*5+1,none⟩=some (.int .i64 ap):=fun wx h=>
    ⟨h.cell q0,h.cell q1,h.cell q2,h.cell q3,h.cell q4,h.cell q5,h.cell q6,h.cell q7,h.cell c1⟩
   have A0:=aA (Kp.new wr)
   have HS:=aA (dE wr)
   clear hq hs hkl hacc ha hfp hbq hst
   go_wp2_with fail
   go_cut [7] from 18 to 25 (fun v7 wx=>v7=.int .i64 at0∧Kp wr wx)
   case first=>
    go_region_held3 (fun wx=>Kp wr wx)
     (first | (with_reducible assumption) | exact uH SA | exact (uH HS).drew (uH A0) | exact (uH HS).call (by assumption) (by assumption))
     (first
     | (go_at_call 55;refine (uH CAk _ ?_).mono ?_;(exact yB (uH HBw) ((uH HS).below (by assumption)));rintro e wt ⟨rfl,hb⟩;have SA:=aA ((uH HS).call (by assumption) hb)))
    all_goals
     go_wp2_with fail
     go_meet
     exact ⟨rfl,by first | assumption | exact uH SA⟩
   case rest=>
    obtain ⟨rfl,hA⟩:=hcut
    obtain ⟨w4,rfl⟩:∃w4,w4=wc:=⟨wc,rfl⟩
    have HAw:=aA (yB (uH HBw) hA)
    have HAk:=aA hA
    have g0:=hA.cell q0
    have g5:=hA.cell q5
    have g7:=hA.cell q7
    have d3:=hA.cell c3
    have d4:=hA.cell c4
    have HO4:=aA ((uH HO).below hA)
    have HB4:=aA (yB (uH HB) hA)
    clear A0 R HS CAk q0 q1 q2 q3 q4 q5 q6 q7 c0 c1 c2 c3 c4 hA HO HB HQ
    have HS:=aA (dE w4)
    have A0:=aA (Kp.new w4)
    obtain ⟨pv,hpv⟩:∃o,p ⟨id,ap,no,me,cp⟩=o:=⟨_,rfl⟩
    rw [hpv] at HST HBQ2
    clear hpv
    go_wp2_with fail
    go_cut [40] from 26 to 39 (fun v40 wx=>v40=.bool pv∧Kp w4 wx)
    case first=>
     rcases uH HFP2 with ⟨hfn,rfl⟩ | ⟨j,hj,hfn,rfl⟩
     ·rw [hfn] at HBQ2
      obtain rfl:pv=false:=uH HBQ2
      clear hfn
      go_quiet (fail)
      all_goals
       go_wp2_with fail
       go_meet
       exact ⟨rfl,jR (yH _ _) _⟩
     ·rw [hfn] at HBQ2
      have hjl:j<al:=by have:=uH HAL;omega
      obtain ⟨ab,ao,rfl,hq⟩:=((uH HAR).below (uH HAw)).at hjl
      obtain ⟨xo,xl,xc,hxx⟩:=hq hj
      have e1:=hxx.2.1
      obtain ⟨⟨ai,qu,asks⟩,hs⟩:∃a,apps[j]=a:=⟨_,rfl⟩
      rw [hs] at e1 HBQ2
      simp only at e1
      have HPQ:=aA (uH HPL qu)
      have HBQ3:=aA (show pv=(path qs qu).any (fun x=>decide (x=nm)) from uH HBQ2)
      have CPq:=aA (fun wx hb=>uH CP wx hb qu)
      obtain ⟨ps,hps⟩:∃ps,path qs qu=ps:=⟨_,rfl⟩
      rw [hps] at HPQ HBQ3 CPq
      have CH:=aA (fun (v:Value) (B:Nat) wx (h:dA B wx v ps)=>by have:=aGJ v ps nm B wx h (uH HPQ);rw [←uH HBQ3] at this;exact this)
      have j0:(0:Int)≤j:=by omega
      have j1:(j:Int)<al:=by omega
      have R:∀wx,Kp w4 wx→wx.cell? ⟨w.heap.size,0,none⟩=some (.slice qa ql qc)∧wx.cell? ⟨w.heap.size,5,none⟩=some (.slice (some ⟨ab,ao,none⟩) al ac)∧wx.cell? ⟨ab,ao+j*3+1,none⟩=some (.string (bs qu)):=fun wx h=>⟨h.cell g0,h.cell g5,h.cell e1⟩
      clear hfn hq hxx hs hps e1 hj
      go_region_held3 (fun wx=>Kp w4 wx)
       (first | (with_reducible assumption) | exact uH SA | exact (uH HS).drew (uH A0) | exact (uH HS).call (by assumption) (by assumption))
       (first
       | (go_at_call 162;refine (uH CPq _ ?_).mono ?_;(exact yB (uH HAw) ((uH HS).below (by assumption)));rintro e wt ⟨v,rfl,htx,hb⟩;have HTX:=aA htx;have SA:=aA ((uH HS).call (by assumption) hb))
       | (go_at_call 185;refine (uH CH _ _ _ (uH HTX)).mono ?_;rintro e wt2 ⟨rfl,rfl⟩))
      all_goals
       go_wp2_with fail
       go_meet
       exact ⟨rfl,by first | assumption | exact uH SA⟩
    case rest=>
     obtain ⟨rfl,hA⟩:=hcut
     obtain ⟨w5,rfl⟩:∃w5,w5=wc:=⟨wc,rfl⟩
     have z7:=hA.cell g7
     have z3:=hA.cell d3
     have z4:=hA.cell d4
     have HO5:=aA ((uH HO4).below hA)
     have HB5:=aA (yB (uH HB4) hA)
     clear g0 g5 g7 d3 d4 hA HO4 HB4 HS A0 HAk HAw HFP2 HBQ2
     cases pv with
     | true=>
      rw [if_pos rfl] at HST
      have hs2:W0.heap.size≤w5.heap.size:=(uH HB5).size
      have hown:w5.ownsRow W0.heap.size 36 2 _ acc.length (gZ acc):=uH HO5
      go_wp2_with (at_builtin;refine wpList_append_own _ rfl _ _ 141 rfl W0.heap.size 36 i0 (.agg #[.int .i64 0,.int .i64 0]) 2 16 Tryz.underlying141 hi hz0 hz1 hz2 rfl (by decide) _ _ _ rfl (hown.alloc _) ⟨w5.heap.size,0,none⟩ 1 1 (zF (me,cp)) rfl rfl ?c1 ?c2 ?c3 ?c4 ?c5 ?_)
      case c1=>
       intro j x hj
       match j,hj with
       | 0,hj=>simp at hj;subst hj;simp [Addr.add]
       | 1,hj=>simp at hj;subst hj;simp [Addr.add]
       | _+2,hj=>simp at hj
      case c2=>intro x hx;simp at hx;rcases hx with rfl | rfl<;>rfl
      case c3=>unfold maxLen;omega
      case c4=>omega
      case c5=>simp at hs2 ⊢;omega
      intro v' w6 hown' hgrow _
      have R:=lM (q:=(me,cp)) (uH HB5) (uH HO5) hown' hgrow hs2
      have HR3:=aA R
      clear hown' hgrow hown R z3 z4 z7
      go_wp2
      go_roundw
      case rel=>exact ⟨k+1,by omega,by go_num,aA (by rw [uH HST];exact (uH HR3).1),aA (uH HR3).2⟩
      case measure=>simp [intOf];omega
     | false=>
      rw [if_neg (by simp)] at HST
      go_wp2
      go_roundw
      case rel=>exact ⟨k+1,by omega,by go_num,aA (by rw [uH HST];exact uH HO5),HB5⟩
      case measure=>simp [intOf];omega
  ·have htk:cs.take k=cs:=List.take_of_length_le (by have:=uH HL;omega)
   rw [htk] at HO
   obtain ⟨so',scp,rfl,hrow,_⟩:=(uH HO).row
   have HROW:=aA hrow
   have HV1:=aA ((uH V0).below (uH HB))
   obtain ⟨n,hn⟩:∃n,(aJ p cs).length=n:=⟨_,rfl⟩
   rw [hn] at CS HROW ⊢
   clear hrow hn htk HO HB q0 q1 q2 q3 q4 q5 q6
   go_wp2_with fail
   refine (uH CS _ _ _ (uH HROW)).mono ?_
   rintro e w2 ⟨rfl,hb⟩
   have V1:=(uH HV1).below hb
   have HB2:=aA (yB (uH HBw) hb)
   have V2:=V1.al (.cells #[.int .i64 sx,.int .i64 sy] 36)
   have t0:=V2.c0
   have t1:=V2.c1
   have f0:=V2.f 0
   have f1:=V2.f 1
   have VG:=V2.set sx sy
   have k6:=VG.c0
   have k7:=VG.c1
   clear hb V1 V2 VG CS HV1 HROW
   go_wp2
   refine bodyPost_ret (v:=rv sx sy) (by simp [results,Tryz.results164,go_sem,k6,k7]) rfl ⟨rfl,?_⟩
   repeat (first | exact uH HB2 | refine yA ?_ _ | refine yC ?_ _ _ _ (by omega))
end
end Go.Proofs.YtdhibeclkdepiaaGreat
