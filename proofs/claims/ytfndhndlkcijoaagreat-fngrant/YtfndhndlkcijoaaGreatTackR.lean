/-
  Texts in one: QueuesOkI, LoneI, LvM, AboveI, KidM, LeavesI.
-/
import Derived.Test.YtfndhndlkcijoaaGreatTackN
import Derived.Test.YtfndhndlkcijoaaGreatTackE
set_option maxRecDepth 100000
set_option maxHeartbeats 16000000
set_option linter.unusedVariables false
set_option linter.unusedSimpArgs false
open Go.Proofs.Tryz
namespace Go.Proofs.YtfndhndlkcijoaaGreat
section
open Go.RowKit
variable {l:List Q}
theorem gH.take {w:World} {ao:Option Addr} {len:Nat} (h:gH w ao len l) {k:Nat} (hk:k≤len):gH w ao k (l.take k):=by
 obtain ⟨h1,h2⟩:=h;refine ⟨by simp;omega,?_⟩;rcases h2 with h2 | ⟨b,off,h3,h4⟩
 ·exact .inl (by omega)
 ·refine .inr ⟨b,off,h3,fun i hi=>?_⟩;have:i<l.length:=by simp at hi;omega
  rw [List.getElem_take];exact h4 i this
theorem aK5 (b off len cap k:Nat) (hk:k≤cap) (wx:World):(Instr.slice 24 (.slice (some ⟨b,off,none⟩) len cap) none (some (.int .i64 (k:Int))) none).run Tryz.prog wx=.ok (.slice (some ⟨b,off,none⟩) k cap) wx:=by
 rw [run_slice_h (P:=Tryz.prog) (w:=wx) 24 (some ⟨b,off,none⟩) len cap underlying24 .i64 (k:Int) (by omega) (by omega)];rw [show (sizeOf (Tryz.prog.elem 24)).run Tryz.prog wx=.ok 4 wx from by kernel_rfl];simp [Result.andThen,sliced,Addr.add]
theorem fC (ao:Option Addr) (len cap:Nat) (l:List Q) (w:World) (h:gH w ao len l) (hl:len≤1048576) (hn:∀q ∈ l,q.name.length≤1048576) (hc:len≤cap) :
  cP 78 #[.slice ao len cap] w fun e w'=>e=.returned (.bool (aF l))∧Bw w w':=by
 have HR:=aA h;have HL:=aA h.1;have HN:=aA hn;have HQ:=aA (kT l);clear h hn;go_enter func78,ntmps78;go_wp2;go_loopw [3,4,7] (fun _ _ i wr=>∃k:Nat,k≤len∧i=.int .i64 k∧Hid (okT (l.take k)=true)∧Hid (Bw w wr)) (fun _ _ i _=>len - (intOf i).toNat);case atStart=>exact ⟨0,Nat.zero_le _,rfl,aA (by rw [List.take_zero];rfl),aA (yH _ _)⟩
 case round=>
  obtain ⟨k,hk,rfl,HK,HB⟩:=hrel;by_cases hlt:k<len
  ·have HR2:=aA ((uH HR).below (uH HB));obtain ⟨b,off,rfl,hq⟩:=(uH HR2).at hlt;(have hkl:k<l.length:=by have:=uH HL;omega);have hst:=aA (qU (l:=l) (k:=k) hkl);have Mw:=aA (@zA (k+1) l);obtain ⟨c0,c1,c2,c3⟩:=hq hkl;have hz:=uH HN l[k] (yM _);clear hq;obtain ⟨⟨nm,pa,du,mo⟩,hs⟩:∃s,l[k]=s:=⟨_,rfl⟩;rw [hs] at c0 c1 c2 c3 hst hz;simp only at c0 c1 c2 c3;have HA:=aA (mF.new wr ⟨nm,pa,du,mo⟩);have hb1:=yA (uH HB) (aF6 ⟨nm,pa,du,mo⟩);have CF:=aA (fun wx (hb:Bw w wx)=>aIR (some ⟨b,off,none⟩) k cap (l.take k) ⟨nm,pa,du,mo⟩ wx (((uH HR).below hb).take hk) (by omega) hz (aJQ (uH HK)));obtain ⟨f,hf⟩:∃f,aCH (l.take k) ⟨nm,pa,du,mo⟩=f:=⟨_,rfl⟩;rw [hf] at CF hst;have hcut:=aK5 b off len cap k (by omega);have HB1:=aA hb1;have k0:=(uH HA).c0;have k1:=(uH HA).c1;have k2:=(uH HA).c2;have k3:=(uH HA).c3;simp only at k0 k1 k2 k3;(have hkc:(k:Int)≤cap:=by omega);clear hs hkl hz hf HR2 hb1;cases f with
   | false=>
    (go_wp2_with fail);go_region_with (go_at_call 135;refine (uH CF _ ?_).mono ?_;(exact (uH HB1).drew);rintro e w2 ⟨rfl,hb⟩)
    all_goals have HB2:=aA (yB (uH HB1).drew hb);clear hb;go_wp2;go_ret;exact ⟨yF (by rw [uH HQ,uH Mw (by rw [uH hst];simp)];rfl),uH HB2⟩
   | true=>
    (go_wp2_with fail);go_region_with (go_at_call 135;refine (uH CF _ ?_).mono ?_;(exact (uH HB1).drew);rintro e w2 ⟨rfl,hb⟩)
    all_goals have HB2:=aA (yB (uH HB1).drew hb);clear hb;go_wp2;go_roundw;(case rel=>exact ⟨k+1,by omega,by go_num,aA (by rw [uH hst,uH HK];rfl),HB2⟩);case measure=>simp [intOf];omega
  ·have XH:=aA (show aF l=decide (0<len) by
    (have e:k=l.length:=by have:=uH HL;omega);have ho:=uH HK;rw [e,List.take_length] at ho;rw [uH HQ,ho,uH HL];rfl)
   by_cases h0:0<len
   ·go_wp2;go_ret;exact ⟨yF (by rw [uH XH];simp [h0]),uH HB⟩
   ·go_wp2;go_ret;exact ⟨yF (by rw [uH XH];simp [h0]),uH HB⟩
theorem aBh (nm:List UInt8):∀l:List Q,zB nm l = !(l.any (fun q=>decide (q.parent=nm)))
 | []=>rfl
 | q::t=>by rw [zB,aBh nm t,List.any_cons];by_cases h:q.parent=nm<;>simp [h]
theorem aG7 (B:Nat) (nm:List UInt8) (q:Q) (w:World) (hc:w.cell? ⟨B,0,none⟩=some (.string (bs nm))) :
  cP 173 #[qv q,.pointer (some ⟨B,0,none⟩)] w fun e w'=>e=.returned (.bool (decide (q.parent=nm)))∧Bw w w':=by
 have hlt:=yG hc;have hc2:(w.alloc (.cells #[.string (bs q.name),.string (bs q.parent),.int .i64 q.due,.int .i64 q.most] 105)).cell? ⟨B,0,none⟩=some (.string (bs nm)):=by rw [World.cell?_alloc_lt _ _ ⟨B,0,none⟩ hlt];exact hc
 have hbe:=l6 q.parent nm;clear hc hlt;go_enter func173,ntmps173;go_wp2;go_ret;exact ⟨rfl,yA (yH _ _) _⟩
theorem vD (g:Nat) (lb:Array Value) (eg:∀args w,(callFunc g args).run Tryz.prog w=.ok (.enter g args) w) (p:Q→Bool) (ao:Option Addr) (len cap:Nat) (l:List Q) (w:World) (h:gH w ao len l) (hl:len≤1048576)
  (hp:∀wx q,Bw w wx→Calls Tryz.prog g (#[qv q]++lb) wx fun e w'=>e=.returned (.bool (p q))∧Bw wx w') :
  cP 172 #[.slice ao len cap,.func (.func g) #[] lb] w fun e w'=>e=.returned (.bool (l.any p))∧Bw w w':=by
 have C:=aA (q9 g lb eg p ao len cap l w h hl hp);have HS:=aA (aGa p l 0);obtain ⟨i,hi⟩:∃i,iU p l 0=i:=⟨_,rfl⟩;obtain ⟨b,hb⟩:∃b,l.any p=b:=⟨_,rfl⟩;rw [hi] at C HS;rw [hb] at HS ⊢;clear h hp hi hb;go_enter func172,ntmps172;go_wp2_with fail;refine (uH C).mono ?_;rintro e w1 ⟨rfl,hb⟩;have HB:=aA hb;clear hb;by_cases h0:0≤i
 ·go_wp2;go_ret;exact ⟨yF (by first | exact uH HS | (rw [←uH HS];simp [h0])),uH HB⟩
 ·go_wp2;go_ret;exact ⟨yF (by first | exact uH HS | (rw [←uH HS];simp [h0])),uH HB⟩
def aH1 (l:List Q) (nm:List UInt8):Bool:=!(l.any (fun q=>decide (q.parent=nm)))&&decide (0≤place l nm)
theorem wT (l:List Q) (nm:List UInt8):aDD l nm=(aF l&&aH1 l nm):=by
 rw [aDD,aBh,aH1];cases aF l<;>cases l.any (fun q=>decide (q.parent=nm))<;>simp
theorem aDz (ao:Option Addr) (len cap:Nat) (l:List Q) (nm:List UInt8) (w:World) (h:gH w ao len l) (hl:len≤1048576) :
  cP 117 #[.slice ao len cap,.string (bs nm)] w fun e w'=>e=.returned (.bool (aH1 l nm))∧Bw w w':=by
 have ZE:∀(fn:Fn) (first cap:Array Value) (w:World),(Instr.makeFunc fn first cap).run Tryz.prog w=.ok (.func fn first cap) w:=fun _ _ _ _=>rfl
 have hb0:=yA (yH _ w) (.cells #[.string (bs nm)] 9);have Gz:(w.alloc (.cells #[.string (bs nm)] 9)).cell? ⟨w.heap.size,0,none⟩=some (.string (bs nm)):=by simp
 have CP:=aA (fun wx (hb:Bw w wx)=>qM ao len cap l nm wx (h.below hb) hl);have CC:=aA (fun wx (hb:Bw w wx) (hx:wx.cell? ⟨w.heap.size,0,none⟩=some (.string (bs nm)))=>vD 173 #[.pointer (some ⟨w.heap.size,0,none⟩)] (enters_of func173 (by kernel_rfl) rfl) (fun q=>decide (q.parent=nm)) ao len cap l wx (h.below hb) hl
  (fun wy q hy=>aG7 w.heap.size nm q wy ((hy.cell (p:=⟨w.heap.size,0,none⟩) (yG hx)).trans hx)))
 have HF:=aA (show aH1 l nm=(!(l.any (fun q=>decide (q.parent=nm)))&&decide (0≤place l nm)) from rfl);obtain ⟨p,hp⟩:∃p,place l nm=p:=⟨_,rfl⟩;obtain ⟨k,hk⟩:∃k,l.any (fun q=>decide (q.parent=nm))=k:=⟨_,rfl⟩;obtain ⟨r,hr⟩:∃r,aH1 l nm=r:=⟨_,rfl⟩;rw [hp] at CP HF;rw [hk] at CC HF;rw [hr] at HF ⊢;have HB0:=aA hb0;have HC:=aA Gz;clear h hb0 hp hk hr Gz;go_enter func117,ntmps117;go_wp2_with fail;refine (uH CP _ (uH HB0)).mono ?_;rintro e w2 ⟨rfl,hb⟩;have HB2:=aA (yB (uH HB0) hb);have qy:=aA ((hb.cell (p:=⟨w.heap.size,0,none⟩) (yG (uH HC))).trans (uH HC));clear hb HC HB0 CP;by_cases h0:0≤p
 ·go_wp2_with fail
  refine (uH CC _ (uH HB2) (uH qy)).mono ?_;rintro e w3 ⟨rfl,hb⟩;have HB3:=aA (yB (uH HB2) hb);clear hb;go_wp2;go_ret;exact ⟨yF (by rw [uH HF];simp [h0]),uH HB3⟩
 ·go_wp2;go_ret;exact ⟨yF (by rw [uH HF];simp [h0]),uH HB2⟩
def fP (l:List Q):List (List UInt8):=(l.map Q.name).filter (aDD l)
theorem nR (l:List Q):(fP l).length≤l.length:=by
 have:=List.length_filter_le (aDD l) (l.map Q.name);rw [List.length_map] at this;exact this
theorem uF (h:aF l=false):fP l=[]:=by
 rw [fP,List.filter_eq_nil_iff];intro a _;rw [wT,h];simp
end
section
open Go.RowKit Go.Shelf
variable {n:Nat} {W W':World}
attribute [local go_sem] Oper.semAt_some
def KpQ (n:Nat) (W W':World):Prop:=Below n W W'∧∀k q,mF W k q→mF W' k q
theorem aJ0 {A B C:World} (h:KpQ n A B) (k:KpQ n B C):KpQ n A C:=⟨h.1.trans k.1,fun i q hq=>k.2 i q (h.2 i q hq)⟩
theorem aJ1 {w:World} (hn:n≤w.heap.size) (W:World) (l:Nat) (o o':Obj) (hl:w.heap.size≤l) (h:W.heap[l]? = some o) (h1:o.isCells=false) (h2:o.isWalk=false):KpQ n W (W.putObj l o'):=by
 refine ⟨belowK_b hn W l o o' hl h h1 h2,fun k q hq=>?_⟩;have hne:k≠l:=fun e=>by
  subst e;rw [show W.heap[k]? = _ from hq] at h;cases h;cases h1
 exact ((grownBy_putObj' W l o').block k hq.lt (by simp;omega)).trans hq
theorem aEE (hn:n≤W.heap.size) (h:Bw W W'):KpQ n W W':=⟨h.mono hn,fun k q hq=>hq.below h⟩
def aDi:Value→Nat
 | .slice _ n _=>n
 | _=>0
theorem aJo {J:List Q→World→Prop} {B:Nat} (hJ:AbidesFrom B J) {pre:List Q} (h:J pre W) (hb:Bw W W'):J pre W':=
 hJ pre W W' none h (aH (aD W none) hb) (fun r e=>by cases e)
theorem aHS (n l Bq Bn:Nat) (ao:Option Addr) (len cap:Nat) (ls:List Q) (nm:List UInt8) (w0 W:World) (J Jx:List Q→World→Prop) (hJ:AbidesFrom W.heap.size J)
  (hY:∀pre x W1,x ∈ ls→J pre W1→pre.length<ls.length→YieldAt Fence.wide (n - 1) Tryz.prog l #[qv x] W1 fun e W'=>
   (e=.returned (.bool true)∧J (pre++[x]) W'∧KpQ w0.heap.size W1 W')∨(e=.returned (.bool false)∧Jx (pre++[x]) W'))
  (hq:W.cell? ⟨Bq,0,none⟩=some (.slice ao len cap)) (hnm:W.cell? ⟨Bn,0,none⟩=some (.string (bs nm))) (h:gH w0 ao len ls) (hb:Bw w0 W) (hl:len≤1048576) (hc:len≤cap) (h0:J [] W) :
  CallsIn Fence.wide n Tryz.prog 147 #[.func (.yield l) #[] #[],.pointer (some ⟨Bq,0,none⟩),.pointer (some ⟨Bn,0,none⟩)] W fun e W'=>(∃v,e=.returned v)∧
   ((∃ys,ys=ups ls nm∧J ys W')∨(∃pre,pre <+: ups ls nm∧Jx pre W')):=by
 have HR:=aA h;have HL:=aA h.1;have HB:=aA hb;have HJ:=aA hJ;have HY:=aA hY;have H0:=aA h0;have CP:=aA (fun wx (hb:Bw w0 wx) (k:Nat) (hk:k≤len) (x:List UInt8)=>qM ao k cap (ls.take k) x wx ((h.below hb).take hk) (by omega));obtain ⟨p0,hp0⟩:∃p,place (ls.take len) nm=p:=⟨_,rfl⟩;have CP0:=aA (by have:=uH CP W.drew hb.drew len (yJ _) nm;rw [hp0] at this;exact this);have PZ:=aA (show ups ls nm=[]++ups (ls.take len) nm by rw [show ls.take len=ls by rw [h.1];exact List.take_length];rfl);have xx:=aA hp0;have HN:=aA (aA5 (ls.length+1) ls nm);clear h hb hJ hY h0 hp0;have hmx:Tryz.prog.follows .mixedOrders=true:=by kernel_rfl
 refine callsIn_of_wp func147 rfl trivial ?_ rfl;simp only [ntmps147,List.size_toArray,List.length_cons,List.length_nil,Nat.reduceAdd,Nat.reduceSub,Array.replicate_succ,Array.replicate_zero,List.push_toArray,List.append_toArray,List.nil_append,List.cons_append]
 gi_wp2_with fail
 gi_region_o
 gi_wp2_with fail
 refine ⟨trivial,(by intro e;cases e),?_⟩;refine (callsIn_wide.2 (uH CP0)).mono ?_;rintro e w1 ⟨rfl,hb⟩;have HB1:=aA (yB (uH HB).drew hb);have H1:=aA (aJo (uH HJ) (uH H0) (yB (yH _ W).drew hb));clear hb HB H0 CP0 hq hnm
 gi_wp2
 gi_loopw [4,5,6,7] (fun a s i _ wr=>∃(k:Nat) (x:List UInt8) (pre:List Q) (p:Int),k≤len∧a=.slice ao k cap∧s=.string (bs x)∧i=.int .i64 p∧Hid (place (ls.take k) x=p)∧Hid (ups ls nm=pre++ups (ls.take k) x)∧Hid (J pre wr)∧Hid (Bw w0 wr)) (fun a _ _ _ _=>aDi a)
 case atStart=>exact ⟨len,nm,[],p0,yJ _,rfl,rfl,rfl,xx,PZ,H1,HB1⟩
 case round=>
  obtain ⟨k,x,pre,p,hk,rfl,rfl,rfl,HP,HU,Nw,QG⟩:=hrel;clear HB1 H1 xx PZ;by_cases h0:0≤p
  ·(obtain ⟨j,rfl⟩:∃j:Nat,p=j:=⟨p.toNat,by omega⟩;(have hjk:j<k:=by have:=eT (ls.take k) x;rw [uH HP] at this;simp at this;omega);(have hjl:j<(ls.take k).length:=by simp;have:=uH HL;omega);have hst:=aH9 hjl (uH HP);obtain ⟨b,off,rfl,hq⟩:=(((uH HR).below (uH QG)).take hk).at hjk;obtain ⟨c0,c1,c2,c3⟩:=hq hjl;rw [List.take_take,show min j k=j by omega] at hst;obtain ⟨⟨qn,pa,du,mo⟩,hs⟩:∃s,(ls.take k)[j]=s:=⟨_,rfl⟩;(have hin:(⟨qn,pa,du,mo⟩:Q) ∈ ls:=by rw [←hs];exact List.mem_of_mem_take (yM _));rw [hs] at c0 c1 c2 c3 hst;simp only at c0 c1 c2 c3 hst;have HA:=aA (mF.new wr ⟨qn,pa,du,mo⟩);have HB2:=aA (yA (uH QG) (aF6 ⟨qn,pa,du,mo⟩));have hlt:pre.length<ls.length:=by have e:=congrArg List.length (uH HU);rw [hst] at e;have:=uH HN;rw [show iE (ls.length+1) ls nm=ups ls nm from rfl,e] at this;simp at this;omega);obtain ⟨fn,tmps,assign,body,hy,hR⟩:=uH HY pre ⟨qn,pa,du,mo⟩ _ hin (aJo (uH HJ) (uH Nw) (yA (yH _ wr) (aF6 ⟨qn,pa,du,mo⟩))) hlt;have HRR:=aA hR;have HST:=aA hst;have k0:=(uH HA).c0;have k1:=(uH HA).c1;have k2:=(uH HA).c2;have k3:=(uH HA).c3;simp only at k0 k1 k2 k3;clear hq hR hst hs hjl hlt hin
   gi_wp2
   refine ⟨(by intro e;cases e),?_⟩;refine (uH HRR).mono ?_;rintro e W3 (⟨rfl,hJ3,hk3⟩ | ⟨rfl,ZW⟩)
   ·have Fq:=aA (hk3.2 _ _ (uH HA));have HB3:=aA ((uH HB2).trans hk3.1);have Yw:=aA hJ3;clear k0 k1 k2 k3 hJ3 hk3 hy HRR c0 c1 c2 c3;have k1:=(uH Fq).c1;simp only at k1;have hcut:=aK5 b off k cap j (by omega);(have hjc:(j:Int)≤cap:=by omega);obtain ⟨p',hp'⟩:∃p,place (ls.take j) pa=p:=⟨_,rfl⟩;have CPj:=aA (by have:=uH CP W3.drew (uH HB3).drew j (by omega) pa;rw [hp'] at this;exact this);have HP':=aA hp';clear hp'
    gi_wp2_with fail
    gi_region_o
    gi_wp2_with fail
    refine ⟨trivial,(by intro e;cases e),?_⟩;refine (callsIn_wide.2 (uH CPj)).mono ?_;rintro e w4 ⟨rfl,hb⟩;have GD:=aA (yB (uH HB3).drew hb);have HJ4:=aA (aJo (uH HJ) (uH Yw) (yB (yH _ W3).drew hb));clear hb CPj k1
    gi_wp2
    go_roundw;(case rel=>exact ⟨j,pa,pre++[⟨qn,pa,du,mo⟩],p',by omega,rfl,rfl,rfl,HP',aA (by rw [uH HU,uH HST];simp),HJ4,GD⟩);case measure=>simp [aDi];omega
   ·gi_wp2
    refine bodyPost_ret (results_none rfl _ _ _) rfl ?_;exact ⟨⟨_,rfl⟩,.inr ⟨pre++[⟨qn,pa,du,mo⟩],⟨ups (ls.take j) pa,by rw [uH HU,uH HST];simp⟩,ZW⟩⟩
  ·gi_wp2
   (go_end0);(have he:pre=ups ls nm:=by rw [uH HU,aHb (by rw [uH HP];omega)];simp);subst he;exact ⟨⟨_,rfl⟩,.inl (by first | exact uH Nw | exact ⟨_,rfl,uH Nw⟩)⟩
theorem xY (ao:Option Addr) (len cap:Nat) (nm:List UInt8) (w:World) :
  cP 86 #[.slice ao len cap,.string (bs nm)] w fun e w'=>e=.returned (.func (.func 147) #[] #[.pointer (some ⟨w.heap.size,0,none⟩),.pointer (some ⟨w.heap.size+1,0,none⟩)])∧(w.alloc (.cells #[.slice ao len cap] 24)).alloc (.cells #[.string (bs nm)] 9)=w':=by
 have ZE:∀(fn:Fn) (first cap:Array Value) (w:World),(Instr.makeFunc fn first cap).run Tryz.prog w=.ok (.func fn first cap) w:=fun _ _ _ _=>rfl
 go_enter func86,ntmps86
 go_wp2;go_ret;exact ⟨rfl,rfl⟩
theorem qB (n Bq Bn:Nat) (ao:Option Addr) (len cap:Nat) (ls:List Q) (nm:List UInt8) (w0 w:World) (h:gH w0 ao len ls) (hb:Bw w0 w) (hl:len≤1048576) (hc:len≤cap)
  (hq:w.cell? ⟨Bq,0,none⟩=some (.slice ao len cap)) (hn:w.cell? ⟨Bn,0,none⟩=some (.string (bs nm))) :
  SeqStopsK Fence.wide n Tryz.prog 147 #[.pointer (some ⟨Bq,0,none⟩),.pointer (some ⟨Bn,0,none⟩)] (fun x : { q:Q // q ∈ ls }=>#[qv x.1]) (KpQ w0.heap.size) (fun ys=>ys.map Subtype.val=ups ls nm) (fun pre=>pre.map Subtype.val <+: ups ls nm) ls.length w:=by
 intro l J Jx W hW hJ hJx hY h0;refine (aHS n l Bq Bn ao len cap ls nm w0 W (fun pre W=>∃p:List { q:Q // q ∈ ls },p.map Subtype.val=pre∧J p W) (fun pre W=>∃p:List { q:Q // q ∈ ls },p.map Subtype.val=pre∧Jx p W)
  (fun s A B row hs hg hr=>by obtain ⟨p,e,hj⟩:=hs;exact ⟨p,e,hJ p A B row hj hg hr⟩) ?_ ((hW.cell (p:=⟨Bq,0,none⟩) (yG hq)).trans hq) ((hW.cell (p:=⟨Bn,0,none⟩) (yG hn)).trans hn) h (yB hb hW) hl hc ⟨[],rfl,h0⟩).mono ?_
 ·rintro pre x W1 hx ⟨p,rfl,hj⟩ hlt;obtain ⟨fn,tmps,assign,body,hy,hR⟩:=hY p ⟨x,hx⟩ W1 hj (by simpa using hlt);refine ⟨fn,tmps,assign,body,hy,hR.mono ?_⟩;rintro e W' (⟨rfl,hj',hk⟩ | ⟨rfl,hj'⟩)
  ·exact .inl ⟨rfl,⟨p++[⟨x,hx⟩],by simp,hj'⟩,hk⟩
  ·exact .inr ⟨rfl,⟨p++[⟨x,hx⟩],by simp,hj'⟩⟩
 ·rintro e W' ⟨hv,⟨ys,hy,p,hp,hj⟩ | ⟨pre,XE,p,hp,hj⟩⟩
  ·exact ⟨hv,.inl ⟨p,hp.trans hy,hj⟩⟩
  ·exact ⟨hv,.inr ⟨p,(show p.map Subtype.val <+: ups ls nm by rw [hp];exact XE),hj⟩⟩
end
section
open Go.RowKit
def onP (l:List Q) (at' nm:List UInt8):Bool:=(path l at').any (fun x=>decide (x=nm))
theorem aJP {l:List Q} {a nm:List UInt8}:onP l a nm=true↔nm ∈ path l a:=by
 simp only [onP,List.any_eq_true,yL];exact ⟨fun ⟨x,hx,e⟩=>e ▸ hx,fun h=>⟨nm,h,rfl⟩⟩
theorem aFh (B:Nat) (w:World):bZ B w (.slice none 0 0) []:=World.ownsRow_nil _ _ _ _
theorem bZ.open {B:Nat} {w:World} {v:Value} {ps:List (List UInt8)} (h:bZ B w v ps):∃ao cap,v=.slice ao ps.length cap∧∀j (hj:j<ps.length),∃g,ao=some ⟨g,0,none⟩∧w.cell? ⟨g,j,none⟩=some (.string (bs ps[j])):=by
 by_cases hp:ps=[]
 ·subst hp;obtain ⟨a,c,rfl⟩:=kF h;exact ⟨a,c,rfl,fun j hj=>by simp at hj⟩
 ·obtain ⟨g,c,rfl,hs,_⟩:=kE h hp;exact ⟨_,c,rfl,fun j hj=>⟨g,rfl,hs.text hj⟩⟩
theorem aEu (ao:Option Addr) (len cap:Nat) (l:List Q) (w:World) (h:gH w ao len l) (hl:len≤1048576) (hn:∀q ∈ l,q.name.length≤1048576) (hc:len≤cap) :
  cP 50 #[.slice ao len cap] w fun e w'=>∃v,e=.returned v∧bZ w.heap.size w' v (fP l)∧Bw w w':=by
 obtain ⟨i0,hi,hz0,hz1,hz2⟩:=info_parts Tryz.infoS;have HR:=aA h;have HL:=aA h.1;have HN:=aA hn;have CQ:=aA (fC ao len cap l w h hl hn hc);have CL:=aA (fun x wx (hb:Bw w wx)=>aDz ao len cap l x wx (h.below hb) hl);have BX:=aA (fun x=>wT l x);obtain ⟨ok,hok⟩:∃ok,aF l=ok:=⟨_,rfl⟩;rw [hok] at CQ BX;have Xz:=aA hok;clear h hn hok;go_enter func50,ntmps50;go_wp2_with fail;refine (uH CQ).mono ?_;rintro e w1 ⟨rfl,hb⟩;have HB1:=aA hb;clear hb CQ;cases ok;case false=>go_wp2;go_ret;exact ⟨_,rfl,by rw [uF (uH Xz)];exact aFh _ _,uH HB1⟩
 go_wp2;go_loopw [3,5,11] (fun v _ i wr=>∃(k:Nat) (o:List ByteArray),k≤len∧i=.int .i64 k∧o.length≤k∧Hid (o=(((l.take k).map Q.name).filter (aDD l)).map bs)∧Hid (wr.ownsRow w.heap.size 9 1 v o.length (iP o))∧Hid (Bw w wr)) (fun _ _ i _=>len - (intOf i).toNat)
 case atStart=>exact ⟨0,[],Nat.zero_le _,rfl,yJ _,aA (by simp),aA (World.ownsRow_nil _ _ _ _),HB1⟩
 case round=>
  obtain ⟨k,o,hk,rfl,hol,HO,HS,HB⟩:=hrel;by_cases hlt:k<len
  ·have HR2:=aA ((uH HR).below (uH HB));obtain ⟨b,off,rfl,hq⟩:=(uH HR2).at hlt;(have hkl:k<l.length:=by have:=uH HL;omega);obtain ⟨c0,c1,c2,c3⟩:=hq hkl;have hz:=uH HN l[k] (yM _);have htk:=List.take_succ_eq_append_getElem hkl;clear hq;obtain ⟨⟨nm,pa,du,mo⟩,hs⟩:∃s,l[k]=s:=⟨_,rfl⟩;rw [hs] at c0 c1 c2 c3 hz htk;simp only at c0 c1 c2 c3 hz;have KP:=aA htk;have HA:=aA (mF.new wr ⟨nm,pa,du,mo⟩);have HB2:=aA (yA (uH HB) (aF6 ⟨nm,pa,du,mo⟩));have HS2:=aA ((uH HS).alloc (aF6 ⟨nm,pa,du,mo⟩));obtain ⟨f,hf⟩:∃f,aH1 l nm=f:=⟨_,rfl⟩;have CL1:=aA (fun wx hb=>by have:=uH CL nm wx hb;rw [hf] at this;exact this);have BV:=aA (show aDD l nm=f by rw [uH BX,hf];rfl);(have hsz:(bs nm).size≤281474976710656:=by rw [cK];omega);have k0:=(uH HA).c0;simp only at k0;clear hs hkl hf htk hz HR2;(go_wp2_with fail);refine (uH CL1 _ (uH HB2)).mono ?_;rintro e w2 ⟨rfl,hb⟩;have Fq:=aA ((uH HA).below hb);have HB3:=aA (yB (uH HB2) hb);have ZA:=aA (lS (uH HS2) hb);clear hb HA HB2 HS2 k0 HB HS;cases f with
   | false=>go_wp2;go_roundw;(case rel=>exact ⟨k+1,o,by omega,by go_num,by omega,aA (by rw [uH KP,List.map_append,List.filter_append];simp only [List.map_cons,List.map_nil,List.filter_cons,uH BV,List.filter_nil];rw [if_neg (by simp),List.append_nil];exact uH HO),ZA,HB3⟩);case measure=>simp [intOf];omega
   | true=>have k0:=(uH Fq).c0;simp only at k0;(go_wp2_with fail);refine (iW (bs nm) _ hsz).mono ?_;rintro e w3 ⟨rfl,hb⟩;have Hq:=lS (uH ZA) hb;have Qq:=yB (uH HB3) hb;have hwz:=Qq.size;clear hb Fq HB3 ZA k0;(go_wp2_with (at_builtin;refine wpList_append_own _ rfl _ _ 40 rfl w.heap.size 9 i0 (.string .empty) 1 16 underlying40 hi hz0 hz1 hz2 rfl (by decide) _ _ _ rfl (Hq.alloc _) ⟨w3.heap.size,0,none⟩ 1 1 [.string (bs nm)] rfl rfl ?c1 ?c2 ?c3 ?c4 ?c5 ?_));(case c1=>intro j v hj;match j,hj with | 0,hj=>simp at hj;subst hj;simp [Addr.add]);(case c2=>intro v hv;simp at hv;subst hv;rfl);(case c3=>unfold maxLen;omega);(case c4=>omega);(case c5=>simp;omega);intro v' w4 Hy Hw _;have R:=aA (aBW Qq Hq Hy Hw (by omega));clear Hy Hw Hq Qq;go_wp2;go_roundw;(case rel=>exact ⟨k+1,o++[bs nm],by omega,by go_num,by simp;omega,aA (by rw [uH KP,List.map_append,List.filter_append];simp only [List.map_cons,List.map_nil,List.filter_cons,uH BV,List.filter_nil];rw [if_pos (by first | rfl | trivial),List.map_append,←uH HO];rfl),aA (uH R).1,aA (uH R).2⟩);case measure=>simp [intOf];omega
  ·(have hkk:k=len:=by omega);subst hkk;go_wp2;go_ret;refine ⟨_,rfl,bZ.of (uH HS) ?_,uH HB⟩;rw [uH HO,List.take_of_length_le (by have:=uH HL;omega)];rfl
end
end Go.Proofs.YtfndhndlkcijoaaGreat
