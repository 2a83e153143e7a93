/-
  A queue, its parent, and so on: what the program's function that takes a yield hands on; walks over the dump.
-/
import Derived.Test.YtfndhndlkcijoaaGreatSackO
set_option maxRecDepth 100000
set_option maxHeartbeats 16000000
set_option linter.unusedVariables false
set_option linter.unusedSimpArgs false
namespace Go.Proofs.YtfndhndlkcijoaaGreat
section
open Go.RowKit Go.Shelf
variable {n:Nat} {W W':World}
attribute [local go_sem] Oper.semAt_some
def KpQ (n:Nat) (W W':World):Prop:=Below n W W'∧∀k q,mZ W k q→mZ W' k q
theorem aJv {A B C:World} (h:KpQ n A B) (k:KpQ n B C):KpQ n A C:=⟨h.1.trans k.1,fun i q hq=>k.2 i q (h.2 i q hq)⟩
theorem aJw {w:World} (hn:n≤w.heap.size) (W:World) (l:Nat) (o o':Obj) (hl:w.heap.size≤l) (h:W.heap[l]? = some o) (h1:o.isCells=false) (h2:o.isWalk=false):KpQ n W (W.putObj l o'):=by
 refine ⟨belowK_b hn W l o o' hl h h1 h2,fun k q hq=>?_⟩;have hne:k≠l:=fun e=>by
  subst e;rw [show W.heap[k]? = _ from hq] at h;cases h;cases h1
 exact ((grownBy_putObj' W l o').block k hq.lt (by simp;omega)).trans hq
theorem aEs (hn:n≤W.heap.size) (h:Bw W W'):KpQ n W W':=⟨h.mono hn,fun k q hq=>hq.below h⟩
def aE7:Value→Nat
 | .slice _ n _=>n
 | _=>0
theorem aKR {J:List Q→World→Prop} {B:Nat} (hJ:AbidesFrom B J) {pre:List Q} (h:J pre W) (hb:Bw W W'):J pre W':=
 hJ pre W W' none h (aI (aF W none) hb) (fun r e=>by cases e)
theorem aHr (n l Bq Bn:Nat) (ao:Option Addr) (len cap:Nat) (ls:List Q) (nm:List UInt8) (w0 W:World) (J Jx:List Q→World→Prop) (hJ:AbidesFrom W.heap.size J)
  (hY:∀pre x W1,x ∈ ls→J pre W1→pre.length<ls.length→YieldAt Fence.wide (n - 1) Tryz.prog l #[qv x] W1 fun e W'=>
   (e=.returned (.bool true)∧J (pre++[x]) W'∧KpQ w0.heap.size W1 W')∨(e=.returned (.bool false)∧Jx (pre++[x]) W'))
  (hq:W.cell? ⟨Bq,0,none⟩=some (.slice ao len cap)) (hnm:W.cell? ⟨Bn,0,none⟩=some (.string (bs nm))) (h:gN w0 ao len ls) (hb:Bw w0 W) (hl:len≤1048576) (hc:len≤cap) (h0:J [] W) :
  CallsIn Fence.wide n Tryz.prog 147 #[.func (.yield l) #[] #[],.pointer (some ⟨Bq,0,none⟩),.pointer (some ⟨Bn,0,none⟩)] W fun e W'=>(∃v,e=.returned v)∧
   ((∃ys,ys=ups ls nm∧J ys W')∨(∃pre,pre <+: ups ls nm∧Jx pre W')):=by
 have HR:=aA h;have HL:=aA h.1;have HB:=aA hb;have HJ:=aA hJ;have HY:=aA hY;have H0:=aA h0;have CP:=aA (fun wx (hb:Bw w0 wx) (k:Nat) (hk:k≤len) (x:List UInt8)=>rR ao k cap (ls.take k) x wx ((h.below hb).take hk) (by omega));obtain ⟨p0,hp0⟩:∃p,place (ls.take len) nm=p:=⟨_,rfl⟩;have CP0:=aA (by have:=uH CP W.drew hb.drew len (yJ _) nm;rw [hp0] at this;exact this);have U9:=aA (show ups ls nm=[]++ups (ls.take len) nm by rw [show ls.take len=ls by rw [h.1];exact List.take_length];rfl);have kz:=aA hp0;have HN:=aA (aBP (ls.length+1) ls nm);clear h hb hJ hY h0 hp0;have hmx:Tryz.prog.follows .mixedOrders=true:=by kernel_rfl
 refine callsIn_of_wp Tryz.func147 rfl trivial ?_ rfl;simp only [Tryz.ntmps147,List.size_toArray,List.length_cons,List.length_nil,Nat.reduceAdd,Nat.reduceSub,Array.replicate_succ,Array.replicate_zero,List.push_toArray,List.append_toArray,List.nil_append,List.cons_append]
 gi_wp2_with fail
 gi_region_o
 gi_wp2_with fail
 refine ⟨trivial,(by intro e;cases e),?_⟩;refine (callsIn_wide.2 (uH CP0)).mono ?_;rintro e w1 ⟨rfl,hb⟩;have HB1:=aA (yB (uH HB).drew hb);have H1:=aA (aKR (uH HJ) (uH H0) (yB (yH _ W).drew hb));clear hb HB H0 CP0 hq hnm
 gi_wp2
 gi_loopw [4,5,6,7] (fun a s i _ wr=>∃(k:Nat) (x:List UInt8) (pre:List Q) (p:Int),k≤len∧a=.slice ao k cap∧s=.string (bs x)∧i=.int .i64 p∧Hid (place (ls.take k) x=p)∧Hid (ups ls nm=pre++ups (ls.take k) x)∧Hid (J pre wr)∧Hid (Bw w0 wr)) (fun a _ _ _ _=>aE7 a)
 case atStart=>exact ⟨len,nm,[],p0,yJ _,rfl,rfl,rfl,kz,U9,H1,HB1⟩
 case round=>
  obtain ⟨k,x,pre,p,hk,rfl,rfl,rfl,HP,HU,SG,QO⟩:=hrel;clear HB1 H1 kz U9;by_cases h0:0≤p
  ·(obtain ⟨j,rfl⟩:∃j:Nat,p=j:=⟨p.toNat,by omega⟩;(have hjk:j<k:=by have:=fE (ls.take k) x;rw [uH HP] at this;simp at this;omega);(have hjl:j<(ls.take k).length:=by simp;have:=uH HL;omega);have hst:=aII hjl (uH HP);obtain ⟨b,off,rfl,hq⟩:=(((uH HR).below (uH QO)).take hk).at hjk;obtain ⟨c0,c1,c2,c3⟩:=hq hjl;rw [List.take_take,show min j k=j by omega] at hst;obtain ⟨⟨qn,pa,du,mo⟩,hs⟩:∃s,(ls.take k)[j]=s:=⟨_,rfl⟩;(have hin:(⟨qn,pa,du,mo⟩:Q) ∈ ls:=by rw [←hs];exact List.mem_of_mem_take (yM _));rw [hs] at c0 c1 c2 c3 hst;simp only at c0 c1 c2 c3 hst;have HA:=aA (mZ.new wr ⟨qn,pa,du,mo⟩);have HB2:=aA (yA (uH QO) (aGL ⟨qn,pa,du,mo⟩));have hlt:pre.length<ls.length:=by have e:=congrArg List.length (uH HU);rw [hst] at e;have:=uH HN;rw [show iI (ls.length+1) ls nm=ups ls nm from rfl,e] at this;simp at this;omega);obtain ⟨fn,tmps,assign,body,hy,hR⟩:=uH HY pre ⟨qn,pa,du,mo⟩ _ hin (aKR (uH HJ) (uH SG) (yA (yH _ wr) (aGL ⟨qn,pa,du,mo⟩))) hlt;have HRR:=aA hR;have HST:=aA hst;have k0:=(uH HA).c0;have k1:=(uH HA).c1;have k2:=(uH HA).c2;have k3:=(uH HA).c3;simp only at k0 k1 k2 k3;clear hq hR hst hs hjl hlt hin
   gi_wp2
   refine ⟨(by intro e;cases e),?_⟩;refine (uH HRR).mono ?_;rintro e W3 (⟨rfl,hJ3,hk3⟩ | ⟨rfl,XD⟩)
   ·have NY:=aA (hk3.2 _ _ (uH HA));have HB3:=aA ((uH HB2).trans hk3.1);have JA:=aA hJ3;clear k0 k1 k2 k3 hJ3 hk3 hy HRR c0 c1 c2 c3;have k1:=(uH NY).c1;simp only at k1;have hcut:=aKx b off k cap j (by omega);(have hjc:(j:Int)≤cap:=by omega);obtain ⟨p',hp'⟩:∃p,place (ls.take j) pa=p:=⟨_,rfl⟩;have CPj:=aA (by have:=uH CP W3.drew (uH HB3).drew j (by omega) pa;rw [hp'] at this;exact this);have HP':=aA hp';clear hp'
    gi_wp2_with fail
    gi_region_o
    gi_wp2_with fail
    refine ⟨trivial,(by intro e;cases e),?_⟩;refine (callsIn_wide.2 (uH CPj)).mono ?_;rintro e w4 ⟨rfl,hb⟩;have GD:=aA (yB (uH HB3).drew hb);have HJ4:=aA (aKR (uH HJ) (uH JA) (yB (yH _ W3).drew hb));clear hb CPj k1
    gi_wp2
    go_roundw;(case rel=>exact ⟨j,pa,pre++[⟨qn,pa,du,mo⟩],p',by omega,rfl,rfl,rfl,HP',aA (by rw [uH HU,uH HST];simp),HJ4,GD⟩);case measure=>simp [aE7];omega
   ·gi_wp2
    refine bodyPost_ret (results_none rfl _ _ _) rfl ?_;exact ⟨⟨_,rfl⟩,.inr ⟨pre++[⟨qn,pa,du,mo⟩],⟨ups (ls.take j) pa,by rw [uH HU,uH HST];simp⟩,XD⟩⟩
  ·gi_wp2
   (go_end0);(have he:pre=ups ls nm:=by rw [uH HU,aIK (by rw [uH HP];omega)];simp);subst he;exact ⟨⟨_,rfl⟩,.inl (by first | exact uH SG | exact ⟨_,rfl,uH SG⟩)⟩
theorem zV (ao:Option Addr) (len cap:Nat) (nm:List UInt8) (w:World) :
  cP 86 #[.slice ao len cap,.string (bs nm)] w fun e w'=>e=.returned (.func (.func 147) #[] #[.pointer (some ⟨w.heap.size,0,none⟩),.pointer (some ⟨w.heap.size+1,0,none⟩)])∧(w.alloc (.cells #[.slice ao len cap] 24)).alloc (.cells #[.string (bs nm)] 9)=w':=by
 have ZK:∀(fn:Fn) (first cap:Array Value) (w:World),(Instr.makeFunc fn first cap).run Tryz.prog w=.ok (.func fn first cap) w:=fun _ _ _ _=>rfl
 go_enter Tryz.func86,Tryz.ntmps86
 go_wp2;go_ret;exact ⟨rfl,rfl⟩
theorem qX (n Bq Bn:Nat) (ao:Option Addr) (len cap:Nat) (ls:List Q) (nm:List UInt8) (w0 w:World) (h:gN w0 ao len ls) (hb:Bw w0 w) (hl:len≤1048576) (hc:len≤cap)
  (hq:w.cell? ⟨Bq,0,none⟩=some (.slice ao len cap)) (hn:w.cell? ⟨Bn,0,none⟩=some (.string (bs nm))) :
  SeqStopsK Fence.wide n Tryz.prog 147 #[.pointer (some ⟨Bq,0,none⟩),.pointer (some ⟨Bn,0,none⟩)] (fun x : { q:Q // q ∈ ls }=>#[qv x.1]) (KpQ w0.heap.size) (fun ys=>ys.map Subtype.val=ups ls nm) (fun pre=>pre.map Subtype.val <+: ups ls nm) ls.length w:=by
 intro l J Jx W hW hJ hJx hY h0;refine (aHr n l Bq Bn ao len cap ls nm w0 W (fun pre W=>∃p:List { q:Q // q ∈ ls },p.map Subtype.val=pre∧J p W) (fun pre W=>∃p:List { q:Q // q ∈ ls },p.map Subtype.val=pre∧Jx p W)
  (fun s A B row hs hg hr=>by obtain ⟨p,e,hj⟩:=hs;exact ⟨p,e,hJ p A B row hj hg hr⟩) ?_ ((hW.cell (p:=⟨Bq,0,none⟩) (yG hq)).trans hq) ((hW.cell (p:=⟨Bn,0,none⟩) (yG hn)).trans hn) h (yB hb hW) hl hc ⟨[],rfl,h0⟩).mono ?_
 ·rintro pre x W1 hx ⟨p,rfl,hj⟩ hlt;obtain ⟨fn,tmps,assign,body,hy,hR⟩:=hY p ⟨x,hx⟩ W1 hj (by simpa using hlt);refine ⟨fn,tmps,assign,body,hy,hR.mono ?_⟩;rintro e W' (⟨rfl,hj',hk⟩ | ⟨rfl,hj'⟩)
  ·exact .inl ⟨rfl,⟨p++[⟨x,hx⟩],by simp,hj'⟩,hk⟩
  ·exact .inr ⟨rfl,⟨p++[⟨x,hx⟩],by simp,hj'⟩⟩
 ·rintro e W' ⟨hv,⟨ys,hy,p,hp,hj⟩ | ⟨pre,KE,p,hp,hj⟩⟩
  ·exact ⟨hv,.inl ⟨p,hp.trans hy,hj⟩⟩
  ·exact ⟨hv,.inr ⟨p,(show p.map Subtype.val <+: ups ls nm by rw [hp];exact KE),hj⟩⟩
end
end Go.Proofs.YtfndhndlkcijoaaGreat
