/-
  Texts in one: OkB, RowE, DelA, RightS, NewSt.
-/
import Derived.Test.YtfndhndlkcijoaaGreatTackD
import Derived.Test.YtfndhndlkcijoaaGreatTackB
import Derived.Test.YtfndhndlkcijoaaGreatTackC
set_option maxRecDepth 100000
set_option maxHeartbeats 16000000
set_option linter.unusedVariables false
set_option linter.unusedSimpArgs false
open Go.Proofs.Tryz
namespace Go.Proofs.YtfndhndlkcijoaaGreat
section
open Go.RowKit
variable {p:Ask→Bool} {l:List Ask} {cs:List Value} {B M N cap g k n sz:Nat} {ao:Option Addr} {t:TypeId} {w w' w0:World}
def aF7 (p:Ask→Bool):List Ask→Nat→Int
 | [],_=>-1
 | q::t,k=>if p q=true then (k:Int) else aF7 p t (k+1)
theorem aGb (h:k<l.length):aF7 p (l.drop k) k=if p l[k]=true then (k:Int) else aF7 p (l.drop (k+1)) (k+1):=by
 rw [List.drop_eq_getElem_cons h,aF7]
theorem aIK (h:l.length≤k):aF7 p (l.drop k) k = -1:=by
 rw [List.drop_of_length_le h];rfl
theorem aEG (p:Ask→Bool):∀(l:List Ask) (k:Nat),decide (0≤aF7 p l k)=l.any p
 | [],_=>by simp [aF7]
 | q::t,k=>by
  rw [aF7,List.any_cons];by_cases h:p q=true
  ·rw [if_pos h,h];simp
  ·rw [if_neg h,aEG p t (k+1)];simp [h]
theorem zI (g:Nat) (lb:Array Value) (eg:∀args w,(callFunc g args).run Tryz.prog w=.ok (.enter g args) w) (p:Ask→Bool) (ao:Option Addr) (len cap:Nat) (l:List Ask) (w:World) (h:bE w ao len l) (hl:len≤1048576)
  (hp:∀wx (q:Ask),q ∈ l→Bw w wx→Calls Tryz.prog g (#[aF9 q]++lb) wx fun e w'=>e=.returned (.bool (p q))∧Bw wx w') :
  cP 215 #[.slice ao len cap,.func (.func g) #[] lb] w fun e w'=>e=.returned (.int .i64 (aF7 p l 0))∧Bw w w':=by
 have HR:=aA h;have HL:=aA h.1;have HP:=aA hp;clear h hp;go_enter func215,ntmps215;go_wp2;go_loopw [5,8] (fun _ i wr=>∃k:Nat,k≤len∧i=.int .i64 k∧Hid (aF7 p l 0=aF7 p (l.drop k) k)∧Hid (Bw w wr)) (fun _ i _=>len - (intOf i).toNat);case atStart=>exact ⟨0,Nat.zero_le _,rfl,aA (by simp),aA (yH _ _)⟩
 case round=>
  obtain ⟨k,hk,rfl,hq,HB⟩:=hrel;by_cases hlt:k<len
  ·obtain ⟨b,off,rfl,hx⟩:=((uH HR).below (uH HB)).at hlt;(have hkl:k<l.length:=by have:=uH HL;omega);have hst:=aA (aGb (p:=p) (l:=l) (k:=k) hkl);obtain ⟨c0,c1,c2,c3,c4⟩:=hx hkl;clear hx;have HC:=aA (uH HP wr l[k] (yM _) (uH HB));obtain ⟨⟨y0,y1,y2,nd,y4⟩,hs⟩:∃s,l[k]=s:=⟨_,rfl⟩;rw [hs] at c0 c1 c2 c3 c4 hst HC;simp only at c0 c1 c2 c3 c4;clear hs hkl HP;cases hpq:p ⟨y0,y1,y2,nd,y4⟩ with
   | true=>rw [hpq] at HC;have HQ:=aA hpq;clear hpq;(go_wp2_with (go_at_fn g;refine (uH HC).mono ?_;rintro e w' ⟨rfl,hb⟩));go_ret;exact ⟨jA (by rw [uH hq,uH hst,if_pos (uH HQ)]),yB (uH HB) hb⟩
   | false=>rw [hpq] at HC;have HQ:=aA hpq;clear hpq;(go_wp2_with (go_at_fn g;refine (uH HC).mono ?_;rintro e w' ⟨rfl,hb⟩));go_roundw;(case rel=>exact ⟨k+1,by omega,by go_num,aA (by rw [uH hq,uH hst,if_neg (by rw [uH HQ];simp)]),aA (yB (uH HB) hb)⟩);case measure=>simp [intOf];omega
  ·go_wp2;go_ret;exact ⟨jA (by rw [uH hq,aIK (by have:=uH HL;omega)]),uH HB⟩
theorem sW (g:Nat) (lb:Array Value) (eg:∀args w,(callFunc g args).run Tryz.prog w=.ok (.enter g args) w) (p:Ask→Bool) (ao:Option Addr) (len cap:Nat) (l:List Ask) (w:World) (h:bE w ao len l) (hl:len≤1048576)
  (hp:∀wx (q:Ask),q ∈ l→Bw w wx→Calls Tryz.prog g (#[aF9 q]++lb) wx fun e w'=>e=.returned (.bool (p q))∧Bw wx w') :
  cP 183 #[.slice ao len cap,.func (.func g) #[] lb] w fun e w'=>e=.returned (.bool (l.any p))∧Bw w w':=by
 have C:=aA (zI g lb eg p ao len cap l w h hl hp);have HS:=aA (aEG p l 0);obtain ⟨i,hi⟩:∃i,aF7 p l 0=i:=⟨_,rfl⟩;obtain ⟨b,hb⟩:∃b,l.any p=b:=⟨_,rfl⟩;rw [hi] at C HS;rw [hb] at HS ⊢;clear h hp hi hb;go_enter func183,ntmps183;go_wp2_with fail;refine (uH C).mono ?_;rintro e w1 ⟨rfl,hb⟩;have HB:=aA hb;clear hb;by_cases h0:0≤i
 ·go_wp2;go_ret;exact ⟨yF (by first | exact uH HS | (rw [←uH HS];simp [h0])),uH HB⟩
 ·go_wp2;go_ret;exact ⟨yF (by first | exact uH HS | (rw [←uH HS];simp [h0])),uH HB⟩
theorem aFU (q:Ask) (w:World) (hn:q.node.length≤1048576) :
  cP 184 #[aF9 q] w fun e w'=>e=.returned (.bool (!kC q))∧Bw w w':=by
 have C:=aA (aHL q (w.alloc (.cells #[.int .i64 q.mem,.int .i64 q.cpu,.int .i64 q.count,.string (bs q.node),.int .i64 q.missed] 43)) hn);obtain ⟨o,ho⟩:∃o,kC q=o:=⟨_,rfl⟩;rw [ho] at C ⊢;obtain ⟨y0,y1,y2,nd,y4⟩:=q;clear ho;go_enter func184,ntmps184;go_wp2_with fail;refine (uH C).mono ?_;rintro e w1 ⟨rfl,hb⟩;have HB:=aA (yB (yA (yH _ w) _) hb);clear hb C;cases o
 ·go_wp2;go_ret;exact ⟨rfl,uH HB⟩
 ·go_wp2;go_ret;exact ⟨rfl,uH HB⟩
def kR (l:List Ask):Bool:=decide (l.length≤10)&&l.all kC
theorem aFS (id:Int) (qu:List UInt8) (ao:Option Addr) (len cap:Nat) (l:List Ask) (w:World) (h:bE w ao len l) (hl:len≤1048576) (hn:∀q ∈ l,q.node.length≤1048576) :
  cP 138 #[aI3 id qu ao len cap] w fun e w'=>e=.returned (.bool (kR l))∧Bw w w':=by
 have hb0:=yA (yH _ w) (.cells #[.int .i64 id,.string (bs qu),.slice ao len cap] 56);have C:=aA (sW 184 #[] (enters_of func184 (by kernel_rfl) rfl) (fun q=>!kC q) ao len cap l _ (h.below hb0) hl (fun wx q hq _=>aFU q wx (hn q hq)));have HS:=aA (show kR l=(decide (len≤10)&&!(l.any fun q=>!kC q)) by rw [kR,←h.1];congr 1;rw [List.not_any_eq_all_not];simp);obtain ⟨o,ho⟩:∃o,kR l=o:=⟨_,rfl⟩;obtain ⟨b,hb⟩:∃o,(l.any fun q=>!kC q)=o:=⟨_,rfl⟩;rw [ho] at HS ⊢;rw [hb] at HS C;have HB0:=aA hb0;clear ho hb h hn hb0;by_cases h10:len≤10
 ·have hi:(len:Int)≤10:=by omega
  rw [decide_eq_true h10] at HS;clear h10;go_enter func138,ntmps138;go_wp2_with fail;refine (uH C).mono ?_;rintro e w1 ⟨rfl,hb⟩;have HB:=aA (yB (uH HB0) hb);clear hb C HB0;go_wp2;go_ret;exact ⟨yF (by rw [uH HS];simp),uH HB⟩
 ·have hi:¬(len:Int)≤10:=by omega
  rw [decide_eq_false h10] at HS;clear h10 C;go_enter func138,ntmps138;go_wp2;go_ret;exact ⟨yF (by rw [uH HS];simp),uH HB0⟩
def aBf (s:St):Bool:=inB s.clock 0 1000000000&&(inB s.epoch 1 1000000000&&(inB s.next 1 1000000000&&inB s.serial 1 1000000000))
theorem aAm (x:Sls) (s:St) (w:World) :
  cP 79 #[sv x s] w fun e w'=>e=.returned (.bool (aBf s))∧Bw w w':=by
 obtain ⟨qa,ql,qc,aa,al,ac,ma,ml,mc,ca,cl,cc⟩:=x;obtain ⟨qs,cv,ez,ny,sj,aj,ms,cs⟩:=s;have HB0:=aA (yA (yH _ w) (.cells (svc ⟨qa,ql,qc,aa,al,ac,ma,ml,mc,ca,cl,cc⟩ ⟨qs,cv,ez,ny,sj,aj,ms,cs⟩) 29));simp only [aBf];obtain ⟨b0,h0⟩:∃b,inB cv 0 1000000000=b:=⟨_,rfl⟩;obtain ⟨b1,h1⟩:∃b,inB ez 1 1000000000=b:=⟨_,rfl⟩;obtain ⟨b2,h2⟩:∃b,inB ny 1 1000000000=b:=⟨_,rfl⟩;obtain ⟨b3,h3⟩:∃b,inB sj 1 1000000000=b:=⟨_,rfl⟩;have C0:=aA (fun wx=>by have:=nP cv wx;rw [h0] at this;exact this);have C1:=aA (fun wx=>by have:=qA ez wx;rw [h1] at this;exact this);have C2:=aA (fun wx=>by have:=qA ny wx;rw [h2] at this;exact this);have C3:=aA (fun wx=>by have:=qA sj wx;rw [h3] at this;exact this);rw [h0,h1,h2,h3];clear h0 h1 h2 h3;go_enter func79,ntmps79;go_wp2_with fail;refine (uH C0 _).mono ?_;rintro e w1 ⟨rfl,rfl⟩;cases b0 with
 | false=>go_wp2;go_ret;exact ⟨rfl,uH HB0⟩
 | true=>
 go_wp2_with fail
 refine (uH C1 _).mono ?_;rintro e w1 ⟨rfl,rfl⟩;cases b1 with
 | false=>go_wp2;go_ret;exact ⟨rfl,uH HB0⟩
 | true=>
 go_wp2_with fail
 refine (uH C2 _).mono ?_;rintro e w1 ⟨rfl,rfl⟩;cases b2 with
 | false=>go_wp2;go_ret;exact ⟨rfl,uH HB0⟩
 | true=>
 go_wp2_with fail
 refine (uH C3 _).mono ?_;rintro e w1 ⟨rfl,rfl⟩;go_wp2;go_ret;exact ⟨yF (by simp),uH HB0⟩
theorem Lay.frozen (h:Lay w t g M cs) (j:Nat):w.frozen? ⟨g,j,none⟩=false:=h.cel.frozen j
theorem Lay.isThere (h:Lay w t g M cs) {j:Nat} (hj:j<M):(w.cell? ⟨g,j,none⟩).isSome=true:=by
 obtain ⟨R,h1,h2⟩:=h;have h3:j<(cs++R).length:=by omega
 simp [World.cell?,h1,List.getElem?_eq_getElem h3]
theorem Lay.drew (h:Lay w t g M cs):Lay w.drew t g M cs:=h
theorem Lay.cells (h:Lay w t g M cs) (o:Nat) (vs:List Value) (hf:o+vs.length≤M) (new:List Value) (hn:new.length≤M)
  (hi:∀j u,new[j]? = some u→(o≤j∧j<o+vs.length→vs[j - o]? = some u)∧(¬(o≤j∧j<o+vs.length)→w.cell? ⟨g,j,none⟩=some u)):Lay (w.setCells g o vs) t g M new:=by
 refine wU ?_ (fun j u hj=>?_) hn
 ·exact (fB (S:=fun k=>k=g) rfl vs o w w (Mks.refl _ _)).cel _ _ _ h.cel
 ·by_cases e:o≤j∧j<o+vs.length
  ·have h1:=World.cell?_setCells_in g vs o w (fun k hk=>h.isThere (by omega)) (j - o) (by omega);rw [show o+(j - o)=j by omega] at h1;rw [h1];have h2:=(hi j u hj).1 e;rw [List.getElem?_eq_getElem (by omega)] at h2;exact h2
  ·rw [World.cell?_setCells_out g vs o w ⟨g,j,none⟩ (fun _ _=>by show j<o∨o+vs.length≤j;omega)];exact (hi j u hj).2 e
theorem bE.lay (h:bE w (some ⟨g,0,none⟩) n l) (hc:Cel w 43 g N) (hn:l.length*5≤N):Lay w 43 g N (aR l):=
 wU hc (fun j u hj=>by have:=l8 h j u hj;rwa [Nat.zero_add] at this) (by rw [bG];exact hn)
theorem Lay.rowA (h:Lay w 43 g M (aR l)):bE w (some ⟨g,0,none⟩) l.length l:=by
 refine ⟨rfl,.inr ⟨g,0,rfl,fun i hi=>?_⟩⟩;obtain ⟨a,b,c,d,e⟩:=l9 l i hi;rw [Nat.zero_add];exact ⟨h.cell a,h.cell b,h.cell c,h.cell d,h.cell e⟩
theorem bR.lay {l:List Con} (h:bR w (some ⟨g,0,none⟩) n l) (hc:Cel w 35 g N) (hn:l.length*5≤N):Lay w 35 g N (aI l):=
 wU hc (fun j u hj=>by have:=iL h j u hj;rwa [Nat.zero_add] at this) (by rw [bY];exact hn)
def vF (B:Nat) (w:World) (t:TypeId) (sz:Nat) (ao:Option Addr) (n cap:Nat):Prop:=n≤cap∧(cap=0∨∃g M,ao=some ⟨g,0,none⟩∧B≤g∧Cel w t g (M*sz)∧cap≤M)
theorem vF.mks {S:Nat→Prop} (h:vF B w t sz ao n cap) (hm:Mks S w w'):vF B w' t sz ao n cap:=by
 obtain ⟨h1,h3⟩:=h;refine ⟨h1,?_⟩;rcases h3 with h3 | ⟨g,M,e,hB,hc,hM⟩
 ·exact .inl h3
 ·exact .inr ⟨g,M,e,hB,hm.cel _ _ _ hc,hM⟩
theorem vF.below (h:vF B w t sz ao n cap) (hb:Bw w w'):vF B w' t sz ao n cap:=h.mks (S:=fun _=>False) (.of_below hb)
theorem vF.own (h:vF B w t sz ao n cap):dW B w.heap.size w t sz ao n:=by
 obtain ⟨h1,h3⟩:=h;rcases h3 with h3 | ⟨g,M,e,hB,hc,hM⟩
 ·exact .inl (by omega)
 ·exact .inr ⟨g,M,e,hB,hc.lt,hc,by omega⟩
theorem vF.all (h:vF B w t sz ao n cap):dW B w.heap.size w t sz ao cap:=by
 rcases h.2 with h3 | ⟨g,M,e,hB,hc,hM⟩
 ·exact .inl h3
 ·exact .inr ⟨g,M,e,hB,hc.lt,hc,hM⟩
theorem aJD {E:Nat} (h:dW B E w t sz ao cap) (hn:n≤cap):vF B w t sz ao n cap:=by
 refine ⟨hn,?_⟩;rcases h with h | ⟨g,M,h1,h2,h3,h4,h5⟩
 ·exact .inl h
 ·exact .inr ⟨g,M,h1,h2,h4,h5⟩
theorem aAe {P:Program} (w:World) (t e ty:TypeId) (z:Value) (ht:P.underlying t=some (.slice e)) (hv:∀w,(zeroValue e).run P w=.ok z w) (zs:List Value) (hz:(Builtin.zeroCells z.cells 1).toList=zs) (h1:∀v ∈ zs,v.oneCell'=true) (b o c:Nat)
  (hc:∀j,j<zs.length→(w.cell? ⟨b,o+j,none⟩).isSome=true) (hf:∀j,j<zs.length→w.frozen? ⟨b,o+j,none⟩=false) :
  (Builtin.clear_ #[t] ty #[.slice (some ⟨b,o,none⟩) 1 c]).run P w=.ok (.tuple #[]) (w.setCells b o zs):=by
 have hst:=run_storeCells_cells (P:=P) b o zs 0 w (by simpa using hc) (by simpa using hf) h1;simp only [Nat.add_zero] at hst;simp [Builtin.clear_,run_underlying ht,hv,hz,hst]
theorem gM:∀a b:List Ask,aR (a++b)=aR a++aR b
 | [],b=>rfl
 | q::t,b=>by rw [List.cons_append,aR,aR,gM t b,List.append_assoc]
theorem uW (l:List Ask) (k:Nat) (h:k<l.length):aR (l.eraseIdx k)=aR (l.take k)++aR (l.drop (k+1)):=by
 rw [List.eraseIdx_eq_take_drop_succ,gM]
theorem aIw:∀w,(zeroValue 43).run Tryz.prog w=.ok (.agg #[.int .i64 0,.int .i64 0,.int .i64 0,.string .empty,.int .i64 0]) w:=fun w=>by kernel_rfl
theorem aJ8:(Tryz.prog.info? 43).map (fun i=>i.size)=some 5:=by kernel_rfl
theorem aBE (g N cap k:Nat) (l:List Ask) (w:World) (h:Lay w 43 g N (aR l)) (hk:k<l.length) (QM:l.length≤cap) (hl:l.length≤1048576) (hN:l.length*5≤N) :
  cP 166 #[.slice (some ⟨g,0,none⟩) l.length cap,.int .i64 (k:Int),.int .i64 ((k:Int)+1)] w fun e w'=>e=.returned (.slice (some ⟨g,0,none⟩) (l.length - 1) cap)∧Lay w' 43 g N (aR (l.eraseIdx k))∧Mks (fun b=>b=g) w w':=by
 obtain ⟨i0,hi0,hsz⟩:∃i0,Tryz.prog.info? 43=some i0∧i0.size=5:=by
  have:=aJ8;cases hq:Tryz.prog.info? 43 with
  | none=>rw [hq] at this;simp at this
  | some i=>rw [hq] at this;exact ⟨i,rfl,by simpa using this⟩
 obtain ⟨n,hn⟩:∃n,l.length=n:=⟨_,rfl⟩;rw [hn] at hk QM hl hN ⊢;have HN:=aA hn;have H:=aA h;obtain ⟨news,Gy⟩:∃x,aR (l.drop (k+1))=x:=⟨_,rfl⟩;have hnl:news.length=(n - (k+1))*5:=by rw [←Gy,bG,List.length_drop,hn]
 have HC:=aA (show ∀j u,news[j]? = some u→w.cell? ⟨g,(k+1)*5+j,none⟩=some u from fun j u hj=>by
  refine h.cell ?_;have e:aR l=aR (l.take (k+1))++news:=by rw [←Gy,←gM,List.take_append_drop]
  rw [e,List.getElem?_append_right (by rw [bG,List.length_take];omega),bG,List.length_take];rw [show (k+1)*5+j - min (k+1) l.length*5=j by omega];exact hj)
 have H1:=aA (show ∀u ∈ news,u.oneCell'=true from fun u hu=>jE _ u (by rw [Gy];exact hu));have HS:=aA (show ∀j,j<news.length→(w.cell? ⟨g,0+k*5+j,none⟩).isSome=true∧w.frozen? ⟨g,0+k*5+j,none⟩=false from fun j hj=>⟨by rw [Nat.zero_add];exact h.isThere (by omega),h.frozen _⟩);have k0:(0:Int)≤k:=by omega
 have k1:(k:Int)≤(k:Int)+1:=by omega
 have k2:(k:Int)+1≤n:=by omega
 have k3:(n:Int)≤cap:=by omega
 have k4:¬(k:Int)=(k:Int)+1:=by omega
 have k5:(k:Int)≤n:=by omega
 have k6:(0:Int)≤(k:Int)+1:=by omega
 have k7:((k:Int)+1).toNat=k+1:=by omega
 have hz:(Builtin.zeroCells (Value.agg #[.int .i64 0,.int .i64 0,.int .i64 0,.string .empty,.int .i64 0]).cells 1).toList=[.int .i64 0,.int .i64 0,.int .i64 0,.string .empty,.int .i64 0]:=by kernel_rfl
 obtain ⟨W1,hW1⟩:∃W1,W1=w.drew.setCells g (0+k*5) news:=⟨_,rfl⟩;have hL1:Lay W1 43 g N (aR (l.eraseIdx k)):=by
  rw [hW1];refine h.drew.cells _ _ (by omega) _ (by rw [bG,List.length_eraseIdx_of_lt (by omega)];omega) (fun j u hj=>?_);rw [uW l k (by omega),Gy] at hj;have hcl:(aR (l.take k)).length=k*5:=by rw [bG,List.length_take];omega
  rw [Nat.zero_add];refine ⟨fun e=>?_,fun e=>?_⟩
  ·rw [List.getElem?_append_right (by omega),hcl] at hj;exact hj
  ·have hlt:=(List.getElem?_eq_some_iff.1 hj).1;rw [List.length_append,hcl] at hlt;rw [List.getElem?_append_left (by omega)] at hj;refine h.drew.cell ?_;(have e2:aR l=aR (l.take k)++aR (l.drop k):=by rw [←gM,List.take_append_drop]);rw [e2,List.getElem?_append_left (by omega)];exact hj
 have hM1:Mks (fun b=>b=g) w W1:=by rw [hW1];exact fB (S:=fun b=>b=g) rfl _ _ _ _ (.of_below (yH _ w).drew)
 have hcl:∀ty,(Builtin.clear_ #[54] ty #[.slice (some ⟨g,(k+(n - (k+1)))*5,none⟩) (n - (k+(n - (k+1)))) (cap - (k+(n - (k+1))))]).run Tryz.prog W1=.ok (.tuple #[]) (W1.setCells g ((n - 1)*5) [.int .i64 0,.int .i64 0,.int .i64 0,.string .empty,.int .i64 0]):=fun ty=>by
  rw [show n - (k+(n - (k+1)))=1 by omega,show k+(n - (k+1))=n - 1 by omega];exact aAe W1 _ _ ty _ underlying54 aIw _ hz (fun v hv=>by simp at hv;rcases hv with rfl | rfl | rfl<;>rfl) g _ _ (fun j hj=>hL1.isThere (by simp at hj;omega)) (fun j hj=>hL1.frozen _)
 have HA:=aA (show Lay (W1.setCells g ((n - 1)*5) [.int .i64 0,.int .i64 0,.int .i64 0,.string .empty,.int .i64 0]) 43 g N (aR (l.eraseIdx k))∧Mks (fun b=>b=g) w (W1.setCells g ((n - 1)*5) [.int .i64 0,.int .i64 0,.int .i64 0,.string .empty,.int .i64 0]) from by
  refine ⟨hL1.cells _ _ (by simp;omega) _ (by rw [bG,List.length_eraseIdx_of_lt (by omega)];omega) (fun j u hj=>⟨fun e=>?_,fun e=>hL1.cell hj⟩),fB (S:=fun b=>b=g) rfl _ _ _ _ hM1⟩;have hlt:=(List.getElem?_eq_some_iff.1 hj).1;rw [bG,List.length_eraseIdx_of_lt (by omega)] at hlt;omega)
 have HW:=aA hW1;have j1:((k+(n - (k+1)):Nat):Int)≤n:=by omega
 have j2:k+(n - (k+1))≤n:=by omega
 have j3:¬cap=k+(n - (k+1)):=by omega
 have j4:n≤cap:=by omega
 have j6:k≤cap:=by omega
 have j7:k+1≤cap:=by omega
 have j8:k+1≤n:=by omega
 clear h hn hW1 hL1 hM1;by_cases hcc:cap=k+1
 ·subst hcc;have hnk:n=k+1:=by omega
  have JC:news.length=0*5:=by rw [hnl];omega
  have e1:k+(n - (k+1))=k:=by omega
  rw [e1] at hcl j1 j2 j3;subst hnk;rw [show k+1 - k=1 by omega] at hcl;go_enter func166,ntmps166;go_wp2_with fail;go_region_law (refine step_append_room rfl (.tmp 22) (.tmp 25) 54 rfl 43 i0 5 underlying54 hi0 hsz g 0 k (k+1) (by simp [Act.eval,Act.put]) ⟨g,0,none⟩ 0 0 news (by simp [Act.eval,Act.put]) JC (fun j u hj=>absurd (List.getElem?_eq_some_iff.1 hj).1 (by rw [JC];omega)) (uH H1) (by omega) (uH HS) ?_;rw [←uH HW])
  go_wp2;go_ret;exact ⟨rfl,uH HA⟩
 have j5:¬(k+1=cap):=by omega
 go_enter func166,ntmps166
 go_wp2_with fail
 go_region_law (refine step_append_room rfl (.tmp 22) (.tmp 25) 54 rfl 43 i0 5 underlying54 hi0 hsz g 0 k cap (by simp [Act.eval,Act.put]) ⟨g,(k+1)*5,none⟩ (n - (k+1)) (cap - (k+1)) news (by simp [Act.eval,Act.put]) hnl (fun j u hj=>by rw [Addr.add_lit];exact uH HC j u hj) (uH H1) (by omega) (uH HS) ?_;rw [←uH HW])
 go_wp2;go_ret;exact ⟨by rw [show k+(n - (k+1))=n - 1 by omega];rfl,uH HA⟩
theorem CSt.rebase {len:Nat} (h:CSt w0 B g ao len cap w):CSt w B g ao len cap w:=⟨h.1,h.2.1,aD w _,h.2.2.2⟩
def aA8 (a b c d:Int):List Q:=[⟨[114,111,111,116],[],10000,10000⟩,⟨[97],[114,111,111,116],a,b⟩,⟨[98],[114,111,111,116],c,d⟩]
theorem aCd (a b c d:Int):aBN (aA8 a b c d):=fun q hq=>by
 simp [aA8] at hq;rcases hq with rfl | rfl | rfl<;>simp
theorem aDj {len:Nat} (w:World) (h:CSt w0 B g ao len cap w) :
  cP 195 #[.pointer (some ⟨g,0,none⟩)] w fun e w'=>∃v ls,e=.returned v∧Hid (QDr w.heap.size w' v ls)∧3≤ls.length∧ls.length≤5∧Hid (aBN ls)∧Hid (CSt w0 B g ao len cap w'):=by
 obtain ⟨i0,hi,hz0,hz1,hz2⟩:=info_parts Tryz.infoQD;have HS:=aA h;have hgl:=h.1.lt;have hw0:=h.2.2.1.size;clear h;have hq1:=aA (d9 w 3 [5000,3000,0,6000] (by decide));go_enter func195,ntmps195;go_wp2_with fail;refine (jO w.heap.size 4 4 _ ((uH HS).alloc _).rebase (uH hq1) (by omega) (by decide) (by decide)).mono ?_;rintro e w1 ⟨x1,rfl,_,_,hs1⟩;have Qx:=aA (((uH HS).alloc _).step hs1.1 hs1.2.2.1);have hz1':w.heap.size+1≤w1.heap.size:=by have:=hs1.2.2.1.size;rwa [World.size_alloc] at this
 have hq2:=aA (d9 w1 3 [8000,10000,6000] (by decide));clear hs1 hq1 HS;go_wp2_with fail;refine (jO w1.heap.size 3 3 _ ((uH Qx).alloc _).rebase (uH hq2) (by omega) (by decide) (by decide)).mono ?_;rintro e w2 ⟨x2,rfl,_,_,hs2⟩;have HS2:=aA (((uH Qx).alloc _).step hs2.1 hs2.2.2.1);have hz2':w1.heap.size+1≤w2.heap.size:=by have:=hs2.2.2.1.size;rwa [World.size_alloc] at this
 have hq3:=aA (d9 w2 3 [4000,2000,0] (by decide));clear hs2 hq2 Qx;go_wp2_with fail;refine (jO w2.heap.size 3 3 _ ((uH HS2).alloc _).rebase (uH hq3) (by omega) (by decide) (by decide)).mono ?_;rintro e w3 ⟨x3,rfl,_,_,hs3⟩;have ZA:=aA (((uH HS2).alloc _).step hs3.1 hs3.2.2.1);have hz3':w2.heap.size+1≤w3.heap.size:=by have:=hs3.2.2.1.size;rwa [World.size_alloc] at this
 have hq4:=aA (d9 w3 3 [10000,5000] (by decide));clear hs3 hq3 HS2;go_wp2_with fail;refine (jO w3.heap.size 2 2 _ ((uH ZA).alloc _).rebase (uH hq4) (by omega) (by decide) (by decide)).mono ?_;rintro e w4 ⟨x4,rfl,_,_,hs4⟩;have XV:=aA ((((uH ZA).alloc _).step hs4.1 hs4.2.2.1).alloc (.cells (dK (aA8 x1 x2 x3 x4)).toArray 105));have hz4':w3.heap.size+1≤w4.heap.size:=by have:=hs4.2.2.1.size;rwa [World.size_alloc] at this
 have SK:=aA (aJI w4 (aA8 x1 x2 x3 x4) 3 rfl (by decide));have WE:=aA (aCd x1 x2 x3 x4);have GZ:=aA (show (aA8 x1 x2 x3 x4).length=3 from rfl);clear hs4 hq4 ZA;go_wp2_with fail;refine (aGJ 2 _ (uH XV).rebase (by decide) (by decide)).mono ?_;rintro e w5 ⟨x,rfl,hs5⟩;have YY:=aA ((uH XV).step hs5.1 hs5.2.2.1);have yj:=aA ((uH SK).kept hs5.2.2.1 (fun k e=>by cases e;omega));have hz5':w4.heap.size+1≤w5.heap.size:=by have:=hs5.2.2.1.size;rwa [World.size_alloc] at this
 clear hs5 XV SK;cases x with
 | false=>go_wp2;go_ret;exact ⟨_,aA8 x1 x2 x3 x4,rfl,aA ⟨(uH yj).1,by rcases (uH yj).2 with h | ⟨a,b,c,h1,h2,h3⟩;exact .inl h;exact .inr ⟨a,b,c,h1,by omega,h3⟩⟩,by rw [uH GZ];omega,by rw [uH GZ];omega,WE,YY⟩
 | true=>
  have Rj:=aA (d9 w5 3 [5000,1000] (by decide));go_wp2_with fail;refine (jO w5.heap.size 2 2 _ ((uH YY).alloc _).rebase (uH Rj) (by omega) (by decide) (by decide)).mono ?_;rintro e w6 ⟨x6,rfl,_,_,hs6⟩;have HS6:=aA (((uH YY).alloc _).step hs6.1 hs6.2.2.1);have SI:=aA (((uH yj).below (yA (yH _ _) _)).kept hs6.2.2.1 (fun k e=>by cases e;omega));have hz6':w5.heap.size+1≤w6.heap.size:=by have:=hs6.2.2.1.size;rwa [World.size_alloc] at this
  have Hq:w6.ownsRow w4.heap.size 105 4 _ 3 (dK (aA8 x1 x2 x3 x4)):=uH SI;have hs2:w4.heap.size≤w6.heap.size:=by omega
  clear hs6 Rj YY yj;go_wp2_with (at_builtin;refine wpList_append_own _ rfl _ _ 24 rfl w4.heap.size 105 i0 (.agg #[.string .empty,.string .empty,.int .i64 0,.int .i64 0]) 4 48 underlying24 hi hz0 hz1 hz2 rfl (by decide) _ _ _ rfl (Hq.alloc _) ⟨w6.heap.size,0,none⟩ 2 2 (dK [⟨[98,49],[98],5000,10000⟩,⟨[98,50],[98],x6,9000⟩]) rfl rfl ?c1 ?c2 ?c3 ?c4 ?c5 ?_);case c1=>
   intro j x hj;have hj8:j<8:=by have:=(List.getElem?_eq_some_iff.1 hj).1;simpa [dK] using this
   match j,hj8,hj with
   | 0,_,hj=>simp [dK] at hj;subst hj;simp [Addr.add];rfl
   | 1,_,hj=>simp [dK] at hj;subst hj;simp [Addr.add];rfl
   | 2,_,hj=>simp [dK] at hj;subst hj;simp [Addr.add]
   | 3,_,hj=>simp [dK] at hj;subst hj;simp [Addr.add]
   | 4,_,hj=>simp [dK] at hj;subst hj;simp [Addr.add];rfl
   | 5,_,hj=>simp [dK] at hj;subst hj;simp [Addr.add];rfl
   | 6,_,hj=>simp [dK] at hj;subst hj;simp [Addr.add]
   | 7,_,hj=>simp [dK] at hj;subst hj;simp [Addr.add]
  case c2=>intro x hx;simp [dK] at hx;rcases hx with rfl | rfl | rfl | rfl | rfl | rfl | rfl | rfl<;>rfl
  case c3=>unfold maxLen;omega
  case c4=>omega
  case c5=>simp at hs2 ⊢;omega
  intro v' w7 Hy Hw _;have BH:=aA (show QDr w4.heap.size w7 v' (aA8 x1 x2 x3 x4++[⟨[98,49],[98],5000,10000⟩,⟨[98,50],[98],x6,9000⟩]) by unfold QDr;rw [aAU];exact Hy);have NF:=aA (((uH HS6).alloc _).gro Hw (fun k hk=>by
   rcases (uH SI).2 with ⟨e,_⟩ | ⟨q,_,_,e,hq,_⟩
   ·rw [e] at hk;simp [Value.ownBlock] at hk
   ·rw [e] at hk;simp [Value.ownBlock] at hk;omega))
  clear Hy Hw Hq;go_wp2;go_ret;refine ⟨_,aA8 x1 x2 x3 x4++[⟨[98,49],[98],5000,10000⟩,⟨[98,50],[98],x6,9000⟩],rfl,aA ⟨(uH BH).1,by rcases (uH BH).2 with h | ⟨a,b,c,h1,h2,h3⟩;exact .inl h;exact .inr ⟨a,b,c,h1,by omega,h3⟩⟩,by simp [uH GZ],by simp [uH GZ],aA ?_,NF⟩;intro q hq;rcases List.mem_append.1 hq with hq | hq
  ·exact uH WE q hq
  ·simp at hq;rcases hq with rfl | rfl<;>simp
def aA3 (w:World) (l:List Q) (e:Ending) (w':World):Prop:=Bw w w'∧(aF l=false∧e=.returned (.tuple #[.agg #[.slice none 0 0,.int .i64 0,.int .i64 0,.int .i64 0,.int .i64 0,.slice none 0 0,.slice none 0 0,.slice none 0 0],.bool false])∨aF l=true∧∃v,e=.returned (.tuple #[.agg #[v,.int .i64 0,.int .i64 1,.int .i64 1001,.int .i64 1,.slice none 0 0,.slice none 0 0,.slice none 0 0],.bool true])∧oZ (w.heap.size+1) w' v l)
theorem vB (ao:Option Addr) (len cap:Nat) (l:List Q) (w:World) (h:gH w ao len l) (hl:len≤1048576) (hf:aKd l) (ha:∃ad,ao=some ad)
  (CO:∀(qo:Option Addr) (n c:Nat) (wx:World),gH wx qo n l→n≤c→cP 18 #[.agg #[.slice qo n c,.int .i64 0,.int .i64 1,.int .i64 1001,.int .i64 1,.slice none 0 0,.slice none 0 0,.slice none 0 0]] wx fun e w'=>e=.returned (.bool (aF l))∧Bw wx w') :
  cP 194 #[.slice ao len cap] w (aA3 w l):=by
 obtain ⟨i0,hi,hz0,hz1,hz2⟩:=info_parts Tryz.infoQ;obtain ⟨o,ho⟩:∃o,aF l=o:=⟨_,rfl⟩;obtain ⟨ad,rfl⟩:=ha;have hb1:=yA (yA (yH _ w) (.cells #[.slice none 0 0,.int .i64 0,.int .i64 0,.int .i64 0,.int .i64 0,.slice none 0 0,.slice none 0 0,.slice none 0 0] 29)) (.cells #[] 105);have P0:=aA ((yD w #[.slice none 0 0,.int .i64 0,.int .i64 0,.int .i64 0,.int .i64 0,.slice none 0 0,.slice none 0 0,.slice none 0 0] 29).al (.cells #[] 105));have qz:∀j u,(fA l)[j]? = some u→((w.alloc (.cells #[.slice none 0 0,.int .i64 0,.int .i64 0,.int .i64 0,.int .i64 0,.slice none 0 0,.slice none 0 0,.slice none 0 0] 29)).alloc (.cells #[] 105)).cell? (ad.add j)=some u:=fun j u hj=>by
  have hjl:j<l.length*4:=by rw [←iI];exact (List.getElem?_eq_some_iff.1 hj).1
  rcases h.2 with h0 | ⟨b,off,e,_⟩
  ·have:=h.1;omega
  ·cases e;have:=rZ (h.below hb1) j u hj;rw [Lib.add_plain];exact this
 have QI:=aA qz;have GZ:=aA h.1;have HB1:=aA hb1;have Hq:((w.alloc (.cells #[.slice none 0 0,.int .i64 0,.int .i64 0,.int .i64 0,.int .i64 0,.slice none 0 0,.slice none 0 0,.slice none 0 0] 29)).alloc (.cells #[] 105)).ownsRow (w.heap.size+1) 105 4 (.slice (some ⟨w.heap.size+1,0,none⟩) 0 0) 0 []:=by have:=rY (w.alloc (.cells #[.slice none 0 0,.int .i64 0,.int .i64 0,.int .i64 0,.int .i64 0,.slice none 0 0,.slice none 0 0,.slice none 0 0] 29));rw [yE] at this;exact this
 have hll:(fA l).length=len*4:=by rw [iI,h.1]
 have gz:=oH l;have CS:=aA (fun (qo:Option Addr) (n c:Nat) (wx:World) (hr:gH wx qo n l) (hc:n≤c)=>by have:=CO qo n c wx hr hc;rw [ho] at this;exact this);have SY:=aA ho;clear CO ho hf h qz hb1;go_enter func194,ntmps194;go_wp2_with (at_builtin;refine wpList_append_own _ rfl _ _ 24 rfl (w.heap.size+1) 105 i0 (.agg #[.string .empty,.string .empty,.int .i64 0,.int .i64 0]) 4 48 underlying24 hi hz0 hz1 hz2 rfl (by decide) _ _ _ rfl Hq ad len cap (fA l) rfl hll (uH QI) gz ?c3 ?c4 ?c5 ?_);case c3=>unfold maxLen;omega
 case c4=>omega
 case c5=>simp
 intro v w2 Hy Hw _;have HO:=aA (show oZ (w.heap.size+1) w2 v l by
  unfold oZ;rw [←uH GZ];simpa using Hy)
 have HB2:=aA (show Bw w w2 from (uH HB1).grown Hw (by simp;omega) (fun k e=>by simp [Value.ownBlock] at e;omega));have R0:=aA (show Blk w2 w.heap.size #[.slice none 0 0,.int .i64 0,.int .i64 0,.int .i64 0,.int .i64 0,.slice none 0 0,.slice none 0 0,.slice none 0 0] 29 from (Hw.block _ (uH P0).lt (by simp [Value.ownBlock])).trans (uH P0));obtain ⟨qo,qc,rfl,Hz,hqc,_⟩:=nO (uH HO);have HRW:=aA (Hz.below (yA (yH _ w2) (.cells #[.slice qo l.length qc,.int .i64 0,.int .i64 1,.int .i64 1001,.int .i64 1,.slice none 0 0,.slice none 0 0,.slice none 0 0] 29)));have HB3:=aA (yA (uH HB2) (.cells #[.slice qo l.length qc,.int .i64 0,.int .i64 1,.int .i64 1001,.int .i64 1,.slice none 0 0,.slice none 0 0,.slice none 0 0] 29));have S1:=aA (yD w2 #[.slice qo l.length qc,.int .i64 0,.int .i64 1,.int .i64 1001,.int .i64 1,.slice none 0 0,.slice none 0 0,.slice none 0 0] 29);have S0:=aA ((uH R0).al (.cells #[.slice qo l.length qc,.int .i64 0,.int .i64 1,.int .i64 1001,.int .i64 1,.slice none 0 0,.slice none 0 0,.slice none 0 0] 29));have ZJ:=aA ((uH HO).below (yA (yH _ w2) (.cells #[.slice qo l.length qc,.int .i64 0,.int .i64 1,.int .i64 1001,.int .i64 1,.slice none 0 0,.slice none 0 0,.slice none 0 0] 29)));clear Hy Hw Hq gz hll HB1 HB2 R0 P0 HO Hz QI;go_wp2_with fail;refine (uH CS qo l.length qc _ (uH HRW) hqc).mono ?_;rintro e w4 ⟨rfl,hb⟩;have GD:=aA (yB (uH HB3) hb);have T0:=aA ((uH S0).below hb);have T1:=aA ((uH S1).below hb);have Xx:=aA ((uH ZJ).below hb);clear hb HB3 S0 S1 ZJ HRW CS;cases o;case false=>obtain ⟨c0,c1,c2,c3,c4,c5,c6,c7⟩:=zq (uH T0);have rf0:=(uH T0).f 0;have rf1:=(uH T0).f 1;have rf2:=(uH T0).f 2;have rf3:=(uH T0).f 3;have rf4:=(uH T0).f 4;have rf5:=(uH T0).f 5;have rf6:=(uH T0).f 6;have rf7:=(uH T0).f 7;go_wp2;have QD:=aA (yC (yC (yC (yC (yC (yC (yC (yC (uH GD) w.heap.size 0 (.slice none 0 0) (yJ _)) w.heap.size 1 (.int .i64 0) (yJ _)) w.heap.size 2 (.int .i64 0) (yJ _)) w.heap.size 3 (.int .i64 0) (yJ _)) w.heap.size 4 (.int .i64 0) (yJ _)) w.heap.size 5 (.slice none 0 0) (yJ _)) w.heap.size 6 (.slice none 0 0) (yJ _)) w.heap.size 7 (.slice none 0 0) (yJ _));have R9:=aA (show Blk ((((((((w4.setCell ⟨w.heap.size,0,none⟩ (.slice none 0 0)).setCell ⟨w.heap.size,1,none⟩ (.int .i64 0)).setCell ⟨w.heap.size,2,none⟩ (.int .i64 0)).setCell ⟨w.heap.size,3,none⟩ (.int .i64 0)).setCell ⟨w.heap.size,4,none⟩ (.int .i64 0)).setCell ⟨w.heap.size,5,none⟩ (.slice none 0 0)).setCell ⟨w.heap.size,6,none⟩ (.slice none 0 0)).setCell ⟨w.heap.size,7,none⟩ (.slice none 0 0)) w.heap.size #[.slice none 0 0,.int .i64 0,.int .i64 0,.int .i64 0,.int .i64 0,.slice none 0 0,.slice none 0 0,.slice none 0 0] 29 from (((((((((uH T0).set 0 (.slice none 0 0)).set 1 (.int .i64 0)).set 2 (.int .i64 0)).set 3 (.int .i64 0)).set 4 (.int .i64 0)).set 5 (.slice none 0 0)).set 6 (.slice none 0 0)).set 7 (.slice none 0 0)));generalize ((((((((w4.setCell ⟨w.heap.size,0,none⟩ (.slice none 0 0)).setCell ⟨w.heap.size,1,none⟩ (.int .i64 0)).setCell ⟨w.heap.size,2,none⟩ (.int .i64 0)).setCell ⟨w.heap.size,3,none⟩ (.int .i64 0)).setCell ⟨w.heap.size,4,none⟩ (.int .i64 0)).setCell ⟨w.heap.size,5,none⟩ (.slice none 0 0)).setCell ⟨w.heap.size,6,none⟩ (.slice none 0 0)).setCell ⟨w.heap.size,7,none⟩ (.slice none 0 0))=W9 at QD R9 ⊢;obtain ⟨z0,z1,z2,z3,z4,z5,z6,z7⟩:=zq (uH R9);refine bodyPost_ret (v:=.tuple #[.agg #[.slice none 0 0,.int .i64 0,.int .i64 0,.int .i64 0,.int .i64 0,.slice none 0 0,.slice none 0 0,.slice none 0 0],.bool false]) (by simp [results,results194,go_sem,z0,z1,z2,z3,z4,z5,z6,z7]) rfl (show aA3 w l _ _ from ⟨uH QD,.inl ⟨uH SY,rfl⟩⟩)
 obtain ⟨a0,a1,a2,a3,a4,a5,a6,a7⟩:=zq (uH T1);have af0:=(uH T1).f 0;have af1:=(uH T1).f 1;have af2:=(uH T1).f 2;have af3:=(uH T1).f 3;have af4:=(uH T1).f 4;have af5:=(uH T1).f 5;have af6:=(uH T1).f 6;have af7:=(uH T1).f 7;obtain ⟨c0,c1,c2,c3,c4,c5,c6,c7⟩:=zq (uH T0);have rf0:=(uH T0).f 0;have rf1:=(uH T0).f 1;have rf2:=(uH T0).f 2;have rf3:=(uH T0).f 3;have rf4:=(uH T0).f 4;have rf5:=(uH T0).f 5;have rf6:=(uH T0).f 6;have rf7:=(uH T0).f 7;go_wp2;have QD:=aA (yC (yC (yC (yC (yC (yC (yC (yC (uH GD) w.heap.size 0 (.slice qo l.length qc) (yJ _)) w.heap.size 1 (.int .i64 0) (yJ _)) w.heap.size 2 (.int .i64 1) (yJ _)) w.heap.size 3 (.int .i64 1001) (yJ _)) w.heap.size 4 (.int .i64 1) (yJ _)) w.heap.size 5 (.slice none 0 0) (yJ _)) w.heap.size 6 (.slice none 0 0) (yJ _)) w.heap.size 7 (.slice none 0 0) (yJ _));have R9:=aA (show Blk ((((((((w4.setCell ⟨w.heap.size,0,none⟩ (.slice qo l.length qc)).setCell ⟨w.heap.size,1,none⟩ (.int .i64 0)).setCell ⟨w.heap.size,2,none⟩ (.int .i64 1)).setCell ⟨w.heap.size,3,none⟩ (.int .i64 1001)).setCell ⟨w.heap.size,4,none⟩ (.int .i64 1)).setCell ⟨w.heap.size,5,none⟩ (.slice none 0 0)).setCell ⟨w.heap.size,6,none⟩ (.slice none 0 0)).setCell ⟨w.heap.size,7,none⟩ (.slice none 0 0)) w.heap.size #[.slice qo l.length qc,.int .i64 0,.int .i64 1,.int .i64 1001,.int .i64 1,.slice none 0 0,.slice none 0 0,.slice none 0 0] 29 from (((((((((uH T0).set 0 (.slice qo l.length qc)).set 1 (.int .i64 0)).set 2 (.int .i64 1)).set 3 (.int .i64 1001)).set 4 (.int .i64 1)).set 5 (.slice none 0 0)).set 6 (.slice none 0 0)).set 7 (.slice none 0 0)));have O9:=aA (iH (iH (iH (iH (iH (iH (iH (iH (uH Xx) w.heap.size 0 (.slice qo l.length qc) (Nat.lt_succ_self _)) w.heap.size 1 (.int .i64 0) (Nat.lt_succ_self _)) w.heap.size 2 (.int .i64 1) (Nat.lt_succ_self _)) w.heap.size 3 (.int .i64 1001) (Nat.lt_succ_self _)) w.heap.size 4 (.int .i64 1) (Nat.lt_succ_self _)) w.heap.size 5 (.slice none 0 0) (Nat.lt_succ_self _)) w.heap.size 6 (.slice none 0 0) (Nat.lt_succ_self _)) w.heap.size 7 (.slice none 0 0) (Nat.lt_succ_self _));generalize ((((((((w4.setCell ⟨w.heap.size,0,none⟩ (.slice qo l.length qc)).setCell ⟨w.heap.size,1,none⟩ (.int .i64 0)).setCell ⟨w.heap.size,2,none⟩ (.int .i64 1)).setCell ⟨w.heap.size,3,none⟩ (.int .i64 1001)).setCell ⟨w.heap.size,4,none⟩ (.int .i64 1)).setCell ⟨w.heap.size,5,none⟩ (.slice none 0 0)).setCell ⟨w.heap.size,6,none⟩ (.slice none 0 0)).setCell ⟨w.heap.size,7,none⟩ (.slice none 0 0))=W9 at QD R9 O9 ⊢;obtain ⟨z0,z1,z2,z3,z4,z5,z6,z7⟩:=zq (uH R9);refine bodyPost_ret (v:=.tuple #[.agg #[.slice qo l.length qc,.int .i64 0,.int .i64 1,.int .i64 1001,.int .i64 1,.slice none 0 0,.slice none 0 0,.slice none 0 0],.bool true]) (by simp [results,results194,go_sem,z0,z1,z2,z3,z4,z5,z6,z7]) rfl (show aA3 w l _ _ from ⟨uH QD,.inr ⟨uH SY,_,rfl,uH O9⟩⟩)
end
end Go.Proofs.YtfndhndlkcijoaaGreat
