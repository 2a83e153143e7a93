/-
  Texts in one: OkM, NxM, GrM, GrO, TakE, DropM, StM, FgM, SrvU, SrvI, NxW, NxI, AddC, NewLaw, NewHas, GrN.
-/
import Derived.Test.YtfndhndlkcijoaaGreatTackW
import Derived.Test.YtfndhndlkcijoaaGreatTackAC
import Derived.Test.YtfndhndlkcijoaaGreatTackAB
import Derived.Test.YtfndhndlkcijoaaGreatTackQ
import Derived.Test.YtfndhndlkcijoaaGreatTackO
set_option maxRecDepth 100000
set_option maxHeartbeats 16000000
set_option linter.unusedVariables false
set_option linter.unusedSimpArgs false
open Go.Proofs.Tryz
namespace Go.Proofs.YtfndhndlkcijoaaGreat
section
open Go.RowKit
variable {c:Con} {p:Con→Bool} {hs:List AV} {l:List Ask} {cs:List Con} {nd nm:List UInt8} {m:Mac} {B M g ga i k n pg:Nat} {r:Nat×Nat} {ao:Option Addr} {s:St} {α:Type} {t:TypeId} {w w':World}
def o7:Int→Int→List (Int×Int)→Bool
 | _,_,[]=>true
 | x,y,r::t=>aN (-1) x y r.1 r.2&&o7 (x + -1*r.1) (y + -1*r.2) t
theorem aHt:∀(l:List (Int×Int)) (x y:Int),aQ x y=true→aQ (aT l x y).1 (aT l x y).2.1=true
 | [],x,y,h=>h
 | r::t,x,y,h=>by
  rw [aT];by_cases hb:aN 1 x y r.1 r.2=true
  ·rw [if_pos hb];refine aHt t _ _ ?_;simp only [aN,yK] at hb;exact hb.2
  ·rw [if_neg hb];decide
theorem nJ:∀(l:List (Int×Int)) (x y:Int),(aT l x y).2.2=true→∀r ∈ l,aQ r.1 r.2=true
 | [],x,y,_,r,h=>by simp at h
 | q::t,x,y,h,r,hr=>by
  rw [aT] at h;by_cases hb:aN 1 x y q.1 q.2=true
  ·rw [if_pos hb] at h;rcases List.mem_cons.1 hr with rfl | hr
   ·simp only [aN,yK] at hb;exact hb.1.2
   ·exact nJ t _ _ h r hr
  ·rw [if_neg hb] at h;cases h
theorem zS:∀(l:List (Int×Int)) (x y:Int),(aT l x y).2.2=true→x≤(aT l x y).1∧y≤(aT l x y).2.1
 | [],x,y,_=>⟨Int.le_refl _,Int.le_refl _⟩
 | r::t,x,y,h=>by
  rw [aT] at h ⊢;by_cases hb:aN 1 x y r.1 r.2=true
  ·rw [if_pos hb] at h ⊢;have:=zS t _ _ h;(have hr:aQ r.1 r.2=true:=by simp only [aN,yK] at hb;exact hb.1.2);have:=aZ hr;omega
  ·rw [if_neg hb] at h;cases h
theorem aDe {X Y:Int} (hX:aQ X Y=true):∀(l:List (Int×Int)) (x y:Int),aQ x y=true→x≤X→y≤Y→(o7 (X + -1*x) (Y + -1*y) l=true↔(aT l x y).2.2=true∧(aT l x y).1≤X∧(aT l x y).2.1≤Y)
 | [],x,y,h,h1,h2=>by simp [o7,aT,h1,h2]
 | r::t,x,y,h,h1,h2=>by
  have bX:=aZ hX;have bx:=aZ h;rw [o7,aT,yK];by_cases hs:aN (-1) (X + -1*x) (Y + -1*y) r.1 r.2=true
  ·have hs':=hs;simp only [aN,yK] at hs';have br:=aZ hs'.1.2;have bs':=aZ hs'.2;(have hr2:aQ (x+1*r.1) (y+1*r.2)=true:=by simp only [aQ,inB,yK,yL];omega);(have hp:aN 1 x y r.1 r.2=true:=by simp only [aN,yK];exact ⟨⟨h,hs'.1.2⟩,hr2⟩);rw [if_pos hp];have ih:=aDe hX t (x+1*r.1) (y+1*r.2) hr2 (by omega) (by omega);rw [←ih];(have e1:X + -1*(x+1*r.1)=X + -1*x + -1*r.1:=by omega);(have e2:Y + -1*(y+1*r.2)=Y + -1*y + -1*r.2:=by omega);rw [e1,e2];exact ⟨fun hh=>hh.2,fun hh=>⟨hs,hh⟩⟩
  ·refine ⟨fun hh=>absurd hh.1 hs,fun ⟨g1,g2,g3⟩=>absurd ?_ hs⟩;by_cases hp:aN 1 x y r.1 r.2=true
   ·rw [if_pos hp] at g1 g2 g3;have ge:=zS t _ _ g1;have hp':=hp;simp only [aN,yK] at hp';have br:=aZ hp'.1.2;simp only [aN,yK];refine ⟨⟨?_,hp'.1.2⟩,?_⟩<;>simp only [aQ,inB,yK,yL]<;>omega
   ·rw [if_neg hp] at g1;cases g1
theorem aCG (hr:aQ m.mem m.cpu=true):sP cs m=true↔o7 m.mem m.cpu (aO (fun q=>decide (q.node=m.name)) cs)=true:=by
 have h:=aDe hr (aO (fun q=>decide (q.node=m.name)) cs) 0 0 (by decide) (aZ hr).1 (aZ hr).2.2.1;rw [show m.mem + -1*0=m.mem by omega,show m.cpu + -1*0=m.cpu by omega] at h;rw [h];simp only [sP,hr,Bool.true_and,yK,iC,within];refine ⟨fun ⟨a,b⟩=>⟨a,of_decide_eq_true b.1.2,of_decide_eq_true b.2⟩,fun ⟨a,b,c⟩=>⟨a,⟨⟨⟨aHt _ 0 0 (by decide),trivial⟩,decide_eq_true b⟩,decide_eq_true c⟩⟩⟩
theorem aKT {a b:List UInt8} (h:leT a b=false):Op.bytesLess (bs b).toList (bs a).toList=true:=by
 simp only [leT,Bool.or_eq_false_iff] at h;exact aHC _ _ h.1 (fun e=>by rw [e] at h;simp at h)
theorem pU {ck:Int}:∀(l:List Mac) (last:List UInt8),bO ck last l=true→∀m ∈ l,Op.bytesLess (bs last).toList (bs m.name).toList=true
 | [],_,_,m,h=>by simp at h
 | q::t,last,h,m,hm=>by
  simp only [bO,yK,Bool.not_eq_true'] at h;have h1:=aKT h.1;rcases List.mem_cons.1 hm with rfl | hm
  ·exact h1
  ·exact aBJ _ _ _ h1 (pU t q.name h.2.2.2.2 m hm)
theorem sK {ck:Int}:∀(l:List Mac) (last:List UInt8),bO ck last l=true→∀m ∈ l,bL m.name l=some m
 | [],_,_,m,h=>by simp at h
 | q::t,last,h,m,hm=>by
  simp only [bO,yK,Bool.not_eq_true'] at h;rcases List.mem_cons.1 hm with rfl | hm
  ·simp [bL]
  ·have hab:=pU t q.name h.2.2.2.2 m hm;(have hne:¬q.name=m.name:=fun e=>by rw [e,aEO] at hab;cases hab);have:=sK t q.name h.2.2.2.2 m hm;simp only [bL] at this ⊢;rw [List.find?_cons_of_neg (by simpa using hne)];exact this
theorem kH {ck:Int} {cs:List Con}:∀(l:List Mac) (last:List UInt8),lY ck cs last l=true↔bO ck last l=true∧∀m ∈ l,sP cs m=true
 | [],_=>by simp [lY,bO]
 | q::t,last=>by
  simp only [lY,bO,yK,kH t q.name,List.mem_cons,forall_eq_or_imp];exact ⟨fun ⟨a,b,c,d,e,f,g⟩=>⟨⟨a,b,c,d,f⟩,e,g⟩,fun ⟨⟨a,b,c,d,f⟩,e,g⟩=>⟨a,b,c,d,e,f,g⟩⟩
theorem uQ {apps:List dA} {l l':List Mac} (h:∀nm,(bL nm l').isSome=(bL nm l).isSome):∀(cs:List Con) (last:Int),dF apps l' last cs=dF apps l last cs
 | [],_=>rfl
 | c::t,last=>by rw [dF,dF,h,uQ h t]
theorem vS {t:List Con}:aO (fun q=>decide (q.node=nm)) (c::t)=if c.node=nm then (c.mem,c.cpu)::aO (fun q=>decide (q.node=nm)) t else aO (fun q=>decide (q.node=nm)) t:=by
 by_cases h:c.node=nm
 ·simp [aO,h]
 ·simp [aO,h]
theorem aCQ {apps:List dA}:∀(cs:List Con) (l:List Mac) (last:Int),eD apps l last cs=true↔dF apps l last cs=true∧∀nm m,bL nm l=some m→o7 m.mem m.cpu (aO (fun q=>decide (q.node=nm)) cs)=true
 | [],l,last=>by simp [eD,dF,aO,o7]
 | c::t,l,last=>by
  cases hf:bL c.node l with
  | none=>simp [eD,dF,hf]
  | some m=>
   have hn:=sQ hf;have ih:=aCQ (apps:=apps) t (⟨m.name,m.mem + -1*c.mem,m.cpu + -1*c.cpu,m.seen⟩::l) c.id;have xq:∀nm,bL nm (⟨m.name,m.mem + -1*c.mem,m.cpu + -1*c.cpu,m.seen⟩::l)=if c.node=nm then some ⟨m.name,m.mem + -1*c.mem,m.cpu + -1*c.cpu,m.seen⟩ else bL nm l:=fun nm=>by
    by_cases e:c.node=nm
    ·rw [if_pos e];simp [bL,hn,e]
    ·rw [if_neg e];simp [bL,hn,e]
   have J4:∀nm,(bL nm (⟨m.name,m.mem + -1*c.mem,m.cpu + -1*c.cpu,m.seen⟩::l)).isSome=(bL nm l).isSome:=fun nm=>by
    rw [xq];by_cases e:c.node=nm
    ·rw [if_pos e,←e,hf];rfl
    ·rw [if_neg e]
   rw [uQ J4] at ih;simp only [eD,dF,hf,Option.isSome_some,Option.getD_some,Bool.true_and,yK,ih];constructor
   ·rintro ⟨a,b,c1,d,e,f,g⟩;refine ⟨⟨a,b,d,c1,f⟩,fun nm m2 hm2=>?_⟩;rw [vS];by_cases en:c.node=nm
    ·rw [if_pos en];rw [←en,hf] at hm2;cases hm2;rw [o7,yK];exact ⟨e,g nm ⟨m.name,m.mem + -1*c.mem,m.cpu + -1*c.cpu,m.seen⟩ (by rw [xq,if_pos en])⟩
    ·rw [if_neg en];exact g nm m2 (by rw [xq,if_neg en];exact hm2)
   ·rintro ⟨⟨a,b,d,c1,f⟩,g⟩;have g0:=g c.node m hf;rw [vS,if_pos rfl,o7,yK] at g0;refine ⟨a,b,c1,d,g0.1,f,fun nm m2 hm2=>?_⟩;rw [xq] at hm2;by_cases en:c.node=nm
    ·rw [if_pos en] at hm2;cases hm2;rw [←en];exact g0.2
    ·rw [if_neg en] at hm2;have:=g nm m2 hm2;rwa [vS,if_neg en] at this
theorem aEZ (s:St):qG s=fK s:=by
 rw [Bool.eq_iff_iff];simp only [qG,fK,aBf,mO,gL,mU,yK,aCQ,kH];have key:bO s.clock [] s.ms=true→(iC (aX s.ms)).2.2=true→((∀nm m,bL nm s.ms=some m→o7 m.mem m.cpu (aO (fun q=>decide (q.node=nm)) s.cs)=true)↔∀m ∈ s.ms,sP s.cs m=true):=fun h1 h2=>by
  have hr:∀m ∈ s.ms,aQ m.mem m.cpu=true:=fun m hm=>nJ _ 0 0 h2 (m.mem,m.cpu) (by simp only [aX,List.mem_map];exact ⟨m,hm,rfl⟩)
  constructor
  ·intro h m hm;exact (aCG (hr m hm)).2 (h m.name m (sK _ _ h1 m hm))
  ·intro h nm m hf;have hm:m ∈ s.ms:=List.mem_of_find?_eq_some hf;have hn:=sQ hf;have:=(aCG (hr m hm)).1 (h m hm);rwa [hn] at this
 constructor
 ·rintro ⟨a,⟨b1,b2,b3,b4⟩,c,⟨d1,d2,d3⟩,e1,e2,e3⟩;exact ⟨a,b1,b2,b3,b4,c,⟨⟨d2,(key d2 d3).1 e3⟩,d3,d1⟩,e1,e2⟩
 ·rintro ⟨a,b1,b2,b3,b4,c,⟨⟨d2,hh⟩,d3,d1⟩,e1,e2⟩;exact ⟨a,⟨b1,b2,b3,b4⟩,c,⟨d1,d2,d3⟩,e1,e2,(key d2 d3).2 hh⟩
def aY (s:St):Bool:=fK s
theorem iN (x:Sls) (s:St) (w:World) (h:gW w x s) (hf:dB s) :
  cP 18 #[sv x s] w fun e w'=>e=.returned (.bool (aY s))∧Bw w w':=aBT x s w h hf
theorem nS (x:Sls) (s:St) (w:World) (h:gW w x s) (hf:dB s) (hc:x.ql≤x.qc) (hw:yQ s) :
  cP 24 #[sv x s] w fun e w'=>e=.returned (.bool (aY s))∧Bw w w':=by
 have:=aBU x s w h hf hc hw;rwa [aEZ] at this
theorem aA2 {p:Ask→Bool} {qu:List UInt8}:∀{l:List dA} {i:Nat} {r:Nat×Nat},dJ p qu l i=some r→i≤r.1∧∃h:r.1 - i<l.length,r.2<l[r.1 - i].asks.length
 | [],_,_,h=>by cases h
 | a::t,i,r,h=>by
  have go:dJ p qu t (i+1)=some r→i≤r.1∧∃h:r.1 - i<(a::t).length,r.2<(a::t)[r.1 - i].asks.length:=fun h=>by
   obtain ⟨h1,h2,h3⟩:=aA2 h;(have e:r.1 - i=(r.1 - (i+1))+1:=by omega);refine ⟨by omega,by simp only [List.length_cons];omega,?_⟩;simp only [e,List.getElem_cons_succ];exact h3
  rw [dJ] at h;split at h
  ·split at h
   ·rename_i k hk;cases h;have:=oW hk;refine ⟨yJ _,by simp,?_⟩;simp only [Nat.sub_self,List.getElem_cons_zero];omega
   ·exact go h
  ·exact go h
theorem aAA {s:St} {nd:List UInt8} {r:Nat×Nat}:∀{l:List (List UInt8)},gV s nd l=some r→∃h:r.1<s.apps.length,r.2<s.apps[r.1].asks.length
 | [],h=>by cases h
 | q::t,h=>by
  rw [gV] at h;split at h
  ·rename_i r' hr;cases h;obtain ⟨_,h2,h3⟩:=aA2 hr;simp only [Nat.sub_zero] at h2 h3;exact ⟨h2,h3⟩
  ·exact aAA h
theorem aCq (h:nE s nd=some r):∃h:r.1<s.apps.length,r.2<s.apps[r.1].asks.length:=aAA h
theorem xN {apps:List dA} {ms:List Mac}:∀(cs:List Con) (last:Int),dF apps ms last cs=true→∀c ∈ cs,last<c.id
 | [],_,_,_,h=>by cases h
 | c::t,last,h,c',hc=>by
  rw [dF] at h;simp only [yK,yL] at h;rcases List.mem_cons.1 hc with rfl | hc
  ·exact h.1
  ·have:=xN t c.id h.2.2.2.2.2 c' hc;omega
theorem aCR {apps:List dA} {ms:List Mac}:∀(cs:List Con) (last:Int),dF apps ms last cs=true→aKj cs
 | [],_,_=>fun i j hi=>absurd hi (by simp)
 | c::t,last,h=>by
  rw [dF] at h;simp only [yK,yL] at h;have h1:=xN t c.id h.2.2.2.2.2;have h2:=aCR t c.id h.2.2.2.2.2;intro i j hi hj hij
  match i,j with
  | _,0=>omega
  | 0,j+1=>simp only [List.getElem_cons_zero,List.getElem_cons_succ];exact h1 _ (yM _)
  | i+1,j+1=>simp only [List.getElem_cons_succ];exact h2 i j (by simpa using hi) (by simpa using hj) (by omega)
theorem qQ (h:aY s=true):aKj s.cs∧(0≤s.epoch∧s.epoch≤1000000000)∧(0≤s.serial∧s.serial≤1000000000):=by
 rw [aY,fK] at h;simp only [yK,inB,yL] at h;exact ⟨aCR _ _ h.2.2.2.2.2.2.2.2,by omega,by omega⟩
def nT (s:St) (nd:List UInt8) (r:Nat×Nat):Con:=
 match s.apps[r.1]? with
 | some a=>(match a.asks[r.2]? with | some k=>⟨idV s,a.id,nd,k.mem,k.cpu⟩ | none=>⟨0,0,[],0,0⟩)
 | none=>⟨0,0,[],0,0⟩
theorem xG (h1:r.1<s.apps.length) (h2:r.2<s.apps[r.1].asks.length):nT s nd r=⟨idV s,s.apps[r.1].id,nd,s.apps[r.1].asks[r.2].mem,s.apps[r.1].asks[r.2].cpu⟩:=by
 rw [nT,List.getElem?_eq_getElem h1];simp only;rw [List.getElem?_eq_getElem h2]
def aJs (s:St) (nd:List UInt8):Bool:=(bL nd s.ms).isSome&&(decide (s.cs.length<150)&&lL s)
def pR (s:St) (nd:List UInt8):Option ((Nat×Nat)×Con):=if aJs s nd=true then (nE s nd).map fun r=>(r,nT s nd r) else none
def aS (s:St) (nd:List UInt8):Option ((Nat×Nat)×Con):=if aY s=true then pR s nd else none
def jX:Option ((Nat×Nat)×Con)→Con
 | some r=>r.2
 | none=>⟨0,0,[],0,0⟩
def aIG (a:Ask):Ask:=⟨a.mem,a.cpu,a.count - 1,a.node,a.missed⟩
def gU (l:List Ask) (k:Nat):List Ask:=match l[k]? with
 | none=>l
 | some a=>if 1<a.count then l.set k (aIG a) else l.eraseIdx k
theorem vZ (h:k<l.length) (hc:1<l[k].count):gU l k=l.set k (aIG l[k]):=by
 rw [gU,List.getElem?_eq_getElem h];simp only;rw [if_pos hc]
theorem wB (h:k<l.length) (hc:¬1<l[k].count):gU l k=l.eraseIdx k:=by
 rw [gU,List.getElem?_eq_getElem h];simp only;rw [if_neg hc]
theorem zY (l:List Ask) (k:Nat):(gU l k).length≤l.length:=by
 unfold gU;split
 ·exact yJ _
 ·split
  ·rw [List.length_set];exact yJ _
  ·exact List.length_eraseIdx_le _ _
theorem aE3 {a:Ask} (h:a ∈ gU l k):∃b ∈ l,a.node=b.node:=by
 unfold gU at h;split at h
 ·exact ⟨a,h,rfl⟩
 ·rename_i b hb;split at h
  ·rcases List.mem_or_eq_of_mem_set h with h | h
   ·exact ⟨a,h,rfl⟩
   ·exact ⟨b,List.mem_of_getElem? hb,by rw [h];rfl⟩
  ·exact ⟨a,List.mem_of_mem_eraseIdx h,rfl⟩
def rW (a:dA) (k:Nat):dA:=⟨a.id,a.queue,gU a.asks k⟩
def bH (l:List dA) (r:Nat×Nat):List dA:=l.modify r.1 (fun a=>rW a r.2)
theorem pM {l:List dA} {a:dA} (h:a ∈ bH l r):∃b ∈ l,a.id=b.id∧a.queue=b.queue∧(a.asks=b.asks∨a.asks=gU b.asks r.2):=by
 unfold bH at h;obtain ⟨i,hi,rfl⟩:=List.mem_iff_getElem.1 h;have hi':i<l.length:=by simpa using hi
 rw [List.getElem_modify];split
 ·exact ⟨l[i],yM hi',rfl,rfl,.inr rfl⟩
 ·exact ⟨l[i],yM hi',rfl,rfl,.inl rfl⟩
def eG (id:Int):List Con→Nat
 | []=>0
 | c::t=>if c.id<id then eG id t+1 else 0
theorem aB8 (id:Int):∀l:List Con,eG id l≤l.length
 | []=>yJ _
 | c::t=>by
  rw [eG];have:=aB8 id t;split<;>simp<;>omega
theorem aB9 {id:Int}:∀{l:List Con} {p:Nat},p≤l.length→(∀i (hi:i<l.length),i<p→l[i].id<id)→(∀i (hi:i<l.length),p≤i→id≤l[i].id)→eG id l=p
 | [],p,h,_,_=>by simp at h;simp [eG,h]
 | c::t,p,h,h1,h2=>by
  rw [eG];cases p with
  | zero=>have:=h2 0 (by simp) (yJ _);simp only [List.getElem_cons_zero] at this;rw [if_neg (by omega)]
  | succ p=>have h0:=h1 0 (by simp) (by omega);simp only [List.getElem_cons_zero] at h0;rw [if_pos h0,aB9 (l:=t) (p:=p) (by simpa using h) (fun i hi hp=>by have:=h1 (i+1) (by simpa using hi) (by omega);simpa using this) (fun i hi hp=>by have:=h2 (i+1) (by simpa using hi) (by omega);simpa using this)]
def lH (l:List Con) (c:Con):List Con:=l.take (eG c.id l)++c::l.drop (eG c.id l)
theorem vM (l:List Con) (c:Con):(lH l c).length=l.length+1:=by
 have:=aB8 c.id l;unfold lH;rw [List.length_append,List.length_cons,List.length_take,List.length_drop];omega
theorem aAs {l:List Con} {x:Con} (h:x ∈ lH l c):x=c∨x ∈ l:=by
 unfold lH at h;rcases List.mem_append.1 h with h | h
 ·exact .inr (List.mem_of_mem_take h)
 ·rcases List.mem_cons.1 h with h | h
  ·exact .inl h
  ·exact .inr (List.mem_of_mem_drop h)
def dL (x:Int):Int:=if 99999<x+1 then 1 else x+1
def bK (s:St) (p:(Nat×Nat)×Con):St:=⟨s.qs,s.clock,s.epoch,s.next,dL s.serial,bH s.apps p.1,s.ms,lH s.cs p.2⟩
def eP (s:St) (nd:List UInt8):St:=match aS s nd with | none=>s | some p=>bK s p
theorem kP (h:aS s nd=none):eP s nd=s:=by rw [eP,h]
theorem kN {p:(Nat×Nat)×Con} (h:aS s nd=some p):eP s nd=bK s p:=by rw [eP,h]
theorem jB {p:(Nat×Nat)×Con} (h:aS s nd=some p):aY s=true∧pR s nd=some p∧s.cs.length<150∧∃h1:p.1.1<s.apps.length,∃h2:p.1.2<s.apps[p.1.1].asks.length,p.2=⟨idV s,s.apps[p.1.1].id,nd,s.apps[p.1.1].asks[p.1.2].mem,s.apps[p.1.1].asks[p.1.2].cpu⟩:=by
 unfold aS at h;split at h
 ·rename_i hk;refine ⟨hk,h,?_⟩;unfold pR at h;split at h
  ·rename_i hm;simp only [aJs,yK,yL] at hm;refine ⟨hm.2.1,?_⟩;cases hp:nE s nd with
   | none=>rw [hp] at h;cases h
   | some r=>rw [hp] at h;obtain rfl:=Option.some.inj h;obtain ⟨h1,h2⟩:=aCq hp;exact ⟨h1,h2,xG h1 h2⟩
  ·cases h
 ·cases h
theorem aCI (hf:dB s) (hn:nd.length≤1048576):dB (eP s nd):=by
 cases h:aS s nd with
 | none=>rw [kP h];exact hf
 | some p=>
  rw [kN h];obtain ⟨_,_,h3,h1,h2,e⟩:=jB h;refine ⟨hf.1,⟨by simp only [bK,bH,List.length_modify];exact hf.2.1.1,fun a ha=>?_⟩,hf.2.2.1,by simp only [bK,vM];omega,fun c hc=>?_⟩
  ·obtain ⟨b,hb,_,e2,e3⟩:=pM ha;have hq:=hf.2.1.2 b hb;refine ⟨by rw [e2];exact hq.1,?_⟩;rcases e3 with e3 | e3
   ·rw [e3];exact hq.2
   ·rw [e3];refine ⟨Nat.le_trans (zY _ _) hq.2.1,fun x hx=>?_⟩;obtain ⟨y,hy,e4⟩:=aE3 hx;rw [e4];exact hq.2.2 y hy
  ·rcases aAs hc with rfl | hc
   ·rw [e];exact hn
   ·exact hf.2.2.2.2 c hc
theorem aH5 (hw:yQ s) (nd:List UInt8):yQ (eP s nd):=by
 cases h:aS s nd with
 | none=>rw [kP h];exact hw
 | some p=>
  rw [kN h];obtain ⟨_,_,_,h1,h2,e⟩:=jB h;refine ⟨fun a ha=>?_,fun c hc=>?_⟩
  ·obtain ⟨b,hb,e1,_⟩:=pM ha;rw [e1];exact hw.1 b hb
  ·rcases aAs hc with rfl | hc
   ·rw [e];exact hw.1 _ (yM h1)
   ·exact hw.2 c hc
def yP:List (Int×Int)→Int
 | []=>0
 | r::t=>r.1+yP t
def yO:List (Int×Int)→Int
 | []=>0
 | r::t=>r.2+yO t
theorem aA7:∀a b:List (Int×Int),yP (a++b)=yP a+yP b
 | [],b=>by simp [yP]
 | r::t,b=>by rw [List.cons_append,yP,yP,aA7 t b];omega
theorem aA6:∀a b:List (Int×Int),yO (a++b)=yO a+yO b
 | [],b=>by simp [yO]
 | r::t,b=>by rw [List.cons_append,yO,yO,aA6 t b];omega
theorem aCc:∀l:List (Int×Int),(∀r ∈ l,aQ r.1 r.2=true)→0≤yP l∧0≤yO l
 | [],_=>⟨Int.le_refl _,Int.le_refl _⟩
 | r::t,h=>by
  have i:=aCc t (fun r hr=>h r (List.mem_cons_of_mem _ hr));have:=aZ (h r List.mem_cons_self);rw [yP,yO];omega
theorem aDa:∀(l:List (Int×Int)) (x y:Int),(aT l x y).2.2=true→(aT l x y).1=x+yP l∧(aT l x y).2.1=y+yO l
 | [],x,y,_=>by simp [aT,yP,yO]
 | r::t,x,y,h=>by
  rw [aT] at h ⊢;by_cases hb:aN 1 x y r.1 r.2=true
  ·rw [if_pos hb] at h ⊢;have:=aDa t _ _ h;rw [yP,yO];omega
  ·rw [if_neg hb] at h;cases h
theorem aIi:∀(l:List (Int×Int)) (x y:Int),aQ x y=true→(∀r ∈ l,aQ r.1 r.2=true)→x+yP l≤1000000000→y+yO l≤1000000000→(aT l x y).2.2=true
 | [],x,y,_,_,_,_=>rfl
 | r::t,x,y,h,hr,h1,h2=>by
  rw [yP] at h1;rw [yO] at h2;have ht:∀r ∈ t,aQ r.1 r.2=true:=fun r h=>hr r (List.mem_cons_of_mem _ h)
  have hp:=aCc t ht;have hq:=hr r List.mem_cons_self;have b1:=aZ h;have b2:=aZ hq;have hn:aQ (x+1*r.1) (y+1*r.2)=true:=by simp only [aQ,inB,yK,yL];omega
  rw [aT,if_pos (by simp only [aN,yK];exact ⟨⟨h,hq⟩,hn⟩)];exact aIi t _ _ hn ht (by omega) (by omega)
theorem aH7:yP (aO p (lH cs c))=yP (aO p cs)+(if p c=true then c.mem else 0)∧yO (aO p (lH cs c))=yO (aO p cs)+(if p c=true then c.cpu else 0):=by
 have e:yP (aO p cs)=yP (aO p (cs.take (eG c.id cs)))+yP (aO p (cs.drop (eG c.id cs)))∧yO (aO p cs)=yO (aO p (cs.take (eG c.id cs)))+yO (aO p (cs.drop (eG c.id cs))):=by rw [←aA7,←aA6,aO,aO,aO,←List.map_append,←List.filter_append,List.take_append_drop];exact ⟨rfl,rfl⟩
 rw [e.1,e.2,lH];unfold aO;rw [List.filter_append,List.map_append,aA7,aA6,List.filter_cons];by_cases h:p c=true
 ·simp only [if_pos h,List.map_cons,yP,yO];omega
 ·simp only [if_neg h];omega
theorem aH6 {r:Int×Int} (h:r ∈ aO p (lH cs c)):r ∈ aO p cs∨r=(c.mem,c.cpu):=by
 obtain ⟨d,hd,rfl⟩:=List.mem_map.1 h;obtain ⟨h1,h2⟩:=List.mem_filter.1 hd;rcases aAs h1 with rfl | h1
 ·exact .inr rfl
 ·exact .inl (List.mem_map.2 ⟨d,List.mem_filter.2 ⟨h1,h2⟩,rfl⟩)
theorem aDk {a b:Int} (h:0≤a∧a≤1000000000∧0≤b∧b≤1000000000):aQ a b=true:=by
 simp only [aQ,inB,yK,yL];omega
theorem aIM (h:sP cs m=true) (hr:aQ c.mem c.cpu=true) (hf:c.node=m.name→c.mem+yP (aO (fun q=>decide (q.node=m.name)) cs)≤m.mem∧c.cpu+yO (aO (fun q=>decide (q.node=m.name)) cs)≤m.cpu):sP (lH cs c) m=true:=by
 simp only [sP,yK,within,yL] at h ⊢;obtain ⟨h1,h2,⟨⟨h3,_⟩,h4⟩,h5⟩:=h;have e:=aDa _ _ _ h2;have ea:=nJ _ _ _ h2;rw [iC] at h4 h5;have hb:=aZ h1;have u:=aH7 (p:=fun q=>decide (q.node=m.name)) (cs:=cs) (c:=c);have cb:=aZ hr;have each:∀r ∈ aO (fun q=>decide (q.node=m.name)) (lH cs c),aQ r.1 r.2=true:=fun r hx=>by
  rcases aH6 hx with hx | rfl
  ·exact ea r hx
  ·exact hr
 have le:yP (aO (fun q=>decide (q.node=m.name)) (lH cs c))≤m.mem∧yO (aO (fun q=>decide (q.node=m.name)) (lH cs c))≤m.cpu:=by
  by_cases hn:c.node=m.name
  ·have:=hf hn;rw [if_pos (by simpa using hn),if_pos (by simpa using hn)] at u;omega
  ·rw [if_neg (by simpa using hn),if_neg (by simpa using hn)] at u;omega
 have ok:(aT (aO (fun q=>decide (q.node=m.name)) (lH cs c)) 0 0).2.2=true:=aIi _ _ _ (by decide) each (by omega) (by omega);have e':=aDa _ _ _ ok;have ps:=aCc _ each;rw [iC];exact ⟨h1,ok,⟨⟨aDk (by omega),h1⟩,by omega⟩,by omega⟩
theorem aAz {id:Int} {l:List dA}:(bB id (bH l r)).isSome=(bB id l).isSome:=by
 unfold bB bH;rw [Bool.eq_iff_iff,List.find?_isSome,List.find?_isSome];constructor
 ·rintro ⟨a,ha,e⟩;obtain ⟨b,hb,e1,_⟩:=pM (r:=r) ha;exact ⟨b,hb,by rw [←e1];exact e⟩
 ·rintro ⟨a,ha,e⟩;obtain ⟨i,hi,rfl⟩:=List.mem_iff_getElem.1 ha;refine ⟨(l.modify r.1 fun a=>rW a r.2)[i]'(by simpa using hi),yM _,?_⟩;rw [List.getElem_modify];split<;>exact e
theorem aCP {apps apps':List dA} {ms:List Mac} {c:Con} (ha:∀id,(bB id apps').isSome=(bB id apps).isSome) (h1:c.id≤1000000000) (h2:(bB c.app apps).isSome=true) (h3:(bL c.node ms).isSome=true) (h4:lT c.mem c.cpu=true):∀(cs:List Con) (last:Int),last<c.id→(∀d ∈ cs,d.id≠c.id)→dF apps ms last cs=true→dF apps' ms last (lH cs c)=true
 | [],last,hl,_,_=>by
  simp only [lH,eG,List.take_nil,List.drop_nil,List.nil_append,dF,yK,yL];exact ⟨hl,h1,by rw [ha];exact h2,h3,h4,trivial⟩
 | d::t,last,hl,hn,h=>by
  have go:∀(t:List Con) (last:Int),dF apps ms last t=true→dF apps' ms last t=true:=fun t=>by
   induction t with
   | nil=>intro _ _;rfl
   | cons d t ih=>intro last h;simp only [dF,yK,yL] at h ⊢;exact ⟨h.1,h.2.1,by rw [ha];exact h.2.2.1,h.2.2.2.1,h.2.2.2.2.1,ih _ h.2.2.2.2.2⟩
  have hd:=hn d List.mem_cons_self;by_cases hc:d.id<c.id
  ·(have e:lH (d::t) c=d::lH t c:=by simp only [lH,eG,if_pos hc,List.take_succ_cons,List.drop_succ_cons,List.cons_append]);rw [e];simp only [dF,yK,yL] at h ⊢;exact ⟨h.1,h.2.1,by rw [ha];exact h.2.2.1,h.2.2.2.1,h.2.2.2.2.1,aCP ha h1 h2 h3 h4 t d.id hc (fun x hx=>hn x (List.mem_cons_of_mem _ hx)) h.2.2.2.2.2⟩
  ·(have e:lH (d::t) c=c::d::t:=by simp only [lH,eG,if_neg hc,List.take_zero,List.drop_zero,List.nil_append]);rw [e];simp only [dF,yK,yL] at h ⊢;exact ⟨hl,h1,by rw [ha];exact h2,h3,h4,by omega,h.2.1,by rw [ha];exact h.2.2.1,h.2.2.2.1,h.2.2.2.2.1,go _ _ h.2.2.2.2.2⟩
theorem aD0 (h:kR l=true):kR (gU l k)=true:=by
 simp only [kR,yK,yL,List.all_eq_true] at h ⊢;refine ⟨Nat.le_trans (zY l k) h.1,fun a ha=>?_⟩;unfold gU at ha;split at ha
 ·exact h.2 a ha
 ·rename_i b hb;split at ha
  ·rename_i hc;rcases List.mem_or_eq_of_mem_set ha with ha | rfl
   ·exact h.2 a ha
   ·have:=h.2 b (List.mem_of_getElem? hb);simp only [kC,aIG,yK,inB] at this ⊢;have c:=this.2.1;rw [yL] at c;exact ⟨this.1,decide_eq_true (by omega),this.2.2⟩
  ·exact h.2 a (List.mem_of_mem_eraseIdx ha)
theorem xS {qs:List Q} {nx:Int} {k:Nat}:∀(l:List dA) (i:Nat) (last:Int),bQ qs nx last l=true→bQ qs nx last (l.modify i fun a=>rW a k)=true
 | [],i,last,h=>by cases i<;>simpa using h
 | a::t,0,last,h=>by
  rw [List.modify_zero_cons];simp only [bQ,yK,rW] at h ⊢;exact ⟨h.1,h.2.1,h.2.2.1,aD0 h.2.2.2.1,h.2.2.2.2⟩
 | a::t,i+1,last,h=>by
  rw [List.modify_succ_cons];simp only [bQ,yK,yL] at h ⊢;exact ⟨h.1,h.2.1,h.2.2.1,h.2.2.2.1,xS t i _ h.2.2.2.2⟩
theorem aA1 {p:Ask→Bool}:∀{l:List Ask} {k j:Nat},eX p l k=some j→∃h:j - k<l.length,p l[j - k]=true
 | [],_,_,h=>by cases h
 | a::t,k,j,h=>by
  have hb:=oW h;rw [eX] at h;split at h
  ·rename_i hp;cases h;exact ⟨by simp,by simpa using hp⟩
  ·have hb':=oW h;obtain ⟨h1,h2⟩:=aA1 h;(have e:j - k=(j - (k+1))+1:=by omega);refine ⟨by simp only [List.length_cons];omega,?_⟩;simp only [e,List.getElem_cons_succ];exact h2
theorem tH {p:Ask→Bool} {qu:List UInt8}:∀{l:List dA} {i:Nat} {r:Nat×Nat},dJ p qu l i=some r→i≤r.1∧∃h:r.1 - i<l.length,∃h2:r.2<l[r.1 - i].asks.length,p l[r.1 - i].asks[r.2]=true∧l[r.1 - i].queue=qu
 | [],_,_,h=>by cases h
 | a::t,i,r,h=>by
  have go:dJ p qu t (i+1)=some r→i≤r.1∧∃h:r.1 - i<(a::t).length,∃h2:r.2<(a::t)[r.1 - i].asks.length,p (a::t)[r.1 - i].asks[r.2]=true∧(a::t)[r.1 - i].queue=qu:=fun h=>by
   obtain ⟨h1,h2,h3,h4,h5⟩:=tH h;(have e:r.1 - i=(r.1 - (i+1))+1:=by omega);refine ⟨by omega,by simp only [List.length_cons];omega,?_⟩;simp only [e,List.getElem_cons_succ];exact ⟨h3,h4,h5⟩
  rw [dJ] at h;split at h
  ·rename_i hq;split at h
   ·rename_i k hk;cases h;obtain ⟨h1,h2⟩:=aA1 hk;refine ⟨yJ _,by simp,?_⟩;simp only [Nat.sub_self,List.getElem_cons_zero,Nat.sub_zero] at h1 h2 ⊢;exact ⟨h1,h2,hq⟩
   ·exact go h
  ·exact go h
theorem z8 {s:St} {nd:List UInt8} {r:Nat×Nat}:∀{l:List (List UInt8)},gV s nd l=some r→∃h:r.1<s.apps.length,∃h2:r.2<s.apps[r.1].asks.length,zN s nd s.apps[r.1].queue s.apps[r.1].asks[r.2]=true
 | [],h=>by cases h
 | q::t,h=>by
  rw [gV] at h;split at h
  ·rename_i r' hr;cases h;obtain ⟨_,h2,h3,h4,h5⟩:=tH hr;simp only [Nat.sub_zero] at h2 h3 h4 h5;exact ⟨h2,h3,by rw [h5];exact h4⟩
  ·exact z8 h
theorem aEK {p:(Nat×Nat)×Con} (h:aS s nd=some p):aY (bK s p)=true:=by
 obtain ⟨hk,hn,hl,h1,h2,e⟩:=jB h;have hk':=hk;simp only [aY,fK,yK,fI,gL,yL] at hk;obtain ⟨k1,k2,k3,k4,k5,⟨k6,k7⟩,⟨k8,k9,k10⟩,k11,k12⟩:=hk;unfold pR at hn;split at hn;case isFalse=>cases hn
 rename_i hm;simp only [aJs,lL,yK,yL,Bool.not_eq_true',List.any_eq_false,beq_iff_eq] at hm;obtain ⟨m1,m2,m3,m4⟩:=hm;have can:zN s nd s.apps[p.1.1].queue s.apps[p.1.1].asks[p.1.2]=true:=by
  cases hp:nE s nd with
  | none=>rw [hp] at hn;cases hn
  | some r=>rw [hp] at hn;obtain rfl:=Option.some.inj hn;obtain ⟨_,_,c⟩:=z8 hp;exact c
 simp only [zN,yK] at can;obtain ⟨mm,hmm⟩:=Option.isSome_iff_exists.1 m1;have mk:=(kH _ _).1 k8;have JR:kC s.apps[p.1.1].asks[p.1.2]=true:=by
  have go:∀(l:List dA) (last:Int),bQ s.qs s.next last l=true→∀a ∈ l,kR a.asks=true:=fun l=>by
   induction l with
   | nil=>intro _ _ a ha;cases ha
   | cons b t ih=>
    intro last h a ha;simp only [bQ,yK,yL] at h;rcases List.mem_cons.1 ha with rfl | ha
    ·exact h.2.2.2.1
    ·exact ih _ h.2.2.2.2 a ha
  have:=go _ _ k7 _ (yM h1);simp only [kR,yK,List.all_eq_true] at this;exact this.2 _ (yM h2)
 simp only [kC,yK] at JR;have Fy:=JR.1;have hrs:aQ s.apps[p.1.1].asks[p.1.2].mem s.apps[p.1.1].asks[p.1.2].cpu=true:=by simp only [lT,yK] at Fy;exact Fy.1
 have hid:0<idV s:=by simp only [inB,yL] at k3 k5;unfold idV;omega
 have hl':(lH s.cs p.2).length≤150:=by rw [vM];omega
 simp only [aY,fK,yK,fI,gL];refine ⟨k1,k2,k3,k4,?_,⟨decide_eq_true (by simpa [bK,bH] using k6),xS _ _ _ k7⟩,⟨(kH _ _).2 ⟨mk.1,fun m hm=>?_⟩,k9,decide_eq_true k10⟩,decide_eq_true hl',?_⟩;all_goals simp only [bK]
 ·simp only [inB,yL] at k5 ⊢;unfold dL;split<;>omega
 ·rw [e];refine aIM (mk.2 m hm) hrs (fun en=>?_);have hfm:=sK _ _ mk.1 m hm;have hw:=can.2.1;simp only [dI] at hw;rw [show nd=m.name from en,hfm] at hw;have hh:=mk.2 m hm;simp only [sP,yK,within,yL] at hh;obtain ⟨a1,a2,⟨⟨a3,_⟩,a4⟩,a5⟩:=hh;have es:=aDa _ _ _ a2;have b1:=aZ a1;have b3:=aZ a3;rw [iC] at a3 a4 a5 b3;have hb:aN (-1) m.mem m.cpu (gQ s m.name).1 (gQ s m.name).2=true:=by
   simp only [aN,yK];exact ⟨⟨a1,a3⟩,aDk (by
    (show 0≤m.mem + -1*(aT (aO (fun q=>decide (q.node=m.name)) s.cs) 0 0).1∧m.mem + -1*(aT (aO (fun q=>decide (q.node=m.name)) s.cs) 0 0).1≤1000000000∧0≤m.cpu + -1*(aT (aO (fun q=>decide (q.node=m.name)) s.cs) 0 0).2.1∧m.cpu + -1*(aT (aO (fun q=>decide (q.node=m.name)) s.cs) 0 0).2.1≤1000000000);omega)⟩
  simp only [aBq] at hw;rw [if_pos hb] at hw;simp only [within,yK,yL] at hw;have w1:s.apps[p.1.1].asks[p.1.2].mem≤m.mem + -1*(aT (aO (fun q=>decide (q.node=m.name)) s.cs) 0 0).1:=hw.1.2;have w2:s.apps[p.1.1].asks[p.1.2].cpu≤m.cpu + -1*(aT (aO (fun q=>decide (q.node=m.name)) s.cs) 0 0).2.1:=hw.2;show s.apps[p.1.1].asks[p.1.2].mem+_≤_∧s.apps[p.1.1].asks[p.1.2].cpu+_≤_;omega
 ·rw [e];refine aCP (fun id=>aAz) m3 ?_ m1 Fy _ _ hid (fun d hd=>m4 d hd) k12;rw [bB,List.find?_isSome];exact ⟨_,yM h1,by simp⟩
theorem dV.sc {j:Nat} {v:Value} {x:Sls} (h:dV B w x s hs) (hk:k<B):dV B (w.setCell ⟨k,j,none⟩ v) x s hs:=⟨h.q.sc hk,h.p.sc hk,h.k.sc (.inl hk),h.m.sc hk,h.c.sc hk,h.cap,(h.rm.sc k j v).mono (yJ _) (by rw [bV];exact yJ _)⟩
theorem aAY {apps:List dA} {ms:List Mac}:∀(cs:List Con) (last:Int),dF apps ms last cs=true→(∀c ∈ cs,last<c.id∧(bB c.app apps).isSome=true∧(bL c.node ms).isSome=true)∧cs.Pairwise (fun a b=>a.id<b.id)
 | [],last,_=>⟨fun c h=>absurd h (by simp),.nil⟩
 | c::t,last,h=>by
  simp only [dF,yK,yL] at h;obtain ⟨h1,_,h3,h4,_,h6⟩:=h;obtain ⟨i1,i2⟩:=aAY t c.id h6;refine ⟨fun d hd=>?_,List.pairwise_cons.2 ⟨fun d hd=>(i1 d hd).1,i2⟩⟩;rcases List.mem_cons.1 hd with rfl | hd
  ·exact ⟨h1,h3,h4⟩
  ·exact ⟨by have:=(i1 d hd).1;omega,(i1 d hd).2⟩
theorem aCZ {qs:List Q} {nx:Int}:∀(l:List dA) (last:Int),bQ qs nx last l=true→(∀a ∈ l,last<a.id)∧l.Pairwise (fun a b=>a.id≠b.id)
 | [],last,_=>⟨fun c h=>absurd h (by simp),.nil⟩
 | a::t,last,h=>by
  simp only [bQ,yK,yL] at h;obtain ⟨h1,_,_,_,h5⟩:=h;obtain ⟨i1,i2⟩:=aCZ t a.id h5;refine ⟨fun d hd=>?_,List.pairwise_cons.2 ⟨fun d hd=>by have:=i1 d hd;omega,i2⟩⟩;rcases List.mem_cons.1 hd with rfl | hd
  ·exact h1
  ·have:=i1 d hd;omega
theorem aAO {ck:Int}:∀(l:List Mac) (last:List UInt8),bO ck last l=true→l.Pairwise (fun a b=>a.name≠b.name)
 | [],last,_=>.nil
 | m::t,last,h=>by
  have h':=h;simp only [bO,yK,yL] at h;obtain ⟨_,_,_,_,h5⟩:=h;refine List.pairwise_cons.2 ⟨fun d hd e=>?_,aAO t m.name h5⟩;have:=pU t m.name h5 d hd;rw [e,aEO] at this;exact absurd this (by simp)
theorem aGM (h:aY s=true):s.cs.Pairwise (fun a b=>a.id<b.id)∧(∀c ∈ s.cs,(bB c.app s.apps).isSome=true∧(bL c.node s.ms).isSome=true)∧s.apps.Pairwise (fun a b=>a.id≠b.id)∧s.ms.Pairwise (fun a b=>a.name≠b.name):=by
 simp only [aY,fK,yK,fI,gL] at h;obtain ⟨_,_,_,_,_,⟨_,h6⟩,⟨h7,_⟩,_,h9⟩:=h;obtain ⟨c1,c2⟩:=aAY _ _ h9;exact ⟨c2,fun c hc=>(c1 c hc).2,(aCZ _ _ h6).2,aAO _ _ ((kH _ _).1 h7).1⟩
def sm (f:α→Int) (l:List α):Int:=(l.map f).sum
theorem aJy (f:α→Int):sm f []=0:=rfl
theorem iO (f:α→Int) (a:α) (t:List α):sm f (a::t)=f a+sm f t:=by simp [sm]
theorem nN {α:Type} {f:α→Int}:∀{l:List α},(∀a ∈ l,0≤f a)→0≤sm f l
 | [],_=>Int.le_refl _
 | a::t,h=>by
  rw [iO];have:=h a (by simp);have:=nN (f:=f) (l:=t) (fun x hx=>h x (by simp [hx]));omega
theorem aCi {α:Type} {f g:α→Int}:∀{l:List α},(∀a ∈ l,f a≤g a)→sm f l≤sm g l
 | [],_=>Int.le_refl _
 | a::t,h=>by
  rw [iO,iO];have:=h a (by simp);have:=aCi (f:=f) (g:=g) (l:=t) (fun x hx=>h x (by simp [hx]));omega
theorem aFk:∀(l:List (Int×Int)) (x y:Int),(aT l x y).2.2=true→aT l x y=(x+sm (fun r=>r.1) l,y+sm (fun r=>r.2) l,true)
 | [],x,y,_=>by simp [aT,sm]
 | r::t,x,y,h=>by
  rw [aT] at h ⊢;by_cases hb:aN 1 x y r.1 r.2=true
  ·rw [if_pos hb] at h ⊢;rw [aFk t _ _ h,iO,iO];simp only [Prod.mk.injEq,and_true];constructor<;>omega
  ·rw [if_neg hb] at h;cases h
theorem aDd:∀(l:List (Int×Int)) (x y:Int),aQ x y=true→(∀r ∈ l,aQ r.1 r.2=true)→x+sm (fun r=>r.1) l≤1000000000→y+sm (fun r=>r.2) l≤1000000000→aT l x y=(x+sm (fun r=>r.1) l,y+sm (fun r=>r.2) l,true)
 | [],x,y,_,_,_,_=>by simp [aT,sm]
 | r::t,x,y,h,hr,h1,h2=>by
  have b:=aZ h;have hrr:=hr r (by simp);have c:=aZ hrr;have n1:0≤sm (fun r:Int×Int=>r.1) t:=nN (fun a ha=>(aZ (hr a (by simp [ha]))).1);have n2:0≤sm (fun r:Int×Int=>r.2) t:=nN (fun a ha=>(aZ (hr a (by simp [ha]))).2.2.1);rw [iO] at h1 h2;have ho:aQ (x+1*r.1) (y+1*r.2)=true:=by simp only [aQ,inB,yK,yL];omega
  have hb:aN 1 x y r.1 r.2=true:=by simp only [aN,h,hrr,ho,Bool.and_self]
  rw [aT,if_pos hb,aDd t _ _ ho (fun a ha=>hr a (by simp [ha])) (by omega) (by omega),iO,iO];simp only [Prod.mk.injEq,and_true];constructor<;>omega
def fF (f:Con→Int) (p:Con→Bool) (l:List Con):Int:=sm f (l.filter p)
theorem sS (f:Con→Int) (p:Con→Bool) (c:Con) (t:List Con):fF f p (c::t)=(if p c=true then f c else 0)+fF f p t:=by
 unfold fF;by_cases hp:p c=true
 ·rw [List.filter_cons_of_pos hp,iO,if_pos hp]
 ·rw [List.filter_cons_of_neg hp,if_neg hp];omega
theorem aJc {f:Con→Int} {p r:Con→Bool}:∀{l:List Con},(∀c ∈ l,0≤f c)→(∀c ∈ l,p c=true→r c=true)→fF f p l≤fF f r l
 | [],_,_=>Int.le_refl _
 | c::t,h,hi=>by
  rw [sS,sS];have h1:=h c (by simp);have h2:=hi c (by simp);have:=aJc (f:=f) (p:=p) (r:=r) (l:=t) (fun x hx=>h x (by simp [hx])) (fun x hx=>hi x (by simp [hx]));cases hp:p c<;>cases hr:r c<;>simp_all<;>omega
theorem aK3 (f:Con→Int) (l:List Con):fF f (fun _=>true) l=sm f l:=by
 unfold fF;rw [List.filter_eq_self.2 (fun _ _=>rfl)]
theorem rR (p:Con→Bool) (l:List Con):sm (fun r=>r.1) (aO p l)=fF (fun c=>c.mem) p l∧sm (fun r=>r.2) (aO p l)=fF (fun c=>c.cpu) p l:=by
 unfold aO fF sm;rw [List.map_map,List.map_map];exact ⟨rfl,rfl⟩
theorem aGK (f:Con→Int) (c:Con) (t:List Con):∀ms:List Mac,sm (fun m=>fF f (fun q=>decide (q.node=m.name)) (c::t)) ms=sm (fun m=>fF f (fun q=>decide (q.node=m.name)) t) ms+sm (fun m=>if c.node=m.name then f c else 0) ms
 | []=>rfl
 | m::r=>by
  rw [iO,iO,iO,aGK f c t r,sS];by_cases h:c.node=m.name
  ·simp only [h,decide_true,if_true];omega
  ·simp only [h,decide_false,if_false,Bool.false_eq_true];omega
theorem aIq {c:Con} {v:Int} (h0:0≤v):∀{ms:List Mac},(∃m ∈ ms,m.name=c.node)→v≤sm (fun m=>if c.node=m.name then v else 0) ms
 | [],h=>by obtain ⟨m,hm,_⟩:=h;simp at hm
 | m::r,h=>by
  rw [iO];have hn:0≤sm (fun m=>if c.node=m.name then v else 0) r:=nN (fun a _=>by split<;>omega);by_cases he:c.node=m.name
  ·rw [if_pos he];omega
  ·rw [if_neg he];obtain ⟨x,hx,e⟩:=h;have:=aIq (c:=c) h0 (ms:=r) ⟨x,(List.mem_cons.1 hx).resolve_left (fun e'=>he (by rw [←e',e])),e⟩;omega
theorem aHP {f:Con→Int} {ms:List Mac}:∀{cs:List Con},(∀c ∈ cs,0≤f c∧∃m ∈ ms,m.name=c.node)→sm f cs≤sm (fun m=>fF f (fun q=>decide (q.node=m.name)) cs) ms
 | [],_=>by rw [aJy];exact nN (fun a _=>Int.le_refl _)
 | c::t,h=>by
  rw [iO,aGK];have h1:=h c (by simp);have:=aIq (c:=c) h1.1 h1.2;have:=aHP (f:=f) (ms:=ms) (cs:=t) (fun x hx=>h x (by simp [hx]));omega
theorem aCO {apps:List dA} {ms:List Mac}:∀(l:List Con) (last:Int),dF apps ms last l=true→∀c ∈ l,aQ c.mem c.cpu=true
 | [],_,_,c,hc=>by simp at hc
 | a::t,last,h,c,hc=>by
  simp only [dF,yK,lT] at h;rcases List.mem_cons.1 hc with rfl | hc
  ·exact h.2.2.2.2.1.1
  ·exact aCO t _ h.2.2.2.2.2 c hc
theorem aEL {ms:List Mac} (h:(bL nm ms).isSome=true):∃m ∈ ms,m.name=nm:=by
 unfold bL at h;rw [List.find?_isSome] at h;obtain ⟨m,hm,e⟩:=h;exact ⟨m,hm,by simpa using e⟩
theorem aJB (h:aY s=true):(∀c ∈ s.cs,aQ c.mem c.cpu=true)∧sm (fun c=>c.mem) s.cs≤1000000000∧sm (fun c=>c.cpu) s.cs≤1000000000:=by
 have hp:=(aGM h).2.1;simp only [aY,fK,yK,fI,gL] at h;obtain ⟨_,_,_,_,_,_,⟨h7,h8,_⟩,_,h9⟩:=h;have hr:=aCO _ _ h9;have hh:=((kH _ _).1 h7).2;have hs:=aFk (aX s.ms) 0 0 h8;have hk:=aZ (aHt (aX s.ms) 0 0 (by decide));rw [hs] at hk;simp only at hk;have e1:sm (fun r:Int×Int=>r.1) (aX s.ms)=sm (fun m:Mac=>m.mem) s.ms:=by unfold sm aX;rw [List.map_map];rfl
 have e2:sm (fun r:Int×Int=>r.2) (aX s.ms)=sm (fun m:Mac=>m.cpu) s.ms:=by unfold sm aX;rw [List.map_map];rfl
 rw [e1,e2] at hk;have hm:∀m ∈ s.ms,fF (fun c=>c.mem) (fun q=>decide (q.node=m.name)) s.cs≤m.mem∧fF (fun c=>c.cpu) (fun q=>decide (q.node=m.name)) s.cs≤m.cpu:=fun m hm=>by
  have h1:=hh m hm;simp only [sP,yK,iC] at h1;obtain ⟨_,h2,h3⟩:=h1;rw [aFk _ _ _ h2,(rR _ _).1,(rR _ _).2] at h3;simp only [within,yK,yL] at h3;omega
 have a1:=aHP (f:=fun c=>c.mem) (ms:=s.ms) (cs:=s.cs) (fun c hc=>⟨(aZ (hr c hc)).1,aEL (hp c hc).2⟩);have a2:=aHP (f:=fun c=>c.cpu) (ms:=s.ms) (cs:=s.cs) (fun c hc=>⟨(aZ (hr c hc)).2.2.1,aEL (hp c hc).2⟩);have b1:sm (fun m:Mac=>fF (fun c=>c.mem) (fun q=>decide (q.node=m.name)) s.cs) s.ms≤sm (fun m:Mac=>m.mem) s.ms:=aCi (fun m hm'=>(hm m hm').1);have b2:sm (fun m:Mac=>fF (fun c=>c.cpu) (fun q=>decide (q.node=m.name)) s.cs) s.ms≤sm (fun m:Mac=>m.cpu) s.ms:=aCi (fun m hm'=>(hm m hm').2);exact ⟨hr,Int.le_trans (Int.le_trans a1 b1) (by omega),Int.le_trans (Int.le_trans a2 b2) (by omega)⟩
theorem aFc (h:aY s=true) (p:Con→Bool):iC (aO p s.cs)=(fF (fun c=>c.mem) p s.cs,fF (fun c=>c.cpu) p s.cs,true)∧aQ (fF (fun c=>c.mem) p s.cs) (fF (fun c=>c.cpu) p s.cs)=true:=by
 obtain ⟨hr,h1,h2⟩:=aJB h;have l1:=aJc (f:=fun c=>c.mem) (p:=p) (r:=fun _=>true) (l:=s.cs) (fun c hc=>(aZ (hr c hc)).1) (fun _ _ _=>rfl);have l2:=aJc (f:=fun c=>c.cpu) (p:=p) (r:=fun _=>true) (l:=s.cs) (fun c hc=>(aZ (hr c hc)).2.2.1) (fun _ _ _=>rfl);rw [aK3] at l1 l2;have g:=aDd (aO p s.cs) 0 0 (by decide) (fun r hr'=>by
  unfold aO at hr';obtain ⟨c,hc,rfl⟩:=List.mem_map.1 hr';exact hr c (List.mem_filter.1 hc).1) (by rw [(rR _ _).1];omega) (by rw [(rR _ _).2];omega)
 rw [(rR _ _).1,(rR _ _).2,Int.zero_add,Int.zero_add] at g;refine ⟨g,?_⟩;have:=aHt (aO p s.cs) 0 0 (by decide);rw [g] at this;exact this
theorem aK7 {a:dA} (ha:bB c.app s.apps=some a):byQ s nm c=onP s.qs a.queue nm:=by
 unfold byQ;rw [ha];rfl
def aAX (s:St) (nd qu:List UInt8):Bool:=s.apps.any fun a=>decide (a.queue=qu)&&a.asks.any (zN s nd qu)
theorem aA0 {p:Ask→Bool}:∀{l:List Ask} {k:Nat},eX p l k=none→l.any p=false
 | [],_,_=>rfl
 | a::t,k,h=>by
  rw [eX] at h;split at h
  ·cases h
  ·rename_i hp;rw [List.any_cons,aA0 h,Bool.or_false];simpa using hp
theorem tF {p:Ask→Bool} {qu:List UInt8}:∀{l:List dA} {i:Nat},dJ p qu l i=none→(l.any fun a=>decide (a.queue=qu)&&a.asks.any p)=false
 | [],_,_=>rfl
 | a::t,i,h=>by
  rw [dJ] at h;rw [List.any_cons];split at h
  ·split at h
   ·cases h
   ·rename_i hk;rw [aA0 hk,tF h,Bool.and_false];rfl
  ·rename_i hq;rw [tF h,decide_eq_false hq];rfl
theorem qL {s:St} {nd:List UInt8} {r:Nat×Nat}:∀{l:List (List UInt8)},gV s nd l=some r→∃i,∃hi:i<l.length,(∀j (hj:j<l.length),j<i→aAX s nd l[j]=false)∧∃h1:r.1<s.apps.length,∃h2:r.2<s.apps[r.1].asks.length,s.apps[r.1].queue=l[i]∧zN s nd l[i] s.apps[r.1].asks[r.2]=true
 | [],h=>by cases h
 | q::t,h=>by
  rw [gV] at h;split at h
  ·rename_i r' hr;cases h;obtain ⟨_,h2,h3,h4,h5⟩:=tH hr;simp only [Nat.sub_zero] at h2 h3 h4 h5;exact ⟨0,by simp,fun j _ hj=>absurd hj (Nat.not_lt_zero j),h2,h3,h5,h4⟩
  ·rename_i hr;obtain ⟨i,hi,hn,h1,h2,h3,h4⟩:=qL h;refine ⟨i+1,by simpa using hi,fun j hj hji=>?_,h1,h2,by simpa using h3,by simpa using h4⟩;cases j with
   | zero=>exact tF hr
   | succ j=>exact hn j (by simpa using hj) (by omega)
theorem aBY {r:List UInt8→List UInt8→Prop}:∀{l:List (List UInt8)},HeapM.Sorted r l→∀i j (hi:i<l.length) (hj:j<l.length),i<j→r l[i] l[j]
 | [],_,i,_,hi,_,_=>absurd hi (Nat.not_lt_zero i)
 | x::t,h,i,j,hi,hj,hij=>by
  match i,j with
  | _,0=>omega
  | 0,j+1=>exact h.1 _ (yM _)
  | i+1,j+1=>exact aBY h.2 i j (by simpa using hi) (by simpa using hj) (by omega)
theorem aEf (s:St) (hi:i+1<(bI s).length) :
  pW (aJ s (bI s)[i+1]).1 (aJ s (bI s)[i+1]).2 (rC s (bI s)[i+1]).1 (rC s (bI s)[i+1]).2 (aJ s (bI s)[i]).1 (aJ s (bI s)[i]).2 (rC s (bI s)[i]).1 (rC s (bI s)[i]).2=false:=by
 have hs:HeapM.Sorted (fun a b=>aBK s b a=false) (bI s):=p8 (aCX s) (xQ s) _ _ trivial;have h:=aBY hs i (i+1) (by omega) hi (by omega);simp only [aBK,gP,OrdM.ahead,Bool.or_eq_false_iff] at h;exact h.1
theorem aJb {l:List dA} (hp:l.Pairwise (fun a b=>a.id≠b.id)) (hi:i<l.length):bB l[i].id l=some l[i]:=by
 unfold bB;rw [List.find?_eq_some_iff_getElem];refine ⟨by simp,i,hi,rfl,fun j hj=>?_⟩;have:=(List.pairwise_iff_getElem.1 hp) j i (by omega) hi hj;simpa using this
theorem aDS (id:Int):∀(l:List dA),(bB id (bH l r)).map (fun a=>a.queue)=(bB id l).map (fun a=>a.queue):=by
 have go:∀(l:List dA) (i k:Nat),(bB id (l.modify i fun a=>rW a k)).map (fun a=>a.queue)=(bB id l).map (fun a=>a.queue):=by
  intro l
  induction l with
  | nil=>intro i k;simp
  | cons a t ih=>
   intro i k;cases i with
   | zero=>simp only [List.modify_zero_cons,bB,List.find?_cons];have e:(rW a k).id=a.id:=rfl;rw [e];split<;>rfl
   | succ i=>
    simp only [List.modify_succ_cons,bB,List.find?_cons];split
    ·rfl
    ·exact ih i k
 exact fun l=>go l r.1 r.2
theorem aFM {p:(Nat×Nat)×Con} (nm:List UInt8) (c:Con):byQ (bK s p) nm c=byQ s nm c:=by
 have h:=aDS (r:=p.1) c.app s.apps;unfold byQ;simp only [bK];cases h1:bB c.app s.apps with
 | none=>
  rw [h1] at h;cases h2:bB c.app (bH s.apps p.1) with
  | none=>rfl
  | some b=>rw [h2] at h;cases h
 | some a=>
  rw [h1] at h;cases h2:bB c.app (bH s.apps p.1) with
  | none=>rw [h2] at h;cases h
  | some b=>rw [h2] at h;have e:b.queue=a.queue:=Option.some.inj h;simp only [e]
theorem aK2 (f:Con→Int) (p:Con→Bool) (cs:List Con) (c:Con):fF f p (lH cs c)=fF f p cs+(if p c=true then f c else 0):=by
 have ap:∀a b:List Con,fF f p (a++b)=fF f p a+fF f p b:=fun a b=>by
  induction a with
  | nil=>simp [fF,sm]
  | cons x t ih=>rw [List.cons_append,sS,sS,ih];omega
 have h:=ap (cs.take (eG c.id cs)) (cs.drop (eG c.id cs));rw [List.take_append_drop] at h;rw [lH,ap,sS,h];omega
theorem aEV {p:(Nat×Nat)×Con} (h:aS s nd=some p) (nm:List UInt8) (hq:byQ s nm p.2=true) :
  aJ (bK s p) nm=((aJ s nm).1+p.2.mem,(aJ s nm).2+p.2.cpu):=by
 have h1:=(aFc (jB h).1 (byQ s nm)).1;have h2:=(aFc (aEK h) (byQ (bK s p) nm)).1;have e:byQ (bK s p) nm=byQ s nm:=funext (aFM nm);rw [e] at h2;simp only [aJ];rw [e,h2,h1];simp only [bK,aK2,hq,if_true]
theorem aDR {p:(Nat×Nat)×Con} (h:aS s nd=some p):∃a,nV s p.2.app=(a,true)∧a ∈ s.apps∧p.2.node=nd
  ∧(∃i,∃hi:i<(bI s).length,(bI s)[i]=a.queue∧∀j (hj:j<(bI s).length),j<i→aAX s nd (bI s)[j]=false)
  ∧(∀x ∈ path s.qs a.queue,within (aJ (bK s p) x).1 (aJ (bK s p) x).2 (eU s x).1 (eU s x).2=true)
  ∧(bK s p).cs.length=s.cs.length+1
  ∧aC8 p.2.id ((bK s p).cs.map (·.id))=true∧aC8 p.2.id (s.cs.map (·.id))=false:=by
 obtain ⟨hk,hn,hl,h1,h2,e⟩:=jB h;unfold pR at hn;split at hn;case isFalse=>cases hn
 rename_i hm;cases hp:nE s nd with
 | none=>rw [hp] at hn;cases hn
 | some r=>
  rw [hp] at hn;obtain rfl:(r,nT s nd r)=p:=Option.some.inj hn;obtain ⟨i,hi,hno,_,_,hq,hc⟩:=qL hp;simp only at h1 h2 e hq hc;have hf:=aJb (aGM hk).2.2.1 h1;refine ⟨s.apps[r.1],?_,yM h1,by rw [e],⟨i,hi,hq.symm,hno⟩,fun x hx=>?_,vM _ _,?_,?_⟩
  ·rw [e,nV,hf]
  ·(have hb:byQ s x (nT s nd r)=true:=by rw [aK7 (a:=s.apps[r.1]) (by rw [e];exact hf)];exact aJP.2 hx);rw [aEV h x hb];rw [hq] at hx;simp only [zN,yZ,yK,List.all_eq_true] at hc;have hr:=hc.2.2.2 x hx;simp only [o8,yK,Int.one_mul] at hr;(have em:(nT s nd r).mem=s.apps[r.1].asks[r.2].mem:=by rw [e]);(have ec:(nT s nd r).cpu=s.apps[r.1].asks[r.2].cpu:=by rw [e]);rw [em,ec];exact hr.2
  ·rw [aAx];exact List.mem_map_of_mem (f:=fun c:Con=>c.id) (by simp [bK,lH])
  ·simp only [aJs,lL,yK,Bool.not_eq_true'] at hm;have:=hm.2.2.2;rw [List.any_eq_false] at this;rw [Bool.eq_false_iff];intro hc';rw [aAx] at hc';obtain ⟨c,hm',he⟩:=List.mem_map.1 hc';rw [e] at he;exact this c hm' (by simpa using he)
theorem Lay.len {cs:List Value} (h:Lay w t g M cs):cs.length≤M:=by
 obtain ⟨R,_,h2⟩:=h;rw [List.length_append] at h2;omega
theorem aDE {cs:List Value} (h:Lay w t g M cs) {p:Nat} (hp:p<cs.length) (v:Value):Lay (w.setCell ⟨g,p,none⟩ v) t g M (cs.set p v):=by
 have hl:=h.len;refine h.cells p [v] (by simp;omega) (cs.set p v) (by rw [List.length_set];exact hl) (fun j u hj=>⟨fun e=>?_,fun e=>?_⟩)
 ·obtain rfl:j=p:=by simp at e;omega
  rw [List.getElem?_set_self hp] at hj;simpa using hj
 ·rw [List.getElem?_set_ne (by simp at e;omega)] at hj;exact h.cell hj
theorem tK:∀(l:List Ask) (k:Nat) (h:k<l.length) (c:Int),aR (l.set k ⟨l[k].mem,l[k].cpu,c,l[k].node,l[k].missed⟩)=(aR l).set (k*5+2) (.int .i64 c)
 | [],k,h,_=>by simp at h
 | q::t,0,_,c=>by simp [aR,aBM]
 | q::t,k+1,h,c=>by
  have ih:=tK t k (by simpa using h) c;simp only [sC,List.getElem_cons_succ,aR,aBM] at ih ⊢;rw [ih,show (k+1)*5+2=k*5+2+1+1+1+1+1 by omega];simp
theorem aAE:∀(l:List AV) (k:Nat) (h:k<l.length) (ao:Option Addr) (n c:Nat),dC (l.set k ⟨l[k].id,l[k].queue,ao,n,c⟩)=(dC l).set (k*3+2) (.slice ao n c)
 | [],k,h,_,_,_=>by simp at h
 | q::t,0,_,ao,n,c=>by simp [dC,y9]
 | q::t,k+1,h,ao,n,c=>by
  have ih:=aAE t k (by simpa using h) ao n c;simp only [sC,List.getElem_cons_succ,dC,y9] at ih ⊢;rw [ih,show (k+1)*3+2=k*3+2+1+1+1 by omega];simp
theorem nG.lay (h:nG B w (some ⟨pg,0,none⟩) n hs) (hn:n≠0):∃M,B≤pg∧pg<w.heap.size∧Lay w 56 pg (M*3) (dC hs)∧n≤M∧n=hs.length:=by
 rcases h.2 with e | ⟨g,M,e,h1,h2,h3,h4⟩
 ·exact absurd e hn
 ·cases e;refine ⟨M,h1,h2,wU h3 (fun j u hj=>by have:=r9 h.1 j u hj;rwa [Nat.zero_add] at this) (by rw [gK,←h.1.1];exact Nat.mul_le_mul_right _ h4),h4,h.1.1⟩
theorem Lay.phas (h:Lay w 56 pg (M*3) (dC hs)) (hB:B≤pg) (hn:n=hs.length) (hM:n≤M):nG B w (some ⟨pg,0,none⟩) n hs:=by
 subst hn;exact ⟨h.rowP,.inr ⟨pg,M,rfl,hB,h.lt,h.cel,hM⟩⟩
theorem nG.upd (h:nG B w (some ⟨pg,0,none⟩) n hs) (hi:i<hs.length) (ao:Option Addr) (m c:Nat) :
  nG B (w.setCell ⟨pg,i*3+2,none⟩ (.slice ao m c)) (some ⟨pg,0,none⟩) n (hs.set i ⟨hs[i].id,hs[i].queue,ao,m,c⟩):=by
 obtain ⟨M,h1,_,h2,h3,h4⟩:=h.lay (by have:=h.1.1;omega);refine Lay.phas (M:=M) ?_ h1 (by rw [List.length_set];exact h4) h3;rw [aAE hs i hi];exact aDE h2 (by rw [gK];omega) _
theorem bE.off (h:bE w ao n l) (hm:Mks (fun k=>k=ga) w w') (ho:∀o,n≠0→ao≠some ⟨ga,o,none⟩):bE w' ao n l:=
 h.mks hm (fun k hk e=>by subst e;obtain ⟨h1,o,h2⟩:=hk;exact ho o h1 h2)
theorem jG.upd {l:List dA} (h:jG B w hs l) {n':Nat} {ak:List Ask} (hi:i<hs.length) (hl:i<l.length) (hga:hs[i].ao=some ⟨ga,0,none⟩) (Gq:hs[i].len≠0) (hm:Mks (fun k=>k=ga) w w')
  (hr:bE w' (some ⟨ga,0,none⟩) n' ak) (hn:n'≤hs[i].len):jG B w' (hs.set i ⟨hs[i].id,hs[i].queue,some ⟨ga,0,none⟩,n',hs[i].cap⟩) (l.modify i (fun a=>⟨a.id,a.queue,ak⟩)):=by
 have hne:∀j (hj:j<hs.length),j≠i→∀o,hs[j].len≠0→hs[j].ao≠some ⟨ga,o,none⟩:=fun j hj hji o h0 e=>by
  have hap:aIh hs[i] hs[j]∨aIh hs[j] hs[i]:=by
   rcases Nat.lt_or_gt_of_ne hji with hlt | hlt
   ·exact .inr (List.pairwise_iff_getElem.1 h.apart j i hj hi hlt)
   ·exact .inl (List.pairwise_iff_getElem.1 h.apart i j hi hj hlt)
  have ho:o=0:=by
   rcases h.own _ (yM hj) with e2 | ⟨g,M,e2,_⟩
   ·exact absurd e2 h0
   ·rw [e] at e2;cases e2;rfl
  subst ho;rcases hap with (a | a | a) | (a | a | a)
  ·exact Gq a
  ·exact h0 a
  ·exact a (by rw [hga,e])
  ·exact h0 a
  ·exact Gq a
  ·exact a (by rw [hga,e])
 refine ⟨⟨by simp [h.heads.1],fun j h1 h2=>?_⟩,fun v hv=>?_,?_⟩
 ·have hj:j<hs.length:=by simpa using h1
  have hj':j<l.length:=by simpa using h2
  obtain ⟨a,b,c,d⟩:=h.heads.2 j hj hj';rw [List.getElem_set,List.getElem_modify];by_cases e:i=j
  ·subst e;rw [if_pos rfl,if_pos rfl];exact ⟨a,b,hr,Nat.le_trans hn d⟩
  ·rw [if_neg e,if_neg e];exact ⟨a,b,c.off hm (hne j hj (fun e2=>e e2.symm)),d⟩
 ·rcases List.mem_or_eq_of_mem_set hv with hv | rfl
  ·exact ((h.own v hv).mks hm).mono (yJ _) hm.size
  ·have:=((h.own _ (yM hi)).mks hm).mono (yJ _) hm.size;rw [hga] at this;exact this.le hn
 ·rw [List.pairwise_iff_getElem];intro a b ha hb hab;have ha':a<hs.length:=by simpa using ha
  have hb':b<hs.length:=by simpa using hb
  have h0:=List.pairwise_iff_getElem.1 h.apart a b ha' hb' hab;rw [List.getElem_set,List.getElem_set];by_cases e1:i=a
  ·subst e1;rw [if_pos rfl,if_neg (by omega)];by_cases e2:hs[b].len=0
   ·exact .inr (.inl e2)
   ·exact .inr (.inr (fun e=>hne b hb' (by omega) 0 e2 e.symm))
  ·rw [if_neg e1];by_cases e2:i=b
   ·subst e2;rw [if_pos rfl];by_cases e3:hs[a].len=0
    ·exact .inl e3
    ·exact .inr (.inr (hne a ha' (fun e=>e1 e.symm) 0 e3))
   ·rw [if_neg e2];exact h0
section
variable {B:Nat} {S:Nat→Prop} {w w':World} {t':TypeId}
theorem rP.mkg {l:List Q} (h:rP B w ao n l) (hm:Mks S w w') (hS:∀k,S k→∃N,Cel w t' k N) (ht:t'≠105):rP B w' ao n l:=⟨h.1.mks hm (fG h.2 hm hS ht).1,(fG h.2 hm hS ht).2⟩
theorem o6.mkg {l:List Mac} (h:o6 B w ao n l) (hm:Mks S w w') (hS:∀k,S k→∃N,Cel w t' k N) (ht:t'≠103):o6 B w' ao n l:=⟨h.1.mks hm (fG h.2 hm hS ht).1,(fG h.2 hm hS ht).2⟩
theorem nH.mkg {l:List Con} (h:nH B w ao n l) (hm:Mks S w w') (hS:∀k,S k→∃N,Cel w t' k N) (ht:t'≠35):nH B w' ao n l:=⟨h.1.mks hm (fG h.2 hm hS ht).1,(fG h.2 hm hS ht).2⟩
theorem nG.mkg {l:List AV} (h:nG B w ao n l) (hm:Mks S w w') (hS:∀k,S k→∃N,Cel w t' k N) (ht:t'≠56):nG B w' ao n l:=⟨h.1.mks hm (fG h.2 hm hS ht).1,(fG h.2 hm hS ht).2⟩
theorem jG.mkg {l:List dA} (h:jG B w hs l) (hm:Mks S w w') (hS:∀k,S k→∃N,Cel w t' k N) (ht:t'≠43):jG B w' hs l:=
 ⟨⟨h.heads.1,fun i h1 h2=>let ⟨a,b',c,d⟩:=h.heads.2 i h1 h2;⟨a,b',c.mks hm (fG (h.own _ (yM h1)) hm hS ht).1,d⟩⟩,fun v hv=>(fG (h.own v hv) hm hS ht).2,h.apart⟩
theorem Mks.wide {S T:Nat→Prop} (h:Mks S w w') (hi:∀k,S k→T k):Mks T w w':=⟨h.os,h.tape,h.output,h.size,fun k hk hn=>h.block k hk (fun e=>hn (hi k e)),h.cel⟩
end
def aFw (s:St) (r:Nat×Nat):St:=⟨s.qs,s.clock,s.epoch,s.next,s.serial,bH s.apps r,s.ms,s.cs⟩
def aIu (B:Nat) (w:World) (k:Nat):Prop:=B≤k∧∃N,Cel w 56 k N∨Cel w 43 k N
def aHU (B:Nat) (y:Sls) (s:St) (r:Nat×Nat) (w:World) (e:Ending) (w':World):Prop:=e=.returned (.tuple #[])∧∃hs',dV B w' y (aFw s r) hs'∧Mks (aIu B w) w w'
theorem rV (l:List dA) (i k:Nat) (h:i<l.length):bH l (i,k)=l.modify i (fun a=>⟨a.id,a.queue,gU l[i].asks k⟩):=by
 unfold bH;apply List.ext_getElem
 ·simp
 ·intro j h1 h2;rw [List.getElem_modify,List.getElem_modify];by_cases e:i=j
  ·subst e;rw [if_pos rfl,if_pos rfl];rfl
  ·rw [if_neg e,if_neg e]
theorem aFv {y:Sls} (h:dV B w y s hs) (qj:y.aa=some ⟨pg,0,none⟩) (hi:i<s.apps.length) (hk:k<s.apps[i].asks.length) (hf:dB s) (hct:0≤s.apps[i].asks[k].count∧s.apps[i].asks[k].count≤1000) :
  cP 111 #[.pointer (some ⟨pg,i*3,none⟩),.int .i64 (k:Int)] w (aHU B y s (i,k) w):=by
 have P8:hs.length=s.apps.length:=h.k.heads.1;have hih:i<hs.length:=by omega
 have hal:y.al=hs.length:=h.p.1.1;obtain ⟨e0,e1,Hz,hlc⟩:=h.k.heads.2 i hih hi;have hln:hs[i].len=s.apps[i].asks.length:=Hz.1;have Gq:hs[i].len≠0:=by omega
 obtain ⟨ga,M,hga,hB,hgl,GQ,hM⟩:∃g M,hs[i].ao=some ⟨g,0,none⟩∧B≤g∧g<w.heap.size∧Cel w 43 g (M*5)∧hs[i].len≤M:=by
  rcases h.k.own _ (yM hih) with e | e
  ·exact absurd e Gq
  ·exact e
 rw [hga] at Hz;have GI:Lay w 43 ga (M*5) (aR s.apps[i].asks):=Hz.lay GQ (Nat.mul_le_mul_right _ (by omega));have hp:=h.p;rw [qj] at hp;obtain ⟨Mp,YU,hpl,qw,PL,_⟩:=hp.lay (by omega);have hfl:s.apps[i].asks.length≤1048576:=(hf.2.1.2 _ (yM hi)).2.1;have hrm:=h.rm;have keep:∀(n':Nat) (ak:List Ask) (w1:World),Mks (fun b=>b=ga) w w1→bE w1 (some ⟨ga,0,none⟩) n' ak→n'≤hs[i].len→rP B w1 y.qa y.ql s.qs∧nG B w1 (some ⟨pg,0,none⟩) y.al hs∧jG B w1 (hs.set i ⟨hs[i].id,hs[i].queue,some ⟨ga,0,none⟩,n',hs[i].cap⟩) (s.apps.modify i (fun a=>⟨a.id,a.queue,ak⟩))∧o6 B w1 y.ma y.ml s.ms∧nH B w1 y.ca y.cl s.cs∧RmS B w1.heap.size w1 y (hs.set i ⟨hs[i].id,hs[i].queue,some ⟨ga,0,none⟩,n',hs[i].cap⟩):=fun n' ak w1 hm hr hn=>by
  have hS:∀k,k=ga→∃N,Cel w 43 k N:=fun k e=>by subst e;exact ⟨_,GQ⟩
  have hr2:=(hrm.mks hm).mono (yJ B) hm.size;refine ⟨h.q.mkg hm hS (by decide),hp.mkg hm hS (by decide),h.k.upd hih hi hga Gq hm hr hn,h.m.mkg hm hS (by decide),h.c.mkg hm hS (by decide),hr2.1,hr2.2.1,hr2.2.2.1,hr2.2.2.2.1,fun v hv=>?_⟩;rcases List.mem_or_eq_of_mem_set hv with hv | rfl
  ·exact hr2.2.2.2.2 v hv
  ·have:=hr2.2.2.2.2 _ (yM hih);rw [hga] at this;exact this
 have ZQ:=(lV hs i hih).2.2;have c2:w.cell? ⟨pg,i*3+2,none⟩=some (.slice (some ⟨ga,0,none⟩) hs[i].len hs[i].cap):=by rw [←hga];exact qw.cell ZQ
 have hck:=(l9 s.apps[i].asks k hk).2.2.1;have ck:w.cell? ⟨ga,k*5+2,none⟩=some (.int .i64 s.apps[i].asks[k].count):=GI.cell hck;have fk:w.frozen? ⟨ga,k*5+2,none⟩=false:=GI.frozen _;have fp:∀w1,Mks (fun b=>b=ga) w w1→w1.frozen? ⟨pg,i*3+2,none⟩=false:=fun w1 hm=>(hm.cel _ _ _ qw.cel).frozen _
 have CD:=aA (aBE ga (M*5) hs[i].cap k s.apps[i].asks w GI hk (by rw [←hln];exact hlc) hfl (Nat.mul_le_mul_right _ (by omega)));have k0:(0:Int)≤k:=by omega
 have k1:(k:Int)<hs[i].len:=by omega
 have hwk:IntKind.i64.wrap ((k:Int)+1)=(k:Int)+1:=by rw [IntKind.wrap_i64];omega
 have Q8:hs.set i ⟨hs[i].id,hs[i].queue,some ⟨ga,0,none⟩,hs[i].len,hs[i].cap⟩=hs:=by rw [←hga];exact List.set_getElem_self hih
 by_cases hc:1<s.apps[i].asks[k].count
 ·have HA:=aA (show aHU B y s (i,k) w (.returned (.tuple #[])) (w.setCell ⟨ga,k*5+2,none⟩ (.int .i64 (s.apps[i].asks[k].count - 1))) from by
   have hl2:=aDE GI (p:=k*5+2) (by rw [bG];omega) (.int .i64 (s.apps[i].asks[k].count - 1));rw [←tK s.apps[i].asks k hk] at hl2;have hr:=hl2.rowA;rw [List.length_set,←hln] at hr;have hm:Mks (fun b=>b=ga) w (w.setCell ⟨ga,k*5+2,none⟩ (.int .i64 (s.apps[i].asks[k].count - 1))):=Mks.one _ _ _ _ _ rfl;obtain ⟨a1,a2,a3,a4,a5,a6⟩:=keep _ _ _ hm hr (yJ _);rw [Q8] at a3 a6;refine ⟨rfl,hs,⟨a1,by rw [qj];exact a2,?_,a4,a5,h.cap,a6⟩,hm.wide (fun b e=>by subst e;exact ⟨hB,_,.inr GQ⟩)⟩;(show jG B _ hs (bH s.apps (i,k)));rw [rV _ _ _ hi,vZ hk hc];exact a3)
  obtain ⟨n,hn⟩:∃n,hs[i].len=n:=⟨_,rfl⟩;obtain ⟨c,hcc⟩:∃n,hs[i].cap=n:=⟨_,rfl⟩;obtain ⟨ct,KG⟩:∃n,s.apps[i].asks[k].count=n:=⟨_,rfl⟩;rw [hn,hcc] at c2;rw [hn] at k1;rw [KG] at ck HA hc hct;have hwc:IntKind.i64.wrap (ct - 1)=ct - 1:=by rw [IntKind.wrap_i64];omega
  clear h qj hf GI qw keep CD ZQ hck fp Q8 Hz GQ hM P8 hih hal e0 e1 hlc hln Gq hga hB hgl hp YU hpl PL hfl hrm hn hcc KG hwk hct;go_enter func111,ntmps111;go_wp2;first | go_end0 | (simp only [Exit.inBlock,Exit.then];refine bodyPost_ret (results_none rfl _ _ _) rfl ?_) | refine bodyPost_ret (results_none rfl _ _ _) rfl ?_
  exact uH HA
 ·have HB:=aA (show ∀w1,Lay w1 43 ga (M*5) (aR (s.apps[i].asks.eraseIdx k))→Mks (fun b=>b=ga) w w1→aHU B y s (i,k) w (.returned (.tuple #[])) (w1.setCell ⟨pg,i*3+2,none⟩ (.slice (some ⟨ga,0,none⟩) (s.apps[i].asks.length - 1) hs[i].cap)) from fun w1 hl2 hm=>by
   have hr:=hl2.rowA;rw [List.length_eraseIdx_of_lt hk] at hr;obtain ⟨a1,a2,a3,a4,a5,a6⟩:=keep _ _ _ hm hr (by omega);have hm2:Mks (fun b=>b=pg) w1 (w1.setCell ⟨pg,i*3+2,none⟩ (.slice (some ⟨ga,0,none⟩) (s.apps[i].asks.length - 1) hs[i].cap)):=Mks.one _ _ _ _ _ rfl;(have hS:∀b,b=pg→∃N,Cel w1 56 b N:=fun b e=>by subst e;exact ⟨_,hm.cel _ _ _ qw.cel⟩);refine ⟨rfl,_,⟨a1.mkg hm2 hS (by decide),by rw [qj];exact a2.upd hih (some ⟨ga,0,none⟩) (s.apps[i].asks.length - 1) hs[i].cap,?_,a4.mkg hm2 hS (by decide),a5.mkg hm2 hS (by decide),h.cap,(a6.mks hm2).mono (yJ _) hm2.size⟩,(hm.wide (fun b e=>by subst e;exact ⟨hB,_,.inr GQ⟩)).trans (hm2.wide (fun b e=>by subst e;exact ⟨YU,_,.inl qw.cel⟩))⟩;(show jG B _ _ (bH s.apps (i,k)));rw [rV _ _ _ hi,wB hk hc];exact a3.mkg hm2 hS (by decide))
  have qy:=aA (show ∀w1,Mks (fun b=>b=ga) w w1→(w1.cell? ⟨pg,i*3+2,none⟩).isSome=true from fun w1 hm=>(hm.cel _ _ _ qw.cel).isThere (by have:=Nat.mul_le_mul_right 3 (show i+1≤Mp by omega);omega));have FP:=aA fp;rw [←hln] at CD HB;obtain ⟨n,hn⟩:∃n,hs[i].len=n:=⟨_,rfl⟩;obtain ⟨c,hcc⟩:∃n,hs[i].cap=n:=⟨_,rfl⟩;obtain ⟨ct,KG⟩:∃n,s.apps[i].asks[k].count=n:=⟨_,rfl⟩;rw [hn,hcc] at c2;rw [hn] at k1;rw [hn,hcc] at CD HB;rw [KG] at ck hc;clear h qj hf GI qw keep ZQ hck fp Q8 Hz GQ hM P8 hih hal e0 e1 hlc hln Gq hga hB hgl hp YU hpl PL hfl hrm hn hcc KG hct fk;go_enter func111,ntmps111;go_wp2_with fail;refine (uH CD).mono ?_;rintro e w1 ⟨rfl,hl2,hm⟩;obtain ⟨old,QL⟩:=Option.isSome_iff_exists.1 (uH qy w1 hm);have f1:=uH FP w1 hm;have HA:=aA (uH HB w1 hl2 hm);clear hl2 hm CD qy FP HB c2 ck;go_wp2;first | go_end0 | (simp only [Exit.inBlock,Exit.then];refine bodyPost_ret (results_none rfl _ _ _) rfl ?_) | refine bodyPost_ret (results_none rfl _ _ _) rfl ?_
  exact uH HA
end
section
open Go.RowKit Go.Maps
variable {g1 g2:Nat} {ta tc:TypeId} {W:World}
def atR:Option ((Nat×Nat)×Con)→Int×Int
  | some r=>((r.1.1:Int),(r.1.2:Int))
  | none=>(0,0)
theorem oL (h1:Blk W g1 #[.int .i64 0,.int .i64 0] ta) (h2:Blk W g2 #[.int .i64 0,.int .i64 0,.string .empty,.int .i64 0,.int .i64 0] tc) (hn:g1≠g2) (i k:Int) :
    W.cell? ⟨g1,0,none⟩=some (.int .i64 0)∧W.cell? ⟨g1,1,none⟩=some (.int .i64 0)∧W.frozen? ⟨g1,0,none⟩=false∧W.frozen? ⟨g1,1,none⟩=false∧((W.setCell ⟨g1,0,none⟩ (.int .i64 i)).setCell ⟨g1,1,none⟩ (.int .i64 k)).cell? ⟨g2,0,none⟩=some (.int .i64 0)∧((W.setCell ⟨g1,0,none⟩ (.int .i64 i)).setCell ⟨g1,1,none⟩ (.int .i64 k)).cell? ⟨g2,1,none⟩=some (.int .i64 0)∧((W.setCell ⟨g1,0,none⟩ (.int .i64 i)).setCell ⟨g1,1,none⟩ (.int .i64 k)).cell? ⟨g2,2,none⟩=some (.string .empty)∧((W.setCell ⟨g1,0,none⟩ (.int .i64 i)).setCell ⟨g1,1,none⟩ (.int .i64 k)).cell? ⟨g2,3,none⟩=some (.int .i64 0)∧((W.setCell ⟨g1,0,none⟩ (.int .i64 i)).setCell ⟨g1,1,none⟩ (.int .i64 k)).cell? ⟨g2,4,none⟩=some (.int .i64 0)∧((W.setCell ⟨g1,0,none⟩ (.int .i64 i)).setCell ⟨g1,1,none⟩ (.int .i64 k)).frozen? ⟨g2,0,none⟩=false∧((W.setCell ⟨g1,0,none⟩ (.int .i64 i)).setCell ⟨g1,1,none⟩ (.int .i64 k)).frozen? ⟨g2,1,none⟩=false∧((W.setCell ⟨g1,0,none⟩ (.int .i64 i)).setCell ⟨g1,1,none⟩ (.int .i64 k)).frozen? ⟨g2,2,none⟩=false∧((W.setCell ⟨g1,0,none⟩ (.int .i64 i)).setCell ⟨g1,1,none⟩ (.int .i64 k)).frozen? ⟨g2,3,none⟩=false∧((W.setCell ⟨g1,0,none⟩ (.int .i64 i)).setCell ⟨g1,1,none⟩ (.int .i64 k)).frozen? ⟨g2,4,none⟩=false:=by
  have h3:=(h2.other g1 0 (.int .i64 i) (fun e=>hn e.symm)).other g1 1 (.int .i64 k) (fun e=>hn e.symm);exact ⟨h1.at 0,h1.at 1,h1.f 0,h1.f 1,h3.at 0,h3.at 1,h3.at 2,h3.at 3,h3.at 4,h3.f 0,h3.f 1,h3.f 2,h3.f 3,h3.f 4⟩
theorem aAK (h1:Blk W g1 #[.int .i64 0,.int .i64 0] ta) (h2:Blk W g2 #[.int .i64 0,.int .i64 0,.string .empty,.int .i64 0,.int .i64 0] tc) (hn:g1≠g2) (i k id ap:Int) (sn:ByteArray) (me cp:Int) :
    Blk (((((((W.setCell ⟨g1,0,none⟩ (.int .i64 i)).setCell ⟨g1,1,none⟩ (.int .i64 k)).setCell ⟨g2,0,none⟩ (.int .i64 id)).setCell ⟨g2,1,none⟩ (.int .i64 ap)).setCell ⟨g2,2,none⟩ (.string sn)).setCell ⟨g2,3,none⟩ (.int .i64 me)).setCell ⟨g2,4,none⟩ (.int .i64 cp)) g1 #[.int .i64 i,.int .i64 k] ta∧Blk (((((((W.setCell ⟨g1,0,none⟩ (.int .i64 i)).setCell ⟨g1,1,none⟩ (.int .i64 k)).setCell ⟨g2,0,none⟩ (.int .i64 id)).setCell ⟨g2,1,none⟩ (.int .i64 ap)).setCell ⟨g2,2,none⟩ (.string sn)).setCell ⟨g2,3,none⟩ (.int .i64 me)).setCell ⟨g2,4,none⟩ (.int .i64 cp)) g2 #[.int .i64 id,.int .i64 ap,.string sn,.int .i64 me,.int .i64 cp] tc:=
  ⟨((((((h1.set 0 (.int .i64 i)).set 1 (.int .i64 k)).other g2 0 (.int .i64 id) hn).other g2 1 (.int .i64 ap) hn).other g2 2 (.string sn) hn).other g2 3 (.int .i64 me) hn).other g2 4 (.int .i64 cp) hn,
   ((((((h2.other g1 0 (.int .i64 i) (fun e=>hn e.symm)).other g1 1 (.int .i64 k) (fun e=>hn e.symm)).set 0 (.int .i64 id)).set 1 (.int .i64 ap)).set 2 (.string sn)).set 3 (.int .i64 me)).set 4 (.int .i64 cp)⟩
theorem oM {w:World} (h:Bw w W) (h1:w.heap.size≤g1) (h2:w.heap.size≤g2) (i k id ap:Int) (sn:ByteArray) (me cp:Int):Bw w (((((((W.setCell ⟨g1,0,none⟩ (.int .i64 i)).setCell ⟨g1,1,none⟩ (.int .i64 k)).setCell ⟨g2,0,none⟩ (.int .i64 id)).setCell ⟨g2,1,none⟩ (.int .i64 ap)).setCell ⟨g2,2,none⟩ (.string sn)).setCell ⟨g2,3,none⟩ (.int .i64 me)).setCell ⟨g2,4,none⟩ (.int .i64 cp)):=
  yC (yC (yC (yC (yC (yC (yC h g1 0 _ h1) g1 1 _ h1) g2 0 _ h2) g2 1 _ h2) g2 2 _ h2) g2 3 _ h2) g2 4 _ h2
theorem aDw (x:Sls) (s:St) (nd:List UInt8) (w:World) (h:gW w x s) (hf:dB s) (hc:x.ql≤x.qc) (hw:yQ s) (hnd:nd.length≤1048576) :
  cP 43 #[sv x s,.string (bs nd)] w fun e w'=>e=.returned (.tuple #[rv (atR (aS s nd)).1 (atR (aS s nd)).2,conv (jX (aS s nd)),.bool (aS s nd).isSome])∧Bw w w':=by
 have CK:=aA (fun wx (hb:Bw w wx)=>nS x s wx (h.below hb) hf hc hw);have CH:=aA (fun wx (hb:Bw w wx)=>zL x s nd wx (h.below hb) hf hnd);have CN:=aA (fun (ho:aY s=true) wx (hb:Bw w wx)=>aEk x s wx (h.below hb) hf (qQ ho).1 (qQ ho).2.1 (qQ ho).2.2);have CF:=aA (fun wx (hb:Bw w wx)=>aCJ x s nd wx (h.below hb) hf hc hw hnd);have HR:=aA h.2.1;have hcl:x.cl=s.cs.length:=h.len.2.2.2;have hcm:x.cl≤1048576:=by have:=hf.2.2.2.1;omega
 have HG:=aA (show aS s nd=if aY s=true then (if ((bL nd s.ms).isSome&&(decide (x.cl<150)&&lL s))=true then (nE s nd).map fun r=>(r,nT s nd r) else none) else none by rw [aS,pR,aJs,hcl]);have HP:=aA (fun (r:Nat×Nat) (hr:nE s nd=some r)=>aCq hr);have HC:=aA (fun (r:Nat×Nat) (h1:r.1<s.apps.length) (h2:r.2<s.apps[r.1].asks.length)=>xG (s:=s) (nd:=nd) h1 h2);have QP:=aA h.2.1.1;have hal:x.al≤1048576:=h.al hf;have QJ:=aA hf.2.1;obtain ⟨gv,hgv⟩:∃g,aS s nd=g:=⟨_,rfl⟩;obtain ⟨gc,hgc⟩:∃g,nT s nd=g:=⟨_,rfl⟩;obtain ⟨pk,hpk⟩:∃g,nE s nd=g:=⟨_,rfl⟩;obtain ⟨so,hso⟩:∃g,aY s=g:=⟨_,rfl⟩;obtain ⟨hm,hhm⟩:∃g,(bL nd s.ms).isSome=g:=⟨_,rfl⟩;obtain ⟨fr,hfr⟩:∃g,lL s=g:=⟨_,rfl⟩;obtain ⟨id,hid⟩:∃g,idV s=g:=⟨_,rfl⟩;rw [hgv,hso,hhm,hfr,hpk,hgc] at HG;rw [hgv];rw [hso] at CK CN;rw [hhm] at CH;rw [hid,hfr] at CN;rw [hpk] at CF HP;rw [hgc,hid] at HC;obtain ⟨⟨pi,pj,pb⟩,hpl⟩:∃g,plR pk=g:=⟨_,rfl⟩;rw [hpl] at CF;simp only at CF;have QQ:=aA hpl;clear hpl;clear h hf hc hw hgv hgc hpk hso hhm hfr hid hcl;have hs:(bs nd).size≤281474976710656:=by rw [cK];omega
 obtain ⟨qa,ql,qc,aa,al,ac,ma,ml,mc,ca,cl,cc⟩:=x;obtain ⟨qs,cv,ez,ny,sj,aj,ms,cs⟩:=s;simp only at CK CH CN CF HR HG HC HP QP QJ hal hcm;have HB0:=aA (yA (yA (yA (yH _ w) (.cells (svc ⟨qa,ql,qc,aa,al,ac,ma,ml,mc,ca,cl,cc⟩ ⟨qs,cv,ez,ny,sj,aj,ms,cs⟩) 29)) (.cells #[.int .i64 0,.int .i64 0] 73)) (.cells #[.int .i64 0,.int .i64 0,.string .empty,.int .i64 0,.int .i64 0] 35));have P0:=aA (((yD w (svc ⟨qa,ql,qc,aa,al,ac,ma,ml,mc,ca,cl,cc⟩ ⟨qs,cv,ez,ny,sj,aj,ms,cs⟩) 29).al (.cells #[.int .i64 0,.int .i64 0] 73)).al (.cells #[.int .i64 0,.int .i64 0,.string .empty,.int .i64 0,.int .i64 0] 35));have R0:=aA (show Blk _ (w.heap.size+1) #[.int .i64 0,.int .i64 0] 73 by have:=(yD (w.alloc (.cells (svc ⟨qa,ql,qc,aa,al,ac,ma,ml,mc,ca,cl,cc⟩ ⟨qs,cv,ez,ny,sj,aj,ms,cs⟩) 29)) #[.int .i64 0,.int .i64 0] 73).al (.cells #[.int .i64 0,.int .i64 0,.string .empty,.int .i64 0,.int .i64 0] 35);rw [yE] at this;exact this);have T0:=aA (show Blk _ (w.heap.size+1+1) #[.int .i64 0,.int .i64 0,.string .empty,.int .i64 0,.int .i64 0] 35 by have:=yD ((w.alloc (.cells (svc ⟨qa,ql,qc,aa,al,ac,ma,ml,mc,ca,cl,cc⟩ ⟨qs,cv,ez,ny,sj,aj,ms,cs⟩) 29)).alloc (.cells #[.int .i64 0,.int .i64 0] 73)) #[.int .i64 0,.int .i64 0,.string .empty,.int .i64 0,.int .i64 0] 35;rw [yE,yE] at this;exact this);go_enter func43,ntmps43;go_wp2_with fail;refine (uH CK _ (uH HB0)).mono ?_;rintro e w1 ⟨rfl,hb⟩;have HB1:=aA (yB (uH HB0) hb);have P1:=aA ((uH P0).below hb);have R1:=aA ((uH R0).below hb);have T1:=aA ((uH T0).below hb);clear hb HB0 P0 R0 T0 CK;obtain ⟨q0,q1,q2,q3,q4,q5,q6,q7⟩:=zq (uH P1);cases so;case false=>have HE:=aA (show gv=none from by rw [uH HG];rfl);obtain ⟨k0,k1,k2,k3,k4,k5,k6,k7,k8,k9,k10,k11,k12,k13⟩:=oL (uH R1) (uH T1) (by omega) 0 0;have HX:=aA (aAK (uH R1) (uH T1) (by omega) 0 0 0 0 (⟨#[]⟩:ByteArray) 0 0);have HY:=aA (oM (uH HB1) (g1:=w.heap.size+1) (g2:=w.heap.size+1+1) (by omega) (by omega) 0 0 0 0 (⟨#[]⟩:ByteArray) 0 0);go_wp2;generalize (((((((w1.setCell ⟨w.heap.size+1,0,none⟩ (.int .i64 0)).setCell ⟨w.heap.size+1,1,none⟩ (.int .i64 0)).setCell ⟨w.heap.size+1+1,0,none⟩ (.int .i64 0)).setCell ⟨w.heap.size+1+1,1,none⟩ (.int .i64 0)).setCell ⟨w.heap.size+1+1,2,none⟩ (.string (⟨#[]⟩:ByteArray))).setCell ⟨w.heap.size+1+1,3,none⟩ (.int .i64 0)).setCell ⟨w.heap.size+1+1,4,none⟩ (.int .i64 0))=W9 at HX HY ⊢;have z0:=(uH HX).1.at 0;have z1:=(uH HX).1.at 1;have z2:=(uH HX).2.at 0;have z3:=(uH HX).2.at 1;have z4:=(uH HX).2.at 2;have z5:=(uH HX).2.at 3;have z6:=(uH HX).2.at 4;simp at z0 z1 z2 z3 z4 z5 z6;refine bodyPost_ret (v:=.tuple #[rv 0 0,conv ⟨0,0,[],0,0⟩,.bool false]) (by simp [results,results43,go_sem,z0,z1,z2,z3,z4,z5,z6];try rfl) rfl ⟨by rw [uH HE];rfl,uH HY⟩
 case true=>
  go_wp2_with fail
  refine (uH CH _ (uH HB1)).mono ?_;rintro e w2 ⟨rfl,hb⟩;have HB2:=aA (yB (uH HB1) hb);have P2:=aA ((uH P1).below hb);have R2:=aA ((uH R1).below hb);have T2:=aA ((uH T1).below hb);clear hb HB1 P1 R1 T1 q0 q1 q2 q3 q4 q5 q6 q7;clear CH;obtain ⟨q0,q1,q2,q3,q4,q5,q6,q7⟩:=zq (uH P2);cases hm;case false=>have HE:=aA (show gv=none from by rw [uH HG];rfl);obtain ⟨k0,k1,k2,k3,k4,k5,k6,k7,k8,k9,k10,k11,k12,k13⟩:=oL (uH R2) (uH T2) (by omega) 0 0;have HX:=aA (aAK (uH R2) (uH T2) (by omega) 0 0 0 0 (⟨#[]⟩:ByteArray) 0 0);have HY:=aA (oM (uH HB2) (g1:=w.heap.size+1) (g2:=w.heap.size+1+1) (by omega) (by omega) 0 0 0 0 (⟨#[]⟩:ByteArray) 0 0);go_wp2;generalize (((((((w2.setCell ⟨w.heap.size+1,0,none⟩ (.int .i64 0)).setCell ⟨w.heap.size+1,1,none⟩ (.int .i64 0)).setCell ⟨w.heap.size+1+1,0,none⟩ (.int .i64 0)).setCell ⟨w.heap.size+1+1,1,none⟩ (.int .i64 0)).setCell ⟨w.heap.size+1+1,2,none⟩ (.string (⟨#[]⟩:ByteArray))).setCell ⟨w.heap.size+1+1,3,none⟩ (.int .i64 0)).setCell ⟨w.heap.size+1+1,4,none⟩ (.int .i64 0))=W9 at HX HY ⊢;have z0:=(uH HX).1.at 0;have z1:=(uH HX).1.at 1;have z2:=(uH HX).2.at 0;have z3:=(uH HX).2.at 1;have z4:=(uH HX).2.at 2;have z5:=(uH HX).2.at 3;have z6:=(uH HX).2.at 4;simp at z0 z1 z2 z3 z4 z5 z6;refine bodyPost_ret (v:=.tuple #[rv 0 0,conv ⟨0,0,[],0,0⟩,.bool false]) (by simp [results,results43,go_sem,z0,z1,z2,z3,z4,z5,z6];try rfl) rfl ⟨by rw [uH HE];rfl,uH HY⟩
  case true=>
   by_cases hlt:cl<150;case neg=>have HE:=aA (show gv=none from by rw [uH HG,decide_eq_false hlt];rfl);(have hl1:(150:Int)≤cl:=by omega);obtain ⟨k0,k1,k2,k3,k4,k5,k6,k7,k8,k9,k10,k11,k12,k13⟩:=oL (uH R2) (uH T2) (by omega) 0 0;have HX:=aA (aAK (uH R2) (uH T2) (by omega) 0 0 0 0 (⟨#[]⟩:ByteArray) 0 0);have HY:=aA (oM (uH HB2) (g1:=w.heap.size+1) (g2:=w.heap.size+1+1) (by omega) (by omega) 0 0 0 0 (⟨#[]⟩:ByteArray) 0 0);go_wp2;generalize (((((((w2.setCell ⟨w.heap.size+1,0,none⟩ (.int .i64 0)).setCell ⟨w.heap.size+1,1,none⟩ (.int .i64 0)).setCell ⟨w.heap.size+1+1,0,none⟩ (.int .i64 0)).setCell ⟨w.heap.size+1+1,1,none⟩ (.int .i64 0)).setCell ⟨w.heap.size+1+1,2,none⟩ (.string (⟨#[]⟩:ByteArray))).setCell ⟨w.heap.size+1+1,3,none⟩ (.int .i64 0)).setCell ⟨w.heap.size+1+1,4,none⟩ (.int .i64 0))=W9 at HX HY ⊢;have z0:=(uH HX).1.at 0;have z1:=(uH HX).1.at 1;have z2:=(uH HX).2.at 0;have z3:=(uH HX).2.at 1;have z4:=(uH HX).2.at 2;have z5:=(uH HX).2.at 3;have z6:=(uH HX).2.at 4;simp at z0 z1 z2 z3 z4 z5 z6;refine bodyPost_ret (v:=.tuple #[rv 0 0,conv ⟨0,0,[],0,0⟩,.bool false]) (by simp [results,results43,go_sem,z0,z1,z2,z3,z4,z5,z6];try rfl) rfl ⟨by rw [uH HE];rfl,uH HY⟩
   (have hl1:¬(150:Int)≤cl:=by omega);have HG2:=aA (show gv=if fr=true then pk.map (fun r=>(r,gc r)) else none from by rw [uH HG,decide_eq_true hlt];simp);clear HG;(go_wp2_with fail);refine (uH CN (by first | rfl | trivial) _ (uH HB2)).mono ?_;rintro e w3 ⟨rfl,hb⟩;have HB3:=aA (yB (uH HB2) hb);have P3:=aA ((uH P2).below hb);have R3:=aA ((uH R2).below hb);have T3:=aA ((uH T2).below hb);clear hb HB2 P2 R2 T2 q0 q1 q2 q3 q4 q5 q6 q7;clear CN;obtain ⟨q0,q1,q2,q3,q4,q5,q6,q7⟩:=zq (uH P3);(go_wp2_with fail);refine (uH CF _ (uH HB3)).mono ?_;rintro e w4 ⟨rfl,hb⟩;have GD:=aA (yB (uH HB3) hb);have P4:=aA ((uH P3).below hb);have R4:=aA ((uH R3).below hb);have T4:=aA ((uH T3).below hb);have WS:=aA ((uH T4).lt);clear hb HB3 P3 R3 T3 q0 q1 q2 q3 q4 q5 q6 q7;clear CF;have Gj:=aA (yA (uH GD) (.cells #[.int .i64 pi,.int .i64 pj] 73));have P5:=aA ((uH P4).al (.cells #[.int .i64 pi,.int .i64 pj] 73));have R5:=aA ((uH R4).al (.cells #[.int .i64 pi,.int .i64 pj] 73));have T5:=aA ((uH T4).al (.cells #[.int .i64 pi,.int .i64 pj] 73));have A5:=aA (yD w4 #[.int .i64 pi,.int .i64 pj] 73);clear GD P4 R4 T4;cases fr;case false=>have HE:=aA (show gv=none from by rw [uH HG2];rfl);obtain ⟨k0,k1,k2,k3,k4,k5,k6,k7,k8,k9,k10,k11,k12,k13⟩:=oL (uH R5) (uH T5) (by omega) 0 0;have HX:=aA (aAK (uH R5) (uH T5) (by omega) 0 0 0 0 (⟨#[]⟩:ByteArray) 0 0);have HY:=aA (oM (uH Gj) (g1:=w.heap.size+1) (g2:=w.heap.size+1+1) (by omega) (by omega) 0 0 0 0 (⟨#[]⟩:ByteArray) 0 0);go_wp2;generalize ((((((((w4.alloc (.cells #[.int .i64 pi,.int .i64 pj] 73)).setCell ⟨w.heap.size+1,0,none⟩ (.int .i64 0)).setCell ⟨w.heap.size+1,1,none⟩ (.int .i64 0)).setCell ⟨w.heap.size+1+1,0,none⟩ (.int .i64 0)).setCell ⟨w.heap.size+1+1,1,none⟩ (.int .i64 0)).setCell ⟨w.heap.size+1+1,2,none⟩ (.string (⟨#[]⟩:ByteArray))).setCell ⟨w.heap.size+1+1,3,none⟩ (.int .i64 0)).setCell ⟨w.heap.size+1+1,4,none⟩ (.int .i64 0))=W9 at HX HY ⊢;have z0:=(uH HX).1.at 0;have z1:=(uH HX).1.at 1;have z2:=(uH HX).2.at 0;have z3:=(uH HX).2.at 1;have z4:=(uH HX).2.at 2;have z5:=(uH HX).2.at 3;have z6:=(uH HX).2.at 4;simp at z0 z1 z2 z3 z4 z5 z6;refine bodyPost_ret (v:=.tuple #[rv 0 0,conv ⟨0,0,[],0,0⟩,.bool false]) (by simp [results,results43,go_sem,z0,z1,z2,z3,z4,z5,z6];try rfl) rfl ⟨by rw [uH HE];rfl,uH HY⟩
   case true=>
    cases pb;case false=>
     have HE:=aA (show gv=none from by
      have h1:=uH QQ;rw [uH HG2];cases pk with
      | none=>rfl
      | some r=>simp [plR] at h1)
     obtain ⟨k0,k1,k2,k3,k4,k5,k6,k7,k8,k9,k10,k11,k12,k13⟩:=oL (uH R5) (uH T5) (by omega) 0 0;have HX:=aA (aAK (uH R5) (uH T5) (by omega) 0 0 0 0 (⟨#[]⟩:ByteArray) 0 0);have HY:=aA (oM (uH Gj) (g1:=w.heap.size+1) (g2:=w.heap.size+1+1) (by omega) (by omega) 0 0 0 0 (⟨#[]⟩:ByteArray) 0 0);go_wp2;generalize ((((((((w4.alloc (.cells #[.int .i64 pi,.int .i64 pj] 73)).setCell ⟨w.heap.size+1,0,none⟩ (.int .i64 0)).setCell ⟨w.heap.size+1,1,none⟩ (.int .i64 0)).setCell ⟨w.heap.size+1+1,0,none⟩ (.int .i64 0)).setCell ⟨w.heap.size+1+1,1,none⟩ (.int .i64 0)).setCell ⟨w.heap.size+1+1,2,none⟩ (.string (⟨#[]⟩:ByteArray))).setCell ⟨w.heap.size+1+1,3,none⟩ (.int .i64 0)).setCell ⟨w.heap.size+1+1,4,none⟩ (.int .i64 0))=W9 at HX HY ⊢;have z0:=(uH HX).1.at 0;have z1:=(uH HX).1.at 1;have z2:=(uH HX).2.at 0;have z3:=(uH HX).2.at 1;have z4:=(uH HX).2.at 2;have z5:=(uH HX).2.at 3;have z6:=(uH HX).2.at 4;simp at z0 z1 z2 z3 z4 z5 z6;refine bodyPost_ret (v:=.tuple #[rv 0 0,conv ⟨0,0,[],0,0⟩,.bool false]) (by simp [results,results43,go_sem,z0,z1,z2,z3,z4,z5,z6];try rfl) rfl ⟨by rw [uH HE];rfl,uH HY⟩
    case true=>
     obtain ⟨i,k,BO,rfl,rfl⟩:∃i k:Nat,Hid (pk=some (i,k))∧(i:Int)=pi∧(k:Int)=pj:=by
      have h1:=uH QQ;cases hp:pk with
      | none=>rw [hp] at h1;simp [plR] at h1
      | some r=>rw [hp] at h1;simp only [plR,Prod.mk.injEq] at h1;exact ⟨r.1,r.2,aA rfl,h1.1,h1.2.1⟩
     obtain ⟨hkl,hjk⟩:=uH HP _ (uH BO);simp only at hkl hjk;have hgc:=uH HC (i,k) hkl hjk;simp only at hgc;(have hil:i<al:=by have:=uH QP;omega);obtain ⟨bb,off,rfl,Zj⟩:=(uH HR).at hil;have hfa:=(uH QJ).2 _ (yM hkl);obtain ⟨xo,xl,xc,c0,c1,c2,Hz,_⟩:=Zj hkl;replace c0:=Kp.cell (uH Gj) c0;replace c1:=Kp.cell (uH Gj) c1;replace c2:=Kp.cell (uH Gj) c2;obtain ⟨⟨ai,qu,asks⟩,hs'⟩:∃s,aj[i]=s:=⟨_,rfl⟩;(have YO:k<asks.length:=by have:=hjk;rw [hs'] at this;exact this);(have ZF:gc (i,k)=⟨id,ai,nd,asks[k].mem,asks[k].cpu⟩:=by simp only [hgc,hs']);rw [hs'] at c0 c1 Hz hfa;simp only at c0 c1 Hz;(have hxl:xl≤1048576:=by have h1:=Hz.1;have h2:=hfa.2.1;simp only at h2;omega);(have hkx:k<xl:=by have:=Hz.1;omega);have HA:=aA Hz;have HE:=aA (show gv=some ((i,k),gc (i,k)) from by rw [uH HG2,uH BO];rfl);obtain ⟨am,hsa⟩:∃s,asks[k]=s:=⟨_,rfl⟩;rw [hsa] at ZF;have WW:=aA ZF;(have i0:(0:Int)≤i:=by omega);(have i1:(i:Int)<al:=by omega);(have j0:(0:Int)≤k:=by omega);(have j1:(k:Int)<xl:=by omega);have a0:=(uH A5).at 0;have a1:=(uH A5).at 1;simp at a0 a1;obtain ⟨q0,q1,q2,q3,q4,q5,q6,q7⟩:=zq (uH P5);have GH:=yA (yH _ (w4.alloc (.cells #[.int .i64 (i:Int),.int .i64 (k:Int)] 73))) (.cells #[.int .i64 ai,.string (bs qu),.slice xo xl xc] 56);have GY:=aA (yB (uH Gj) GH);have R6:=aA ((uH R5).below GH);have T6:=aA ((uH T5).below GH);have A6:=aA ((uH A5).below GH);have B6:=aA (yD (w4.alloc (.cells #[.int .i64 (i:Int),.int .i64 (k:Int)] 73)) #[.int .i64 ai,.string (bs qu),.slice xo xl xc] 56);clear Zj hgc ZF hfa Hz hjk GH Gj P5 R5 T5 A5;have b0:=(uH B6).at 0;have b1:=(uH B6).at 1;have b2:=(uH B6).at 2;have a2:=(uH A6).at 0;have a3:=(uH A6).at 1;simp at b0 b1 b2 a2 a3;obtain ⟨ab,aoff,rfl,ha⟩:=(uH HA).at hkx;obtain ⟨d0,d1,d2,d3,d4⟩:=ha YO;rw [hsa] at d0 d1 d2 d3 d4;obtain ⟨me,cp,ct,nx,mi⟩:=am;simp only at d0 d1 d2 d3 d4 WW;have MN:w.heap.size+1+1<w4.heap.size:=uH WS;obtain ⟨g4,hg4⟩:∃g,w4.heap.size=g:=⟨_,rfl⟩;(go_wp2_with fail);(try rw [yE]);(try rw [hg4]);rw [hg4] at MN A6;have B7:=aA (show Blk _ (g4+1) #[.int .i64 ai,.string (bs qu),.slice (some ⟨ab,aoff,none⟩) xl xc] 56 from by have:=uH B6;rw [yE,hg4] at this;exact this);obtain ⟨W6,YS⟩:∃W,(w4.alloc (.cells #[.int .i64 (i:Int),.int .i64 (k:Int)] 73)).alloc (.cells #[.int .i64 ai,.string (bs qu),.slice (some ⟨ab,aoff,none⟩) xl xc] 56)=W:=⟨_,rfl⟩;rw [YS] at GY R6 T6 A6 B7;(try rw [YS]);clear a0 a1 a2 a3 b0 b1 b2 c0 c1 c2 q0 q1 q2 q3 q4 q5 q6 q7 ha B6 hg4 YS;have S6:=aA (show HBk w [(g4,#[.int .i64 (i:Int),.int .i64 (k:Int)],73),(g4+1,#[.int .i64 ai,.string (bs qu),.slice (some ⟨ab,aoff,none⟩) xl xc],56)] W6 from ⟨fun p hp=>by
      simp only [List.mem_cons,List.not_mem_nil,or_false] at hp;rcases hp with rfl | rfl
      ·exact uH A6
      ·exact uH B7,uH GY⟩)
     have R:∀wx,HBk w [(g4,#[.int .i64 (i:Int),.int .i64 (k:Int)],73),(g4+1,#[.int .i64 ai,.string (bs qu),.slice (some ⟨ab,aoff,none⟩) xl xc],56)] wx→wx.cell? ⟨g4,0,none⟩=some (.int .i64 (i:Int))∧wx.cell? ⟨g4,1,none⟩=some (.int .i64 (k:Int))∧wx.cell? ⟨g4+1,0,none⟩=some (.int .i64 ai)∧wx.cell? ⟨g4+1,1,none⟩=some (.string (bs qu))∧wx.cell? ⟨g4+1,2,none⟩=some (.slice (some ⟨ab,aoff,none⟩) xl xc)∧wx.cell? ⟨ab,aoff+k*5,none⟩=some (.int .i64 me)∧wx.cell? ⟨ab,aoff+k*5+1,none⟩=some (.int .i64 cp):=fun wx h=>by
      have v1:=h.blk (g:=g4) (c:=#[.int .i64 (i:Int),.int .i64 (k:Int)]) (t:=73) (by simp);have v2:=h.blk (g:=g4+1) (c:=#[.int .i64 ai,.string (bs qu),.slice (some ⟨ab,aoff,none⟩) xl xc]) (t:=56) (by simp);exact ⟨by simpa using v1.at 0,by simpa using v1.at 1,by simpa using v2.at 0,by simpa using v2.at 1,by simpa using v2.at 2,h.cell d0,h.cell d1⟩
     have hn1:∀p ∈ [(g4,#[Value.int .i64 (i:Int),.int .i64 (k:Int)],(73:TypeId)),(g4+1,#[.int .i64 ai,.string (bs qu),.slice (some ⟨ab,aoff,none⟩) xl xc],56)],p.1≠w.heap.size+1:=fun p hp=>by
      simp only [List.mem_cons,List.not_mem_nil,or_false] at hp;rcases hp with rfl | rfl<;>simp only<;>omega
     have hn2:∀p ∈ [(g4,#[Value.int .i64 (i:Int),.int .i64 (k:Int)],(73:TypeId)),(g4+1,#[.int .i64 ai,.string (bs qu),.slice (some ⟨ab,aoff,none⟩) xl xc],56)],p.1≠w.heap.size+1+1:=fun p hp=>by
      simp only [List.mem_cons,List.not_mem_nil,or_false] at hp;rcases hp with rfl | rfl<;>simp only<;>omega
     have vk:=aA hn1;have ZK:=aA hn2;(have hw1:w.heap.size≤w.heap.size+1:=by omega);(have hw2:w.heap.size≤w.heap.size+1+1:=by omega);clear hn1 hn2 d0 d1 d2 d3 d4;go_region_held3 (fun wx=>HBk w [(g4,#[.int .i64 (i:Int),.int .i64 (k:Int)],73),(g4+1,#[.int .i64 ai,.string (bs qu),.slice (some ⟨ab,aoff,none⟩) xl xc],56)] wx)
      (first | (with_reducible assumption) | (with_reducible exact (uH S6).drew))
      (first
      | (go_at_call 87;refine (iW (bs nd) _ hs).mono ?_;rintro e w7 ⟨rfl,hb⟩;have SA0:=HBk.call (uH S6).drew hb;have SA:=aA SA0;have SB1:=(show HBk w [(g4,#[.int .i64 (i:Int),.int .i64 (k:Int)],73),(g4+1,#[.int .i64 ai,.string (bs qu),.slice (some ⟨ab,aoff,none⟩) xl xc],56)] ((w7.setCell ⟨w.heap.size+1,0,none⟩ (.int .i64 (i:Int))).setCell ⟨w.heap.size+1,1,none⟩ (.int .i64 (k:Int))) from HBk.set (HBk.set SA0 _ _ _ hw1 (uH vk)) _ _ _ hw1 (uH vk));have SB2:=(show HBk w [(g4,#[.int .i64 (i:Int),.int .i64 (k:Int)],73),(g4+1,#[.int .i64 ai,.string (bs qu),.slice (some ⟨ab,aoff,none⟩) xl xc],56)] (((((((w7.setCell ⟨w.heap.size+1,0,none⟩ (.int .i64 (i:Int))).setCell ⟨w.heap.size+1,1,none⟩ (.int .i64 (k:Int))).setCell ⟨w.heap.size+1+1,0,none⟩ (.int .i64 id)).setCell ⟨w.heap.size+1+1,1,none⟩ (.int .i64 ai)).setCell ⟨w.heap.size+1+1,2,none⟩ (.string (bs nd))).setCell ⟨w.heap.size+1+1,3,none⟩ (.int .i64 me)).setCell ⟨w.heap.size+1+1,4,none⟩ (.int .i64 cp)) from HBk.set (HBk.set (HBk.set (HBk.set (HBk.set SB1 _ _ _ hw2 (uH ZK)) _ _ _ hw2 (uH ZK)) _ _ _ hw2 (uH ZK)) _ _ _ hw2 (uH ZK)) _ _ _ hw2 (uH ZK));have R7:=aA ((uH R6).drew.below hb);have T7:=aA ((uH T6).drew.below hb);obtain ⟨k0,k1,k2,k3,k4,k5,k6,k7,k8,k9,k10,k11,k12,k13⟩:=oL (uH R7) (uH T7) (by omega) (i:Int) (k:Int)))
     have HX:=aA (aAK (uH R7) (uH T7) (by omega) (i:Int) (k:Int) id ai (bs nd) me cp);have HY:=aA (oM (uH SA).2 (g1:=w.heap.size+1) (g2:=w.heap.size+1+1) (by omega) (by omega) (i:Int) (k:Int) id ai (bs nd) me cp);go_wp2;generalize (((((((w7.setCell ⟨w.heap.size+1,0,none⟩ (.int .i64 (i:Int))).setCell ⟨w.heap.size+1,1,none⟩ (.int .i64 (k:Int))).setCell ⟨w.heap.size+1+1,0,none⟩ (.int .i64 id)).setCell ⟨w.heap.size+1+1,1,none⟩ (.int .i64 ai)).setCell ⟨w.heap.size+1+1,2,none⟩ (.string (bs nd))).setCell ⟨w.heap.size+1+1,3,none⟩ (.int .i64 me)).setCell ⟨w.heap.size+1+1,4,none⟩ (.int .i64 cp))=W9 at HX HY ⊢;have z0:=(uH HX).1.at 0;have z1:=(uH HX).1.at 1;have z2:=(uH HX).2.at 0;have z3:=(uH HX).2.at 1;have z4:=(uH HX).2.at 2;have z5:=(uH HX).2.at 3;have z6:=(uH HX).2.at 4;simp at z0 z1 z2 z3 z4 z5 z6;refine bodyPost_ret (v:=.tuple #[rv (i:Int) (k:Int),conv ⟨id,ai,nd,me,cp⟩,.bool true]) (by simp [results,results43,go_sem,z0,z1,z2,z3,z4,z5,z6];try rfl) rfl ⟨by rw [uH HE,uH WW];rfl,uH HY⟩
end
section
open Go.RowKit
variable {l:List Q} {B n:Nat} {qo:Option Addr} {w w':World}
theorem aGH {B' sz:Nat} {t:TypeId} {v:Value} {xs:List Value} (h:w.ownsRow B t sz v n xs) (hb:B'≤B):w.ownsRow B' t sz v n xs:=by
 obtain ⟨h1,h2⟩:=h;rcases h2 with h2 | ⟨g,cap,cur,e,hg,r⟩
 ·exact ⟨h1,.inl h2⟩
 ·exact ⟨h1,.inr ⟨g,cap,cur,e,Nat.le_trans hb hg,r⟩⟩
theorem aCo {id:Int} {l:List Con} {k:Nat} (h:k<l.length):eG id (l.drop k)=if l[k].id<id then eG id (l.drop (k+1))+1 else 0:=by
 rw [List.drop_eq_getElem_cons h,eG]
theorem aJg (g n cap k:Nat) (hk:k≤cap) (wx:World):(Instr.slice 27 (.slice (some ⟨g,0,none⟩) n cap) none (some (.int .i64 (k:Int))) none).run Tryz.prog wx=.ok (.slice (some ⟨g,0,none⟩) k cap) wx:=by
 rw [run_slice_h (P:=Tryz.prog) (w:=wx) 27 (some ⟨g,0,none⟩) n cap underlying27 .i64 (k:Int) (by omega) (by omega)];rw [show (sizeOf (Tryz.prog.elem 27)).run Tryz.prog wx=.ok 5 wx from by kernel_rfl];simp [Result.andThen,sliced,Addr.add]
theorem aJh (g n cap k:Nat) (hk:k≤n) (wx:World):(Instr.slice 27 (.slice (some ⟨g,0,none⟩) n cap) (some (.int .i64 (k:Int))) none none).run Tryz.prog wx=.ok (.slice (some (hiA g cap k 5)) (n - k) (cap - k)) wx:=by
 rw [run_slice_l (P:=Tryz.prog) (w:=wx) 27 (some ⟨g,0,none⟩) n cap underlying27 .i64 (k:Int) (by omega) (by omega)];rw [show (sizeOf (Tryz.prog.elem 27)).run Tryz.prog wx=.ok 5 wx from by kernel_rfl];simp only [Result.andThen,sliced,Int.toNat_natCast,hiA];by_cases h:cap=k
 ·rw [if_pos h,if_pos h]
 ·rw [if_neg h,if_neg h];simp [Addr.add];try omega
def aL6 (w1:World) (g n0 cap j g3:Nat) (NC1 NC2:List Value) (c0 c1:Int) (cn:List UInt8) (c3 c4:Int) (x6 x7 x8 x9 x10 x11 x12 x13 x14 x15 x16 x17 x18 x19 x20 x21:Value) (n:Nat) (lz:Array Bool) (az:Act) (wz:World):Prop:=(n=6∧lz=#[false,true,true,true,false,true,false,false,true,true,true,false,false]∧az = { tmps:=#[.slice (some ⟨g,0,none⟩) n0 cap,.agg #[.int .i64 c0,.int .i64 c1,.string (bs cn),.int .i64 c3,.int .i64 c4],undef,.pointer (some ⟨g3,0,none⟩),.slice none 0 0,.int .i64 (j:Int),x6,x7,x8,x9,x10,x11,x12,x13,x14,x15,x16,x17,x18,x19,x20,x21,undef,.slice (some ⟨g,0,none⟩) n0 cap,.int .i64 (j:Int),.slice (some ⟨g,0,none⟩) j cap,undef,.agg #[.int .i64 c0,.int .i64 c1,.string (bs cn),.int .i64 c3,.int .i64 c4],undef,undef,.slice (some ⟨g,0,none⟩) n0 cap,.int .i64 (j:Int),.slice (some (hiA g cap j 5)) (n0 - j) (cap - j),undef],defers:=[] }∧Kp w1 wz)
def aL5 (w1:World) (g n0 cap j g3:Nat) (NC1 NC2:List Value) (c0 c1:Int) (cn:List UInt8) (c3 c4:Int) (x6 x7 x8 x9 x10 x11 x12 x13 x14 x15 x16 x17 x18 x19 x20 x21:Value) (n:Nat) (lz:Array Bool) (az:Act) (wz:World):Prop:=(∃gb:Nat,n=5∧lz=#[false,true,true,true,false,true,true,false,true,true,true,false,false]∧az = { tmps:=#[.slice (some ⟨g,0,none⟩) n0 cap,.agg #[.int .i64 c0,.int .i64 c1,.string (bs cn),.int .i64 c3,.int .i64 c4],undef,.pointer (some ⟨g3,0,none⟩),.slice none 0 0,.int .i64 (j:Int),x6,x7,x8,x9,x10,x11,x12,x13,x14,x15,x16,x17,x18,x19,x20,x21,undef,.slice (some ⟨g,0,none⟩) n0 cap,.int .i64 (j:Int),.slice (some ⟨g,0,none⟩) j cap,undef,.agg #[.int .i64 c0,.int .i64 c1,.string (bs cn),.int .i64 c3,.int .i64 c4],.slice (some ⟨gb,0,none⟩) 1 1,undef,.slice (some ⟨g,0,none⟩) n0 cap,.int .i64 (j:Int),.slice (some (hiA g cap j 5)) (n0 - j) (cap - j),undef],defers:=[] }∧aC5 35 w1 wz gb #[.int .i64 c0,.int .i64 c1,.string (bs cn),.int .i64 c3,.int .i64 c4]∧Kp w1 wz)
def aL4 (w1:World) (g n0 cap j g3:Nat) (NC1 NC2:List Value) (c0 c1:Int) (cn:List UInt8) (c3 c4:Int) (x6 x7 x8 x9 x10 x11 x12 x13 x14 x15 x16 x17 x18 x19 x20 x21:Value) (n:Nat) (lz:Array Bool) (az:Act) (wz:World):Prop:=(∃g0:Nat,n=5∧lz=#[true,true,true,true,false,true,false,false,true,true,true,false,false]∧az = { tmps:=#[.slice (some ⟨g,0,none⟩) n0 cap,.agg #[.int .i64 c0,.int .i64 c1,.string (bs cn),.int .i64 c3,.int .i64 c4],undef,.pointer (some ⟨g3,0,none⟩),.slice none 0 0,.int .i64 (j:Int),x6,x7,x8,x9,x10,x11,x12,x13,x14,x15,x16,x17,x18,x19,x20,x21,.slice (some ⟨g0,0,none⟩) 0 0,.slice (some ⟨g,0,none⟩) n0 cap,.int .i64 (j:Int),.slice (some ⟨g,0,none⟩) j cap,undef,.agg #[.int .i64 c0,.int .i64 c1,.string (bs cn),.int .i64 c3,.int .i64 c4],undef,undef,.slice (some ⟨g,0,none⟩) n0 cap,.int .i64 (j:Int),.slice (some (hiA g cap j 5)) (n0 - j) (cap - j),undef],defers:=[] }∧vQ 35 5 w1.heap.size wz (.slice (some ⟨g0,0,none⟩) 0 0) 0 []∧Kp w1 wz)
def aL3 (w1:World) (g n0 cap j g3:Nat) (NC1 NC2:List Value) (c0 c1:Int) (cn:List UInt8) (c3 c4:Int) (x6 x7 x8 x9 x10 x11 x12 x13 x14 x15 x16 x17 x18 x19 x20 x21:Value) (n:Nat) (lz:Array Bool) (az:Act) (wz:World):Prop:=(∃g0:Nat,∃gb:Nat,n=4∧lz=#[true,true,true,true,false,true,true,false,true,true,true,false,false]∧az = { tmps:=#[.slice (some ⟨g,0,none⟩) n0 cap,.agg #[.int .i64 c0,.int .i64 c1,.string (bs cn),.int .i64 c3,.int .i64 c4],undef,.pointer (some ⟨g3,0,none⟩),.slice none 0 0,.int .i64 (j:Int),x6,x7,x8,x9,x10,x11,x12,x13,x14,x15,x16,x17,x18,x19,x20,x21,.slice (some ⟨g0,0,none⟩) 0 0,.slice (some ⟨g,0,none⟩) n0 cap,.int .i64 (j:Int),.slice (some ⟨g,0,none⟩) j cap,undef,.agg #[.int .i64 c0,.int .i64 c1,.string (bs cn),.int .i64 c3,.int .i64 c4],.slice (some ⟨gb,0,none⟩) 1 1,undef,.slice (some ⟨g,0,none⟩) n0 cap,.int .i64 (j:Int),.slice (some (hiA g cap j 5)) (n0 - j) (cap - j),undef],defers:=[] }∧vQ 35 5 w1.heap.size wz (.slice (some ⟨g0,0,none⟩) 0 0) 0 []∧aC5 35 w1 wz gb #[.int .i64 c0,.int .i64 c1,.string (bs cn),.int .i64 c3,.int .i64 c4]∧gb≠g0∧Kp w1 wz)
def aL2 (w1:World) (g n0 cap j g3:Nat) (NC1 NC2:List Value) (c0 c1:Int) (cn:List UInt8) (c3 c4:Int) (x6 x7 x8 x9 x10 x11 x12 x13 x14 x15 x16 x17 x18 x19 x20 x21:Value) (n:Nat) (lz:Array Bool) (az:Act) (wz:World):Prop:=(∃g0:Nat,∃v1:Value,n=4∧lz=#[true,true,true,true,true,true,false,false,true,true,true,false,false]∧az = { tmps:=#[.slice (some ⟨g,0,none⟩) n0 cap,.agg #[.int .i64 c0,.int .i64 c1,.string (bs cn),.int .i64 c3,.int .i64 c4],undef,.pointer (some ⟨g3,0,none⟩),.slice none 0 0,.int .i64 (j:Int),x6,x7,x8,x9,x10,x11,x12,x13,x14,x15,x16,x17,x18,x19,x20,x21,.slice (some ⟨g0,0,none⟩) 0 0,.slice (some ⟨g,0,none⟩) n0 cap,.int .i64 (j:Int),.slice (some ⟨g,0,none⟩) j cap,v1,.agg #[.int .i64 c0,.int .i64 c1,.string (bs cn),.int .i64 c3,.int .i64 c4],undef,undef,.slice (some ⟨g,0,none⟩) n0 cap,.int .i64 (j:Int),.slice (some (hiA g cap j 5)) (n0 - j) (cap - j),undef],defers:=[] }∧vQ 35 5 w1.heap.size wz v1 j NC1∧Kp w1 wz)
def aL1 (w1:World) (g n0 cap j g3:Nat) (NC1 NC2:List Value) (c0 c1:Int) (cn:List UInt8) (c3 c4:Int) (x6 x7 x8 x9 x10 x11 x12 x13 x14 x15 x16 x17 x18 x19 x20 x21:Value) (n:Nat) (lz:Array Bool) (az:Act) (wz:World):Prop:=(∃g0:Nat,∃v1:Value,∃gb:Nat,n=3∧lz=#[true,true,true,true,true,true,true,false,true,true,true,false,false]∧az = { tmps:=#[.slice (some ⟨g,0,none⟩) n0 cap,.agg #[.int .i64 c0,.int .i64 c1,.string (bs cn),.int .i64 c3,.int .i64 c4],undef,.pointer (some ⟨g3,0,none⟩),.slice none 0 0,.int .i64 (j:Int),x6,x7,x8,x9,x10,x11,x12,x13,x14,x15,x16,x17,x18,x19,x20,x21,.slice (some ⟨g0,0,none⟩) 0 0,.slice (some ⟨g,0,none⟩) n0 cap,.int .i64 (j:Int),.slice (some ⟨g,0,none⟩) j cap,v1,.agg #[.int .i64 c0,.int .i64 c1,.string (bs cn),.int .i64 c3,.int .i64 c4],.slice (some ⟨gb,0,none⟩) 1 1,undef,.slice (some ⟨g,0,none⟩) n0 cap,.int .i64 (j:Int),.slice (some (hiA g cap j 5)) (n0 - j) (cap - j),undef],defers:=[] }∧vQ 35 5 w1.heap.size wz v1 j NC1∧aC5 35 w1 wz gb #[.int .i64 c0,.int .i64 c1,.string (bs cn),.int .i64 c3,.int .i64 c4]∧Kp w1 wz)
def aL0 (w1:World) (g n0 cap j g3:Nat) (NC1 NC2:List Value) (c0 c1:Int) (cn:List UInt8) (c3 c4:Int) (x6 x7 x8 x9 x10 x11 x12 x13 x14 x15 x16 x17 x18 x19 x20 x21:Value) (n:Nat) (lz:Array Bool) (az:Act) (wz:World):Prop:=(∃g0:Nat,∃v1:Value,∃gb:Nat,∃v2:Value,n=2∧lz=#[true,true,true,true,true,true,true,true,true,true,true,false,false]∧az = { tmps:=#[.slice (some ⟨g,0,none⟩) n0 cap,.agg #[.int .i64 c0,.int .i64 c1,.string (bs cn),.int .i64 c3,.int .i64 c4],undef,.pointer (some ⟨g3,0,none⟩),.slice none 0 0,.int .i64 (j:Int),x6,x7,x8,x9,x10,x11,x12,x13,x14,x15,x16,x17,x18,x19,x20,x21,.slice (some ⟨g0,0,none⟩) 0 0,.slice (some ⟨g,0,none⟩) n0 cap,.int .i64 (j:Int),.slice (some ⟨g,0,none⟩) j cap,v1,.agg #[.int .i64 c0,.int .i64 c1,.string (bs cn),.int .i64 c3,.int .i64 c4],.slice (some ⟨gb,0,none⟩) 1 1,v2,.slice (some ⟨g,0,none⟩) n0 cap,.int .i64 (j:Int),.slice (some (hiA g cap j 5)) (n0 - j) (cap - j),undef],defers:=[] }∧vQ 35 5 w1.heap.size wz v2 (j+1) (NC1++#[.int .i64 c0,.int .i64 c1,.string (bs cn),.int .i64 c3,.int .i64 c4].toList)∧Kp w1 wz)
def aLZ (w1:World) (g n0 cap j g3:Nat) (NC1 NC2:List Value) (c0 c1:Int) (cn:List UInt8) (c3 c4:Int) (x6 x7 x8 x9 x10 x11 x12 x13 x14 x15 x16 x17 x18 x19 x20 x21:Value) (n:Nat) (lz:Array Bool) (az:Act) (wz:World):Prop:=(∃g0:Nat,∃v1:Value,∃gb:Nat,∃v2:Value,∃v3:Value,n=1∧lz=#[true,true,true,true,true,true,true,true,true,true,true,true,false]∧az = { tmps:=#[.slice (some ⟨g,0,none⟩) n0 cap,.agg #[.int .i64 c0,.int .i64 c1,.string (bs cn),.int .i64 c3,.int .i64 c4],undef,.pointer (some ⟨g3,0,none⟩),.slice none 0 0,.int .i64 (j:Int),x6,x7,x8,x9,x10,x11,x12,x13,x14,x15,x16,x17,x18,x19,x20,x21,.slice (some ⟨g0,0,none⟩) 0 0,.slice (some ⟨g,0,none⟩) n0 cap,.int .i64 (j:Int),.slice (some ⟨g,0,none⟩) j cap,v1,.agg #[.int .i64 c0,.int .i64 c1,.string (bs cn),.int .i64 c3,.int .i64 c4],.slice (some ⟨gb,0,none⟩) 1 1,v2,.slice (some ⟨g,0,none⟩) n0 cap,.int .i64 (j:Int),.slice (some (hiA g cap j 5)) (n0 - j) (cap - j),v3],defers:=[] }∧vQ 35 5 w1.heap.size wz v3 (j+1+(n0 - j)) (NC1++#[.int .i64 c0,.int .i64 c1,.string (bs cn),.int .i64 c3,.int .i64 c4].toList++NC2)∧Kp w1 wz)
def aLY (w1:World) (g n0 cap j g3:Nat) (NC1 NC2:List Value) (c0 c1:Int) (cn:List UInt8) (c3 c4:Int) (x6 x7 x8 x9 x10 x11 x12 x13 x14 x15 x16 x17 x18 x19 x20 x21:Value) (n:Nat) (lz:Array Bool) (az:Act) (wz:World):Prop:=(∃g0:Nat,∃v1:Value,∃gb:Nat,∃v2:Value,∃v3:Value,n=0∧lz=#[true,true,true,true,true,true,true,true,true,true,true,true,true]∧az = { tmps:=#[.slice (some ⟨g,0,none⟩) n0 cap,.agg #[.int .i64 c0,.int .i64 c1,.string (bs cn),.int .i64 c3,.int .i64 c4],undef,.pointer (some ⟨g3,0,none⟩),v3,.int .i64 (j:Int),x6,x7,x8,x9,x10,x11,x12,x13,x14,x15,x16,x17,x18,x19,x20,x21,.slice (some ⟨g0,0,none⟩) 0 0,.slice (some ⟨g,0,none⟩) n0 cap,.int .i64 (j:Int),.slice (some ⟨g,0,none⟩) j cap,v1,.agg #[.int .i64 c0,.int .i64 c1,.string (bs cn),.int .i64 c3,.int .i64 c4],.slice (some ⟨gb,0,none⟩) 1 1,v2,.slice (some ⟨g,0,none⟩) n0 cap,.int .i64 (j:Int),.slice (some (hiA g cap j 5)) (n0 - j) (cap - j),v3],defers:=[] }∧vQ 35 5 w1.heap.size wz v3 (j+1+(n0 - j)) (NC1++#[.int .i64 c0,.int .i64 c1,.string (bs cn),.int .i64 c3,.int .i64 c4].toList++NC2)∧Kp w1 wz)
def ADC (w1:World) (g n0 cap j g3:Nat) (NC1 NC2:List Value) (c0 c1:Int) (cn:List UInt8) (c3 c4:Int) (x6 x7 x8 x9 x10 x11 x12 x13 x14 x15 x16 x17 x18 x19 x20 x21:Value) (n:Nat) (lz:Array Bool) (az:Act) (wz:World):Prop:=aL6 w1 g n0 cap j g3 NC1 NC2 c0 c1 cn c3 c4 x6 x7 x8 x9 x10 x11 x12 x13 x14 x15 x16 x17 x18 x19 x20 x21 n lz az wz∨aL5 w1 g n0 cap j g3 NC1 NC2 c0 c1 cn c3 c4 x6 x7 x8 x9 x10 x11 x12 x13 x14 x15 x16 x17 x18 x19 x20 x21 n lz az wz∨aL4 w1 g n0 cap j g3 NC1 NC2 c0 c1 cn c3 c4 x6 x7 x8 x9 x10 x11 x12 x13 x14 x15 x16 x17 x18 x19 x20 x21 n lz az wz∨aL3 w1 g n0 cap j g3 NC1 NC2 c0 c1 cn c3 c4 x6 x7 x8 x9 x10 x11 x12 x13 x14 x15 x16 x17 x18 x19 x20 x21 n lz az wz∨aL2 w1 g n0 cap j g3 NC1 NC2 c0 c1 cn c3 c4 x6 x7 x8 x9 x10 x11 x12 x13 x14 x15 x16 x17 x18 x19 x20 x21 n lz az wz∨aL1 w1 g n0 cap j g3 NC1 NC2 c0 c1 cn c3 c4 x6 x7 x8 x9 x10 x11 x12 x13 x14 x15 x16 x17 x18 x19 x20 x21 n lz az wz∨aL0 w1 g n0 cap j g3 NC1 NC2 c0 c1 cn c3 c4 x6 x7 x8 x9 x10 x11 x12 x13 x14 x15 x16 x17 x18 x19 x20 x21 n lz az wz∨aLZ w1 g n0 cap j g3 NC1 NC2 c0 c1 cn c3 c4 x6 x7 x8 x9 x10 x11 x12 x13 x14 x15 x16 x17 x18 x19 x20 x21 n lz az wz∨aLY w1 g n0 cap j g3 NC1 NC2 c0 c1 cn c3 c4 x6 x7 x8 x9 x10 x11 x12 x13 x14 x15 x16 x17 x18 x19 x20 x21 n lz az wz
theorem aEv (g n cap:Nat) (l:List Con) (q:Con) (w:World) (h:bR w (some ⟨g,0,none⟩) n l) (hnc:n≤cap) (hl:n≤1048576) :
  cP 115 #[.slice (some ⟨g,0,none⟩) n cap,conv q] w fun e w'=>∃v,e=.returned v∧Hid (aF5 w.heap.size w' v (lH l q))∧Hid (v≠.slice none 0 0)∧Hid (Bw w w'):=by
 obtain ⟨c0,c1,cn,c3,c4⟩:=q;have GZ:=aA h.1;have hb1:=yA (yH _ w) (.cells #[.int .i64 c0,.int .i64 c1,.string (bs cn),.int .i64 c3,.int .i64 c4] 35);have R1:=aA (h.below hb1);have G1:=aA (yD w #[.int .i64 c0,.int .i64 c1,.string (bs cn),.int .i64 c3,.int .i64 c4] 35);have B1:=aA hb1;clear h hb1;obtain ⟨g3,hg3⟩:∃g,w.heap.size=g:=⟨_,rfl⟩;rw [hg3] at G1;go_enter func115,ntmps115;go_wp2_with fail;clear hg3;generalize w.alloc (.cells #[.int .i64 c0,.int .i64 c1,.string (bs cn),.int .i64 c3,.int .i64 c4] 35)=w1 at R1 G1 B1 ⊢;go_loopw [5] (fun i wr=>∃k:Nat,k≤n∧i=.int .i64 k∧Hid (eG c0 l=k+eG c0 (l.drop k))∧Hid (Bw w1 wr)) (fun i _=>n - (intOf i).toNat);case atStart=>exact ⟨0,Nat.zero_le _,rfl,aA (by simp),aA (yH _ _)⟩
 case round=>
  obtain ⟨k,hk,rfl,HP,BZ⟩:=hrel;have G2:=aA ((uH G1).below (uH BZ));have R2:=aA ((uH R1).below (uH BZ));have A0:=aA (Kp.new wr);have HS:=aA (aL wr);have HB:=aA (show ∃bt:Bool,(bt=true→k<n∧eG c0 l=((k+1:Nat):Nat)+eG c0 (l.drop (k+1)))∧(bt=false→eG c0 l=k)∧(∀hk2:k<l.length,k<n→bt=decide (l[k].id<c0))∧(¬k<n→bt=false) from by
   by_cases hlt:k<n
   ·(have hkl:k<l.length:=by have:=uH GZ;omega);have hs:=aCo (id:=c0) hkl;have hp:=uH HP;by_cases hc:l[k].id<c0
    ·rw [if_pos hc] at hs;exact ⟨true,fun _=>⟨hlt,by omega⟩,(fun e=>by cases e),fun _ _=>by simp [hc],fun e=>absurd hlt e⟩
    ·rw [if_neg hc] at hs;exact ⟨false,(fun e=>by cases e),fun _=>by omega,fun _ _=>by simp [hc],fun e=>absurd hlt e⟩
   ·have hp:=uH HP;rw [List.drop_of_length_le (by have:=uH GZ;omega)] at hp;exact ⟨false,(fun e=>by cases e),fun _=>by simpa [eG] using hp,fun _ e=>absurd e hlt,fun _=>rfl⟩)
  obtain ⟨bt,hb1,hb2,hb3,hb4⟩:=uH HB;have HB1:=aA hb1;have HB2:=aA hb2;have HB3:=aA hb3;have GD:=aA hb4;clear HB hb1 hb2 hb3 hb4 HP;go_upto_region 2 with fail
  go_cut [19] from 6 to 18 (fun v19 wx=>v19=.bool bt∧Hid (Bw wr wx))
  case first=>
   refine wp_region_held_drew (S:=fun wx=>Kp wr wx) (by kernel_rfl) ((uH HS).drew (uH A0)) (fun S0=>?_);generalize wr.drew=wn at S0 ⊢;by_cases hlt:k<n
   ·(have hkl:k<l.length:=by have:=uH GZ;omega);have hv:=uH HB3 hkl hlt;have hid:=((uH R2).at hlt);obtain ⟨b',off',he,hq⟩:=hid;cases he;have d0:=(hq hkl).1;obtain ⟨x,hx⟩:∃x,l[k].id=x:=⟨_,rfl⟩;rw [hx] at d0 hv;have q0:=(uH G2).at 0;simp at q0;(have R:∀wx,Kp wr wx→wx.cell? ⟨g,0+k*5,none⟩=some (.int .i64 x)∧wx.cell? ⟨g,k*5,none⟩=some (.int .i64 x)∧wx.cell? ⟨g3,0,none⟩=some (.int .i64 c0):=fun wx h=>⟨h.cell d0,by have:=h.cell d0;rwa [Nat.zero_add] at this,h.cell q0⟩);(have k0:(0:Int)≤k:=by omega);(have k1:(k:Int)<n:=by omega);clear hq d0 q0 hx;refine tW 0 6 _ S0 ?_;simp only [zW];refine tW 1 7 _ S0 ?_;simp only [zW];refine tW 2 8 _ S0 ?_;simp only [zW];refine tW 3 9 (.bool true) S0 ?_;simp only [zW];refine tW 4 10 _ S0 ?_;simp only [zW];refine tW 5 11 _ S0 ?_;simp only [zW];refine tW 6 12 _ S0 ?_;simp only [zW];refine tW 7 13 (.pointer (some ⟨g,k*5,none⟩)) S0 ?_;simp only [zW];refine tW 8 14 (.pointer (some ⟨g,k*5,none⟩)) S0 ?_;simp only [zW];refine aP 9 15 (.int .i64 x) rfl rfl S0 ?_ (hy:=Or.inl ⟨by rfl,fun wz hz=>by (have hr:=R wz hz;clear R;go_simp)⟩);(try simp only [zW]);refine tW 10 16 _ S0 ?_;simp only [zW];refine aP 11 17 (.int .i64 c0) rfl rfl S0 ?_ (hy:=Or.inl ⟨by rfl,fun wz hz=>by (have hr:=R wz hz;clear R;go_simp)⟩);(try simp only [zW]);refine aP 12 18 (.bool bt) rfl rfl S0 ?_ (hy:=Or.inl ⟨by rfl,fun wz hz=>by (subst hv;go_simp)⟩);(try simp only [zW]);refine tW 13 19 (.bool bt) S0 ?_;simp only [zW];refine wpAnyH_done (by kernel_rfl) ?_ _;(go_wp2_with fail);go_meet;exact ⟨rfl,aA S0⟩
   ·have hv:=uH GD hlt;(have k1:¬(k:Int)<n:=by omega);subst hv;refine tW 0 6 _ S0 ?_;simp only [zW];refine tW 1 7 _ S0 ?_;simp only [zW];refine tW 2 8 _ S0 ?_;simp only [zW];refine tW 3 9 (.bool false) S0 ?_;simp only [zW];refine tW 4 10 _ S0 ?_;simp only [zW];refine tU 5 11 S0 ?_;simp only [zW];refine tU 6 12 S0 ?_;simp only [zW];refine tU 7 13 S0 ?_;simp only [zW];refine tU 8 14 S0 ?_;simp only [zW];refine tU 9 15 S0 ?_;simp only [zW];refine tU 10 16 S0 ?_;simp only [zW];refine tU 11 17 S0 ?_;simp only [zW];refine tU 12 18 S0 ?_;simp only [zW];refine tW 13 19 (.bool false) S0 ?_;simp only [zW];refine wpAnyH_done (by kernel_rfl) ?_ _;(go_wp2_with fail);go_meet;exact ⟨rfl,aA S0⟩
  case rest=>
   obtain ⟨rfl,hbz⟩:=hcut;have BY:=aA (yB (uH BZ) (uH hbz));have G3:=aA ((uH G2).below (uH hbz));have R3:=aA ((uH R2).below (uH hbz));obtain ⟨w2,rfl⟩:∃z,z=wc:=⟨_,rfl⟩;clear hbz BZ G2 R2 A0 HS HB3 GD;cases bt with
   | true=>obtain ⟨hlt,hp⟩:=uH HB1 rfl;have WO:=aA hp;clear hp HB1 HB2;go_wp2;go_roundw;(case rel=>exact ⟨k+1,by omega,by go_num,WO,BY⟩);case measure=>simp [intOf];omega
   | false=>
    have BO:=aA (uH HB2 rfl);clear HB1 HB2;obtain ⟨i0,hi,hz0,hz1,hz2⟩:=info_parts Tryz.infoCont;obtain ⟨j,rfl⟩:∃j,j=k:=⟨_,rfl⟩;have B2:=aA (yB (uH B1) (uH BY));have dw:=aA (show lH l ⟨c0,c1,cn,c3,c4⟩=l.take j++⟨c0,c1,cn,c3,c4⟩::l.drop j by unfold lH;simp only;rw [uH BO]);(have hjl:j≤l.length:=by have:=uH GZ;omega);have hlo:=aJg g n cap j (by omega);have hhi:=aJh g n cap j hk;obtain ⟨NC1,hc1⟩:∃c,aI (l.take j)=c:=⟨_,rfl⟩;obtain ⟨NC2,hc2⟩:∃c,aI (l.drop j)=c:=⟨_,rfl⟩;have Yv:=aA (show ∀wx:World,Kp w2 wx→∀i u,NC1[i]? = some u→wx.cell? (Addr.add ⟨g,0,none⟩ i)=some u from fun wx hb i u hu=>by
     rw [Lib.add_plain];refine iL ((uH R3).below hb) i u ?_;rw [iK l j,hc1,List.getElem?_append_left (List.getElem?_eq_some_iff.1 hu).1];exact hu)
    have VV:=aA (show NC1.length=j*5 by rw [←hc1];exact dS l hjl);have HL2:=aA (show NC2.length=(n - j)*5 by rw [←hc2,gB,uH GZ]);have D9:=aA (show ∀wx:World,Kp w2 wx→∀i u,NC2[i]? = some u→wx.cell? (Addr.add (hiA g cap j 5) i)=some u from fun wx hb i u hu=>by
     have hlt:=(List.getElem?_eq_some_iff.1 hu).1;rw [uH HL2] at hlt;rw [aGd (by omega)];have h1:=iL ((uH R3).below hb) (j*5+i) u (by
      rw [iK l j,hc1,hc2,List.getElem?_append_right (by rw [uH VV];omega),uH VV,Nat.add_sub_cancel_left];exact hu)
     rwa [Nat.zero_add] at h1)
    have ZI:=aA (show ∀u ∈ NC1,u.oneCell'=true by rw [←hc1];exact eB _);have GJ:=aA (show ∀u ∈ NC2,u.oneCell'=true by rw [←hc2];exact eB _);have NK:=aA (show ∀u ∈ (#[.int .i64 c0,.int .i64 c1,.string (bs cn),.int .i64 c3,.int .i64 c4]:Array Value).toList,u.oneCell'=true from fun u hu=>eB [⟨c0,c1,cn,c3,c4⟩] u (by simpa [aI,fH] using hu));have Qw:=aA hc1.symm;have qy:=aA hc2.symm;have A0:=aA (Kp.new w2);have HS:=aA (aL w2);clear hc1 hc2 BO R3 R1 G1 B1 BY hjl;(go_upto_region 4 with fail);refine wp_region_held_drew (S:=fun wx=>Kp w2 wx) (by kernel_rfl) ((uH HS).drew (uH A0)) (fun S0=>?_);refine tW 1 23 _ S0 ?_;simp only [zW];refine tW 2 24 _ S0 ?_;simp only [zW];refine aP 3 25 (.slice (some ⟨g,0,none⟩) j cap) rfl rfl S0 ?_ (hy:=Or.inl ⟨by rfl,fun wz hz=>bU (hlo wz)⟩);(try simp only [zW]);refine aP 5 27 (.agg #[.int .i64 c0,.int .i64 c1,.string (bs cn),.int .i64 c3,.int .i64 c4]) rfl rfl S0 ?_ (hy:=Or.inl ⟨by rfl,fun wz hz=>bU (fD ((uH G3).below hz) rfl)⟩);(try simp only [zW]);refine tW 8 30 _ S0 ?_;simp only [zW];refine tW 9 31 _ S0 ?_;simp only [zW];refine aP 10 32 (.slice (some (hiA g cap j 5)) (n - j) (cap - j)) rfl rfl S0 ?_ (hy:=Or.inl ⟨by rfl,fun wz hz=>bU (hhi wz)⟩);(try simp only [zW]);refine oD (ADC w2 g n cap j g3 NC1 NC2 c0 c1 cn c3 c4 _ _ _ _ _ _ _ _ _ _ _ _ _ _ _ _) ?step ?fin 6 _ _ _ (.inl (⟨rfl,by kernel_rfl,rfl,S0⟩));case fin=>
     intro lz az wz hI;rcases hI with h | h | h | h | h | h | h | h | h
     ·obtain ⟨hn,_⟩:=h;cases hn
     ·obtain ⟨_,hn,_⟩:=h;cases hn
     ·obtain ⟨_,hn,_⟩:=h;cases hn
     ·obtain ⟨_,_,hn,_⟩:=h;cases hn
     ·obtain ⟨_,_,hn,_⟩:=h;cases hn
     ·obtain ⟨_,_,_,hn,_⟩:=h;cases hn
     ·obtain ⟨_,_,_,_,hn,_⟩:=h;cases hn
     ·obtain ⟨_,_,_,_,_,hn,_⟩:=h;cases hn
     ·obtain ⟨g0,v1,gb,v2,v3,-,rfl,rfl,hr,kp⟩:=h;refine ⟨by kernel_rfl,?_⟩;have HOW:=aA (show aF5 w.heap.size wz v3 (lH l ⟨c0,c1,cn,c3,c4⟩) from by
       (have h1:=hr.1;have e:NC1++#[.int .i64 c0,.int .i64 c1,.string (bs cn),.int .i64 c3,.int .i64 c4].toList++NC2=aI (lH l ⟨c0,c1,cn,c3,c4⟩):=by rw [uH Qw,uH qy,uH dw,oU];simp);rw [e] at h1;unfold aF5;rw [vM,←uH GZ,show n+1=j+1+(n - j) by omega];exact aGH h1 (uH B2).size)
      have vz:=aA hr.2;have B9:=aA (yB (uH B2) kp);clear hr kp;go_wp2;go_ret;exact ⟨v3,rfl,HOW,vz,B9⟩
    case step=>
     intro n lz az wz hI;rcases hI with h | h | h | h | h | h | h | h | h
     ·obtain ⟨hn,rfl,rfl,kp⟩:=h;(obtain rfl:n=5:=by omega);refine bT (rs:=[0,6]) (by kernel_rfl) (by simp) ?_;refine aK.cons rfl (fun K hK=>?_) ?_
      ·go_simp;(go_wp2_with fail);exact hK.out _ _ (yA kp _) (.inr (.inr (.inl (⟨wz.heap.size,rfl,rfl,rfl,qZ kp,yA kp _⟩))))
      refine aK.cons rfl (fun K hK=>?_) ?_
      ·go_simp;(go_wp2_with fail);exact hK.out _ _ (yA kp _) (.inr (.inl (⟨wz.heap.size,rfl,rfl,rfl,oO kp _,yA kp _⟩)))
      exact aK.nil
     ·obtain ⟨gb,hn,rfl,rfl,hbx,kp⟩:=h;(obtain rfl:n=4:=by omega);refine bT (rs:=[0]) (by kernel_rfl) (by simp) ?_;refine aK.cons rfl (fun K hK=>?_) ?_
      ·go_simp;(go_wp2_with fail);exact hK.out _ _ (yA kp _) (.inr (.inr (.inr (.inl (⟨wz.heap.size,gb,rfl,rfl,rfl,qZ kp,hbx.al _,Nat.ne_of_lt hbx.lt,yA kp _⟩)))))
      exact aK.nil
     ·obtain ⟨g0,hn,rfl,rfl,hr,kp⟩:=h;(obtain rfl:n=4:=by omega);refine bT (rs:=[4,6]) (by kernel_rfl) (by simp) ?_;refine aK.cons rfl (fun K hK=>?_) ?_
      ·refine lG (w1:=w2) rfl (.tmp 22) (.tmp 25) 27 rfl 35 i0 (.agg #[.int .i64 0,.int .i64 0,.string .empty,.int .i64 0,.int .i64 0]) 5 48 underlying27 hi hz0 hz1 hz2 rfl (by decide) (.slice (some ⟨g0,0,none⟩) 0 0) 0 [] rfl hr kp ⟨g,0,none⟩ j cap NC1 rfl (uH VV) (fun i u hu=>uH Yv _ kp i u hu) (uH ZI) (by unfold maxLen;omega) (by omega) ?_;intro v1 wz2 hr2 kp2 GA;(try simp only [zW]);exact hK.out _ _ kp2 (.inr (.inr (.inr (.inr (.inl (⟨g0,v1,rfl,by kernel_rfl,rfl,aAi hr2 (by omega) (List.nil_append _),kp2⟩))))))
      refine aK.cons rfl (fun K hK=>?_) ?_
      ·go_simp;(go_wp2_with fail);exact hK.out _ _ (yA kp _) (.inr (.inr (.inr (.inl (⟨g0,wz.heap.size,rfl,rfl,rfl,hr.al _,oO kp _,(Nat.ne_of_gt (by obtain ⟨q,q2,q3,q4,q5,q6⟩:=hr.open;cases q3;exact (World.ownsRow.lt q5 g0 rfl).2)),yA kp _⟩)))))
      exact aK.nil
     ·obtain ⟨g0,gb,hn,rfl,rfl,hr,hbx,hne,kp⟩:=h;(obtain rfl:n=3:=by omega);refine bT (rs:=[4]) (by kernel_rfl) (by simp) ?_;refine aK.cons rfl (fun K hK=>?_) ?_
      ·refine lG (w1:=w2) rfl (.tmp 22) (.tmp 25) 27 rfl 35 i0 (.agg #[.int .i64 0,.int .i64 0,.string .empty,.int .i64 0,.int .i64 0]) 5 48 underlying27 hi hz0 hz1 hz2 rfl (by decide) (.slice (some ⟨g0,0,none⟩) 0 0) 0 [] rfl hr kp ⟨g,0,none⟩ j cap NC1 rfl (uH VV) (fun i u hu=>uH Yv _ kp i u hu) (uH ZI) (by unfold maxLen;omega) (by omega) ?_;intro v1 wz2 hr2 kp2 GA;(try simp only [zW]);exact hK.out _ _ kp2 (.inr (.inr (.inr (.inr (.inr (.inl (⟨g0,v1,gb,rfl,by kernel_rfl,rfl,aAi hr2 (by omega) (List.nil_append _),hbx.same (GA gb hbx.lt (by simp [Value.ownBlock];omega)),kp2⟩)))))))
      exact aK.nil
     ·obtain ⟨g0,v1,hn,rfl,rfl,hr,kp⟩:=h;(obtain rfl:n=3:=by omega);refine bT (rs:=[6]) (by kernel_rfl) (by simp) ?_;refine aK.cons rfl (fun K hK=>?_) ?_
      ·go_simp;(go_wp2_with fail);exact hK.out _ _ (yA kp _) (.inr (.inr (.inr (.inr (.inr (.inl (⟨g0,v1,wz.heap.size,rfl,rfl,rfl,hr.al _,oO kp _,yA kp _⟩)))))))
      exact aK.nil
     ·obtain ⟨g0,v1,gb,hn,rfl,rfl,hr,hbx,kp⟩:=h;(obtain rfl:n=2:=by omega);refine bT (rs:=[7]) (by kernel_rfl) (by simp) ?_;refine aK.cons rfl (fun K hK=>?_) ?_
      ·refine lG (w1:=w2) rfl (.tmp 26) (.tmp 28) 27 rfl 35 i0 (.agg #[.int .i64 0,.int .i64 0,.string .empty,.int .i64 0,.int .i64 0]) 5 48 underlying27 hi hz0 hz1 hz2 rfl (by decide) v1 j NC1 rfl hr kp ⟨gb,0,none⟩ 1 1 #[.int .i64 c0,.int .i64 c1,.string (bs cn),.int .i64 c3,.int .i64 c4].toList rfl (by rfl) hbx.news (uH NK) (by unfold maxLen;omega) (by omega) ?_;intro v2 wz2 hr2 kp2 GA;(try simp only [zW]);exact hK.out _ _ kp2 (.inr (.inr (.inr (.inr (.inr (.inr (.inl (⟨g0,v1,gb,v2,rfl,by kernel_rfl,rfl,hr2,kp2⟩))))))))
      exact aK.nil
     ·obtain ⟨g0,v1,gb,v2,hn,rfl,rfl,hr,kp⟩:=h;(obtain rfl:n=1:=by omega);refine bT (rs:=[11]) (by kernel_rfl) (by simp) ?_;refine aK.cons rfl (fun K hK=>?_) ?_
      ·refine lG (w1:=w2) rfl (.tmp 29) (.tmp 32) 27 rfl 35 i0 (.agg #[.int .i64 0,.int .i64 0,.string .empty,.int .i64 0,.int .i64 0]) 5 48 underlying27 hi hz0 hz1 hz2 rfl (by decide) v2 (j+1) (NC1++#[.int .i64 c0,.int .i64 c1,.string (bs cn),.int .i64 c3,.int .i64 c4].toList) rfl hr kp (hiA g cap j 5) (n - j) (cap - j) NC2 rfl (uH HL2) (fun i u hu=>uH D9 _ kp i u hu) (uH GJ) (by unfold maxLen;omega) (by omega) ?_;intro v3 wz2 hr2 kp2 GA;(try simp only [zW]);exact hK.out _ _ kp2 (.inr (.inr (.inr (.inr (.inr (.inr (.inr (.inl (⟨g0,v1,gb,v2,v3,rfl,by kernel_rfl,rfl,hr2,kp2⟩)))))))))
      exact aK.nil
     ·obtain ⟨g0,v1,gb,v2,v3,hn,rfl,rfl,hr,kp⟩:=h;(obtain rfl:n=0:=by omega);refine bT (rs:=[12]) (by kernel_rfl) (by simp) ?_;refine aK.cons rfl (fun K hK=>?_) ?_
      ·go_simp;(go_wp2_with fail);exact hK.out _ _ kp (.inr (.inr (.inr (.inr (.inr (.inr (.inr (.inr (⟨g0,v1,gb,v2,v3,rfl,rfl,rfl,hr,kp⟩)))))))))
      exact aK.nil
     ·obtain ⟨_,_,_,_,_,hn,_⟩:=h;cases hn
def qlN (l:List Q):List Q:=if aF l=true then l else []
def epN (l:List Q):Int:=if aF l=true then 1 else 0
def nxN (l:List Q):Int:=if aF l=true then 1001 else 0
theorem aKJ (l:List Q):aY (zC l 1 1001 1)=aF l:=by
 have h1:fI (zC l 1 1001 1)=true:=rfl;have h2:gL (zC l 1 1001 1)=true:=rfl;simp only [aY,fK,h1,h2];rw [show (inB 0 0 1000000000&&(inB 1 1 1000000000&&(inB 1001 1 1000000000&&(inB 1 1 1000000000&&(true&&(true&&(decide (([]:List Con).length≤150)&&dF [] [] 0 [])))))))=true from rfl,Bool.and_true]
theorem aA3.one {e:Ending} (h:aA3 w l e w'):∃qo n c,e=.returned (.tuple #[.agg (svc (aKK qo n c) (zC (qlN l) (epN l) (nxN l) (epN l))),.bool (aF l)])∧n=(qlN l).length∧oZ (w.heap.size+1) w' (.slice qo n c) (qlN l)∧Bw w w':=by
 obtain ⟨hb,⟨ho,rfl⟩ | ⟨ho,v,rfl,Hq⟩⟩:=h
 ·refine ⟨none,0,0,?_,?_,?_,hb⟩
  ·simp [qlN,epN,nxN,ho]
  ·simp [qlN,ho]
  ·simp only [qlN,ho];exact aDn _ _
 ·obtain ⟨qo,qc,rfl,_⟩:=nO Hq;refine ⟨qo,l.length,qc,?_,?_,?_,hb⟩
  ·simp [qlN,epN,nxN,ho]
  ·simp [qlN,ho]
  ·simp only [qlN,ho];exact Hq
def aHW (w:World) (qo:Option Addr) (n:Nat):Prop:=(n=0∨∃g,qo=some ⟨g,0,none⟩)∧gH w qo n (aIo n)
theorem aHW.below (h:aHW w qo n) (hb:Bw w w'):aHW w' qo n:=⟨h.1,h.2.below hb⟩
theorem aJS {c:Nat} (ep nx se:Int) (h:oZ B w (.slice qo n c) l) (hn:n=l.length):dV B w (aKK qo n c) (zC l ep nx se) []:=by
 obtain ⟨ao,cap,e,hc,hh⟩:=oZ.has h;cases e;exact ⟨hh,⟨⟨rfl,.inl rfl⟩,.inl rfl⟩,jG.nil _ _,⟨⟨rfl,.inl rfl⟩,.inl rfl⟩,⟨⟨rfl,.inl rfl⟩,.inl rfl⟩,⟨hc,yJ _,yJ _,yJ _⟩,iT h,.inl rfl,.inl rfl,.inl rfl,fun v hv=>absurd hv (by simp)⟩
def aDP (nd:List UInt8):Nat→St→St×List Con
 | 0,s=>(s,[])
 | n+1,s=>match aS s nd with
  | none=>(s,[])
  | some p=>((aDP nd n (bK s p)).1,p.2::(aDP nd n (bK s p)).2)
end
end Go.Proofs.YtfndhndlkcijoaaGreat
