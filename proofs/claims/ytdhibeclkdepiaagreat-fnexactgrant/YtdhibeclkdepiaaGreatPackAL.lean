/-
  bI in one: OkM, NxM, NxW, GrM, SrvU, SrvI, AddC.
-/
import Derived.Test.YtdhibeclkdepiaaGreatPackAD
import Derived.Test.YtdhibeclkdepiaaGreatPackAH
import Derived.Test.YtdhibeclkdepiaaGreatPackAJ
import Derived.Test.YtdhibeclkdepiaaGreatPackAC
set_option maxRecDepth 100000
set_option maxHeartbeats 16000000
set_option linter.unusedVariables false
set_option linter.unusedSimpArgs false
namespace Go.Proofs.YtdhibeclkdepiaaGreat
section
open Go.RowKit
def nQ:Int→Int→List (Int×Int)→Bool
 | _,_,[]=>true
 | x,y,r::t=>aK (-1) x y r.1 r.2&&nQ (x + -1*r.1) (y + -1*r.2) t
theorem aJn:∀(l:List (Int×Int)) (x y:Int),aR x y=true→aR (bJ l x y).1 (bJ l x y).2.1=true
 | [],x,y,h=>h
 | r::t,x,y,h=>by
  rw [bJ]
  by_cases hb:aK 1 x y r.1 r.2=true
  ·rw [if_pos hb]
   refine aJn t _ _ ?_
   simp only [aK,Bool.and_eq_true] at hb
   exact hb.2
  ·rw [if_neg hb];decide
theorem rT:∀(l:List (Int×Int)) (x y:Int),(bJ l x y).2.2=true→∀r ∈ l,aR r.1 r.2=true
 | [],x,y,_,r,h=>by simp at h
 | q::t,x,y,h,r,hr=>by
  rw [bJ] at h
  by_cases hb:aK 1 x y q.1 q.2=true
  ·rw [if_pos hb] at h
   rcases List.mem_cons.1 hr with rfl | hr
   ·simp only [aK,Bool.and_eq_true] at hb;exact hb.1.2
   ·exact rT t _ _ h r hr
  ·rw [if_neg hb] at h;cases h
theorem yI:∀(l:List (Int×Int)) (x y:Int),(bJ l x y).2.2=true→x≤(bJ l x y).1∧y≤(bJ l x y).2.1
 | [],x,y,_=>⟨Int.le_refl _,Int.le_refl _⟩
 | r::t,x,y,h=>by
  rw [bJ] at h ⊢
  by_cases hb:aK 1 x y r.1 r.2=true
  ·rw [if_pos hb] at h ⊢
   have:=yI t _ _ h
   have hr:aR r.1 r.2=true:=by simp only [aK,Bool.and_eq_true] at hb;exact hb.1.2
   have:=dH hr
   omega
  ·rw [if_neg hb] at h;cases h
theorem aDf {X Y:Int} (hX:aR X Y=true):∀(l:List (Int×Int)) (x y:Int),aR x y=true→x≤X→y≤Y→(nQ (X + -1*x) (Y + -1*y) l=true↔(bJ l x y).2.2=true∧(bJ l x y).1≤X∧(bJ l x y).2.1≤Y)
 | [],x,y,h,h1,h2=>by simp [nQ,bJ,h1,h2]
 | r::t,x,y,h,h1,h2=>by
  have bX:=dH hX
  have bx:=dH h
  rw [nQ,bJ,Bool.and_eq_true]
  by_cases hs:aK (-1) (X + -1*x) (Y + -1*y) r.1 r.2=true
  ·have hs':=hs
   simp only [aK,Bool.and_eq_true] at hs'
   have br:=dH hs'.1.2
   have bs':=dH hs'.2
   have hr2:aR (x+1*r.1) (y+1*r.2)=true:=by simp only [aR,inB,Bool.and_eq_true,decide_eq_true_eq];omega
   have hp:aK 1 x y r.1 r.2=true:=by simp only [aK,Bool.and_eq_true];exact ⟨⟨h,hs'.1.2⟩,hr2⟩
   rw [if_pos hp]
   have ih:=aDf hX t (x+1*r.1) (y+1*r.2) hr2 (by omega) (by omega)
   rw [←ih]
   have e1:X + -1*(x+1*r.1)=X + -1*x + -1*r.1:=by omega
   have e2:Y + -1*(y+1*r.2)=Y + -1*y + -1*r.2:=by omega
   rw [e1,e2]
   exact ⟨fun hh=>hh.2,fun hh=>⟨hs,hh⟩⟩
  ·refine ⟨fun hh=>absurd hh.1 hs,fun ⟨g1,g2,g3⟩=>absurd ?_ hs⟩
   by_cases hp:aK 1 x y r.1 r.2=true
   ·rw [if_pos hp] at g1 g2 g3
    have ge:=yI t _ _ g1
    have hp':=hp
    simp only [aK,Bool.and_eq_true] at hp'
    have br:=dH hp'.1.2
    simp only [aK,Bool.and_eq_true]
    refine ⟨⟨?_,hp'.1.2⟩,?_⟩<;>simp only [aR,inB,Bool.and_eq_true,decide_eq_true_eq]<;>omega
   ·rw [if_neg hp] at g1;cases g1
theorem aBv {cs:List Con} {m:Mac} (hr:aR m.mem m.cpu=true):aBw cs m=true↔nQ m.mem m.cpu (aT (fun q=>decide (q.node=m.name)) cs)=true:=by
 have h:=aDf hr (aT (fun q=>decide (q.node=m.name)) cs) 0 0 (by decide) (dH hr).1 (dH hr).2.2.1
 rw [show m.mem + -1*0=m.mem by omega,show m.cpu + -1*0=m.cpu by omega] at h
 rw [h]
 simp only [aBw,hr,Bool.true_and,Bool.and_eq_true,gN,within]
 refine ⟨fun ⟨a,b⟩=>⟨a,of_decide_eq_true b.1.2,of_decide_eq_true b.2⟩,fun ⟨a,b,c⟩=>⟨a,⟨⟨⟨aJn _ 0 0 (by decide),trivial⟩,decide_eq_true b⟩,decide_eq_true c⟩⟩⟩
theorem aJx {a b:List UInt8} (h:leT a b=false):Op.bytesLess (bs b).toList (bs a).toList=true:=by
 simp only [leT,Bool.or_eq_false_iff] at h
 exact aHK _ _ h.1 (fun e=>by rw [e] at h;simp at h)
theorem vI {ck:Int}:∀(l:List Mac) (last:List UInt8),bH ck last l=true→∀m ∈ l,Op.bytesLess (bs last).toList (bs m.name).toList=true
 | [],_,_,m,h=>by simp at h
 | q::t,last,h,m,hm=>by
  simp only [bH,Bool.and_eq_true,Bool.not_eq_true'] at h
  have h1:=aJx h.1
  rcases List.mem_cons.1 hm with rfl | hm
  ·exact h1
  ·exact aAm _ _ _ h1 (vI t q.name h.2.2.2.2 m hm)
theorem zJ {ck:Int}:∀(l:List Mac) (last:List UInt8),bH ck last l=true→∀m ∈ l,bF m.name l=some m
 | [],_,_,m,h=>by simp at h
 | q::t,last,h,m,hm=>by
  simp only [bH,Bool.and_eq_true,Bool.not_eq_true'] at h
  rcases List.mem_cons.1 hm with rfl | hm
  ·simp [bF]
  ·have hab:=vI t q.name h.2.2.2.2 m hm
   have hne:¬q.name=m.name:=fun e=>by rw [e,aHL] at hab;cases hab
   have:=zJ t q.name h.2.2.2.2 m hm
   simp only [bF] at this ⊢
   rw [List.find?_cons_of_neg (by simpa using hne)]
   exact this
theorem zK {ck:Int} {cs:List Con}:∀(l:List Mac) (last:List UInt8),jX ck cs last l=true↔bH ck last l=true∧∀m ∈ l,aBw cs m=true
 | [],_=>by simp [jX,bH]
 | q::t,last=>by
  simp only [jX,bH,Bool.and_eq_true,zK t q.name,List.mem_cons,forall_eq_or_imp]
  exact ⟨fun ⟨a,b,c,d,e,f,g⟩=>⟨⟨a,b,c,d,f⟩,e,g⟩,fun ⟨⟨a,b,c,d,f⟩,e,g⟩=>⟨a,b,c,d,e,f,g⟩⟩
theorem sP {apps:List dB} {l l':List Mac} (h:∀nm,(bF nm l').isSome=(bF nm l).isSome):∀(cs:List Con) (last:Int),eT apps l' last cs=eT apps l last cs
 | [],_=>rfl
 | c::t,last=>by rw [eT,eT,h,sP h t]
theorem uJ {nm:List UInt8} {c:Con} {t:List Con}:aT (fun q=>decide (q.node=nm)) (c::t)=if c.node=nm then (c.mem,c.cpu)::aT (fun q=>decide (q.node=nm)) t else aT (fun q=>decide (q.node=nm)) t:=by
 by_cases h:c.node=nm
 ·simp [aT,h]
 ·simp [aT,h]
theorem aCH {apps:List dB}:∀(cs:List Con) (l:List Mac) (last:Int),dI apps l last cs=true↔eT apps l last cs=true∧∀nm m,bF nm l=some m→nQ m.mem m.cpu (aT (fun q=>decide (q.node=nm)) cs)=true
 | [],l,last=>by simp [dI,eT,aT,nQ]
 | c::t,l,last=>by
  cases hf:bF c.node l with
  | none=>simp [dI,eT,hf]
  | some m=>
   have hn:=qZ hf
   have ih:=aCH (apps:=apps) t (⟨m.name,m.mem + -1*c.mem,m.cpu + -1*c.cpu,m.seen⟩::l) c.id
   have hfind:∀nm,bF nm (⟨m.name,m.mem + -1*c.mem,m.cpu + -1*c.cpu,m.seen⟩::l)=if c.node=nm then some ⟨m.name,m.mem + -1*c.mem,m.cpu + -1*c.cpu,m.seen⟩ else bF nm l:=fun nm=>by
    by_cases e:c.node=nm
    ·rw [if_pos e];simp [bF,hn,e]
    ·rw [if_neg e];simp [bF,hn,e]
   have hsome:∀nm,(bF nm (⟨m.name,m.mem + -1*c.mem,m.cpu + -1*c.cpu,m.seen⟩::l)).isSome=(bF nm l).isSome:=fun nm=>by
    rw [hfind]
    by_cases e:c.node=nm
    ·rw [if_pos e,←e,hf]
     rfl
    ·rw [if_neg e]
   rw [sP hsome] at ih
   simp only [dI,eT,hf,Option.isSome_some,Option.getD_some,Bool.true_and,Bool.and_eq_true,ih]
   constructor
   ·rintro ⟨a,b,c1,d,e,f,g⟩
    refine ⟨⟨a,b,d,c1,f⟩,fun nm m2 hm2=>?_⟩
    rw [uJ]
    by_cases en:c.node=nm
    ·rw [if_pos en]
     rw [←en,hf] at hm2
     cases hm2
     rw [nQ,Bool.and_eq_true]
     exact ⟨e,g nm ⟨m.name,m.mem + -1*c.mem,m.cpu + -1*c.cpu,m.seen⟩ (by rw [hfind,if_pos en])⟩
    ·rw [if_neg en]
     exact g nm m2 (by rw [hfind,if_neg en];exact hm2)
   ·rintro ⟨⟨a,b,d,c1,f⟩,g⟩
    have g0:=g c.node m hf
    rw [uJ,if_pos rfl,nQ,Bool.and_eq_true] at g0
    refine ⟨a,b,c1,d,g0.1,f,fun nm m2 hm2=>?_⟩
    rw [hfind] at hm2
    by_cases en:c.node=nm
    ·rw [if_pos en] at hm2
     cases hm2
     rw [←en]
     exact g0.2
    ·rw [if_neg en] at hm2
     have:=g nm m2 hm2
     rwa [uJ,if_neg en] at this
theorem aE7 (s:St):oO s=iV s:=by
 rw [Bool.eq_iff_iff]
 simp only [oO,iV,aBW,lU,jY,l5,Bool.and_eq_true,aCH,zK]
 have key:bH s.clock [] s.ms=true→(gN (aX s.ms)).2.2=true→((∀nm m,bF nm s.ms=some m→nQ m.mem m.cpu (aT (fun q=>decide (q.node=nm)) s.cs)=true)↔∀m ∈ s.ms,aBw s.cs m=true):=fun h1 h2=>by
  have hr:∀m ∈ s.ms,aR m.mem m.cpu=true:=fun m hm=>rT _ 0 0 h2 (m.mem,m.cpu) (by simp only [aX,List.mem_map];exact ⟨m,hm,rfl⟩)
  constructor
  ·intro h m hm
   exact (aBv (hr m hm)).2 (h m.name m (zJ _ _ h1 m hm))
  ·intro h nm m hf
   have hm:m ∈ s.ms:=List.mem_of_find?_eq_some hf
   have hn:=qZ hf
   have:=(aBv (hr m hm)).1 (h m hm)
   rwa [hn] at this
 constructor
 ·rintro ⟨a,⟨b1,b2,b3,b4⟩,c,⟨d1,d2,d3⟩,e1,e2,e3⟩
  exact ⟨a,b1,b2,b3,b4,c,⟨⟨d2,(key d2 d3).1 e3⟩,d3,d1⟩,e1,e2⟩
 ·rintro ⟨a,b1,b2,b3,b4,c,⟨⟨d2,hh⟩,d3,d1⟩,e1,e2⟩
  exact ⟨a,⟨b1,b2,b3,b4⟩,c,⟨d1,d2,d3⟩,e1,e2,(key d2 d3).2 hh⟩
def dN (s:St):Bool:=iV s
theorem uM (x:Sls) (s:St) (w:World) (h:iJ w x s) (hf:bS s) :
  Calls Tryz.prog 22 #[sv x s] w fun e w'=>e=.returned (.bool (dN s))∧Below w.heap.size w w':=aBA x s w h hf
theorem vV (x:Sls) (s:St) (w:World) (h:iJ w x s) (hf:bS s) (hc:x.ql≤x.qc) (hw:aEP s) :
  Calls Tryz.prog 44 #[sv x s] w fun e w'=>e=.returned (.bool (dN s))∧Below w.heap.size w w':=by
 have:=aBB x s w h hf hc hw
 rwa [aE7] at this
theorem z8 {p:Ask→Bool} {qu:List UInt8}:∀{l:List dB} {i:Nat} {r:Nat×Nat},dR p qu l i=some r→i≤r.1∧∃h:r.1 - i<l.length,r.2<l[r.1 - i].asks.length
 | [],_,_,h=>by cases h
 | a::t,i,r,h=>by
  have go:dR p qu t (i+1)=some r→i≤r.1∧∃h:r.1 - i<(a::t).length,r.2<(a::t)[r.1 - i].asks.length:=fun h=>by
   obtain ⟨h1,h2,h3⟩:=z8 h
   have e:r.1 - i=(r.1 - (i+1))+1:=by omega
   refine ⟨by omega,by simp only [List.length_cons];omega,?_⟩
   simp only [e,List.getElem_cons_succ]
   exact h3
  rw [dR] at h
  split at h
  ·split at h
   ·rename_i k hk
    cases h
    have:=zZ hk
    refine ⟨Nat.le_refl _,by simp,?_⟩
    simp only [Nat.sub_self,List.getElem_cons_zero]
    omega
   ·exact go h
  ·exact go h
theorem yM {s:St} {nd:List UInt8} {r:Nat×Nat}:∀{l:List (List UInt8)},iN s nd l=some r→∃h:r.1<s.apps.length,r.2<s.apps[r.1].asks.length
 | [],h=>by cases h
 | q::t,h=>by
  rw [iN] at h
  split at h
  ·rename_i r' hr
   cases h
   obtain ⟨_,h2,h3⟩:=z8 hr
   simp only [Nat.sub_zero] at h2 h3
   exact ⟨h2,h3⟩
  ·exact yM h
theorem aCo {s:St} {nd:List UInt8} {r:Nat×Nat} (h:nM s nd=some r):∃h:r.1<s.apps.length,r.2<s.apps[r.1].asks.length:=yM h
theorem wI {apps:List dB} {ms:List Mac}:∀(cs:List Con) (last:Int),eT apps ms last cs=true→∀c ∈ cs,last<c.id
 | [],_,_,_,h=>by cases h
 | c::t,last,h,c',hc=>by
  rw [eT] at h
  simp only [Bool.and_eq_true,decide_eq_true_eq] at h
  rcases List.mem_cons.1 hc with rfl | hc
  ·exact h.1
  ·have:=wI t c.id h.2.2.2.2.2 c' hc
   omega
theorem aCI {apps:List dB} {ms:List Mac}:∀(cs:List Con) (last:Int),eT apps ms last cs=true→aKL cs
 | [],_,_=>fun i j hi=>absurd hi (by simp)
 | c::t,last,h=>by
  rw [eT] at h
  simp only [Bool.and_eq_true,decide_eq_true_eq] at h
  have h1:=wI t c.id h.2.2.2.2.2
  have h2:=aCI t c.id h.2.2.2.2.2
  intro i j hi hj hij
  match i,j with
  | _,0=>omega
  | 0,j+1=>
   simp only [List.getElem_cons_zero,List.getElem_cons_succ]
   exact h1 _ (List.getElem_mem _)
  | i+1,j+1=>
   simp only [List.getElem_cons_succ]
   exact h2 i j (by simpa using hi) (by simpa using hj) (by omega)
theorem uZ {s:St} (h:dN s=true):aKL s.cs∧(0≤s.epoch∧s.epoch≤1000000000)∧(0≤s.serial∧s.serial≤1000000000):=by
 rw [dN,iV] at h
 simp only [Bool.and_eq_true,inB,decide_eq_true_eq] at h
 exact ⟨aCI _ _ h.2.2.2.2.2.2.2.2,by omega,by omega⟩
def vY (s:St) (nd:List UInt8) (r:Nat×Nat):Con:=
 match s.apps[r.1]? with
 | some a=>(match a.asks[r.2]? with | some k=>⟨idV s,a.id,nd,k.mem,k.cpu⟩ | none=>⟨0,0,[],0,0⟩)
 | none=>⟨0,0,[],0,0⟩
theorem vX {s:St} {nd:List UInt8} {r:Nat×Nat} (h1:r.1<s.apps.length) (h2:r.2<s.apps[r.1].asks.length):vY s nd r=⟨idV s,s.apps[r.1].id,nd,s.apps[r.1].asks[r.2].mem,s.apps[r.1].asks[r.2].cpu⟩:=by
 rw [vY,List.getElem?_eq_getElem h1]
 simp only
 rw [List.getElem?_eq_getElem h2]
def aKO (s:St) (nd:List UInt8):Bool:=(bF nd s.ms).isSome&&(decide (s.cs.length<150)&&mQ s)
def vC (s:St) (nd:List UInt8):Option ((Nat×Nat)×Con):=if aKO s nd=true then (nM s nd).map fun r=>(r,vY s nd r) else none
def aW (s:St) (nd:List UInt8):Option ((Nat×Nat)×Con):=if dN s=true then vC s nd else none
def mU:Option ((Nat×Nat)×Con)→Con
 | some r=>r.2
 | none=>⟨0,0,[],0,0⟩
end
section
open Go.RowKit Go.Maps
def atR:Option ((Nat×Nat)×Con)→Int×Int
  | some r=>((r.1.1:Int),(r.1.2:Int))
  | none=>(0,0)
theorem nE {W:World} {g1 g2:Nat} {ta tc:TypeId} (h1:Blk W g1 #[.int .i64 0,.int .i64 0] ta) (h2:Blk W g2 #[.int .i64 0,.int .i64 0,.string ByteArray.empty,.int .i64 0,.int .i64 0] tc) (hn:g1≠g2) (i k:Int) :
    W.cell? ⟨g1,0,none⟩=some (.int .i64 0)∧W.cell? ⟨g1,1,none⟩=some (.int .i64 0)∧W.frozen? ⟨g1,0,none⟩=false∧W.frozen? ⟨g1,1,none⟩=false∧((W.setCell ⟨g1,0,none⟩ (.int .i64 i)).setCell ⟨g1,1,none⟩ (.int .i64 k)).cell? ⟨g2,0,none⟩=some (.int .i64 0)∧((W.setCell ⟨g1,0,none⟩ (.int .i64 i)).setCell ⟨g1,1,none⟩ (.int .i64 k)).cell? ⟨g2,1,none⟩=some (.int .i64 0)∧((W.setCell ⟨g1,0,none⟩ (.int .i64 i)).setCell ⟨g1,1,none⟩ (.int .i64 k)).cell? ⟨g2,2,none⟩=some (.string ByteArray.empty)∧((W.setCell ⟨g1,0,none⟩ (.int .i64 i)).setCell ⟨g1,1,none⟩ (.int .i64 k)).cell? ⟨g2,3,none⟩=some (.int .i64 0)∧((W.setCell ⟨g1,0,none⟩ (.int .i64 i)).setCell ⟨g1,1,none⟩ (.int .i64 k)).cell? ⟨g2,4,none⟩=some (.int .i64 0)∧((W.setCell ⟨g1,0,none⟩ (.int .i64 i)).setCell ⟨g1,1,none⟩ (.int .i64 k)).frozen? ⟨g2,0,none⟩=false∧((W.setCell ⟨g1,0,none⟩ (.int .i64 i)).setCell ⟨g1,1,none⟩ (.int .i64 k)).frozen? ⟨g2,1,none⟩=false∧((W.setCell ⟨g1,0,none⟩ (.int .i64 i)).setCell ⟨g1,1,none⟩ (.int .i64 k)).frozen? ⟨g2,2,none⟩=false∧((W.setCell ⟨g1,0,none⟩ (.int .i64 i)).setCell ⟨g1,1,none⟩ (.int .i64 k)).frozen? ⟨g2,3,none⟩=false∧((W.setCell ⟨g1,0,none⟩ (.int .i64 i)).setCell ⟨g1,1,none⟩ (.int .i64 k)).frozen? ⟨g2,4,none⟩=false:=by
  have h3:=(h2.other g1 0 (.int .i64 i) (fun e=>hn e.symm)).other g1 1 (.int .i64 k) (fun e=>hn e.symm)
  exact ⟨h1.at 0,h1.at 1,h1.f 0,h1.f 1,h3.at 0,h3.at 1,h3.at 2,h3.at 3,h3.at 4,h3.f 0,h3.f 1,h3.f 2,h3.f 3,h3.f 4⟩
theorem zA {W:World} {g1 g2:Nat} {ta tc:TypeId} (h1:Blk W g1 #[.int .i64 0,.int .i64 0] ta) (h2:Blk W g2 #[.int .i64 0,.int .i64 0,.string ByteArray.empty,.int .i64 0,.int .i64 0] tc) (hn:g1≠g2) (i k id ap:Int) (sn:ByteArray) (me cp:Int) :
    Blk (((((((W.setCell ⟨g1,0,none⟩ (.int .i64 i)).setCell ⟨g1,1,none⟩ (.int .i64 k)).setCell ⟨g2,0,none⟩ (.int .i64 id)).setCell ⟨g2,1,none⟩ (.int .i64 ap)).setCell ⟨g2,2,none⟩ (.string sn)).setCell ⟨g2,3,none⟩ (.int .i64 me)).setCell ⟨g2,4,none⟩ (.int .i64 cp)) g1 #[.int .i64 i,.int .i64 k] ta∧Blk (((((((W.setCell ⟨g1,0,none⟩ (.int .i64 i)).setCell ⟨g1,1,none⟩ (.int .i64 k)).setCell ⟨g2,0,none⟩ (.int .i64 id)).setCell ⟨g2,1,none⟩ (.int .i64 ap)).setCell ⟨g2,2,none⟩ (.string sn)).setCell ⟨g2,3,none⟩ (.int .i64 me)).setCell ⟨g2,4,none⟩ (.int .i64 cp)) g2 #[.int .i64 id,.int .i64 ap,.string sn,.int .i64 me,.int .i64 cp] tc:=
  ⟨((((((h1.set 0 (.int .i64 i)).set 1 (.int .i64 k)).other g2 0 (.int .i64 id) hn).other g2 1 (.int .i64 ap) hn).other g2 2 (.string sn) hn).other g2 3 (.int .i64 me) hn).other g2 4 (.int .i64 cp) hn,
   ((((((h2.other g1 0 (.int .i64 i) (fun e=>hn e.symm)).other g1 1 (.int .i64 k) (fun e=>hn e.symm)).set 0 (.int .i64 id)).set 1 (.int .i64 ap)).set 2 (.string sn)).set 3 (.int .i64 me)).set 4 (.int .i64 cp)⟩
theorem nG {w W:World} (h:Below w.heap.size w W) {g1 g2:Nat} (h1:w.heap.size≤g1) (h2:w.heap.size≤g2) (i k id ap:Int) (sn:ByteArray) (me cp:Int):Below w.heap.size w (((((((W.setCell ⟨g1,0,none⟩ (.int .i64 i)).setCell ⟨g1,1,none⟩ (.int .i64 k)).setCell ⟨g2,0,none⟩ (.int .i64 id)).setCell ⟨g2,1,none⟩ (.int .i64 ap)).setCell ⟨g2,2,none⟩ (.string sn)).setCell ⟨g2,3,none⟩ (.int .i64 me)).setCell ⟨g2,4,none⟩ (.int .i64 cp)):=
  yC (yC (yC (yC (yC (yC (yC h g1 0 _ h1) g1 1 _ h1) g2 0 _ h2) g2 1 _ h2) g2 2 _ h2) g2 3 _ h2) g2 4 _ h2
end
section
open Go.RowKit
def aJG (a:Ask):Ask:=⟨a.mem,a.cpu,a.count - 1,a.node,a.missed⟩
def gF (l:List Ask) (k:Nat):List Ask:=match l[k]? with
 | none=>l
 | some a=>if 1<a.count then l.set k (aJG a) else l.eraseIdx k
theorem uO {l:List Ask} {k:Nat} (h:k<l.length) (hc:1<l[k].count):gF l k=l.set k (aJG l[k]):=by
 rw [gF,List.getElem?_eq_getElem h];simp only;rw [if_pos hc]
theorem uP {l:List Ask} {k:Nat} (h:k<l.length) (hc:¬1<l[k].count):gF l k=l.eraseIdx k:=by
 rw [gF,List.getElem?_eq_getElem h];simp only;rw [if_neg hc]
theorem aEd (l:List Ask) (k:Nat):(gF l k).length≤l.length:=by
 unfold gF
 split
 ·exact Nat.le_refl _
 ·split
  ·rw [List.length_set];exact Nat.le_refl _
  ·exact List.length_eraseIdx_le _ _
theorem aEc {l:List Ask} {k:Nat} {a:Ask} (h:a ∈ gF l k):∃b ∈ l,a.node=b.node:=by
 unfold gF at h
 split at h
 ·exact ⟨a,h,rfl⟩
 ·rename_i b hb
  split at h
  ·rcases List.mem_or_eq_of_mem_set h with h | h
   ·exact ⟨a,h,rfl⟩
   ·exact ⟨b,List.mem_of_getElem? hb,by rw [h];rfl⟩
  ·exact ⟨a,List.mem_of_mem_eraseIdx h,rfl⟩
def aIn (a:dB) (k:Nat):dB:=⟨a.id,a.queue,gF a.asks k⟩
def bK (l:List dB) (r:Nat×Nat):List dB:=l.modify r.1 (fun a=>aIn a r.2)
theorem uQ {l:List dB} {r:Nat×Nat} {a:dB} (h:a ∈ bK l r):∃b ∈ l,a.id=b.id∧a.queue=b.queue∧(a.asks=b.asks∨a.asks=gF b.asks r.2):=by
 unfold bK at h
 obtain ⟨i,hi,rfl⟩:=List.mem_iff_getElem.1 h
 have hi':i<l.length:=by simpa using hi
 rw [List.getElem_modify]
 split
 ·exact ⟨l[i],List.getElem_mem hi',rfl,rfl,.inr rfl⟩
 ·exact ⟨l[i],List.getElem_mem hi',rfl,rfl,.inl rfl⟩
def gQ (id:Int):List Con→Nat
 | []=>0
 | c::t=>if c.id<id then gQ id t+1 else 0
theorem aBP (id:Int):∀l:List Con,gQ id l≤l.length
 | []=>Nat.le_refl _
 | c::t=>by
  rw [gQ]
  have:=aBP id t
  split<;>simp<;>omega
theorem aBQ {id:Int}:∀{l:List Con} {p:Nat},p≤l.length→(∀i (hi:i<l.length),i<p→l[i].id<id)→(∀i (hi:i<l.length),p≤i→id≤l[i].id)→gQ id l=p
 | [],p,h,_,_=>by simp at h;simp [gQ,h]
 | c::t,p,h,h1,h2=>by
  rw [gQ]
  cases p with
  | zero=>
   have:=h2 0 (by simp) (Nat.le_refl _)
   simp only [List.getElem_cons_zero] at this
   rw [if_neg (by omega)]
  | succ p=>
   have h0:=h1 0 (by simp) (by omega)
   simp only [List.getElem_cons_zero] at h0
   rw [if_pos h0,aBQ (l:=t) (p:=p) (by simpa using h) (fun i hi hp=>by have:=h1 (i+1) (by simpa using hi) (by omega);simpa using this) (fun i hi hp=>by have:=h2 (i+1) (by simpa using hi) (by omega);simpa using this)]
def vU (l:List Con) (c:Con):List Con:=l.take (gQ c.id l)++c::l.drop (gQ c.id l)
theorem aEC (l:List Con) (c:Con):(vU l c).length=l.length+1:=by
 have:=aBP c.id l
 unfold vU
 rw [List.length_append,List.length_cons,List.length_take,List.length_drop]
 omega
theorem aEB {l:List Con} {c x:Con} (h:x ∈ vU l c):x=c∨x ∈ l:=by
 unfold vU at h
 rcases List.mem_append.1 h with h | h
 ·exact .inr (List.mem_of_mem_take h)
 ·rcases List.mem_cons.1 h with h | h
  ·exact .inl h
  ·exact .inr (List.mem_of_mem_drop h)
def dC (x:Int):Int:=if 99999<x+1 then 1 else x+1
def jQ (s:St) (p:(Nat×Nat)×Con):St:=⟨s.qs,s.clock,s.epoch,s.next,dC s.serial,bK s.apps p.1,s.ms,vU s.cs p.2⟩
def fV (s:St) (nd:List UInt8):St:=match aW s nd with | none=>s | some p=>jQ s p
theorem oH {s:St} {nd:List UInt8} (h:aW s nd=none):fV s nd=s:=by rw [fV,h]
theorem oG {s:St} {nd:List UInt8} {p:(Nat×Nat)×Con} (h:aW s nd=some p):fV s nd=jQ s p:=by rw [fV,h]
theorem nH {s:St} {nd:List UInt8} {p:(Nat×Nat)×Con} (h:aW s nd=some p):dN s=true∧vC s nd=some p∧s.cs.length<150∧∃h1:p.1.1<s.apps.length,∃h2:p.1.2<s.apps[p.1.1].asks.length,p.2=⟨idV s,s.apps[p.1.1].id,nd,s.apps[p.1.1].asks[p.1.2].mem,s.apps[p.1.1].asks[p.1.2].cpu⟩:=by
 unfold aW at h
 split at h
 ·rename_i hk
  refine ⟨hk,h,?_⟩
  unfold vC at h
  split at h
  ·rename_i hm
   simp only [aKO,Bool.and_eq_true,decide_eq_true_eq] at hm
   refine ⟨hm.2.1,?_⟩
   cases hp:nM s nd with
   | none=>rw [hp] at h;cases h
   | some r=>
    rw [hp] at h
    obtain rfl:=Option.some.inj h
    obtain ⟨h1,h2⟩:=aCo hp
    exact ⟨h1,h2,vX h1 h2⟩
  ·cases h
 ·cases h
theorem aBz {s:St} (hf:bS s) {nd:List UInt8} (hn:nd.length≤1048576):bS (fV s nd):=by
 cases h:aW s nd with
 | none=>rw [oH h];exact hf
 | some p=>
  rw [oG h]
  obtain ⟨_,_,h3,h1,h2,e⟩:=nH h
  refine ⟨hf.1,⟨by simp only [jQ,bK,List.length_modify];exact hf.2.1.1,fun a ha=>?_⟩,hf.2.2.1,by simp only [jQ,aEC];omega,fun c hc=>?_⟩
  ·obtain ⟨b,hb,_,e2,e3⟩:=uQ ha
   have hq:=hf.2.1.2 b hb
   refine ⟨by rw [e2];exact hq.1,?_⟩
   rcases e3 with e3 | e3
   ·rw [e3];exact hq.2
   ·rw [e3]
    refine ⟨Nat.le_trans (aEd _ _) hq.2.1,fun x hx=>?_⟩
    obtain ⟨y,hy,e4⟩:=aEc hx
    rw [e4]
    exact hq.2.2 y hy
  ·rcases aEB hc with rfl | hc
   ·rw [e];exact hn
   ·exact hf.2.2.2.2 c hc
theorem aKM {s:St} (hw:aEP s) (nd:List UInt8):aEP (fV s nd):=by
 cases h:aW s nd with
 | none=>rw [oH h];exact hw
 | some p=>
  rw [oG h]
  obtain ⟨_,_,_,h1,h2,e⟩:=nH h
  refine ⟨fun a ha=>?_,fun c hc=>?_⟩
  ·obtain ⟨b,hb,e1,_⟩:=uQ ha
   rw [e1]
   exact hw.1 b hb
  ·rcases aEB hc with rfl | hc
   ·rw [e];exact hw.1 _ (List.getElem_mem h1)
   ·exact hw.2 c hc
theorem Lay.len {w:World} {t:TypeId} {g M:Nat} {cs:List Value} (h:Lay w t g M cs):cs.length≤M:=by
 obtain ⟨R,_,h2⟩:=h
 rw [List.length_append] at h2
 omega
theorem aDH {w:World} {t:TypeId} {g M:Nat} {cs:List Value} (h:Lay w t g M cs) {p:Nat} (hp:p<cs.length) (v:Value):Lay (w.setCell ⟨g,p,none⟩ v) t g M (cs.set p v):=by
 have hl:=h.len
 refine h.cells p [v] (by simp;omega) (cs.set p v) (by rw [List.length_set];exact hl) (fun j u hj=>⟨fun e=>?_,fun e=>?_⟩)
 ·obtain rfl:j=p:=by simp at e;omega
  rw [List.getElem?_set_self hp] at hj
  simpa using hj
 ·rw [List.getElem?_set_ne (by simp at e;omega)] at hj
  exact h.cell hj
theorem rG:∀(l:List Ask) (k:Nat) (h:k<l.length) (c:Int),aN (l.set k ⟨l[k].mem,l[k].cpu,c,l[k].node,l[k].missed⟩)=(aN l).set (k*5+2) (.int .i64 c)
 | [],k,h,_=>by simp at h
 | q::t,0,_,c=>by simp [aN,aI5]
 | q::t,k+1,h,c=>by
  have ih:=rG t k (by simpa using h) c
  simp only [sC,List.getElem_cons_succ,aN,aI5] at ih ⊢
  rw [ih,show (k+1)*5+2=k*5+2+1+1+1+1+1 by omega]
  simp
theorem yS:∀(l:List AV) (k:Nat) (h:k<l.length) (ao:Option Addr) (n c:Nat),bY (l.set k ⟨l[k].id,l[k].queue,ao,n,c⟩)=(bY l).set (k*3+2) (.slice ao n c)
 | [],k,h,_,_,_=>by simp at h
 | q::t,0,_,ao,n,c=>by simp [bY,aCp]
 | q::t,k+1,h,ao,n,c=>by
  have ih:=yS t k (by simpa using h) ao n c
  simp only [sC,List.getElem_cons_succ,bY,aCp] at ih ⊢
  rw [ih,show (k+1)*3+2=k*3+2+1+1+1 by omega]
  simp
theorem oN.lay {B n:Nat} {w:World} {pg:Nat} {hs:List AV} (h:oN B w (some ⟨pg,0,none⟩) n hs) (hn:n≠0):∃M,B≤pg∧pg<w.heap.size∧Lay w 74 pg (M*3) (bY hs)∧n≤M∧n=hs.length:=by
 rcases h.2 with e | ⟨g,M,e,h1,h2,h3,h4⟩
 ·exact absurd e hn
 ·cases e
  refine ⟨M,h1,h2,zL h3 (fun j u hj=>by have:=yT h.1 j u hj;rwa [Nat.zero_add] at this) (by rw [gU,←h.1.1];exact Nat.mul_le_mul_right _ h4),h4,h.1.1⟩
theorem Lay.phas {B n M:Nat} {w:World} {pg:Nat} {hs:List AV} (h:Lay w 74 pg (M*3) (bY hs)) (hB:B≤pg) (hn:n=hs.length) (hM:n≤M):oN B w (some ⟨pg,0,none⟩) n hs:=by
 subst hn
 exact ⟨h.rowP,.inr ⟨pg,M,rfl,hB,h.lt,h.cel,hM⟩⟩
theorem oN.upd {B n:Nat} {w:World} {pg i:Nat} {hs:List AV} (h:oN B w (some ⟨pg,0,none⟩) n hs) (hi:i<hs.length) (ao:Option Addr) (m c:Nat) :
  oN B (w.setCell ⟨pg,i*3+2,none⟩ (.slice ao m c)) (some ⟨pg,0,none⟩) n (hs.set i ⟨hs[i].id,hs[i].queue,ao,m,c⟩):=by
 obtain ⟨M,h1,_,h2,h3,h4⟩:=h.lay (by have:=h.1.1;omega)
 refine Lay.phas (M:=M) ?_ h1 (by rw [List.length_set];exact h4) h3
 rw [yS hs i hi]
 exact aDH h2 (by rw [gU];omega) _
theorem aO.off {w w':World} {ao:Option Addr} {n ga:Nat} {l:List Ask} (h:aO w ao n l) (hm:Mks (fun k=>k=ga) w w') (ho:∀o,n≠0→ao≠some ⟨ga,o,none⟩):aO w' ao n l:=
 h.mks hm (fun k hk e=>by subst e;obtain ⟨h1,o,h2⟩:=hk;exact ho o h1 h2)
theorem kD.upd {B:Nat} {w w':World} {hs:List AV} {l:List dB} (h:kD B w hs l) {i ga n':Nat} {ak:List Ask} (hi:i<hs.length) (hl:i<l.length) (hga:hs[i].ao=some ⟨ga,0,none⟩) (hlen:hs[i].len≠0) (hm:Mks (fun k=>k=ga) w w')
  (hr:aO w' (some ⟨ga,0,none⟩) n' ak) (hn:n'≤hs[i].len):kD B w' (hs.set i ⟨hs[i].id,hs[i].queue,some ⟨ga,0,none⟩,n',hs[i].cap⟩) (l.modify i (fun a=>⟨a.id,a.queue,ak⟩)):=by
 have hne:∀j (hj:j<hs.length),j≠i→∀o,hs[j].len≠0→hs[j].ao≠some ⟨ga,o,none⟩:=fun j hj hji o h0 e=>by
  have hap:aH6 hs[i] hs[j]∨aH6 hs[j] hs[i]:=by
   rcases Nat.lt_or_gt_of_ne hji with hlt | hlt
   ·exact .inr (List.pairwise_iff_getElem.1 h.apart j i hj hi hlt)
   ·exact .inl (List.pairwise_iff_getElem.1 h.apart i j hi hj hlt)
  have ho:o=0:=by
   rcases h.own _ (List.getElem_mem hj) with e2 | ⟨g,M,e2,_⟩
   ·exact absurd e2 h0
   ·rw [e] at e2;cases e2;rfl
  subst ho
  rcases hap with (a | a | a) | (a | a | a)
  ·exact hlen a
  ·exact h0 a
  ·exact a (by rw [hga,e])
  ·exact h0 a
  ·exact hlen a
  ·exact a (by rw [hga,e])
 refine ⟨⟨by simp [h.heads.1],fun j h1 h2=>?_⟩,fun v hv=>?_,?_⟩
 ·have hj:j<hs.length:=by simpa using h1
  have hj':j<l.length:=by simpa using h2
  obtain ⟨a,b,c,d⟩:=h.heads.2 j hj hj'
  rw [List.getElem_set,List.getElem_modify]
  by_cases e:i=j
  ·subst e
   rw [if_pos rfl,if_pos rfl]
   exact ⟨a,b,hr,Nat.le_trans hn d⟩
  ·rw [if_neg e,if_neg e]
   exact ⟨a,b,c.off hm (hne j hj (fun e2=>e e2.symm)),d⟩
 ·rcases List.mem_or_eq_of_mem_set hv with hv | rfl
  ·exact ((h.own v hv).mks hm).mono (Nat.le_refl _) hm.size
  ·have:=((h.own _ (List.getElem_mem hi)).mks hm).mono (Nat.le_refl _) hm.size
   rw [hga] at this
   exact this.le hn
 ·rw [List.pairwise_iff_getElem]
  intro a b ha hb hab
  have ha':a<hs.length:=by simpa using ha
  have hb':b<hs.length:=by simpa using hb
  have h0:=List.pairwise_iff_getElem.1 h.apart a b ha' hb' hab
  rw [List.getElem_set,List.getElem_set]
  by_cases e1:i=a
  ·subst e1
   rw [if_pos rfl,if_neg (by omega)]
   by_cases e2:hs[b].len=0
   ·exact .inr (.inl e2)
   ·exact .inr (.inr (fun e=>hne b hb' (by omega) 0 e2 e.symm))
  ·rw [if_neg e1]
   by_cases e2:i=b
   ·subst e2
    rw [if_pos rfl]
    by_cases e3:hs[a].len=0
    ·exact .inl e3
    ·exact .inr (.inr (hne a ha' (fun e=>e1 e.symm) 0 e3))
   ·rw [if_neg e2]
    exact h0
section
variable {B:Nat} {S:Nat→Prop} {w w':World} {t':TypeId}
theorem tX.mkg {n:Nat} {ao:Option Addr} {l:List Q} (h:tX B w ao n l) (hm:Mks S w w') (hS:∀k,S k→∃N,Cel w t' k N) (ht:t'≠100):tX B w' ao n l:=⟨h.1.mks hm (eB h.2 hm hS ht).1,(eB h.2 hm hS ht).2⟩
theorem tH.mkg {n:Nat} {ao:Option Addr} {l:List Mac} (h:tH B w ao n l) (hm:Mks S w w') (hS:∀k,S k→∃N,Cel w t' k N) (ht:t'≠104):tH B w' ao n l:=⟨h.1.mks hm (eB h.2 hm hS ht).1,(eB h.2 hm hS ht).2⟩
theorem qL.mkg {n:Nat} {ao:Option Addr} {l:List Con} (h:qL B w ao n l) (hm:Mks S w w') (hS:∀k,S k→∃N,Cel w t' k N) (ht:t'≠38):qL B w' ao n l:=⟨h.1.mks hm (eB h.2 hm hS ht).1,(eB h.2 hm hS ht).2⟩
theorem oN.mkg {n:Nat} {ao:Option Addr} {l:List AV} (h:oN B w ao n l) (hm:Mks S w w') (hS:∀k,S k→∃N,Cel w t' k N) (ht:t'≠74):oN B w' ao n l:=⟨h.1.mks hm (eB h.2 hm hS ht).1,(eB h.2 hm hS ht).2⟩
theorem kD.mkg {hs:List AV} {l:List dB} (h:kD B w hs l) (hm:Mks S w w') (hS:∀k,S k→∃N,Cel w t' k N) (ht:t'≠77):kD B w' hs l:=
 ⟨⟨h.heads.1,fun i h1 h2=>let ⟨a,b',c,d⟩:=h.heads.2 i h1 h2;⟨a,b',c.mks hm (eB (h.own _ (List.getElem_mem h1)) hm hS ht).1,d⟩⟩,fun v hv=>(eB (h.own v hv) hm hS ht).2,h.apart⟩
theorem Mks.wide {S T:Nat→Prop} (h:Mks S w w') (hi:∀k,S k→T k):Mks T w w':=⟨h.os,h.tape,h.output,h.size,fun k hk hn=>h.block k hk (fun e=>hn (hi k e)),h.cel⟩
end
def aGE (s:St) (r:Nat×Nat):St:=⟨s.qs,s.clock,s.epoch,s.next,s.serial,bK s.apps r,s.ms,s.cs⟩
def aIh (B:Nat) (w:World) (k:Nat):Prop:=B≤k∧∃N,Cel w 74 k N∨Cel w 77 k N
def aH1 (B:Nat) (y:Sls) (s:St) (r:Nat×Nat) (w:World) (e:Ending) (w':World):Prop:=e=.returned (.tuple #[])∧∃hs',iU B w' y (aGE s r) hs'∧Mks (aIh B w) w w'
theorem qM (l:List dB) (i k:Nat) (h:i<l.length):bK l (i,k)=l.modify i (fun a=>⟨a.id,a.queue,gF l[i].asks k⟩):=by
 unfold bK
 apply List.ext_getElem
 ·simp
 ·intro j h1 h2
  rw [List.getElem_modify,List.getElem_modify]
  by_cases e:i=j
  ·subst e
   rw [if_pos rfl,if_pos rfl]
   rfl
  ·rw [if_neg e,if_neg e]
theorem aGD {B:Nat} {y:Sls} {s:St} {hs:List AV} {w:World} (h:iU B w y s hs) {pg i k:Nat} (hpa:y.aa=some ⟨pg,0,none⟩) (hi:i<s.apps.length) (hk:k<s.apps[i].asks.length) (hf:bS s) (hct:0≤s.apps[i].asks[k].count∧s.apps[i].asks[k].count≤1000) :
  Calls Tryz.prog 70 #[.pointer (some ⟨pg,i*3,none⟩),.int .i64 (k:Int)] w (aH1 B y s (i,k) w):=by
 have hhl:hs.length=s.apps.length:=h.k.heads.1
 have hih:i<hs.length:=by omega
 have hal:y.al=hs.length:=h.p.1.1
 obtain ⟨e0,e1,hrow,hlc⟩:=h.k.heads.2 i hih hi
 have hln:hs[i].len=s.apps[i].asks.length:=hrow.1
 have hlen:hs[i].len≠0:=by omega
 obtain ⟨ga,M,hga,hB,hgl,hcel,hM⟩:∃g M,hs[i].ao=some ⟨g,0,none⟩∧B≤g∧g<w.heap.size∧Cel w 77 g (M*5)∧hs[i].len≤M:=by
  rcases h.k.own _ (List.getElem_mem hih) with e | e
  ·exact absurd e hlen
  ·exact e
 rw [hga] at hrow
 have hlay:Lay w 77 ga (M*5) (aN s.apps[i].asks):=hrow.lay hcel (Nat.mul_le_mul_right _ (by omega))
 have hp:=h.p
 rw [hpa] at hp
 obtain ⟨Mp,hBp,hpl,hplay,hMp,_⟩:=hp.lay (by omega)
 have hfl:s.apps[i].asks.length≤1048576:=(hf.2.1.2 _ (List.getElem_mem hi)).2.1
 have hrm:=h.rm
 have keep:∀(n':Nat) (ak:List Ask) (w1:World),Mks (fun b=>b=ga) w w1→aO w1 (some ⟨ga,0,none⟩) n' ak→n'≤hs[i].len→tX B w1 y.qa y.ql s.qs∧oN B w1 (some ⟨pg,0,none⟩) y.al hs∧kD B w1 (hs.set i ⟨hs[i].id,hs[i].queue,some ⟨ga,0,none⟩,n',hs[i].cap⟩) (s.apps.modify i (fun a=>⟨a.id,a.queue,ak⟩))∧tH B w1 y.ma y.ml s.ms∧qL B w1 y.ca y.cl s.cs∧RmS B w1.heap.size w1 y (hs.set i ⟨hs[i].id,hs[i].queue,some ⟨ga,0,none⟩,n',hs[i].cap⟩):=fun n' ak w1 hm hr hn=>by
  have hS:∀k,k=ga→∃N,Cel w 77 k N:=fun k e=>by subst e;exact ⟨_,hcel⟩
  have hr2:=(hrm.mks hm).mono (Nat.le_refl B) hm.size
  refine ⟨h.q.mkg hm hS (by decide),hp.mkg hm hS (by decide),h.k.upd hih hi hga hlen hm hr hn,h.m.mkg hm hS (by decide),h.c.mkg hm hS (by decide),hr2.1,hr2.2.1,hr2.2.2.1,hr2.2.2.2.1,fun v hv=>?_⟩
  rcases List.mem_or_eq_of_mem_set hv with hv | rfl
  ·exact hr2.2.2.2.2 v hv
  ·have:=hr2.2.2.2.2 _ (List.getElem_mem hih)
   rw [hga] at this
   exact this
 have hcells:=(kS hs i hih).2.2
 have c2:w.cell? ⟨pg,i*3+2,none⟩=some (.slice (some ⟨ga,0,none⟩) hs[i].len hs[i].cap):=by rw [←hga];exact hplay.cell hcells
 have hck:=(kY s.apps[i].asks k hk).2.2.1
 have ck:w.cell? ⟨ga,k*5+2,none⟩=some (.int .i64 s.apps[i].asks[k].count):=hlay.cell hck
 have fk:w.frozen? ⟨ga,k*5+2,none⟩=false:=hlay.frozen _
 have fp:∀w1,Mks (fun b=>b=ga) w w1→w1.frozen? ⟨pg,i*3+2,none⟩=false:=fun w1 hm=>(hm.cel _ _ _ hplay.cel).frozen _
 have CD:=aA (aAh ga (M*5) hs[i].cap k s.apps[i].asks w hlay hk (by rw [←hln];exact hlc) hfl (Nat.mul_le_mul_right _ (by omega)))
 have k0:(0:Int)≤k:=by omega
 have k1:(k:Int)<hs[i].len:=by omega
 have hwk:IntKind.i64.wrap ((k:Int)+1)=(k:Int)+1:=by rw [IntKind.wrap_i64];omega
 have hset:hs.set i ⟨hs[i].id,hs[i].queue,some ⟨ga,0,none⟩,hs[i].len,hs[i].cap⟩=hs:=by rw [←hga];exact List.set_getElem_self hih
 by_cases hc:1<s.apps[i].asks[k].count
 ·have HA:=aA (show aH1 B y s (i,k) w (.returned (.tuple #[])) (w.setCell ⟨ga,k*5+2,none⟩ (.int .i64 (s.apps[i].asks[k].count - 1))) from by
   have hl2:=aDH hlay (p:=k*5+2) (by rw [aV];omega) (.int .i64 (s.apps[i].asks[k].count - 1))
   rw [←rG s.apps[i].asks k hk] at hl2
   have hr:=hl2.rowA
   rw [List.length_set,←hln] at hr
   have hm:Mks (fun b=>b=ga) w (w.setCell ⟨ga,k*5+2,none⟩ (.int .i64 (s.apps[i].asks[k].count - 1))):=Mks.one _ _ _ _ _ rfl
   obtain ⟨a1,a2,a3,a4,a5,a6⟩:=keep _ _ _ hm hr (Nat.le_refl _)
   rw [hset] at a3 a6
   refine ⟨rfl,hs,⟨a1,by rw [hpa];exact a2,?_,a4,a5,h.cap,a6⟩,hm.wide (fun b e=>by subst e;exact ⟨hB,_,.inr hcel⟩)⟩
   show kD B _ hs (bK s.apps (i,k))
   rw [qM _ _ _ hi,uO hk hc]
   exact a3)
  obtain ⟨n,hn⟩:∃n,hs[i].len=n:=⟨_,rfl⟩
  obtain ⟨c,hcc⟩:∃n,hs[i].cap=n:=⟨_,rfl⟩
  obtain ⟨ct,hctt⟩:∃n,s.apps[i].asks[k].count=n:=⟨_,rfl⟩
  rw [hn,hcc] at c2
  rw [hn] at k1
  rw [hctt] at ck HA hc hct
  have hwc:IntKind.i64.wrap (ct - 1)=ct - 1:=by rw [IntKind.wrap_i64];omega
  clear h hpa hf hlay hplay keep CD hcells hck fp hset hrow hcel hM hhl hih hal e0 e1 hlc hln hlen hga hB hgl hp hBp hpl hMp hfl hrm hn hcc hctt hwk hct
  go_enter Tryz.func70,Tryz.ntmps70
  go_wp2
  first | go_end0 | (simp only [Exit.inBlock,Exit.then];refine bodyPost_ret (results_none rfl _ _ _) rfl ?_) | refine bodyPost_ret (results_none rfl _ _ _) rfl ?_
  exact uH HA
 ·have HB:=aA (show ∀w1,Lay w1 77 ga (M*5) (aN (s.apps[i].asks.eraseIdx k))→Mks (fun b=>b=ga) w w1→aH1 B y s (i,k) w (.returned (.tuple #[])) (w1.setCell ⟨pg,i*3+2,none⟩ (.slice (some ⟨ga,0,none⟩) (s.apps[i].asks.length - 1) hs[i].cap)) from fun w1 hl2 hm=>by
   have hr:=hl2.rowA
   rw [List.length_eraseIdx_of_lt hk] at hr
   obtain ⟨a1,a2,a3,a4,a5,a6⟩:=keep _ _ _ hm hr (by omega)
   have hm2:Mks (fun b=>b=pg) w1 (w1.setCell ⟨pg,i*3+2,none⟩ (.slice (some ⟨ga,0,none⟩) (s.apps[i].asks.length - 1) hs[i].cap)):=Mks.one _ _ _ _ _ rfl
   have hS:∀b,b=pg→∃N,Cel w1 74 b N:=fun b e=>by subst e;exact ⟨_,hm.cel _ _ _ hplay.cel⟩
   refine ⟨rfl,_,⟨a1.mkg hm2 hS (by decide),by rw [hpa];exact a2.upd hih (some ⟨ga,0,none⟩) (s.apps[i].asks.length - 1) hs[i].cap,?_,a4.mkg hm2 hS (by decide),a5.mkg hm2 hS (by decide),h.cap,(a6.mks hm2).mono (Nat.le_refl _) hm2.size⟩,(hm.wide (fun b e=>by subst e;exact ⟨hB,_,.inr hcel⟩)).trans (hm2.wide (fun b e=>by subst e;exact ⟨hBp,_,.inl hplay.cel⟩))⟩
   show kD B _ _ (bK s.apps (i,k))
   rw [qM _ _ _ hi,uP hk hc]
   exact a3.mkg hm2 hS (by decide))
  have HC2:=aA (show ∀w1,Mks (fun b=>b=ga) w w1→(w1.cell? ⟨pg,i*3+2,none⟩).isSome=true from fun w1 hm=>(hm.cel _ _ _ hplay.cel).isThere (by have:=Nat.mul_le_mul_right 3 (show i+1≤Mp by omega);omega))
  have FP:=aA fp
  rw [←hln] at CD HB
  obtain ⟨n,hn⟩:∃n,hs[i].len=n:=⟨_,rfl⟩
  obtain ⟨c,hcc⟩:∃n,hs[i].cap=n:=⟨_,rfl⟩
  obtain ⟨ct,hctt⟩:∃n,s.apps[i].asks[k].count=n:=⟨_,rfl⟩
  rw [hn,hcc] at c2
  rw [hn] at k1
  rw [hn,hcc] at CD HB
  rw [hctt] at ck hc
  clear h hpa hf hlay hplay keep hcells hck fp hset hrow hcel hM hhl hih hal e0 e1 hlc hln hlen hga hB hgl hp hBp hpl hMp hfl hrm hn hcc hctt hct fk
  go_enter Tryz.func70,Tryz.ntmps70
  go_wp2_with fail
  refine (uH CD).mono ?_
  rintro e w1 ⟨rfl,hl2,hm⟩
  obtain ⟨old,hold⟩:=Option.isSome_iff_exists.1 (uH HC2 w1 hm)
  have f1:=uH FP w1 hm
  have HA:=aA (uH HB w1 hl2 hm)
  clear hl2 hm CD HC2 FP HB c2 ck
  go_wp2
  first | go_end0 | (simp only [Exit.inBlock,Exit.then];refine bodyPost_ret (results_none rfl _ _ _) rfl ?_) | refine bodyPost_ret (results_none rfl _ _ _) rfl ?_
  exact uH HA
theorem aGP {w:World} {B B' sz n:Nat} {t:TypeId} {v:Value} {xs:List Value} (h:w.ownsRow B t sz v n xs) (hb:B'≤B):w.ownsRow B' t sz v n xs:=by
 obtain ⟨h1,h2⟩:=h
 rcases h2 with h2 | ⟨g,cap,cur,e,hg,r⟩
 ·exact ⟨h1,.inl h2⟩
 ·exact ⟨h1,.inr ⟨g,cap,cur,e,Nat.le_trans hb hg,r⟩⟩
theorem aCm {id:Int} {l:List Con} {k:Nat} (h:k<l.length):gQ id (l.drop k)=if l[k].id<id then gQ id (l.drop (k+1))+1 else 0:=by
 rw [List.drop_eq_getElem_cons h,gQ]
theorem aJW (g n cap k:Nat) (hk:k≤cap) (wx:World):(Instr.slice 32 (.slice (some ⟨g,0,none⟩) n cap) none (some (.int .i64 (k:Int))) none).run Tryz.prog wx=.ok (.slice (some ⟨g,0,none⟩) k cap) wx:=by
 rw [run_slice_h (P:=Tryz.prog) (w:=wx) 32 (some ⟨g,0,none⟩) n cap Tryz.underlying32 .i64 (k:Int) (by omega) (by omega)]
 rw [show (sizeOf (Tryz.prog.elem 32)).run Tryz.prog wx=.ok 5 wx from by kernel_rfl]
 simp [Result.andThen,sliced,Addr.add]
theorem aJX (g n cap k:Nat) (hk:k≤n) (wx:World):(Instr.slice 32 (.slice (some ⟨g,0,none⟩) n cap) (some (.int .i64 (k:Int))) none none).run Tryz.prog wx=.ok (.slice (some (hiA g cap k 5)) (n - k) (cap - k)) wx:=by
 rw [run_slice_l (P:=Tryz.prog) (w:=wx) 32 (some ⟨g,0,none⟩) n cap Tryz.underlying32 .i64 (k:Int) (by omega) (by omega)]
 rw [show (sizeOf (Tryz.prog.elem 32)).run Tryz.prog wx=.ok 5 wx from by kernel_rfl]
 simp only [Result.andThen,sliced,Int.toNat_natCast,hiA]
 by_cases h:cap=k
 ·rw [if_pos h,if_pos h]
 ·rw [if_neg h,if_neg h]
  simp [Addr.add]
  try omega
def aKn (w1:World) (g n0 cap j g3:Nat) (NC1 NC2:List Value) (c0 c1:Int) (cn:List UInt8) (c3 c4:Int) (x6 x7 x8 x9 x10 x11 x12 x13 x14 x15 x16 x17 x18 x19 x20 x21:Value) (n:Nat) (lz:Array Bool) (az:Act) (wz:World):Prop:=(n=6∧lz=#[false,true,true,true,false,true,false,false,true,true,true,false,false]∧az = { tmps:=#[.slice (some ⟨g,0,none⟩) n0 cap,.agg #[.int .i64 c0,.int .i64 c1,.string (bs cn),.int .i64 c3,.int .i64 c4],undef,.pointer (some ⟨g3,0,none⟩),.slice none 0 0,.int .i64 (j:Int),x6,x7,x8,x9,x10,x11,x12,x13,x14,x15,x16,x17,x18,x19,x20,x21,undef,.slice (some ⟨g,0,none⟩) n0 cap,.int .i64 (j:Int),.slice (some ⟨g,0,none⟩) j cap,undef,.agg #[.int .i64 c0,.int .i64 c1,.string (bs cn),.int .i64 c3,.int .i64 c4],undef,undef,.slice (some ⟨g,0,none⟩) n0 cap,.int .i64 (j:Int),.slice (some (hiA g cap j 5)) (n0 - j) (cap - j),undef],defers:=[] }∧Kp w1 wz)
def aKm (w1:World) (g n0 cap j g3:Nat) (NC1 NC2:List Value) (c0 c1:Int) (cn:List UInt8) (c3 c4:Int) (x6 x7 x8 x9 x10 x11 x12 x13 x14 x15 x16 x17 x18 x19 x20 x21:Value) (n:Nat) (lz:Array Bool) (az:Act) (wz:World):Prop:=(∃gb:Nat,n=5∧lz=#[false,true,true,true,false,true,true,false,true,true,true,false,false]∧az = { tmps:=#[.slice (some ⟨g,0,none⟩) n0 cap,.agg #[.int .i64 c0,.int .i64 c1,.string (bs cn),.int .i64 c3,.int .i64 c4],undef,.pointer (some ⟨g3,0,none⟩),.slice none 0 0,.int .i64 (j:Int),x6,x7,x8,x9,x10,x11,x12,x13,x14,x15,x16,x17,x18,x19,x20,x21,undef,.slice (some ⟨g,0,none⟩) n0 cap,.int .i64 (j:Int),.slice (some ⟨g,0,none⟩) j cap,undef,.agg #[.int .i64 c0,.int .i64 c1,.string (bs cn),.int .i64 c3,.int .i64 c4],.slice (some ⟨gb,0,none⟩) 1 1,undef,.slice (some ⟨g,0,none⟩) n0 cap,.int .i64 (j:Int),.slice (some (hiA g cap j 5)) (n0 - j) (cap - j),undef],defers:=[] }∧aCT 38 w1 wz gb #[.int .i64 c0,.int .i64 c1,.string (bs cn),.int .i64 c3,.int .i64 c4]∧Kp w1 wz)
def aKl (w1:World) (g n0 cap j g3:Nat) (NC1 NC2:List Value) (c0 c1:Int) (cn:List UInt8) (c3 c4:Int) (x6 x7 x8 x9 x10 x11 x12 x13 x14 x15 x16 x17 x18 x19 x20 x21:Value) (n:Nat) (lz:Array Bool) (az:Act) (wz:World):Prop:=(∃g0:Nat,n=5∧lz=#[true,true,true,true,false,true,false,false,true,true,true,false,false]∧az = { tmps:=#[.slice (some ⟨g,0,none⟩) n0 cap,.agg #[.int .i64 c0,.int .i64 c1,.string (bs cn),.int .i64 c3,.int .i64 c4],undef,.pointer (some ⟨g3,0,none⟩),.slice none 0 0,.int .i64 (j:Int),x6,x7,x8,x9,x10,x11,x12,x13,x14,x15,x16,x17,x18,x19,x20,x21,.slice (some ⟨g0,0,none⟩) 0 0,.slice (some ⟨g,0,none⟩) n0 cap,.int .i64 (j:Int),.slice (some ⟨g,0,none⟩) j cap,undef,.agg #[.int .i64 c0,.int .i64 c1,.string (bs cn),.int .i64 c3,.int .i64 c4],undef,undef,.slice (some ⟨g,0,none⟩) n0 cap,.int .i64 (j:Int),.slice (some (hiA g cap j 5)) (n0 - j) (cap - j),undef],defers:=[] }∧uF 38 5 w1.heap.size wz (.slice (some ⟨g0,0,none⟩) 0 0) 0 []∧Kp w1 wz)
def aKk (w1:World) (g n0 cap j g3:Nat) (NC1 NC2:List Value) (c0 c1:Int) (cn:List UInt8) (c3 c4:Int) (x6 x7 x8 x9 x10 x11 x12 x13 x14 x15 x16 x17 x18 x19 x20 x21:Value) (n:Nat) (lz:Array Bool) (az:Act) (wz:World):Prop:=(∃g0:Nat,∃gb:Nat,n=4∧lz=#[true,true,true,true,false,true,true,false,true,true,true,false,false]∧az = { tmps:=#[.slice (some ⟨g,0,none⟩) n0 cap,.agg #[.int .i64 c0,.int .i64 c1,.string (bs cn),.int .i64 c3,.int .i64 c4],undef,.pointer (some ⟨g3,0,none⟩),.slice none 0 0,.int .i64 (j:Int),x6,x7,x8,x9,x10,x11,x12,x13,x14,x15,x16,x17,x18,x19,x20,x21,.slice (some ⟨g0,0,none⟩) 0 0,.slice (some ⟨g,0,none⟩) n0 cap,.int .i64 (j:Int),.slice (some ⟨g,0,none⟩) j cap,undef,.agg #[.int .i64 c0,.int .i64 c1,.string (bs cn),.int .i64 c3,.int .i64 c4],.slice (some ⟨gb,0,none⟩) 1 1,undef,.slice (some ⟨g,0,none⟩) n0 cap,.int .i64 (j:Int),.slice (some (hiA g cap j 5)) (n0 - j) (cap - j),undef],defers:=[] }∧uF 38 5 w1.heap.size wz (.slice (some ⟨g0,0,none⟩) 0 0) 0 []∧aCT 38 w1 wz gb #[.int .i64 c0,.int .i64 c1,.string (bs cn),.int .i64 c3,.int .i64 c4]∧gb≠g0∧Kp w1 wz)
def aKj (w1:World) (g n0 cap j g3:Nat) (NC1 NC2:List Value) (c0 c1:Int) (cn:List UInt8) (c3 c4:Int) (x6 x7 x8 x9 x10 x11 x12 x13 x14 x15 x16 x17 x18 x19 x20 x21:Value) (n:Nat) (lz:Array Bool) (az:Act) (wz:World):Prop:=(∃g0:Nat,∃v1:Value,n=4∧lz=#[true,true,true,true,true,true,false,false,true,true,true,false,false]∧az = { tmps:=#[.slice (some ⟨g,0,none⟩) n0 cap,.agg #[.int .i64 c0,.int .i64 c1,.string (bs cn),.int .i64 c3,.int .i64 c4],undef,.pointer (some ⟨g3,0,none⟩),.slice none 0 0,.int .i64 (j:Int),x6,x7,x8,x9,x10,x11,x12,x13,x14,x15,x16,x17,x18,x19,x20,x21,.slice (some ⟨g0,0,none⟩) 0 0,.slice (some ⟨g,0,none⟩) n0 cap,.int .i64 (j:Int),.slice (some ⟨g,0,none⟩) j cap,v1,.agg #[.int .i64 c0,.int .i64 c1,.string (bs cn),.int .i64 c3,.int .i64 c4],undef,undef,.slice (some ⟨g,0,none⟩) n0 cap,.int .i64 (j:Int),.slice (some (hiA g cap j 5)) (n0 - j) (cap - j),undef],defers:=[] }∧uF 38 5 w1.heap.size wz v1 j NC1∧Kp w1 wz)
def aKi (w1:World) (g n0 cap j g3:Nat) (NC1 NC2:List Value) (c0 c1:Int) (cn:List UInt8) (c3 c4:Int) (x6 x7 x8 x9 x10 x11 x12 x13 x14 x15 x16 x17 x18 x19 x20 x21:Value) (n:Nat) (lz:Array Bool) (az:Act) (wz:World):Prop:=(∃g0:Nat,∃v1:Value,∃gb:Nat,n=3∧lz=#[true,true,true,true,true,true,true,false,true,true,true,false,false]∧az = { tmps:=#[.slice (some ⟨g,0,none⟩) n0 cap,.agg #[.int .i64 c0,.int .i64 c1,.string (bs cn),.int .i64 c3,.int .i64 c4],undef,.pointer (some ⟨g3,0,none⟩),.slice none 0 0,.int .i64 (j:Int),x6,x7,x8,x9,x10,x11,x12,x13,x14,x15,x16,x17,x18,x19,x20,x21,.slice (some ⟨g0,0,none⟩) 0 0,.slice (some ⟨g,0,none⟩) n0 cap,.int .i64 (j:Int),.slice (some ⟨g,0,none⟩) j cap,v1,.agg #[.int .i64 c0,.int .i64 c1,.string (bs cn),.int .i64 c3,.int .i64 c4],.slice (some ⟨gb,0,none⟩) 1 1,undef,.slice (some ⟨g,0,none⟩) n0 cap,.int .i64 (j:Int),.slice (some (hiA g cap j 5)) (n0 - j) (cap - j),undef],defers:=[] }∧uF 38 5 w1.heap.size wz v1 j NC1∧aCT 38 w1 wz gb #[.int .i64 c0,.int .i64 c1,.string (bs cn),.int .i64 c3,.int .i64 c4]∧Kp w1 wz)
def aKh (w1:World) (g n0 cap j g3:Nat) (NC1 NC2:List Value) (c0 c1:Int) (cn:List UInt8) (c3 c4:Int) (x6 x7 x8 x9 x10 x11 x12 x13 x14 x15 x16 x17 x18 x19 x20 x21:Value) (n:Nat) (lz:Array Bool) (az:Act) (wz:World):Prop:=(∃g0:Nat,∃v1:Value,∃gb:Nat,∃v2:Value,n=2∧lz=#[true,true,true,true,true,true,true,true,true,true,true,false,false]∧az = { tmps:=#[.slice (some ⟨g,0,none⟩) n0 cap,.agg #[.int .i64 c0,.int .i64 c1,.string (bs cn),.int .i64 c3,.int .i64 c4],undef,.pointer (some ⟨g3,0,none⟩),.slice none 0 0,.int .i64 (j:Int),x6,x7,x8,x9,x10,x11,x12,x13,x14,x15,x16,x17,x18,x19,x20,x21,.slice (some ⟨g0,0,none⟩) 0 0,.slice (some ⟨g,0,none⟩) n0 cap,.int .i64 (j:Int),.slice (some ⟨g,0,none⟩) j cap,v1,.agg #[.int .i64 c0,.int .i64 c1,.string (bs cn),.int .i64 c3,.int .i64 c4],.slice (some ⟨gb,0,none⟩) 1 1,v2,.slice (some ⟨g,0,none⟩) n0 cap,.int .i64 (j:Int),.slice (some (hiA g cap j 5)) (n0 - j) (cap - j),undef],defers:=[] }∧uF 38 5 w1.heap.size wz v2 (j+1) (NC1++#[.int .i64 c0,.int .i64 c1,.string (bs cn),.int .i64 c3,.int .i64 c4].toList)∧Kp w1 wz)
def aKg (w1:World) (g n0 cap j g3:Nat) (NC1 NC2:List Value) (c0 c1:Int) (cn:List UInt8) (c3 c4:Int) (x6 x7 x8 x9 x10 x11 x12 x13 x14 x15 x16 x17 x18 x19 x20 x21:Value) (n:Nat) (lz:Array Bool) (az:Act) (wz:World):Prop:=(∃g0:Nat,∃v1:Value,∃gb:Nat,∃v2:Value,∃v3:Value,n=1∧lz=#[true,true,true,true,true,true,true,true,true,true,true,true,false]∧az = { tmps:=#[.slice (some ⟨g,0,none⟩) n0 cap,.agg #[.int .i64 c0,.int .i64 c1,.string (bs cn),.int .i64 c3,.int .i64 c4],undef,.pointer (some ⟨g3,0,none⟩),.slice none 0 0,.int .i64 (j:Int),x6,x7,x8,x9,x10,x11,x12,x13,x14,x15,x16,x17,x18,x19,x20,x21,.slice (some ⟨g0,0,none⟩) 0 0,.slice (some ⟨g,0,none⟩) n0 cap,.int .i64 (j:Int),.slice (some ⟨g,0,none⟩) j cap,v1,.agg #[.int .i64 c0,.int .i64 c1,.string (bs cn),.int .i64 c3,.int .i64 c4],.slice (some ⟨gb,0,none⟩) 1 1,v2,.slice (some ⟨g,0,none⟩) n0 cap,.int .i64 (j:Int),.slice (some (hiA g cap j 5)) (n0 - j) (cap - j),v3],defers:=[] }∧uF 38 5 w1.heap.size wz v3 (j+1+(n0 - j)) (NC1++#[.int .i64 c0,.int .i64 c1,.string (bs cn),.int .i64 c3,.int .i64 c4].toList++NC2)∧Kp w1 wz)
def aKf (w1:World) (g n0 cap j g3:Nat) (NC1 NC2:List Value) (c0 c1:Int) (cn:List UInt8) (c3 c4:Int) (x6 x7 x8 x9 x10 x11 x12 x13 x14 x15 x16 x17 x18 x19 x20 x21:Value) (n:Nat) (lz:Array Bool) (az:Act) (wz:World):Prop:=(∃g0:Nat,∃v1:Value,∃gb:Nat,∃v2:Value,∃v3:Value,n=0∧lz=#[true,true,true,true,true,true,true,true,true,true,true,true,true]∧az = { tmps:=#[.slice (some ⟨g,0,none⟩) n0 cap,.agg #[.int .i64 c0,.int .i64 c1,.string (bs cn),.int .i64 c3,.int .i64 c4],undef,.pointer (some ⟨g3,0,none⟩),v3,.int .i64 (j:Int),x6,x7,x8,x9,x10,x11,x12,x13,x14,x15,x16,x17,x18,x19,x20,x21,.slice (some ⟨g0,0,none⟩) 0 0,.slice (some ⟨g,0,none⟩) n0 cap,.int .i64 (j:Int),.slice (some ⟨g,0,none⟩) j cap,v1,.agg #[.int .i64 c0,.int .i64 c1,.string (bs cn),.int .i64 c3,.int .i64 c4],.slice (some ⟨gb,0,none⟩) 1 1,v2,.slice (some ⟨g,0,none⟩) n0 cap,.int .i64 (j:Int),.slice (some (hiA g cap j 5)) (n0 - j) (cap - j),v3],defers:=[] }∧uF 38 5 w1.heap.size wz v3 (j+1+(n0 - j)) (NC1++#[.int .i64 c0,.int .i64 c1,.string (bs cn),.int .i64 c3,.int .i64 c4].toList++NC2)∧Kp w1 wz)
def ADC (w1:World) (g n0 cap j g3:Nat) (NC1 NC2:List Value) (c0 c1:Int) (cn:List UInt8) (c3 c4:Int) (x6 x7 x8 x9 x10 x11 x12 x13 x14 x15 x16 x17 x18 x19 x20 x21:Value) (n:Nat) (lz:Array Bool) (az:Act) (wz:World):Prop:=aKn w1 g n0 cap j g3 NC1 NC2 c0 c1 cn c3 c4 x6 x7 x8 x9 x10 x11 x12 x13 x14 x15 x16 x17 x18 x19 x20 x21 n lz az wz∨aKm w1 g n0 cap j g3 NC1 NC2 c0 c1 cn c3 c4 x6 x7 x8 x9 x10 x11 x12 x13 x14 x15 x16 x17 x18 x19 x20 x21 n lz az wz∨aKl w1 g n0 cap j g3 NC1 NC2 c0 c1 cn c3 c4 x6 x7 x8 x9 x10 x11 x12 x13 x14 x15 x16 x17 x18 x19 x20 x21 n lz az wz∨aKk w1 g n0 cap j g3 NC1 NC2 c0 c1 cn c3 c4 x6 x7 x8 x9 x10 x11 x12 x13 x14 x15 x16 x17 x18 x19 x20 x21 n lz az wz∨aKj w1 g n0 cap j g3 NC1 NC2 c0 c1 cn c3 c4 x6 x7 x8 x9 x10 x11 x12 x13 x14 x15 x16 x17 x18 x19 x20 x21 n lz az wz∨aKi w1 g n0 cap j g3 NC1 NC2 c0 c1 cn c3 c4 x6 x7 x8 x9 x10 x11 x12 x13 x14 x15 x16 x17 x18 x19 x20 x21 n lz az wz∨aKh w1 g n0 cap j g3 NC1 NC2 c0 c1 cn c3 c4 x6 x7 x8 x9 x10 x11 x12 x13 x14 x15 x16 x17 x18 x19 x20 x21 n lz az wz∨aKg w1 g n0 cap j g3 NC1 NC2 c0 c1 cn c3 c4 x6 x7 x8 x9 x10 x11 x12 x13 x14 x15 x16 x17 x18 x19 x20 x21 n lz az wz∨aKf w1 g n0 cap j g3 NC1 NC2 c0 c1 cn c3 c4 x6 x7 x8 x9 x10 x11 x12 x13 x14 x15 x16 x17 x18 x19 x20 x21 n lz az wz
theorem aFG (g n cap:Nat) (l:List Con) (q:Con) (w:World) (h:aY w (some ⟨g,0,none⟩) n l) (hnc:n≤cap) (hl:n≤1048576) :
  Calls Tryz.prog 58 #[.slice (some ⟨g,0,none⟩) n cap,conv q] w fun e w'=>∃v,e=.returned v∧Hid (aFd w.heap.size w' v (vU l q))∧Hid (v≠.slice none 0 0)∧Hid (Below w.heap.size w w'):=by
 obtain ⟨c0,c1,cn,c3,c4⟩:=q
 have HLN:=aA h.1
 have hb1:=yA (Below.refl _ w) (.cells #[.int .i64 c0,.int .i64 c1,.string (bs cn),.int .i64 c3,.int .i64 c4] 38)
 have R1:=aA (h.below hb1)
 have G1:=aA (yD w #[.int .i64 c0,.int .i64 c1,.string (bs cn),.int .i64 c3,.int .i64 c4] 38)
 have B1:=aA hb1
 clear h hb1
 obtain ⟨g3,hg3⟩:∃g,w.heap.size=g:=⟨_,rfl⟩
 rw [hg3] at G1
 go_enter Tryz.func58,Tryz.ntmps58
 go_wp2_with fail
 clear hg3
 generalize w.alloc (.cells #[.int .i64 c0,.int .i64 c1,.string (bs cn),.int .i64 c3,.int .i64 c4] 38)=w1 at R1 G1 B1 ⊢
 go_loopw [5] (fun i wr=>∃k:Nat,k≤n∧i=.int .i64 k∧Hid (gQ c0 l=k+gQ c0 (l.drop k))∧Hid (Below w1.heap.size w1 wr)) (fun i _=>n - (intOf i).toNat)
 case atStart=>exact ⟨0,Nat.zero_le _,rfl,aA (by simp),aA (Below.refl _ _)⟩
 case round=>
  obtain ⟨k,hk,rfl,HP,BZ⟩:=hrel
  have G2:=aA ((uH G1).below (uH BZ))
  have R2:=aA ((uH R1).below (uH BZ))
  have A0:=aA (Kp.new wr)
  have HS:=aA (cB wr)
  have HB:=aA (show ∃bt:Bool,(bt=true→k<n∧gQ c0 l=((k+1:Nat):Nat)+gQ c0 (l.drop (k+1)))∧(bt=false→gQ c0 l=k)∧(∀hk2:k<l.length,k<n→bt=decide (l[k].id<c0))∧(¬k<n→bt=false) from by
   by_cases hlt:k<n
   ·have hkl:k<l.length:=by have:=uH HLN;omega
    have hs:=aCm (id:=c0) hkl
    have hp:=uH HP
    by_cases hc:l[k].id<c0
    ·rw [if_pos hc] at hs
     exact ⟨true,fun _=>⟨hlt,by omega⟩,(fun e=>by cases e),fun _ _=>by simp [hc],fun e=>absurd hlt e⟩
    ·rw [if_neg hc] at hs
     exact ⟨false,(fun e=>by cases e),fun _=>by omega,fun _ _=>by simp [hc],fun e=>absurd hlt e⟩
   ·have hp:=uH HP
    rw [List.drop_of_length_le (by have:=uH HLN;omega)] at hp
    exact ⟨false,(fun e=>by cases e),fun _=>by simpa [gQ] using hp,fun _ e=>absurd e hlt,fun _=>rfl⟩)
  obtain ⟨bt,hb1,hb2,hb3,hb4⟩:=uH HB
  have HB1:=aA hb1
  have HB2:=aA hb2
  have HB3:=aA hb3
  have HB4:=aA hb4
  clear HB hb1 hb2 hb3 hb4 HP
  go_upto_region 2 with fail
  go_cut [19] from 6 to 18 (fun v19 wx=>v19=.bool bt∧Hid (Below wr.heap.size wr wx))
  case first=>
   refine wp_region_held_drew (S:=fun wx=>Kp wr wx) (by kernel_rfl) ((uH HS).drew (uH A0)) (fun S0=>?_)
   generalize wr.drew=wn at S0 ⊢
   by_cases hlt:k<n
   ·have hkl:k<l.length:=by have:=uH HLN;omega
    have hv:=uH HB3 hkl hlt
    have hid:=((uH R2).at hlt)
    obtain ⟨b',off',he,hq⟩:=hid
    cases he
    have d0:=(hq hkl).1
    obtain ⟨x,hx⟩:∃x,l[k].id=x:=⟨_,rfl⟩
    rw [hx] at d0 hv
    have q0:=(uH G2).at 0
    simp at q0
    have R:∀wx,Kp wr wx→wx.cell? ⟨g,0+k*5,none⟩=some (.int .i64 x)∧wx.cell? ⟨g,k*5,none⟩=some (.int .i64 x)∧wx.cell? ⟨g3,0,none⟩=some (.int .i64 c0):=fun wx h=>⟨h.cell d0,by have:=h.cell d0;rwa [Nat.zero_add] at this,h.cell q0⟩
    have k0:(0:Int)≤k:=by omega
    have k1:(k:Int)<n:=by omega
    clear hq d0 q0 hx
    refine aB 0 6 _ rfl rfl S0 ?_
    try simp only [Act.put,sA,sB,sC]
    refine aB 1 7 _ rfl rfl S0 ?_
    try simp only [Act.put,sA,sB,sC]
    refine aB 2 8 _ rfl rfl S0 ?_
    try simp only [Act.put,sA,sB,sC]
    refine aB 3 9 (.bool true) rfl rfl S0 ?_
    try simp only [Act.put,sA,sB,sC]
    refine aB 4 10 _ rfl rfl S0 ?_
    try simp only [Act.put,sA,sB,sC]
    refine aB 5 11 _ rfl rfl S0 ?_
    try simp only [Act.put,sA,sB,sC]
    refine aB 6 12 _ rfl rfl S0 ?_
    try simp only [Act.put,sA,sB,sC]
    refine aB 7 13 (.pointer (some ⟨g,k*5,none⟩)) rfl rfl S0 ?_
    try simp only [Act.put,sA,sB,sC]
    refine aB 8 14 (.pointer (some ⟨g,k*5,none⟩)) rfl rfl S0 ?_
    try simp only [Act.put,sA,sB,sC]
    refine aB 9 15 (.int .i64 x) rfl rfl S0 ?_ (hy:=Or.inl ⟨by rfl,fun wz hz=>by (have hr:=R wz hz;clear R;go_simp)⟩)
    try simp only [Act.put,sA,sB,sC]
    refine aB 10 16 _ rfl rfl S0 ?_
    try simp only [Act.put,sA,sB,sC]
    refine aB 11 17 (.int .i64 c0) rfl rfl S0 ?_ (hy:=Or.inl ⟨by rfl,fun wz hz=>by (have hr:=R wz hz;clear R;go_simp)⟩)
    try simp only [Act.put,sA,sB,sC]
    refine aB 12 18 (.bool bt) rfl rfl S0 ?_ (hy:=Or.inl ⟨by rfl,fun wz hz=>by (subst hv;go_simp)⟩)
    try simp only [Act.put,sA,sB,sC]
    refine aB 13 19 (.bool bt) rfl rfl S0 ?_
    try simp only [Act.put,sA,sB,sC]
    refine wpAnyH_done (by kernel_rfl) ?_ _
    go_wp2_with fail
    go_meet
    exact ⟨rfl,aA S0⟩
   ·have hv:=uH HB4 hlt
    have k1:¬(k:Int)<n:=by omega
    subst hv
    refine aB 0 6 _ rfl rfl S0 ?_
    try simp only [Act.put,sA,sB,sC]
    refine aB 1 7 _ rfl rfl S0 ?_
    try simp only [Act.put,sA,sB,sC]
    refine aB 2 8 _ rfl rfl S0 ?_
    try simp only [Act.put,sA,sB,sC]
    refine aB 3 9 (.bool false) rfl rfl S0 ?_
    try simp only [Act.put,sA,sB,sC]
    refine aB 4 10 _ rfl rfl S0 ?_
    try simp only [Act.put,sA,sB,sC]
    refine aC 5 11 rfl rfl S0 ?_
    try simp only [Act.put,sA,sB,sC]
    refine aC 6 12 rfl rfl S0 ?_
    try simp only [Act.put,sA,sB,sC]
    refine aC 7 13 rfl rfl S0 ?_
    try simp only [Act.put,sA,sB,sC]
    refine aC 8 14 rfl rfl S0 ?_
    try simp only [Act.put,sA,sB,sC]
    refine aC 9 15 rfl rfl S0 ?_
    try simp only [Act.put,sA,sB,sC]
    refine aC 10 16 rfl rfl S0 ?_
    try simp only [Act.put,sA,sB,sC]
    refine aC 11 17 rfl rfl S0 ?_
    try simp only [Act.put,sA,sB,sC]
    refine aC 12 18 rfl rfl S0 ?_
    try simp only [Act.put,sA,sB,sC]
    refine aB 13 19 (.bool false) rfl rfl S0 ?_
    try simp only [Act.put,sA,sB,sC]
    refine wpAnyH_done (by kernel_rfl) ?_ _
    go_wp2_with fail
    go_meet
    exact ⟨rfl,aA S0⟩
  case rest=>
   obtain ⟨rfl,hbz⟩:=hcut
   have BY:=aA (yB (uH BZ) (uH hbz))
   have G3:=aA ((uH G2).below (uH hbz))
   have R3:=aA ((uH R2).below (uH hbz))
   obtain ⟨w2,rfl⟩:∃z,z=wc:=⟨_,rfl⟩
   clear hbz BZ G2 R2 A0 HS HB3 HB4
   cases bt with
   | true=>
    obtain ⟨hlt,hp⟩:=uH HB1 rfl
    have HPN:=aA hp
    clear hp HB1 HB2
    go_wp2
    go_roundw
    case rel=>exact ⟨k+1,by omega,by go_num,HPN,BY⟩
    case measure=>simp [intOf];omega
   | false=>
    have HPK:=aA (uH HB2 rfl)
    clear HB1 HB2
    obtain ⟨i0,hi,hz0,hz1,hz2⟩:=info_parts Tryz.infoCont
    obtain ⟨j,rfl⟩:∃j,j=k:=⟨_,rfl⟩
    have B2:=aA (yB (uH B1) (uH BY))
    have HIN:=aA (show vU l ⟨c0,c1,cn,c3,c4⟩=l.take j++⟨c0,c1,cn,c3,c4⟩::l.drop j by unfold vU;simp only;rw [uH HPK])
    have hjl:j≤l.length:=by have:=uH HLN;omega
    have hlo:=aJW g n cap j (by omega)
    have hhi:=aJX g n cap j hk
    obtain ⟨NC1,hc1⟩:∃c,aI (l.take j)=c:=⟨_,rfl⟩
    obtain ⟨NC2,hc2⟩:∃c,aI (l.drop j)=c:=⟨_,rfl⟩
    have HLO:=aA (show ∀wx:World,Kp w2 wx→∀i u,NC1[i]? = some u→wx.cell? (Addr.add ⟨g,0,none⟩ i)=some u from fun wx hb i u hu=>by
     rw [Lib.add_plain]
     refine gY ((uH R3).below hb) i u ?_
     rw [fZ l j,hc1,List.getElem?_append_left (List.getElem?_eq_some_iff.1 hu).1]
     exact hu)
    have HL1:=aA (show NC1.length=j*5 by rw [←hc1];exact dD l hjl)
    have HL2:=aA (show NC2.length=(n - j)*5 by rw [←hc2,eU,uH HLN])
    have HHI:=aA (show ∀wx:World,Kp w2 wx→∀i u,NC2[i]? = some u→wx.cell? (Addr.add (hiA g cap j 5) i)=some u from fun wx hb i u hu=>by
     have hlt:=(List.getElem?_eq_some_iff.1 hu).1
     rw [uH HL2] at hlt
     rw [aGn (by omega)]
     have h1:=gY ((uH R3).below hb) (j*5+i) u (by
      rw [fZ l j,hc1,hc2,List.getElem?_append_right (by rw [uH HL1];omega),uH HL1,Nat.add_sub_cancel_left]
      exact hu)
     rwa [Nat.zero_add] at h1)
    have HO1:=aA (show ∀u ∈ NC1,u.oneCell'=true by rw [←hc1];exact dG _)
    have HO2:=aA (show ∀u ∈ NC2,u.oneCell'=true by rw [←hc2];exact dG _)
    have HOX:=aA (show ∀u ∈ (#[.int .i64 c0,.int .i64 c1,.string (bs cn),.int .i64 c3,.int .i64 c4]:Array Value).toList,u.oneCell'=true from fun u hu=>dG [⟨c0,c1,cn,c3,c4⟩] u (by simpa [aI,fP] using hu))
    have HC1:=aA hc1.symm
    have HC2:=aA hc2.symm
    have A0:=aA (Kp.new w2)
    have HS:=aA (cB w2)
    clear hc1 hc2 HPK R3 R1 G1 B1 BY hjl
    go_upto_region 4 with fail
    refine wp_region_held_drew (S:=fun wx=>Kp w2 wx) (by kernel_rfl) ((uH HS).drew (uH A0)) (fun S0=>?_)
    refine aB 1 23 _ rfl rfl S0 ?_
    try simp only [Act.put,sA,sB,sC]
    refine aB 2 24 _ rfl rfl S0 ?_
    try simp only [Act.put,sA,sB,sC]
    refine aB 3 25 (.slice (some ⟨g,0,none⟩) j cap) rfl rfl S0 ?_ (hy:=Or.inl ⟨by rfl,fun wz hz=>mF (hlo wz)⟩)
    try simp only [Act.put,sA,sB,sC]
    refine aB 5 27 (.agg #[.int .i64 c0,.int .i64 c1,.string (bs cn),.int .i64 c3,.int .i64 c4]) rfl rfl S0 ?_ (hy:=Or.inl ⟨by rfl,fun wz hz=>mF (mR ((uH G3).below hz) rfl)⟩)
    try simp only [Act.put,sA,sB,sC]
    refine aB 8 30 _ rfl rfl S0 ?_
    try simp only [Act.put,sA,sB,sC]
    refine aB 9 31 _ rfl rfl S0 ?_
    try simp only [Act.put,sA,sB,sC]
    refine aB 10 32 (.slice (some (hiA g cap j 5)) (n - j) (cap - j)) rfl rfl S0 ?_ (hy:=Or.inl ⟨by rfl,fun wz hz=>mF (hhi wz)⟩)
    try simp only [Act.put,sA,sB,sC]
    refine kM (ADC w2 g n cap j g3 NC1 NC2 c0 c1 cn c3 c4 _ _ _ _ _ _ _ _ _ _ _ _ _ _ _ _) ?step ?fin 6 _ _ _ (.inl (⟨rfl,by kernel_rfl,rfl,S0⟩))
    case fin=>
     intro lz az wz hI
     rcases hI with h | h | h | h | h | h | h | h | h
     ·obtain ⟨hn,_⟩:=h
      cases hn
     ·obtain ⟨_,hn,_⟩:=h
      cases hn
     ·obtain ⟨_,hn,_⟩:=h
      cases hn
     ·obtain ⟨_,_,hn,_⟩:=h
      cases hn
     ·obtain ⟨_,_,hn,_⟩:=h
      cases hn
     ·obtain ⟨_,_,_,hn,_⟩:=h
      cases hn
     ·obtain ⟨_,_,_,_,hn,_⟩:=h
      cases hn
     ·obtain ⟨_,_,_,_,_,hn,_⟩:=h
      cases hn
     ·obtain ⟨g0,v1,gb,v2,v3,-,rfl,rfl,hr,kp⟩:=h
      refine ⟨by kernel_rfl,?_⟩
      have HOW:=aA (show aFd w.heap.size wz v3 (vU l ⟨c0,c1,cn,c3,c4⟩) from by
       have h1:=hr.1
       have e:NC1++#[.int .i64 c0,.int .i64 c1,.string (bs cn),.int .i64 c3,.int .i64 c4].toList++NC2=aI (vU l ⟨c0,c1,cn,c3,c4⟩):=by
        rw [uH HC1,uH HC2,uH HIN,nK]
        simp
       rw [e] at h1
       unfold aFd
       rw [aEC,←uH HLN,show n+1=j+1+(n - j) by omega]
       exact aGP h1 (uH B2).size)
      have HNE:=aA hr.2
      have B9:=aA (yB (uH B2) kp)
      clear hr kp
      go_wp2
      go_ret
      exact ⟨v3,rfl,HOW,HNE,B9⟩
    case step=>
     intro n lz az wz hI
     rcases hI with h | h | h | h | h | h | h | h | h
     ·obtain ⟨hn,rfl,rfl,kp⟩:=h
      obtain rfl:n=5:=by omega
      refine aS (rs:=[0,6]) (by kernel_rfl) (by simp) ?_
      refine aD.cons rfl (fun K hK=>?_) ?_
      ·go_simp
       go_wp2_with fail
       exact hK.out _ _ (yA kp _) (.inr (.inr (.inl (⟨wz.heap.size,rfl,rfl,rfl,lX kp,yA kp _⟩))))
      refine aD.cons rfl (fun K hK=>?_) ?_
      ·go_simp
       go_wp2_with fail
       exact hK.out _ _ (yA kp _) (.inr (.inl (⟨wz.heap.size,rfl,rfl,rfl,iX kp _,yA kp _⟩)))
      exact aD.nil
     ·obtain ⟨gb,hn,rfl,rfl,hbx,kp⟩:=h
      obtain rfl:n=4:=by omega
      refine aS (rs:=[0]) (by kernel_rfl) (by simp) ?_
      refine aD.cons rfl (fun K hK=>?_) ?_
      ·go_simp
       go_wp2_with fail
       exact hK.out _ _ (yA kp _) (.inr (.inr (.inr (.inl (⟨wz.heap.size,gb,rfl,rfl,rfl,lX kp,hbx.al _,Nat.ne_of_lt hbx.lt,yA kp _⟩)))))
      exact aD.nil
     ·obtain ⟨g0,hn,rfl,rfl,hr,kp⟩:=h
      obtain rfl:n=4:=by omega
      refine aS (rs:=[4,6]) (by kernel_rfl) (by simp) ?_
      refine aD.cons rfl (fun K hK=>?_) ?_
      ·refine gI (w1:=w2) rfl (.tmp 22) (.tmp 25) 32 rfl 38 i0 (.agg #[.int .i64 0,.int .i64 0,.string ByteArray.empty,.int .i64 0,.int .i64 0]) 5 48 Tryz.underlying32 hi hz0 hz1 hz2 rfl (by decide) (.slice (some ⟨g0,0,none⟩) 0 0) 0 [] rfl hr kp ⟨g,0,none⟩ j cap NC1 rfl (uH HL1) (fun i u hu=>uH HLO _ kp i u hu) (uH HO1) (by unfold maxLen;omega) (by omega) ?_
       intro v1 wz2 hr2 kp2 hsame
       try simp only [Act.put,sA,sB,sC]
       exact hK.out _ _ kp2 (.inr (.inr (.inr (.inr (.inl (⟨g0,v1,rfl,by kernel_rfl,rfl,qP hr2 (by omega) (List.nil_append _),kp2⟩))))))
      refine aD.cons rfl (fun K hK=>?_) ?_
      ·go_simp
       go_wp2_with fail
       exact hK.out _ _ (yA kp _) (.inr (.inr (.inr (.inl (⟨g0,wz.heap.size,rfl,rfl,rfl,hr.al _,iX kp _,(Nat.ne_of_gt (by obtain ⟨q,q2,q3,q4,q5,q6⟩:=hr.open;cases q3;exact (World.ownsRow.lt q5 g0 rfl).2)),yA kp _⟩)))))
      exact aD.nil
     ·obtain ⟨g0,gb,hn,rfl,rfl,hr,hbx,hne,kp⟩:=h
      obtain rfl:n=3:=by omega
      refine aS (rs:=[4]) (by kernel_rfl) (by simp) ?_
      refine aD.cons rfl (fun K hK=>?_) ?_
      ·refine gI (w1:=w2) rfl (.tmp 22) (.tmp 25) 32 rfl 38 i0 (.agg #[.int .i64 0,.int .i64 0,.string ByteArray.empty,.int .i64 0,.int .i64 0]) 5 48 Tryz.underlying32 hi hz0 hz1 hz2 rfl (by decide) (.slice (some ⟨g0,0,none⟩) 0 0) 0 [] rfl hr kp ⟨g,0,none⟩ j cap NC1 rfl (uH HL1) (fun i u hu=>uH HLO _ kp i u hu) (uH HO1) (by unfold maxLen;omega) (by omega) ?_
       intro v1 wz2 hr2 kp2 hsame
       try simp only [Act.put,sA,sB,sC]
       exact hK.out _ _ kp2 (.inr (.inr (.inr (.inr (.inr (.inl (⟨g0,v1,gb,rfl,by kernel_rfl,rfl,qP hr2 (by omega) (List.nil_append _),hbx.same (hsame gb hbx.lt (by simp [Value.ownBlock];omega)),kp2⟩)))))))
      exact aD.nil
     ·obtain ⟨g0,v1,hn,rfl,rfl,hr,kp⟩:=h
      obtain rfl:n=3:=by omega
      refine aS (rs:=[6]) (by kernel_rfl) (by simp) ?_
      refine aD.cons rfl (fun K hK=>?_) ?_
      ·go_simp
       go_wp2_with fail
       exact hK.out _ _ (yA kp _) (.inr (.inr (.inr (.inr (.inr (.inl (⟨g0,v1,wz.heap.size,rfl,rfl,rfl,hr.al _,iX kp _,yA kp _⟩)))))))
      exact aD.nil
     ·obtain ⟨g0,v1,gb,hn,rfl,rfl,hr,hbx,kp⟩:=h
      obtain rfl:n=2:=by omega
      refine aS (rs:=[7]) (by kernel_rfl) (by simp) ?_
      refine aD.cons rfl (fun K hK=>?_) ?_
      ·refine gI (w1:=w2) rfl (.tmp 26) (.tmp 28) 32 rfl 38 i0 (.agg #[.int .i64 0,.int .i64 0,.string ByteArray.empty,.int .i64 0,.int .i64 0]) 5 48 Tryz.underlying32 hi hz0 hz1 hz2 rfl (by decide) v1 j NC1 rfl hr kp ⟨gb,0,none⟩ 1 1 #[.int .i64 c0,.int .i64 c1,.string (bs cn),.int .i64 c3,.int .i64 c4].toList rfl (by rfl) hbx.news (uH HOX) (by unfold maxLen;omega) (by omega) ?_
       intro v2 wz2 hr2 kp2 hsame
       try simp only [Act.put,sA,sB,sC]
       exact hK.out _ _ kp2 (.inr (.inr (.inr (.inr (.inr (.inr (.inl (⟨g0,v1,gb,v2,rfl,by kernel_rfl,rfl,hr2,kp2⟩))))))))
      exact aD.nil
     ·obtain ⟨g0,v1,gb,v2,hn,rfl,rfl,hr,kp⟩:=h
      obtain rfl:n=1:=by omega
      refine aS (rs:=[11]) (by kernel_rfl) (by simp) ?_
      refine aD.cons rfl (fun K hK=>?_) ?_
      ·refine gI (w1:=w2) rfl (.tmp 29) (.tmp 32) 32 rfl 38 i0 (.agg #[.int .i64 0,.int .i64 0,.string ByteArray.empty,.int .i64 0,.int .i64 0]) 5 48 Tryz.underlying32 hi hz0 hz1 hz2 rfl (by decide) v2 (j+1) (NC1++#[.int .i64 c0,.int .i64 c1,.string (bs cn),.int .i64 c3,.int .i64 c4].toList) rfl hr kp (hiA g cap j 5) (n - j) (cap - j) NC2 rfl (uH HL2) (fun i u hu=>uH HHI _ kp i u hu) (uH HO2) (by unfold maxLen;omega) (by omega) ?_
       intro v3 wz2 hr2 kp2 hsame
       try simp only [Act.put,sA,sB,sC]
       exact hK.out _ _ kp2 (.inr (.inr (.inr (.inr (.inr (.inr (.inr (.inl (⟨g0,v1,gb,v2,v3,rfl,by kernel_rfl,rfl,hr2,kp2⟩)))))))))
      exact aD.nil
     ·obtain ⟨g0,v1,gb,v2,v3,hn,rfl,rfl,hr,kp⟩:=h
      obtain rfl:n=0:=by omega
      refine aS (rs:=[12]) (by kernel_rfl) (by simp) ?_
      refine aD.cons rfl (fun K hK=>?_) ?_
      ·go_simp
       go_wp2_with fail
       exact hK.out _ _ kp (.inr (.inr (.inr (.inr (.inr (.inr (.inr (.inr (⟨g0,v1,gb,v2,v3,rfl,rfl,rfl,hr,kp⟩)))))))))
      exact aD.nil
     ·obtain ⟨_,_,_,_,_,hn,_⟩:=h
      cases hn
end
end Go.Proofs.YtdhibeclkdepiaaGreat
