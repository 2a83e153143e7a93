/-
  Texts in one: OkM, NxM, NxW, NxI, GrM, SrvU, SrvI, GrI, AddC, GrO, GrN, GrP, TakE, StLaw.
-/
import Derived.Test.YtdhibeclkdepiaaGreatSackY
import Derived.Test.YtdhibeclkdepiaaGreatSackX
import Derived.Test.YtdhibeclkdepiaaGreatSackV
set_option maxRecDepth 100000
set_option maxHeartbeats 16000000
set_option linter.unusedVariables false
set_option linter.unusedSimpArgs false
namespace Go.Proofs.YtdhibeclkdepiaaGreat
section
open Go.RowKit
def oQ:Int→Int→List (Int×Int)→Bool
 | _,_,[]=>true
 | x,y,r::t=>aI (-1) x y r.1 r.2&&oQ (x + -1*r.1) (y + -1*r.2) t
theorem aKz:∀(l:List (Int×Int)) (x y:Int),aL x y=true→aL (aT l x y).1 (aT l x y).2.1=true
 | [],x,y,h=>h
 | r::t,x,y,h=>by
  rw [aT]
  by_cases hb:aI 1 x y r.1 r.2=true
  ·rw [if_pos hb]
   refine aKz t _ _ ?_
   simp only [aI,yK] at hb
   exact hb.2
  ·rw [if_neg hb];decide
theorem nJ:∀(l:List (Int×Int)) (x y:Int),(aT l x y).2.2=true→∀r ∈ l,aL r.1 r.2=true
 | [],x,y,_,r,h=>by simp at h
 | q::t,x,y,h,r,hr=>by
  rw [aT] at h
  by_cases hb:aI 1 x y q.1 q.2=true
  ·rw [if_pos hb] at h
   rcases List.mem_cons.1 hr with rfl | hr
   ·simp only [aI,yK] at hb;exact hb.1.2
   ·exact nJ t _ _ h r hr
  ·rw [if_neg hb] at h;cases h
theorem aAB:∀(l:List (Int×Int)) (x y:Int),(aT l x y).2.2=true→x≤(aT l x y).1∧y≤(aT l x y).2.1
 | [],x,y,_=>⟨Int.le_refl _,Int.le_refl _⟩
 | r::t,x,y,h=>by
  rw [aT] at h ⊢
  by_cases hb:aI 1 x y r.1 r.2=true
  ·rw [if_pos hb] at h ⊢
   have:=aAB t _ _ h
   have hr:aL r.1 r.2=true:=by simp only [aI,yK] at hb;exact hb.1.2
   have:=bN hr
   omega
  ·rw [if_neg hb] at h;cases h
theorem aEf {X Y:Int} (hX:aL X Y=true):∀(l:List (Int×Int)) (x y:Int),aL x y=true→x≤X→y≤Y→(oQ (X + -1*x) (Y + -1*y) l=true↔(aT l x y).2.2=true∧(aT l x y).1≤X∧(aT l x y).2.1≤Y)
 | [],x,y,h,h1,h2=>by simp [oQ,aT,h1,h2]
 | r::t,x,y,h,h1,h2=>by
  have bX:=bN hX
  have bx:=bN h
  rw [oQ,aT,yK]
  by_cases hs:aI (-1) (X + -1*x) (Y + -1*y) r.1 r.2=true
  ·have hs':=hs
   simp only [aI,yK] at hs'
   have br:=bN hs'.1.2
   have bs':=bN hs'.2
   have hr2:aL (x+1*r.1) (y+1*r.2)=true:=by simp only [aL,inB,yK,yL];omega
   have hp:aI 1 x y r.1 r.2=true:=by simp only [aI,yK];exact ⟨⟨h,hs'.1.2⟩,hr2⟩
   rw [if_pos hp]
   have ih:=aEf hX t (x+1*r.1) (y+1*r.2) hr2 (by omega) (by omega)
   rw [←ih]
   have e1:X + -1*(x+1*r.1)=X + -1*x + -1*r.1:=by omega
   have e2:Y + -1*(y+1*r.2)=Y + -1*y + -1*r.2:=by omega
   rw [e1,e2]
   exact ⟨fun hh=>hh.2,fun hh=>⟨hs,hh⟩⟩
  ·refine ⟨fun hh=>absurd hh.1 hs,fun ⟨g1,g2,g3⟩=>absurd ?_ hs⟩
   by_cases hp:aI 1 x y r.1 r.2=true
   ·rw [if_pos hp] at g1 g2 g3
    have ge:=aAB t _ _ g1
    have hp':=hp
    simp only [aI,yK] at hp'
    have br:=bN hp'.1.2
    simp only [aI,yK]
    refine ⟨⟨?_,hp'.1.2⟩,?_⟩<;>simp only [aL,inB,yK,yL]<;>omega
   ·rw [if_neg hp] at g1;cases g1
theorem aCs {cs:List Con} {m:Mac} (hr:aL m.mem m.cpu=true):uW cs m=true↔oQ m.mem m.cpu (aJ (fun q=>decide (q.node=m.name)) cs)=true:=by
 have h:=aEf hr (aJ (fun q=>decide (q.node=m.name)) cs) 0 0 (by decide) (bN hr).1 (bN hr).2.2.1
 rw [show m.mem + -1*0=m.mem by omega,show m.cpu + -1*0=m.cpu by omega] at h
 rw [h]
 simp only [uW,hr,Bool.true_and,yK,gX,within]
 refine ⟨fun ⟨a,b⟩=>⟨a,of_decide_eq_true b.1.2,of_decide_eq_true b.2⟩,fun ⟨a,b,c⟩=>⟨a,⟨⟨⟨aKz _ 0 0 (by decide),trivial⟩,decide_eq_true b⟩,decide_eq_true c⟩⟩⟩
theorem aLJ {a b:List UInt8} (h:leT a b=false):Op.bytesLess (bs b).toList (bs a).toList=true:=by
 simp only [leT,Bool.or_eq_false_iff] at h
 exact aIP _ _ h.1 (fun e=>by rw [e] at h;simp at h)
theorem wS {ck:Int}:∀(l:List Mac) (last:List UInt8),bO ck last l=true→∀m ∈ l,Op.bytesLess (bs last).toList (bs m.name).toList=true
 | [],_,_,m,h=>by simp at h
 | q::t,last,h,m,hm=>by
  simp only [bO,yK,Bool.not_eq_true'] at h
  have h1:=aLJ h.1
  rcases List.mem_cons.1 hm with rfl | hm
  ·exact h1
  ·exact aBe _ _ _ h1 (wS t q.name h.2.2.2.2 m hm)
theorem sK {ck:Int}:∀(l:List Mac) (last:List UInt8),bO ck last l=true→∀m ∈ l,bF m.name l=some m
 | [],_,_,m,h=>by simp at h
 | q::t,last,h,m,hm=>by
  simp only [bO,yK,Bool.not_eq_true'] at h
  rcases List.mem_cons.1 hm with rfl | hm
  ·simp [bF]
  ·have hab:=wS t q.name h.2.2.2.2 m hm
   have hne:¬q.name=m.name:=fun e=>by rw [e,aIQ] at hab;cases hab
   have:=sK t q.name h.2.2.2.2 m hm
   simp only [bF] at this ⊢
   rw [List.find?_cons_of_neg (by simpa using hne)]
   exact this
theorem oH {ck:Int} {cs:List Con}:∀(l:List Mac) (last:List UInt8),kT ck cs last l=true↔bO ck last l=true∧∀m ∈ l,uW cs m=true
 | [],_=>by simp [kT,bO]
 | q::t,last=>by
  simp only [kT,bO,yK,oH t q.name,List.mem_cons,forall_eq_or_imp]
  exact ⟨fun ⟨a,b,c,d,e,f,g⟩=>⟨⟨a,b,c,d,f⟩,e,g⟩,fun ⟨⟨a,b,c,d,f⟩,e,g⟩=>⟨a,b,c,d,e,f,g⟩⟩
theorem uK {apps:List bY} {l l':List Mac} (h:∀nm,(bF nm l').isSome=(bF nm l).isSome):∀(cs:List Con) (last:Int),dL apps l' last cs=dL apps l last cs
 | [],_=>rfl
 | c::t,last=>by rw [dL,dL,h,uK h t]
theorem vQ {nm:List UInt8} {c:Con} {t:List Con}:aJ (fun q=>decide (q.node=nm)) (c::t)=if c.node=nm then (c.mem,c.cpu)::aJ (fun q=>decide (q.node=nm)) t else aJ (fun q=>decide (q.node=nm)) t:=by
 by_cases h:c.node=nm
 ·simp [aJ,h]
 ·simp [aJ,h]
theorem aDF {apps:List bY}:∀(cs:List Con) (l:List Mac) (last:Int),dS apps l last cs=true↔dL apps l last cs=true∧∀nm m,bF nm l=some m→oQ m.mem m.cpu (aJ (fun q=>decide (q.node=nm)) cs)=true
 | [],l,last=>by simp [dS,dL,aJ,oQ]
 | c::t,l,last=>by
  cases hf:bF c.node l with
  | none=>simp [dS,dL,hf]
  | some m=>
   have hn:=sN hf
   have ih:=aDF (apps:=apps) t (⟨m.name,m.mem + -1*c.mem,m.cpu + -1*c.cpu,m.seen⟩::l) c.id
   have hfind:∀nm,bF nm (⟨m.name,m.mem + -1*c.mem,m.cpu + -1*c.cpu,m.seen⟩::l)=if c.node=nm then some ⟨m.name,m.mem + -1*c.mem,m.cpu + -1*c.cpu,m.seen⟩ else bF nm l:=fun nm=>by
    by_cases e:c.node=nm
    ·rw [if_pos e];simp [bF,hn,e]
    ·rw [if_neg e];simp [bF,hn,e]
   have hsome:∀nm,(bF nm (⟨m.name,m.mem + -1*c.mem,m.cpu + -1*c.cpu,m.seen⟩::l)).isSome=(bF nm l).isSome:=fun nm=>by
    rw [hfind]
    by_cases e:c.node=nm
    ·rw [if_pos e,←e,hf]
     rfl
    ·rw [if_neg e]
   rw [uK hsome] at ih
   simp only [dS,dL,hf,Option.isSome_some,Option.getD_some,Bool.true_and,yK,ih]
   constructor
   ·rintro ⟨a,b,c1,d,e,f,g⟩
    refine ⟨⟨a,b,d,c1,f⟩,fun nm m2 hm2=>?_⟩
    rw [vQ]
    by_cases en:c.node=nm
    ·rw [if_pos en]
     rw [←en,hf] at hm2
     cases hm2
     rw [oQ,yK]
     exact ⟨e,g nm ⟨m.name,m.mem + -1*c.mem,m.cpu + -1*c.cpu,m.seen⟩ (by rw [hfind,if_pos en])⟩
    ·rw [if_neg en]
     exact g nm m2 (by rw [hfind,if_neg en];exact hm2)
   ·rintro ⟨⟨a,b,d,c1,f⟩,g⟩
    have g0:=g c.node m hf
    rw [vQ,if_pos rfl,oQ,yK] at g0
    refine ⟨a,b,c1,d,g0.1,f,fun nm m2 hm2=>?_⟩
    rw [hfind] at hm2
    by_cases en:c.node=nm
    ·rw [if_pos en] at hm2
     cases hm2
     rw [←en]
     exact g0.2
    ·rw [if_neg en] at hm2
     have:=g nm m2 hm2
     rwa [vQ,if_neg en] at this
theorem aF8 (s:St):qB s=gM s:=by
 rw [Bool.eq_iff_iff]
 simp only [qB,gM,aCS,mP,iW,mY,yK,aDF,oH]
 have key:bO s.clock [] s.ms=true→(gX (aY s.ms)).2.2=true→((∀nm m,bF nm s.ms=some m→oQ m.mem m.cpu (aJ (fun q=>decide (q.node=nm)) s.cs)=true)↔∀m ∈ s.ms,uW s.cs m=true):=fun h1 h2=>by
  have hr:∀m ∈ s.ms,aL m.mem m.cpu=true:=fun m hm=>nJ _ 0 0 h2 (m.mem,m.cpu) (by simp only [aY,List.mem_map];exact ⟨m,hm,rfl⟩)
  constructor
  ·intro h m hm
   exact (aCs (hr m hm)).2 (h m.name m (sK _ _ h1 m hm))
  ·intro h nm m hf
   have hm:m ∈ s.ms:=List.mem_of_find?_eq_some hf
   have hn:=sN hf
   have:=(aCs (hr m hm)).1 (h m hm)
   rwa [hn] at this
 constructor
 ·rintro ⟨a,⟨b1,b2,b3,b4⟩,c,⟨d1,d2,d3⟩,e1,e2,e3⟩
  exact ⟨a,b1,b2,b3,b4,c,⟨⟨d2,(key d2 d3).1 e3⟩,d3,d1⟩,e1,e2⟩
 ·rintro ⟨a,b1,b2,b3,b4,c,⟨⟨d2,hh⟩,d3,d1⟩,e1,e2⟩
  exact ⟨a,⟨b1,b2,b3,b4⟩,c,⟨d1,d2,d3⟩,e1,e2,(key d2 d3).2 hh⟩
def aS (s:St):Bool:=gM s
theorem vU (x:Sls) (s:St) (w:World) (h:jC w x s) (hf:bD s) :
  Calls Tryz.prog 22 #[sv x s] w fun e w'=>e=.returned (.bool (aS s))∧Below w.heap.size w w':=aBu x s w h hf
theorem nQ (x:Sls) (s:St) (w:World) (h:jC w x s) (hf:bD s) (hc:x.ql≤x.qc) (hw:pX s) :
  Calls Tryz.prog 44 #[sv x s] w fun e w'=>e=.returned (.bool (aS s))∧Below w.heap.size w w':=by
 have:=aBv x s w h hf hc hw
 rwa [aF8] at this
theorem aAo {p:Ask→Bool} {qu:List UInt8}:∀{l:List bY} {i:Nat} {r:Nat×Nat},dO p qu l i=some r→i≤r.1∧∃h:r.1 - i<l.length,r.2<l[r.1 - i].asks.length
 | [],_,_,h=>by cases h
 | a::t,i,r,h=>by
  have go:dO p qu t (i+1)=some r→i≤r.1∧∃h:r.1 - i<(a::t).length,r.2<(a::t)[r.1 - i].asks.length:=fun h=>by
   obtain ⟨h1,h2,h3⟩:=aAo h
   have e:r.1 - i=(r.1 - (i+1))+1:=by omega
   refine ⟨by omega,by simp only [List.length_cons];omega,?_⟩
   simp only [e,List.getElem_cons_succ]
   exact h3
  rw [dO] at h
  split at h
  ·split at h
   ·rename_i k hk
    cases h
    have:=oM hk
    refine ⟨yJ _,by simp,?_⟩
    simp only [Nat.sub_self,List.getElem_cons_zero]
    omega
   ·exact go h
  ·exact go h
theorem aAH {s:St} {nd:List UInt8} {r:Nat×Nat}:∀{l:List (List UInt8)},iA s nd l=some r→∃h:r.1<s.apps.length,r.2<s.apps[r.1].asks.length
 | [],h=>by cases h
 | q::t,h=>by
  rw [iA] at h
  split at h
  ·rename_i r' hr
   cases h
   obtain ⟨_,h2,h3⟩:=aAo hr
   simp only [Nat.sub_zero] at h2 h3
   exact ⟨h2,h3⟩
  ·exact aAH h
theorem aDl {s:St} {nd:List UInt8} {r:Nat×Nat} (h:nN s nd=some r):∃h:r.1<s.apps.length,r.2<s.apps[r.1].asks.length:=aAH h
theorem xV {apps:List bY} {ms:List Mac}:∀(cs:List Con) (last:Int),dL apps ms last cs=true→∀c ∈ cs,last<c.id
 | [],_,_,_,h=>by cases h
 | c::t,last,h,c',hc=>by
  rw [dL] at h
  simp only [yK,yL] at h
  rcases List.mem_cons.1 hc with rfl | hc
  ·exact h.1
  ·have:=xV t c.id h.2.2.2.2.2 c' hc
   omega
theorem aDG {apps:List bY} {ms:List Mac}:∀(cs:List Con) (last:Int),dL apps ms last cs=true→aLX cs
 | [],_,_=>fun i j hi=>absurd hi (by simp)
 | c::t,last,h=>by
  rw [dL] at h
  simp only [yK,yL] at h
  have h1:=xV t c.id h.2.2.2.2.2
  have h2:=aDG t c.id h.2.2.2.2.2
  intro i j hi hj hij
  match i,j with
  | _,0=>omega
  | 0,j+1=>
   simp only [List.getElem_cons_zero,List.getElem_cons_succ]
   exact h1 _ (yM _)
  | i+1,j+1=>
   simp only [List.getElem_cons_succ]
   exact h2 i j (by simpa using hi) (by simpa using hj) (by omega)
theorem wK {s:St} (h:aS s=true):aLX s.cs∧(0≤s.epoch∧s.epoch≤1000000000)∧(0≤s.serial∧s.serial≤1000000000):=by
 rw [aS,gM] at h
 simp only [yK,inB,yL] at h
 exact ⟨aDG _ _ h.2.2.2.2.2.2.2.2,by omega,by omega⟩
def xK (s:St) (nd:List UInt8) (r:Nat×Nat):Con:=
 match s.apps[r.1]? with
 | some a=>(match a.asks[r.2]? with | some k=>⟨idV s,a.id,nd,k.mem,k.cpu⟩ | none=>⟨0,0,[],0,0⟩)
 | none=>⟨0,0,[],0,0⟩
theorem xJ {s:St} {nd:List UInt8} {r:Nat×Nat} (h1:r.1<s.apps.length) (h2:r.2<s.apps[r.1].asks.length):xK s nd r=⟨idV s,s.apps[r.1].id,nd,s.apps[r.1].asks[r.2].mem,s.apps[r.1].asks[r.2].cpu⟩:=by
 rw [xK,List.getElem?_eq_getElem h1]
 simp only
 rw [List.getElem?_eq_getElem h2]
def aLD (s:St) (nd:List UInt8):Bool:=(bF nd s.ms).isSome&&(decide (s.cs.length<150)&&mW s)
def uT (s:St) (nd:List UInt8):Option ((Nat×Nat)×Con):=if aLD s nd=true then (nN s nd).map fun r=>(r,xK s nd r) else none
def aX (s:St) (nd:List UInt8):Option ((Nat×Nat)×Con):=if aS s=true then uT s nd else none
def rJ:Option ((Nat×Nat)×Con)→Con
 | some r=>r.2
 | none=>⟨0,0,[],0,0⟩
end
section
open Go.RowKit Go.Maps
def atR:Option ((Nat×Nat)×Con)→Int×Int
  | some r=>((r.1.1:Int),(r.1.2:Int))
  | none=>(0,0)
theorem oD {W:World} {g1 g2:Nat} {ta tc:TypeId} (h1:Blk W g1 #[.int .i64 0,.int .i64 0] ta) (h2:Blk W g2 #[.int .i64 0,.int .i64 0,.string ByteArray.empty,.int .i64 0,.int .i64 0] tc) (hn:g1≠g2) (i k:Int) :
    W.cell? ⟨g1,0,none⟩=some (.int .i64 0)∧W.cell? ⟨g1,1,none⟩=some (.int .i64 0)∧W.frozen? ⟨g1,0,none⟩=false∧W.frozen? ⟨g1,1,none⟩=false∧((W.setCell ⟨g1,0,none⟩ (.int .i64 i)).setCell ⟨g1,1,none⟩ (.int .i64 k)).cell? ⟨g2,0,none⟩=some (.int .i64 0)∧((W.setCell ⟨g1,0,none⟩ (.int .i64 i)).setCell ⟨g1,1,none⟩ (.int .i64 k)).cell? ⟨g2,1,none⟩=some (.int .i64 0)∧((W.setCell ⟨g1,0,none⟩ (.int .i64 i)).setCell ⟨g1,1,none⟩ (.int .i64 k)).cell? ⟨g2,2,none⟩=some (.string ByteArray.empty)∧((W.setCell ⟨g1,0,none⟩ (.int .i64 i)).setCell ⟨g1,1,none⟩ (.int .i64 k)).cell? ⟨g2,3,none⟩=some (.int .i64 0)∧((W.setCell ⟨g1,0,none⟩ (.int .i64 i)).setCell ⟨g1,1,none⟩ (.int .i64 k)).cell? ⟨g2,4,none⟩=some (.int .i64 0)∧((W.setCell ⟨g1,0,none⟩ (.int .i64 i)).setCell ⟨g1,1,none⟩ (.int .i64 k)).frozen? ⟨g2,0,none⟩=false∧((W.setCell ⟨g1,0,none⟩ (.int .i64 i)).setCell ⟨g1,1,none⟩ (.int .i64 k)).frozen? ⟨g2,1,none⟩=false∧((W.setCell ⟨g1,0,none⟩ (.int .i64 i)).setCell ⟨g1,1,none⟩ (.int .i64 k)).frozen? ⟨g2,2,none⟩=false∧((W.setCell ⟨g1,0,none⟩ (.int .i64 i)).setCell ⟨g1,1,none⟩ (.int .i64 k)).frozen? ⟨g2,3,none⟩=false∧((W.setCell ⟨g1,0,none⟩ (.int .i64 i)).setCell ⟨g1,1,none⟩ (.int .i64 k)).frozen? ⟨g2,4,none⟩=false:=by
  have h3:=(h2.other g1 0 (.int .i64 i) (fun e=>hn e.symm)).other g1 1 (.int .i64 k) (fun e=>hn e.symm)
  exact ⟨h1.at 0,h1.at 1,h1.f 0,h1.f 1,h3.at 0,h3.at 1,h3.at 2,h3.at 3,h3.at 4,h3.f 0,h3.f 1,h3.f 2,h3.f 3,h3.f 4⟩
theorem aAY {W:World} {g1 g2:Nat} {ta tc:TypeId} (h1:Blk W g1 #[.int .i64 0,.int .i64 0] ta) (h2:Blk W g2 #[.int .i64 0,.int .i64 0,.string ByteArray.empty,.int .i64 0,.int .i64 0] tc) (hn:g1≠g2) (i k id ap:Int) (sn:ByteArray) (me cp:Int) :
    Blk (((((((W.setCell ⟨g1,0,none⟩ (.int .i64 i)).setCell ⟨g1,1,none⟩ (.int .i64 k)).setCell ⟨g2,0,none⟩ (.int .i64 id)).setCell ⟨g2,1,none⟩ (.int .i64 ap)).setCell ⟨g2,2,none⟩ (.string sn)).setCell ⟨g2,3,none⟩ (.int .i64 me)).setCell ⟨g2,4,none⟩ (.int .i64 cp)) g1 #[.int .i64 i,.int .i64 k] ta∧Blk (((((((W.setCell ⟨g1,0,none⟩ (.int .i64 i)).setCell ⟨g1,1,none⟩ (.int .i64 k)).setCell ⟨g2,0,none⟩ (.int .i64 id)).setCell ⟨g2,1,none⟩ (.int .i64 ap)).setCell ⟨g2,2,none⟩ (.string sn)).setCell ⟨g2,3,none⟩ (.int .i64 me)).setCell ⟨g2,4,none⟩ (.int .i64 cp)) g2 #[.int .i64 id,.int .i64 ap,.string sn,.int .i64 me,.int .i64 cp] tc:=
  ⟨((((((h1.set 0 (.int .i64 i)).set 1 (.int .i64 k)).other g2 0 (.int .i64 id) hn).other g2 1 (.int .i64 ap) hn).other g2 2 (.string sn) hn).other g2 3 (.int .i64 me) hn).other g2 4 (.int .i64 cp) hn,
   ((((((h2.other g1 0 (.int .i64 i) (fun e=>hn e.symm)).other g1 1 (.int .i64 k) (fun e=>hn e.symm)).set 0 (.int .i64 id)).set 1 (.int .i64 ap)).set 2 (.string sn)).set 3 (.int .i64 me)).set 4 (.int .i64 cp)⟩
theorem oF {w W:World} (h:Below w.heap.size w W) {g1 g2:Nat} (h1:w.heap.size≤g1) (h2:w.heap.size≤g2) (i k id ap:Int) (sn:ByteArray) (me cp:Int):Below w.heap.size w (((((((W.setCell ⟨g1,0,none⟩ (.int .i64 i)).setCell ⟨g1,1,none⟩ (.int .i64 k)).setCell ⟨g2,0,none⟩ (.int .i64 id)).setCell ⟨g2,1,none⟩ (.int .i64 ap)).setCell ⟨g2,2,none⟩ (.string sn)).setCell ⟨g2,3,none⟩ (.int .i64 me)).setCell ⟨g2,4,none⟩ (.int .i64 cp)):=
  yC (yC (yC (yC (yC (yC (yC h g1 0 _ h1) g1 1 _ h1) g2 0 _ h2) g2 1 _ h2) g2 2 _ h2) g2 3 _ h2) g2 4 _ h2
theorem aJI (x:Sls) (s:St) (nd:List UInt8) (w:World) (h:jC w x s) (hf:bD s) (hc:x.ql≤x.qc) (hw:pX s) (hnd:nd.length≤1048576) :
  Calls Tryz.prog 69 #[sv x s,.string (bs nd)] w fun e w'=>e=.returned (.tuple #[rv (atR (aX s nd)).1 (atR (aX s nd)).2,conv (rJ (aX s nd)),.bool (aX s nd).isSome])∧Below w.heap.size w w':=by
 have CK:=aA (fun wx (hb:Below w.heap.size w wx)=>nQ x s wx (h.below hb) hf hc hw)
 have CH:=aA (fun wx (hb:Below w.heap.size w wx)=>pE x s nd wx (h.below hb) hf hnd)
 have CN:=aA (fun (ho:aS s=true) wx (hb:Below w.heap.size w wx)=>aFx x s wx (h.below hb) hf (wK ho).1 (wK ho).2.1 (wK ho).2.2)
 have CF:=aA (fun wx (hb:Below w.heap.size w wx)=>aCx x s nd wx (h.below hb) hf hc hw hnd)
 have HR:=aA h.2.1
 have hcl:x.cl=s.cs.length:=h.len.2.2.2
 have hcm:x.cl≤1048576:=by have:=hf.2.2.2.1;omega
 have HG:=aA (show aX s nd=if aS s=true then (if ((bF nd s.ms).isSome&&(decide (x.cl<150)&&mW s))=true then (nN s nd).map fun r=>(r,xK s nd r) else none) else none by rw [aX,uT,aLD,hcl])
 have HP:=aA (fun (r:Nat×Nat) (hr:nN s nd=some r)=>aDl hr)
 have HC:=aA (fun (r:Nat×Nat) (h1:r.1<s.apps.length) (h2:r.2<s.apps[r.1].asks.length)=>xJ (s:=s) (nd:=nd) h1 h2)
 have HAL:=aA h.2.1.1
 have hal:x.al≤1048576:=h.al hf
 have HFA:=aA hf.2.1
 obtain ⟨gv,hgv⟩:∃g,aX s nd=g:=⟨_,rfl⟩
 obtain ⟨gc,hgc⟩:∃g,xK s nd=g:=⟨_,rfl⟩
 obtain ⟨pk,hpk⟩:∃g,nN s nd=g:=⟨_,rfl⟩
 obtain ⟨so,hso⟩:∃g,aS s=g:=⟨_,rfl⟩
 obtain ⟨hm,hhm⟩:∃g,(bF nd s.ms).isSome=g:=⟨_,rfl⟩
 obtain ⟨fr,hfr⟩:∃g,mW s=g:=⟨_,rfl⟩
 obtain ⟨id,hid⟩:∃g,idV s=g:=⟨_,rfl⟩
 rw [hgv,hso,hhm,hfr,hpk,hgc] at HG
 rw [hgv]
 rw [hso] at CK CN
 rw [hhm] at CH
 rw [hid,hfr] at CN
 rw [hpk] at CF HP
 rw [hgc,hid] at HC
 obtain ⟨⟨pi,pj,pb⟩,hpl⟩:∃g,plR pk=g:=⟨_,rfl⟩
 rw [hpl] at CF
 simp only at CF
 have HPL:=aA hpl
 clear hpl
 clear h hf hc hw hgv hgc hpk hso hhm hfr hid hcl
 have hs:(bs nd).size≤281474976710656:=by rw [dI];omega
 obtain ⟨qa,ql,qc,aa,al,ac,ma,ml,mc,ca,cl,cc⟩:=x
 obtain ⟨qs,clock,epoch,next,serial,apps,ms,cs⟩:=s
 simp only at CK CH CN CF HR HG HC HP HAL HFA hal hcm
 have HB0:=aA (yA (yA (yA (yH _ w) (.cells (svc ⟨qa,ql,qc,aa,al,ac,ma,ml,mc,ca,cl,cc⟩ ⟨qs,clock,epoch,next,serial,apps,ms,cs⟩) 34)) (.cells #[.int .i64 0,.int .i64 0] 115)) (.cells #[.int .i64 0,.int .i64 0,.string ByteArray.empty,.int .i64 0,.int .i64 0] 38))
 have P0:=aA (((yD w (svc ⟨qa,ql,qc,aa,al,ac,ma,ml,mc,ca,cl,cc⟩ ⟨qs,clock,epoch,next,serial,apps,ms,cs⟩) 34).al (.cells #[.int .i64 0,.int .i64 0] 115)).al (.cells #[.int .i64 0,.int .i64 0,.string ByteArray.empty,.int .i64 0,.int .i64 0] 38))
 have R0:=aA (show Blk _ (w.heap.size+1) #[.int .i64 0,.int .i64 0] 115 by have:=(yD (w.alloc (.cells (svc ⟨qa,ql,qc,aa,al,ac,ma,ml,mc,ca,cl,cc⟩ ⟨qs,clock,epoch,next,serial,apps,ms,cs⟩) 34)) #[.int .i64 0,.int .i64 0] 115).al (.cells #[.int .i64 0,.int .i64 0,.string ByteArray.empty,.int .i64 0,.int .i64 0] 38);rw [yE] at this;exact this)
 have T0:=aA (show Blk _ (w.heap.size+1+1) #[.int .i64 0,.int .i64 0,.string ByteArray.empty,.int .i64 0,.int .i64 0] 38 by have:=yD ((w.alloc (.cells (svc ⟨qa,ql,qc,aa,al,ac,ma,ml,mc,ca,cl,cc⟩ ⟨qs,clock,epoch,next,serial,apps,ms,cs⟩) 34)).alloc (.cells #[.int .i64 0,.int .i64 0] 115)) #[.int .i64 0,.int .i64 0,.string ByteArray.empty,.int .i64 0,.int .i64 0] 38;rw [yE,yE] at this;exact this)
 go_enter Tryz.func69,Tryz.ntmps69
 go_wp2_with fail
 refine (uH CK _ (uH HB0)).mono ?_
 rintro e w1 ⟨rfl,hb⟩
 have HB1:=aA (yB (uH HB0) hb)
 have P1:=aA ((uH P0).below hb)
 have R1:=aA ((uH R0).below hb)
 have T1:=aA ((uH T0).below hb)
 clear hb HB0 P0 R0 T0 CK
 obtain ⟨q0,q1,q2,q3,q4,q5,q6,q7⟩:=zq (uH P1)
 cases so
 case false=>
  have HE:=aA (show gv=none from by rw [uH HG];rfl)
  obtain ⟨k0,k1,k2,k3,k4,k5,k6,k7,k8,k9,k10,k11,k12,k13⟩:=oD (uH R1) (uH T1) (by omega) 0 0
  have HX:=aA (aAY (uH R1) (uH T1) (by omega) 0 0 0 0 (⟨#[]⟩:ByteArray) 0 0)
  have HY:=aA (oF (uH HB1) (g1:=w.heap.size+1) (g2:=w.heap.size+1+1) (by omega) (by omega) 0 0 0 0 (⟨#[]⟩:ByteArray) 0 0)
  go_wp2
  generalize (((((((w1.setCell ⟨w.heap.size+1,0,none⟩ (.int .i64 0)).setCell ⟨w.heap.size+1,1,none⟩ (.int .i64 0)).setCell ⟨w.heap.size+1+1,0,none⟩ (.int .i64 0)).setCell ⟨w.heap.size+1+1,1,none⟩ (.int .i64 0)).setCell ⟨w.heap.size+1+1,2,none⟩ (.string (⟨#[]⟩:ByteArray))).setCell ⟨w.heap.size+1+1,3,none⟩ (.int .i64 0)).setCell ⟨w.heap.size+1+1,4,none⟩ (.int .i64 0))=W9 at HX HY ⊢
  have z0:=(uH HX).1.at 0;have z1:=(uH HX).1.at 1;have z2:=(uH HX).2.at 0;have z3:=(uH HX).2.at 1;have z4:=(uH HX).2.at 2;have z5:=(uH HX).2.at 3;have z6:=(uH HX).2.at 4
  simp at z0 z1 z2 z3 z4 z5 z6
  refine bodyPost_ret (v:=.tuple #[rv 0 0,conv ⟨0,0,[],0,0⟩,.bool false]) (by simp [results,Tryz.results69,go_sem,z0,z1,z2,z3,z4,z5,z6];try rfl) rfl ⟨by rw [uH HE];rfl,uH HY⟩
 case true=>
  go_wp2_with fail
  refine (uH CH _ (uH HB1)).mono ?_
  rintro e w2 ⟨rfl,hb⟩
  have HB2:=aA (yB (uH HB1) hb)
  have P2:=aA ((uH P1).below hb)
  have R2:=aA ((uH R1).below hb)
  have T2:=aA ((uH T1).below hb)
  clear hb HB1 P1 R1 T1 q0 q1 q2 q3 q4 q5 q6 q7
  clear CH
  obtain ⟨q0,q1,q2,q3,q4,q5,q6,q7⟩:=zq (uH P2)
  cases hm
  case false=>
   have HE:=aA (show gv=none from by rw [uH HG];rfl)
   obtain ⟨k0,k1,k2,k3,k4,k5,k6,k7,k8,k9,k10,k11,k12,k13⟩:=oD (uH R2) (uH T2) (by omega) 0 0
   have HX:=aA (aAY (uH R2) (uH T2) (by omega) 0 0 0 0 (⟨#[]⟩:ByteArray) 0 0)
   have HY:=aA (oF (uH HB2) (g1:=w.heap.size+1) (g2:=w.heap.size+1+1) (by omega) (by omega) 0 0 0 0 (⟨#[]⟩:ByteArray) 0 0)
   go_wp2
   generalize (((((((w2.setCell ⟨w.heap.size+1,0,none⟩ (.int .i64 0)).setCell ⟨w.heap.size+1,1,none⟩ (.int .i64 0)).setCell ⟨w.heap.size+1+1,0,none⟩ (.int .i64 0)).setCell ⟨w.heap.size+1+1,1,none⟩ (.int .i64 0)).setCell ⟨w.heap.size+1+1,2,none⟩ (.string (⟨#[]⟩:ByteArray))).setCell ⟨w.heap.size+1+1,3,none⟩ (.int .i64 0)).setCell ⟨w.heap.size+1+1,4,none⟩ (.int .i64 0))=W9 at HX HY ⊢
   have z0:=(uH HX).1.at 0;have z1:=(uH HX).1.at 1;have z2:=(uH HX).2.at 0;have z3:=(uH HX).2.at 1;have z4:=(uH HX).2.at 2;have z5:=(uH HX).2.at 3;have z6:=(uH HX).2.at 4
   simp at z0 z1 z2 z3 z4 z5 z6
   refine bodyPost_ret (v:=.tuple #[rv 0 0,conv ⟨0,0,[],0,0⟩,.bool false]) (by simp [results,Tryz.results69,go_sem,z0,z1,z2,z3,z4,z5,z6];try rfl) rfl ⟨by rw [uH HE];rfl,uH HY⟩
  case true=>
   by_cases hlt:cl<150
   case neg=>
    have HE:=aA (show gv=none from by rw [uH HG,decide_eq_false hlt];rfl)
    have hl1:(150:Int)≤cl:=by omega
    obtain ⟨k0,k1,k2,k3,k4,k5,k6,k7,k8,k9,k10,k11,k12,k13⟩:=oD (uH R2) (uH T2) (by omega) 0 0
    have HX:=aA (aAY (uH R2) (uH T2) (by omega) 0 0 0 0 (⟨#[]⟩:ByteArray) 0 0)
    have HY:=aA (oF (uH HB2) (g1:=w.heap.size+1) (g2:=w.heap.size+1+1) (by omega) (by omega) 0 0 0 0 (⟨#[]⟩:ByteArray) 0 0)
    go_wp2
    generalize (((((((w2.setCell ⟨w.heap.size+1,0,none⟩ (.int .i64 0)).setCell ⟨w.heap.size+1,1,none⟩ (.int .i64 0)).setCell ⟨w.heap.size+1+1,0,none⟩ (.int .i64 0)).setCell ⟨w.heap.size+1+1,1,none⟩ (.int .i64 0)).setCell ⟨w.heap.size+1+1,2,none⟩ (.string (⟨#[]⟩:ByteArray))).setCell ⟨w.heap.size+1+1,3,none⟩ (.int .i64 0)).setCell ⟨w.heap.size+1+1,4,none⟩ (.int .i64 0))=W9 at HX HY ⊢
    have z0:=(uH HX).1.at 0;have z1:=(uH HX).1.at 1;have z2:=(uH HX).2.at 0;have z3:=(uH HX).2.at 1;have z4:=(uH HX).2.at 2;have z5:=(uH HX).2.at 3;have z6:=(uH HX).2.at 4
    simp at z0 z1 z2 z3 z4 z5 z6
    refine bodyPost_ret (v:=.tuple #[rv 0 0,conv ⟨0,0,[],0,0⟩,.bool false]) (by simp [results,Tryz.results69,go_sem,z0,z1,z2,z3,z4,z5,z6];try rfl) rfl ⟨by rw [uH HE];rfl,uH HY⟩
   have hl1:¬(150:Int)≤cl:=by omega
   have HG2:=aA (show gv=if fr=true then pk.map (fun r=>(r,gc r)) else none from by rw [uH HG,decide_eq_true hlt];simp)
   clear HG
   go_wp2_with fail
   refine (uH CN (by first | rfl | trivial) _ (uH HB2)).mono ?_
   rintro e w3 ⟨rfl,hb⟩
   have HB3:=aA (yB (uH HB2) hb)
   have P3:=aA ((uH P2).below hb)
   have R3:=aA ((uH R2).below hb)
   have T3:=aA ((uH T2).below hb)
   clear hb HB2 P2 R2 T2 q0 q1 q2 q3 q4 q5 q6 q7
   clear CN
   obtain ⟨q0,q1,q2,q3,q4,q5,q6,q7⟩:=zq (uH P3)
   go_wp2_with fail
   refine (uH CF _ (uH HB3)).mono ?_
   rintro e w4 ⟨rfl,hb⟩
   have HB4:=aA (yB (uH HB3) hb)
   have P4:=aA ((uH P3).below hb)
   have R4:=aA ((uH R3).below hb)
   have T4:=aA ((uH T3).below hb)
   have HLT:=aA ((uH T4).lt)
   clear hb HB3 P3 R3 T3 q0 q1 q2 q3 q4 q5 q6 q7
   clear CF
   have HB5:=aA (yA (uH HB4) (.cells #[.int .i64 pi,.int .i64 pj] 115))
   have P5:=aA ((uH P4).al (.cells #[.int .i64 pi,.int .i64 pj] 115))
   have R5:=aA ((uH R4).al (.cells #[.int .i64 pi,.int .i64 pj] 115))
   have T5:=aA ((uH T4).al (.cells #[.int .i64 pi,.int .i64 pj] 115))
   have A5:=aA (yD w4 #[.int .i64 pi,.int .i64 pj] 115)
   clear HB4 P4 R4 T4
   cases fr
   case false=>
    have HE:=aA (show gv=none from by rw [uH HG2];rfl)
    obtain ⟨k0,k1,k2,k3,k4,k5,k6,k7,k8,k9,k10,k11,k12,k13⟩:=oD (uH R5) (uH T5) (by omega) 0 0
    have HX:=aA (aAY (uH R5) (uH T5) (by omega) 0 0 0 0 (⟨#[]⟩:ByteArray) 0 0)
    have HY:=aA (oF (uH HB5) (g1:=w.heap.size+1) (g2:=w.heap.size+1+1) (by omega) (by omega) 0 0 0 0 (⟨#[]⟩:ByteArray) 0 0)
    go_wp2
    generalize ((((((((w4.alloc (.cells #[.int .i64 pi,.int .i64 pj] 115)).setCell ⟨w.heap.size+1,0,none⟩ (.int .i64 0)).setCell ⟨w.heap.size+1,1,none⟩ (.int .i64 0)).setCell ⟨w.heap.size+1+1,0,none⟩ (.int .i64 0)).setCell ⟨w.heap.size+1+1,1,none⟩ (.int .i64 0)).setCell ⟨w.heap.size+1+1,2,none⟩ (.string (⟨#[]⟩:ByteArray))).setCell ⟨w.heap.size+1+1,3,none⟩ (.int .i64 0)).setCell ⟨w.heap.size+1+1,4,none⟩ (.int .i64 0))=W9 at HX HY ⊢
    have z0:=(uH HX).1.at 0;have z1:=(uH HX).1.at 1;have z2:=(uH HX).2.at 0;have z3:=(uH HX).2.at 1;have z4:=(uH HX).2.at 2;have z5:=(uH HX).2.at 3;have z6:=(uH HX).2.at 4
    simp at z0 z1 z2 z3 z4 z5 z6
    refine bodyPost_ret (v:=.tuple #[rv 0 0,conv ⟨0,0,[],0,0⟩,.bool false]) (by simp [results,Tryz.results69,go_sem,z0,z1,z2,z3,z4,z5,z6];try rfl) rfl ⟨by rw [uH HE];rfl,uH HY⟩
   case true=>
    cases pb
    case false=>
     have HE:=aA (show gv=none from by
      have h1:=uH HPL
      rw [uH HG2]
      cases pk with
      | none=>rfl
      | some r=>simp [plR] at h1)
     obtain ⟨k0,k1,k2,k3,k4,k5,k6,k7,k8,k9,k10,k11,k12,k13⟩:=oD (uH R5) (uH T5) (by omega) 0 0
     have HX:=aA (aAY (uH R5) (uH T5) (by omega) 0 0 0 0 (⟨#[]⟩:ByteArray) 0 0)
     have HY:=aA (oF (uH HB5) (g1:=w.heap.size+1) (g2:=w.heap.size+1+1) (by omega) (by omega) 0 0 0 0 (⟨#[]⟩:ByteArray) 0 0)
     go_wp2
     generalize ((((((((w4.alloc (.cells #[.int .i64 pi,.int .i64 pj] 115)).setCell ⟨w.heap.size+1,0,none⟩ (.int .i64 0)).setCell ⟨w.heap.size+1,1,none⟩ (.int .i64 0)).setCell ⟨w.heap.size+1+1,0,none⟩ (.int .i64 0)).setCell ⟨w.heap.size+1+1,1,none⟩ (.int .i64 0)).setCell ⟨w.heap.size+1+1,2,none⟩ (.string (⟨#[]⟩:ByteArray))).setCell ⟨w.heap.size+1+1,3,none⟩ (.int .i64 0)).setCell ⟨w.heap.size+1+1,4,none⟩ (.int .i64 0))=W9 at HX HY ⊢
     have z0:=(uH HX).1.at 0;have z1:=(uH HX).1.at 1;have z2:=(uH HX).2.at 0;have z3:=(uH HX).2.at 1;have z4:=(uH HX).2.at 2;have z5:=(uH HX).2.at 3;have z6:=(uH HX).2.at 4
     simp at z0 z1 z2 z3 z4 z5 z6
     refine bodyPost_ret (v:=.tuple #[rv 0 0,conv ⟨0,0,[],0,0⟩,.bool false]) (by simp [results,Tryz.results69,go_sem,z0,z1,z2,z3,z4,z5,z6];try rfl) rfl ⟨by rw [uH HE];rfl,uH HY⟩
    case true=>
     obtain ⟨i,k,HPK,rfl,rfl⟩:∃i k:Nat,Hid (pk=some (i,k))∧(i:Int)=pi∧(k:Int)=pj:=by
      have h1:=uH HPL
      cases hp:pk with
      | none=>rw [hp] at h1;simp [plR] at h1
      | some r=>rw [hp] at h1;simp only [plR,Prod.mk.injEq] at h1;exact ⟨r.1,r.2,aA rfl,h1.1,h1.2.1⟩
     obtain ⟨hkl,hjk⟩:=uH HP _ (uH HPK)
     simp only at hkl hjk
     have hgc:=uH HC (i,k) hkl hjk
     simp only at hgc
     have hil:i<al:=by have:=uH HAL;omega
     obtain ⟨bb,off,rfl,hqa⟩:=(uH HR).at hil
     have hfa:=(uH HFA).2 _ (yM hkl)
     obtain ⟨xo,xl,xc,c0,c1,c2,hrow,_⟩:=hqa hkl
     replace c0:=Kp.cell (uH HB5) c0
     replace c1:=Kp.cell (uH HB5) c1
     replace c2:=Kp.cell (uH HB5) c2
     obtain ⟨⟨ai,qu,asks⟩,hs'⟩:∃s,apps[i]=s:=⟨_,rfl⟩
     have hjk2:k<asks.length:=by have:=hjk;rw [hs'] at this;exact this
     have hgc2:gc (i,k)=⟨id,ai,nd,asks[k].mem,asks[k].cpu⟩:=by simp only [hgc,hs']
     rw [hs'] at c0 c1 hrow hfa
     simp only at c0 c1 hrow
     have hxl:xl≤1048576:=by have h1:=hrow.1;have h2:=hfa.2.1;simp only at h2;omega
     have hkx:k<xl:=by have:=hrow.1;omega
     have HA:=aA hrow
     have HE:=aA (show gv=some ((i,k),gc (i,k)) from by rw [uH HG2,uH HPK];rfl)
     obtain ⟨am,hsa⟩:∃s,asks[k]=s:=⟨_,rfl⟩
     rw [hsa] at hgc2
     have HGC:=aA hgc2
     have i0:(0:Int)≤i:=by omega
     have i1:(i:Int)<al:=by omega
     have j0:(0:Int)≤k:=by omega
     have j1:(k:Int)<xl:=by omega
     have a0:=(uH A5).at 0;have a1:=(uH A5).at 1
     simp at a0 a1
     obtain ⟨q0,q1,q2,q3,q4,q5,q6,q7⟩:=zq (uH P5)
     have hba:=yA (yH _ (w4.alloc (.cells #[.int .i64 (i:Int),.int .i64 (k:Int)] 115))) (.cells #[.int .i64 ai,.string (bs qu),.slice xo xl xc] 74)
     have HB6:=aA (yB (uH HB5) hba)
     have R6:=aA ((uH R5).below hba)
     have T6:=aA ((uH T5).below hba)
     have A6:=aA ((uH A5).below hba)
     have B6:=aA (yD (w4.alloc (.cells #[.int .i64 (i:Int),.int .i64 (k:Int)] 115)) #[.int .i64 ai,.string (bs qu),.slice xo xl xc] 74)
     clear hqa hgc hgc2 hfa hrow hjk hba HB5 P5 R5 T5 A5
     have b0:=(uH B6).at 0;have b1:=(uH B6).at 1;have b2:=(uH B6).at 2;have a2:=(uH A6).at 0;have a3:=(uH A6).at 1
     simp at b0 b1 b2 a2 a3
     obtain ⟨ab,aoff,rfl,ha⟩:=(uH HA).at hkx
     obtain ⟨d0,d1,d2,d3,d4⟩:=ha hjk2
     rw [hsa] at d0 d1 d2 d3 d4
     obtain ⟨me,cp,ct,nx,mi⟩:=am
     simp only at d0 d1 d2 d3 d4 HGC
     have hlt4:w.heap.size+1+1<w4.heap.size:=uH HLT
     obtain ⟨g4,hg4⟩:∃g,w4.heap.size=g:=⟨_,rfl⟩
     go_wp2_with fail
     try rw [yE]
     try rw [hg4]
     rw [hg4] at hlt4 A6
     have B7:=aA (show Blk _ (g4+1) #[.int .i64 ai,.string (bs qu),.slice (some ⟨ab,aoff,none⟩) xl xc] 74 from by have:=uH B6;rw [yE,hg4] at this;exact this)
     obtain ⟨W6,hW6⟩:∃W,(w4.alloc (.cells #[.int .i64 (i:Int),.int .i64 (k:Int)] 115)).alloc (.cells #[.int .i64 ai,.string (bs qu),.slice (some ⟨ab,aoff,none⟩) xl xc] 74)=W:=⟨_,rfl⟩
     rw [hW6] at HB6 R6 T6 A6 B7
     try rw [hW6]
     clear a0 a1 a2 a3 b0 b1 b2 c0 c1 c2 q0 q1 q2 q3 q4 q5 q6 q7 ha B6 hg4 hW6
     have S6:=aA (show HBk w [(g4,#[.int .i64 (i:Int),.int .i64 (k:Int)],115),(g4+1,#[.int .i64 ai,.string (bs qu),.slice (some ⟨ab,aoff,none⟩) xl xc],74)] W6 from ⟨fun p hp=>by
      simp only [List.mem_cons,List.not_mem_nil,or_false] at hp
      rcases hp with rfl | rfl
      ·exact uH A6
      ·exact uH B7,uH HB6⟩)
     have R:∀wx,HBk w [(g4,#[.int .i64 (i:Int),.int .i64 (k:Int)],115),(g4+1,#[.int .i64 ai,.string (bs qu),.slice (some ⟨ab,aoff,none⟩) xl xc],74)] wx→wx.cell? ⟨g4,0,none⟩=some (.int .i64 (i:Int))∧wx.cell? ⟨g4,1,none⟩=some (.int .i64 (k:Int))∧wx.cell? ⟨g4+1,0,none⟩=some (.int .i64 ai)∧wx.cell? ⟨g4+1,1,none⟩=some (.string (bs qu))∧wx.cell? ⟨g4+1,2,none⟩=some (.slice (some ⟨ab,aoff,none⟩) xl xc)∧wx.cell? ⟨ab,aoff+k*5,none⟩=some (.int .i64 me)∧wx.cell? ⟨ab,aoff+k*5+1,none⟩=some (.int .i64 cp):=fun wx h=>by
      have v1:=h.blk (g:=g4) (c:=#[.int .i64 (i:Int),.int .i64 (k:Int)]) (t:=115) (by simp)
      have v2:=h.blk (g:=g4+1) (c:=#[.int .i64 ai,.string (bs qu),.slice (some ⟨ab,aoff,none⟩) xl xc]) (t:=74) (by simp)
      exact ⟨by simpa using v1.at 0,by simpa using v1.at 1,by simpa using v2.at 0,by simpa using v2.at 1,by simpa using v2.at 2,h.cell d0,h.cell d1⟩
     have hn1:∀p ∈ [(g4,#[Value.int .i64 (i:Int),.int .i64 (k:Int)],(115:TypeId)),(g4+1,#[.int .i64 ai,.string (bs qu),.slice (some ⟨ab,aoff,none⟩) xl xc],74)],p.1≠w.heap.size+1:=fun p hp=>by
      simp only [List.mem_cons,List.not_mem_nil,or_false] at hp
      rcases hp with rfl | rfl<;>simp only<;>omega
     have hn2:∀p ∈ [(g4,#[Value.int .i64 (i:Int),.int .i64 (k:Int)],(115:TypeId)),(g4+1,#[.int .i64 ai,.string (bs qu),.slice (some ⟨ab,aoff,none⟩) xl xc],74)],p.1≠w.heap.size+1+1:=fun p hp=>by
      simp only [List.mem_cons,List.not_mem_nil,or_false] at hp
      rcases hp with rfl | rfl<;>simp only<;>omega
     have HN1:=aA hn1
     have HN2:=aA hn2
     have hw1:w.heap.size≤w.heap.size+1:=by omega
     have hw2:w.heap.size≤w.heap.size+1+1:=by omega
     clear hn1 hn2 d0 d1 d2 d3 d4
     go_region_held3 (fun wx=>HBk w [(g4,#[.int .i64 (i:Int),.int .i64 (k:Int)],115),(g4+1,#[.int .i64 ai,.string (bs qu),.slice (some ⟨ab,aoff,none⟩) xl xc],74)] wx)
      (first | (with_reducible assumption) | (with_reducible exact (uH S6).drew))
      (first
      | (go_at_call 67;refine (iE (bs nd) _ hs).mono ?_;rintro e w7 ⟨rfl,hb⟩;have SA0:=HBk.call (uH S6).drew hb;have SA:=aA SA0;have SB1:=(show HBk w [(g4,#[.int .i64 (i:Int),.int .i64 (k:Int)],115),(g4+1,#[.int .i64 ai,.string (bs qu),.slice (some ⟨ab,aoff,none⟩) xl xc],74)] ((w7.setCell ⟨w.heap.size+1,0,none⟩ (.int .i64 (i:Int))).setCell ⟨w.heap.size+1,1,none⟩ (.int .i64 (k:Int))) from HBk.set (HBk.set SA0 _ _ _ hw1 (uH HN1)) _ _ _ hw1 (uH HN1));have SB2:=(show HBk w [(g4,#[.int .i64 (i:Int),.int .i64 (k:Int)],115),(g4+1,#[.int .i64 ai,.string (bs qu),.slice (some ⟨ab,aoff,none⟩) xl xc],74)] (((((((w7.setCell ⟨w.heap.size+1,0,none⟩ (.int .i64 (i:Int))).setCell ⟨w.heap.size+1,1,none⟩ (.int .i64 (k:Int))).setCell ⟨w.heap.size+1+1,0,none⟩ (.int .i64 id)).setCell ⟨w.heap.size+1+1,1,none⟩ (.int .i64 ai)).setCell ⟨w.heap.size+1+1,2,none⟩ (.string (bs nd))).setCell ⟨w.heap.size+1+1,3,none⟩ (.int .i64 me)).setCell ⟨w.heap.size+1+1,4,none⟩ (.int .i64 cp)) from HBk.set (HBk.set (HBk.set (HBk.set (HBk.set SB1 _ _ _ hw2 (uH HN2)) _ _ _ hw2 (uH HN2)) _ _ _ hw2 (uH HN2)) _ _ _ hw2 (uH HN2)) _ _ _ hw2 (uH HN2));have R7:=aA ((uH R6).drew.below hb);have T7:=aA ((uH T6).drew.below hb);obtain ⟨k0,k1,k2,k3,k4,k5,k6,k7,k8,k9,k10,k11,k12,k13⟩:=oD (uH R7) (uH T7) (by omega) (i:Int) (k:Int)))
     have HX:=aA (aAY (uH R7) (uH T7) (by omega) (i:Int) (k:Int) id ai (bs nd) me cp)
     have HY:=aA (oF (uH SA).2 (g1:=w.heap.size+1) (g2:=w.heap.size+1+1) (by omega) (by omega) (i:Int) (k:Int) id ai (bs nd) me cp)
     go_wp2
     generalize (((((((w7.setCell ⟨w.heap.size+1,0,none⟩ (.int .i64 (i:Int))).setCell ⟨w.heap.size+1,1,none⟩ (.int .i64 (k:Int))).setCell ⟨w.heap.size+1+1,0,none⟩ (.int .i64 id)).setCell ⟨w.heap.size+1+1,1,none⟩ (.int .i64 ai)).setCell ⟨w.heap.size+1+1,2,none⟩ (.string (bs nd))).setCell ⟨w.heap.size+1+1,3,none⟩ (.int .i64 me)).setCell ⟨w.heap.size+1+1,4,none⟩ (.int .i64 cp))=W9 at HX HY ⊢
     have z0:=(uH HX).1.at 0;have z1:=(uH HX).1.at 1;have z2:=(uH HX).2.at 0;have z3:=(uH HX).2.at 1;have z4:=(uH HX).2.at 2;have z5:=(uH HX).2.at 3;have z6:=(uH HX).2.at 4
     simp at z0 z1 z2 z3 z4 z5 z6
     refine bodyPost_ret (v:=.tuple #[rv (i:Int) (k:Int),conv ⟨id,ai,nd,me,cp⟩,.bool true]) (by simp [results,Tryz.results69,go_sem,z0,z1,z2,z3,z4,z5,z6];try rfl) rfl ⟨by rw [uH HE,uH HGC];rfl,uH HY⟩
end
section
open Go.RowKit
def aJS (a:Ask):Ask:=⟨a.mem,a.cpu,a.count - 1,a.node,a.missed⟩
def gB (l:List Ask) (k:Nat):List Ask:=match l[k]? with
 | none=>l
 | some a=>if 1<a.count then l.set k (aJS a) else l.eraseIdx k
theorem vW {l:List Ask} {k:Nat} (h:k<l.length) (hc:1<l[k].count):gB l k=l.set k (aJS l[k]):=by
 rw [gB,List.getElem?_eq_getElem h];simp only;rw [if_pos hc]
theorem vX {l:List Ask} {k:Nat} (h:k<l.length) (hc:¬1<l[k].count):gB l k=l.eraseIdx k:=by
 rw [gB,List.getElem?_eq_getElem h];simp only;rw [if_neg hc]
theorem aAE (l:List Ask) (k:Nat):(gB l k).length≤l.length:=by
 unfold gB
 split
 ·exact yJ _
 ·split
  ·rw [List.length_set];exact yJ _
  ·exact List.length_eraseIdx_le _ _
theorem aFd {l:List Ask} {k:Nat} {a:Ask} (h:a ∈ gB l k):∃b ∈ l,a.node=b.node:=by
 unfold gB at h
 split at h
 ·exact ⟨a,h,rfl⟩
 ·rename_i b hb
  split at h
  ·rcases List.mem_or_eq_of_mem_set h with h | h
   ·exact ⟨a,h,rfl⟩
   ·exact ⟨b,List.mem_of_getElem? hb,by rw [h];rfl⟩
  ·exact ⟨a,List.mem_of_mem_eraseIdx h,rfl⟩
def aBE (a:bY) (k:Nat):bY:=⟨a.id,a.queue,gB a.asks k⟩
def bL (l:List bY) (r:Nat×Nat):List bY:=l.modify r.1 (fun a=>aBE a r.2)
theorem pJ {l:List bY} {r:Nat×Nat} {a:bY} (h:a ∈ bL l r):∃b ∈ l,a.id=b.id∧a.queue=b.queue∧(a.asks=b.asks∨a.asks=gB b.asks r.2):=by
 unfold bL at h
 obtain ⟨i,hi,rfl⟩:=List.mem_iff_getElem.1 h
 have hi':i<l.length:=by simpa using hi
 rw [List.getElem_modify]
 split
 ·exact ⟨l[i],yM hi',rfl,rfl,.inr rfl⟩
 ·exact ⟨l[i],yM hi',rfl,rfl,.inl rfl⟩
def eQ (id:Int):List Con→Nat
 | []=>0
 | c::t=>if c.id<id then eQ id t+1 else 0
theorem aCI (id:Int):∀l:List Con,eQ id l≤l.length
 | []=>yJ _
 | c::t=>by
  rw [eQ]
  have:=aCI id t
  split<;>simp<;>omega
theorem aCJ {id:Int}:∀{l:List Con} {p:Nat},p≤l.length→(∀i (hi:i<l.length),i<p→l[i].id<id)→(∀i (hi:i<l.length),p≤i→id≤l[i].id)→eQ id l=p
 | [],p,h,_,_=>by simp at h;simp [eQ,h]
 | c::t,p,h,h1,h2=>by
  rw [eQ]
  cases p with
  | zero=>
   have:=h2 0 (by simp) (yJ _)
   simp only [List.getElem_cons_zero] at this
   rw [if_neg (by omega)]
  | succ p=>
   have h0:=h1 0 (by simp) (by omega)
   simp only [List.getElem_cons_zero] at h0
   rw [if_pos h0,aCJ (l:=t) (p:=p) (by simpa using h) (fun i hi hp=>by have:=h1 (i+1) (by simpa using hi) (by omega);simpa using this) (fun i hi hp=>by have:=h2 (i+1) (by simpa using hi) (by omega);simpa using this)]
def mE (l:List Con) (c:Con):List Con:=l.take (eQ c.id l)++c::l.drop (eQ c.id l)
theorem aB0 (l:List Con) (c:Con):(mE l c).length=l.length+1:=by
 have:=aCI c.id l
 unfold mE
 rw [List.length_append,List.length_cons,List.length_take,List.length_drop]
 omega
theorem aBZ {l:List Con} {c x:Con} (h:x ∈ mE l c):x=c∨x ∈ l:=by
 unfold mE at h
 rcases List.mem_append.1 h with h | h
 ·exact .inr (List.mem_of_mem_take h)
 ·rcases List.mem_cons.1 h with h | h
  ·exact .inl h
  ·exact .inr (List.mem_of_mem_drop h)
def dC (x:Int):Int:=if 99999<x+1 then 1 else x+1
def bQ (s:St) (p:(Nat×Nat)×Con):St:=⟨s.qs,s.clock,s.epoch,s.next,dC s.serial,bL s.apps p.1,s.ms,mE s.cs p.2⟩
def kJ (s:St) (nd:List UInt8):St:=match aX s nd with | none=>s | some p=>bQ s p
theorem mV {s:St} {nd:List UInt8} (h:aX s nd=none):kJ s nd=s:=by rw [kJ,h]
theorem dX {s:St} {nd:List UInt8} {p:(Nat×Nat)×Con} (h:aX s nd=some p):kJ s nd=bQ s p:=by rw [kJ,h]
theorem jW {s:St} {nd:List UInt8} {p:(Nat×Nat)×Con} (h:aX s nd=some p):aS s=true∧uT s nd=some p∧s.cs.length<150∧∃h1:p.1.1<s.apps.length,∃h2:p.1.2<s.apps[p.1.1].asks.length,p.2=⟨idV s,s.apps[p.1.1].id,nd,s.apps[p.1.1].asks[p.1.2].mem,s.apps[p.1.1].asks[p.1.2].cpu⟩:=by
 unfold aX at h
 split at h
 ·rename_i hk
  refine ⟨hk,h,?_⟩
  unfold uT at h
  split at h
  ·rename_i hm
   simp only [aLD,yK,yL] at hm
   refine ⟨hm.2.1,?_⟩
   cases hp:nN s nd with
   | none=>rw [hp] at h;cases h
   | some r=>
    rw [hp] at h
    obtain rfl:=Option.some.inj h
    obtain ⟨h1,h2⟩:=aDl hp
    exact ⟨h1,h2,xJ h1 h2⟩
  ·cases h
 ·cases h
theorem rE {s:St} (hf:bD s) {nd:List UInt8} (hn:nd.length≤1048576):bD (kJ s nd):=by
 cases h:aX s nd with
 | none=>rw [mV h];exact hf
 | some p=>
  rw [dX h]
  obtain ⟨_,_,h3,h1,h2,e⟩:=jW h
  refine ⟨hf.1,⟨by simp only [bQ,bL,List.length_modify];exact hf.2.1.1,fun a ha=>?_⟩,hf.2.2.1,by simp only [bQ,aB0];omega,fun c hc=>?_⟩
  ·obtain ⟨b,hb,_,e2,e3⟩:=pJ ha
   have hq:=hf.2.1.2 b hb
   refine ⟨by rw [e2];exact hq.1,?_⟩
   rcases e3 with e3 | e3
   ·rw [e3];exact hq.2
   ·rw [e3]
    refine ⟨Nat.le_trans (aAE _ _) hq.2.1,fun x hx=>?_⟩
    obtain ⟨y,hy,e4⟩:=aFd hx
    rw [e4]
    exact hq.2.2 y hy
  ·rcases aBZ hc with rfl | hc
   ·rw [e];exact hn
   ·exact hf.2.2.2.2 c hc
theorem aAq {s:St} (hw:pX s) (nd:List UInt8):pX (kJ s nd):=by
 cases h:aX s nd with
 | none=>rw [mV h];exact hw
 | some p=>
  rw [dX h]
  obtain ⟨_,_,_,h1,h2,e⟩:=jW h
  refine ⟨fun a ha=>?_,fun c hc=>?_⟩
  ·obtain ⟨b,hb,e1,_⟩:=pJ ha
   rw [e1]
   exact hw.1 b hb
  ·rcases aBZ hc with rfl | hc
   ·rw [e];exact hw.1 _ (yM h1)
   ·exact hw.2 c hc
theorem Lay.len {w:World} {t:TypeId} {g M:Nat} {cs:List Value} (h:Lay w t g M cs):cs.length≤M:=by
 obtain ⟨R,_,h2⟩:=h
 rw [List.length_append] at h2
 omega
theorem aBU {w:World} {t:TypeId} {g M:Nat} {cs:List Value} (h:Lay w t g M cs) {p:Nat} (hp:p<cs.length) (v:Value):Lay (w.setCell ⟨g,p,none⟩ v) t g M (cs.set p v):=by
 have hl:=h.len
 refine h.cells p [v] (by simp;omega) (cs.set p v) (by rw [List.length_set];exact hl) (fun j u hj=>⟨fun e=>?_,fun e=>?_⟩)
 ·obtain rfl:j=p:=by simp at e;omega
  rw [List.getElem?_set_self hp] at hj
  simpa using hj
 ·rw [List.getElem?_set_ne (by simp at e;omega)] at hj
  exact h.cell hj
theorem sZ:∀(l:List Ask) (k:Nat) (h:k<l.length) (c:Int),aK (l.set k ⟨l[k].mem,l[k].cpu,c,l[k].node,l[k].missed⟩)=(aK l).set (k*5+2) (.int .i64 c)
 | [],k,h,_=>by simp at h
 | q::t,0,_,c=>by simp [aK,aGa]
 | q::t,k+1,h,c=>by
  have ih:=sZ t k (by simpa using h) c
  simp only [sC,List.getElem_cons_succ,aK,aGa] at ih ⊢
  rw [ih,show (k+1)*5+2=k*5+2+1+1+1+1+1 by omega]
  simp
theorem aAN:∀(l:List AV) (k:Nat) (h:k<l.length) (ao:Option Addr) (n c:Nat),dB (l.set k ⟨l[k].id,l[k].queue,ao,n,c⟩)=(dB l).set (k*3+2) (.slice ao n c)
 | [],k,h,_,_,_=>by simp at h
 | q::t,0,_,ao,n,c=>by simp [dB,aDm]
 | q::t,k+1,h,ao,n,c=>by
  have ih:=aAN t k (by simpa using h) ao n c
  simp only [sC,List.getElem_cons_succ,dB,aDm] at ih ⊢
  rw [ih,show (k+1)*3+2=k*3+2+1+1+1 by omega]
  simp
theorem p9.lay {B n:Nat} {w:World} {pg:Nat} {hs:List AV} (h:p9 B w (some ⟨pg,0,none⟩) n hs) (hn:n≠0):∃M,B≤pg∧pg<w.heap.size∧Lay w 74 pg (M*3) (dB hs)∧n≤M∧n=hs.length:=by
 rcases h.2 with e | ⟨g,M,e,h1,h2,h3,h4⟩
 ·exact absurd e hn
 ·cases e
  refine ⟨M,h1,h2,aA7 h3 (fun j u hj=>by have:=aAO h.1 j u hj;rwa [Nat.zero_add] at this) (by rw [iJ,←h.1.1];exact Nat.mul_le_mul_right _ h4),h4,h.1.1⟩
theorem Lay.phas {B n M:Nat} {w:World} {pg:Nat} {hs:List AV} (h:Lay w 74 pg (M*3) (dB hs)) (hB:B≤pg) (hn:n=hs.length) (hM:n≤M):p9 B w (some ⟨pg,0,none⟩) n hs:=by
 subst hn
 exact ⟨h.rowP,.inr ⟨pg,M,rfl,hB,h.lt,h.cel,hM⟩⟩
theorem p9.upd {B n:Nat} {w:World} {pg i:Nat} {hs:List AV} (h:p9 B w (some ⟨pg,0,none⟩) n hs) (hi:i<hs.length) (ao:Option Addr) (m c:Nat) :
  p9 B (w.setCell ⟨pg,i*3+2,none⟩ (.slice ao m c)) (some ⟨pg,0,none⟩) n (hs.set i ⟨hs[i].id,hs[i].queue,ao,m,c⟩):=by
 obtain ⟨M,h1,_,h2,h3,h4⟩:=h.lay (by have:=h.1.1;omega)
 refine Lay.phas (M:=M) ?_ h1 (by rw [List.length_set];exact h4) h3
 rw [aAN hs i hi]
 exact aBU h2 (by rw [iJ];omega) _
theorem aO.off {w w':World} {ao:Option Addr} {n ga:Nat} {l:List Ask} (h:aO w ao n l) (hm:Mks (fun k=>k=ga) w w') (ho:∀o,n≠0→ao≠some ⟨ga,o,none⟩):aO w' ao n l:=
 h.mks hm (fun k hk e=>by subst e;obtain ⟨h1,o,h2⟩:=hk;exact ho o h1 h2)
theorem kX.upd {B:Nat} {w w':World} {hs:List AV} {l:List bY} (h:kX B w hs l) {i ga n':Nat} {ak:List Ask} (hi:i<hs.length) (hl:i<l.length) (hga:hs[i].ao=some ⟨ga,0,none⟩) (hlen:hs[i].len≠0) (hm:Mks (fun k=>k=ga) w w')
  (hr:aO w' (some ⟨ga,0,none⟩) n' ak) (hn:n'≤hs[i].len):kX B w' (hs.set i ⟨hs[i].id,hs[i].queue,some ⟨ga,0,none⟩,n',hs[i].cap⟩) (l.modify i (fun a=>⟨a.id,a.queue,ak⟩)):=by
 have hne:∀j (hj:j<hs.length),j≠i→∀o,hs[j].len≠0→hs[j].ao≠some ⟨ga,o,none⟩:=fun j hj hji o h0 e=>by
  have hap:aIc hs[i] hs[j]∨aIc hs[j] hs[i]:=by
   rcases Nat.lt_or_gt_of_ne hji with hlt | hlt
   ·exact .inr (List.pairwise_iff_getElem.1 h.apart j i hj hi hlt)
   ·exact .inl (List.pairwise_iff_getElem.1 h.apart i j hi hj hlt)
  have ho:o=0:=by
   rcases h.own _ (yM hj) with e2 | ⟨g,M,e2,_⟩
   ·exact absurd e2 h0
   ·rw [e] at e2;cases e2;rfl
  subst ho
  rcases hap with (a | a | a) | (a | a | a)
  ·exact hlen a
  ·exact h0 a
  ·exact a (by rw [hga,e])
  ·exact h0 a
  ·exact hlen a
  ·exact a (by rw [hga,e])
 refine ⟨⟨by simp [h.heads.1],fun j h1 h2=>?_⟩,fun v hv=>?_,?_⟩
 ·have hj:j<hs.length:=by simpa using h1
  have hj':j<l.length:=by simpa using h2
  obtain ⟨a,b,c,d⟩:=h.heads.2 j hj hj'
  rw [List.getElem_set,List.getElem_modify]
  by_cases e:i=j
  ·subst e
   rw [if_pos rfl,if_pos rfl]
   exact ⟨a,b,hr,Nat.le_trans hn d⟩
  ·rw [if_neg e,if_neg e]
   exact ⟨a,b,c.off hm (hne j hj (fun e2=>e e2.symm)),d⟩
 ·rcases List.mem_or_eq_of_mem_set hv with hv | rfl
  ·exact ((h.own v hv).mks hm).mono (yJ _) hm.size
  ·have:=((h.own _ (yM hi)).mks hm).mono (yJ _) hm.size
   rw [hga] at this
   exact this.le hn
 ·rw [List.pairwise_iff_getElem]
  intro a b ha hb hab
  have ha':a<hs.length:=by simpa using ha
  have hb':b<hs.length:=by simpa using hb
  have h0:=List.pairwise_iff_getElem.1 h.apart a b ha' hb' hab
  rw [List.getElem_set,List.getElem_set]
  by_cases e1:i=a
  ·subst e1
   rw [if_pos rfl,if_neg (by omega)]
   by_cases e2:hs[b].len=0
   ·exact .inr (.inl e2)
   ·exact .inr (.inr (fun e=>hne b hb' (by omega) 0 e2 e.symm))
  ·rw [if_neg e1]
   by_cases e2:i=b
   ·subst e2
    rw [if_pos rfl]
    by_cases e3:hs[a].len=0
    ·exact .inl e3
    ·exact .inr (.inr (hne a ha' (fun e=>e1 e.symm) 0 e3))
   ·rw [if_neg e2]
    exact h0
section
variable {B:Nat} {S:Nat→Prop} {w w':World} {t':TypeId}
theorem vD.mkg {n:Nat} {ao:Option Addr} {l:List Q} (h:vD B w ao n l) (hm:Mks S w w') (hS:∀k,S k→∃N,Cel w t' k N) (ht:t'≠100):vD B w' ao n l:=⟨h.1.mks hm (eY h.2 hm hS ht).1,(eY h.2 hm hS ht).2⟩
theorem uS.mkg {n:Nat} {ao:Option Addr} {l:List Mac} (h:uS B w ao n l) (hm:Mks S w w') (hS:∀k,S k→∃N,Cel w t' k N) (ht:t'≠104):uS B w' ao n l:=⟨h.1.mks hm (eY h.2 hm hS ht).1,(eY h.2 hm hS ht).2⟩
theorem qA.mkg {n:Nat} {ao:Option Addr} {l:List Con} (h:qA B w ao n l) (hm:Mks S w w') (hS:∀k,S k→∃N,Cel w t' k N) (ht:t'≠38):qA B w' ao n l:=⟨h.1.mks hm (eY h.2 hm hS ht).1,(eY h.2 hm hS ht).2⟩
theorem p9.mkg {n:Nat} {ao:Option Addr} {l:List AV} (h:p9 B w ao n l) (hm:Mks S w w') (hS:∀k,S k→∃N,Cel w t' k N) (ht:t'≠74):p9 B w' ao n l:=⟨h.1.mks hm (eY h.2 hm hS ht).1,(eY h.2 hm hS ht).2⟩
theorem kX.mkg {hs:List AV} {l:List bY} (h:kX B w hs l) (hm:Mks S w w') (hS:∀k,S k→∃N,Cel w t' k N) (ht:t'≠77):kX B w' hs l:=
 ⟨⟨h.heads.1,fun i h1 h2=>let ⟨a,b',c,d⟩:=h.heads.2 i h1 h2;⟨a,b',c.mks hm (eY (h.own _ (yM h1)) hm hS ht).1,d⟩⟩,fun v hv=>(eY (h.own v hv) hm hS ht).2,h.apart⟩
theorem Mks.wide {S T:Nat→Prop} (h:Mks S w w') (hi:∀k,S k→T k):Mks T w w':=⟨h.os,h.tape,h.output,h.size,fun k hk hn=>h.block k hk (fun e=>hn (hi k e)),h.cel⟩
end
def aHH (s:St) (r:Nat×Nat):St:=⟨s.qs,s.clock,s.epoch,s.next,s.serial,bL s.apps r,s.ms,s.cs⟩
def aJv (B:Nat) (w:World) (k:Nat):Prop:=B≤k∧∃N,Cel w 74 k N∨Cel w 77 k N
def aI7 (B:Nat) (y:Sls) (s:St) (r:Nat×Nat) (w:World) (e:Ending) (w':World):Prop:=e=.returned (.tuple #[])∧∃hs',dR B w' y (aHH s r) hs'∧Mks (aJv B w) w w'
theorem rV (l:List bY) (i k:Nat) (h:i<l.length):bL l (i,k)=l.modify i (fun a=>⟨a.id,a.queue,gB l[i].asks k⟩):=by
 unfold bL
 apply List.ext_getElem
 ·simp
 ·intro j h1 h2
  rw [List.getElem_modify,List.getElem_modify]
  by_cases e:i=j
  ·subst e
   rw [if_pos rfl,if_pos rfl]
   rfl
  ·rw [if_neg e,if_neg e]
theorem aHG {B:Nat} {y:Sls} {s:St} {hs:List AV} {w:World} (h:dR B w y s hs) {pg i k:Nat} (hpa:y.aa=some ⟨pg,0,none⟩) (hi:i<s.apps.length) (hk:k<s.apps[i].asks.length) (hf:bD s) (hct:0≤s.apps[i].asks[k].count∧s.apps[i].asks[k].count≤1000) :
  Calls Tryz.prog 70 #[.pointer (some ⟨pg,i*3,none⟩),.int .i64 (k:Int)] w (aI7 B y s (i,k) w):=by
 have hhl:hs.length=s.apps.length:=h.k.heads.1
 have hih:i<hs.length:=by omega
 have hal:y.al=hs.length:=h.p.1.1
 obtain ⟨e0,e1,hrow,hlc⟩:=h.k.heads.2 i hih hi
 have hln:hs[i].len=s.apps[i].asks.length:=hrow.1
 have hlen:hs[i].len≠0:=by omega
 obtain ⟨ga,M,hga,hB,hgl,hcel,hM⟩:∃g M,hs[i].ao=some ⟨g,0,none⟩∧B≤g∧g<w.heap.size∧Cel w 77 g (M*5)∧hs[i].len≤M:=by
  rcases h.k.own _ (yM hih) with e | e
  ·exact absurd e hlen
  ·exact e
 rw [hga] at hrow
 have hlay:Lay w 77 ga (M*5) (aK s.apps[i].asks):=hrow.lay hcel (Nat.mul_le_mul_right _ (by omega))
 have hp:=h.p
 rw [hpa] at hp
 obtain ⟨Mp,hBp,hpl,hplay,hMp,_⟩:=hp.lay (by omega)
 have hfl:s.apps[i].asks.length≤1048576:=(hf.2.1.2 _ (yM hi)).2.1
 have hrm:=h.rm
 have keep:∀(n':Nat) (ak:List Ask) (w1:World),Mks (fun b=>b=ga) w w1→aO w1 (some ⟨ga,0,none⟩) n' ak→n'≤hs[i].len→vD B w1 y.qa y.ql s.qs∧p9 B w1 (some ⟨pg,0,none⟩) y.al hs∧kX B w1 (hs.set i ⟨hs[i].id,hs[i].queue,some ⟨ga,0,none⟩,n',hs[i].cap⟩) (s.apps.modify i (fun a=>⟨a.id,a.queue,ak⟩))∧uS B w1 y.ma y.ml s.ms∧qA B w1 y.ca y.cl s.cs∧RmS B w1.heap.size w1 y (hs.set i ⟨hs[i].id,hs[i].queue,some ⟨ga,0,none⟩,n',hs[i].cap⟩):=fun n' ak w1 hm hr hn=>by
  have hS:∀k,k=ga→∃N,Cel w 77 k N:=fun k e=>by subst e;exact ⟨_,hcel⟩
  have hr2:=(hrm.mks hm).mono (yJ B) hm.size
  refine ⟨h.q.mkg hm hS (by decide),hp.mkg hm hS (by decide),h.k.upd hih hi hga hlen hm hr hn,h.m.mkg hm hS (by decide),h.c.mkg hm hS (by decide),hr2.1,hr2.2.1,hr2.2.2.1,hr2.2.2.2.1,fun v hv=>?_⟩
  rcases List.mem_or_eq_of_mem_set hv with hv | rfl
  ·exact hr2.2.2.2.2 v hv
  ·have:=hr2.2.2.2.2 _ (yM hih)
   rw [hga] at this
   exact this
 have hcells:=(kC hs i hih).2.2
 have c2:w.cell? ⟨pg,i*3+2,none⟩=some (.slice (some ⟨ga,0,none⟩) hs[i].len hs[i].cap):=by rw [←hga];exact hplay.cell hcells
 have hck:=(lW s.apps[i].asks k hk).2.2.1
 have ck:w.cell? ⟨ga,k*5+2,none⟩=some (.int .i64 s.apps[i].asks[k].count):=hlay.cell hck
 have fk:w.frozen? ⟨ga,k*5+2,none⟩=false:=hlay.frozen _
 have fp:∀w1,Mks (fun b=>b=ga) w w1→w1.frozen? ⟨pg,i*3+2,none⟩=false:=fun w1 hm=>(hm.cel _ _ _ hplay.cel).frozen _
 have CD:=aA (aB9 ga (M*5) hs[i].cap k s.apps[i].asks w hlay hk (by rw [←hln];exact hlc) hfl (Nat.mul_le_mul_right _ (by omega)))
 have k0:(0:Int)≤k:=by omega
 have k1:(k:Int)<hs[i].len:=by omega
 have hwk:IntKind.i64.wrap ((k:Int)+1)=(k:Int)+1:=by rw [IntKind.wrap_i64];omega
 have hset:hs.set i ⟨hs[i].id,hs[i].queue,some ⟨ga,0,none⟩,hs[i].len,hs[i].cap⟩=hs:=by rw [←hga];exact List.set_getElem_self hih
 by_cases hc:1<s.apps[i].asks[k].count
 ·have HA:=aA (show aI7 B y s (i,k) w (.returned (.tuple #[])) (w.setCell ⟨ga,k*5+2,none⟩ (.int .i64 (s.apps[i].asks[k].count - 1))) from by
   have hl2:=aBU hlay (p:=k*5+2) (by rw [aU];omega) (.int .i64 (s.apps[i].asks[k].count - 1))
   rw [←sZ s.apps[i].asks k hk] at hl2
   have hr:=hl2.rowA
   rw [List.length_set,←hln] at hr
   have hm:Mks (fun b=>b=ga) w (w.setCell ⟨ga,k*5+2,none⟩ (.int .i64 (s.apps[i].asks[k].count - 1))):=Mks.one _ _ _ _ _ rfl
   obtain ⟨a1,a2,a3,a4,a5,a6⟩:=keep _ _ _ hm hr (yJ _)
   rw [hset] at a3 a6
   refine ⟨rfl,hs,⟨a1,by rw [hpa];exact a2,?_,a4,a5,h.cap,a6⟩,hm.wide (fun b e=>by subst e;exact ⟨hB,_,.inr hcel⟩)⟩
   show kX B _ hs (bL s.apps (i,k))
   rw [rV _ _ _ hi,vW hk hc]
   exact a3)
  obtain ⟨n,hn⟩:∃n,hs[i].len=n:=⟨_,rfl⟩
  obtain ⟨c,hcc⟩:∃n,hs[i].cap=n:=⟨_,rfl⟩
  obtain ⟨ct,hctt⟩:∃n,s.apps[i].asks[k].count=n:=⟨_,rfl⟩
  rw [hn,hcc] at c2
  rw [hn] at k1
  rw [hctt] at ck HA hc hct
  have hwc:IntKind.i64.wrap (ct - 1)=ct - 1:=by rw [IntKind.wrap_i64];omega
  clear h hpa hf hlay hplay keep CD hcells hck fp hset hrow hcel hM hhl hih hal e0 e1 hlc hln hlen hga hB hgl hp hBp hpl hMp hfl hrm hn hcc hctt hwk hct
  go_enter Tryz.func70,Tryz.ntmps70
  go_wp2
  first | go_end0 | (simp only [Exit.inBlock,Exit.then];refine bodyPost_ret (results_none rfl _ _ _) rfl ?_) | refine bodyPost_ret (results_none rfl _ _ _) rfl ?_
  exact uH HA
 ·have HB:=aA (show ∀w1,Lay w1 77 ga (M*5) (aK (s.apps[i].asks.eraseIdx k))→Mks (fun b=>b=ga) w w1→aI7 B y s (i,k) w (.returned (.tuple #[])) (w1.setCell ⟨pg,i*3+2,none⟩ (.slice (some ⟨ga,0,none⟩) (s.apps[i].asks.length - 1) hs[i].cap)) from fun w1 hl2 hm=>by
   have hr:=hl2.rowA
   rw [List.length_eraseIdx_of_lt hk] at hr
   obtain ⟨a1,a2,a3,a4,a5,a6⟩:=keep _ _ _ hm hr (by omega)
   have hm2:Mks (fun b=>b=pg) w1 (w1.setCell ⟨pg,i*3+2,none⟩ (.slice (some ⟨ga,0,none⟩) (s.apps[i].asks.length - 1) hs[i].cap)):=Mks.one _ _ _ _ _ rfl
   have hS:∀b,b=pg→∃N,Cel w1 74 b N:=fun b e=>by subst e;exact ⟨_,hm.cel _ _ _ hplay.cel⟩
   refine ⟨rfl,_,⟨a1.mkg hm2 hS (by decide),by rw [hpa];exact a2.upd hih (some ⟨ga,0,none⟩) (s.apps[i].asks.length - 1) hs[i].cap,?_,a4.mkg hm2 hS (by decide),a5.mkg hm2 hS (by decide),h.cap,(a6.mks hm2).mono (yJ _) hm2.size⟩,(hm.wide (fun b e=>by subst e;exact ⟨hB,_,.inr hcel⟩)).trans (hm2.wide (fun b e=>by subst e;exact ⟨hBp,_,.inl hplay.cel⟩))⟩
   show kX B _ _ (bL s.apps (i,k))
   rw [rV _ _ _ hi,vX hk hc]
   exact a3.mkg hm2 hS (by decide))
  have HC2:=aA (show ∀w1,Mks (fun b=>b=ga) w w1→(w1.cell? ⟨pg,i*3+2,none⟩).isSome=true from fun w1 hm=>(hm.cel _ _ _ hplay.cel).isThere (by have:=Nat.mul_le_mul_right 3 (show i+1≤Mp by omega);omega))
  have FP:=aA fp
  rw [←hln] at CD HB
  obtain ⟨n,hn⟩:∃n,hs[i].len=n:=⟨_,rfl⟩
  obtain ⟨c,hcc⟩:∃n,hs[i].cap=n:=⟨_,rfl⟩
  obtain ⟨ct,hctt⟩:∃n,s.apps[i].asks[k].count=n:=⟨_,rfl⟩
  rw [hn,hcc] at c2
  rw [hn] at k1
  rw [hn,hcc] at CD HB
  rw [hctt] at ck hc
  clear h hpa hf hlay hplay keep hcells hck fp hset hrow hcel hM hhl hih hal e0 e1 hlc hln hlen hga hB hgl hp hBp hpl hMp hfl hrm hn hcc hctt hct fk
  go_enter Tryz.func70,Tryz.ntmps70
  go_wp2_with fail
  refine (uH CD).mono ?_
  rintro e w1 ⟨rfl,hl2,hm⟩
  obtain ⟨old,hold⟩:=Option.isSome_iff_exists.1 (uH HC2 w1 hm)
  have f1:=uH FP w1 hm
  have HA:=aA (uH HB w1 hl2 hm)
  clear hl2 hm CD HC2 FP HB c2 ck
  go_wp2
  first | go_end0 | (simp only [Exit.inBlock,Exit.then];refine bodyPost_ret (results_none rfl _ _ _) rfl ?_) | refine bodyPost_ret (results_none rfl _ _ _) rfl ?_
  exact uH HA
theorem aDO {qs:List Q} {nx:Int}:∀(l:List bY) (last:Int),aZ qs nx last l=true→∀a ∈ l,jB a.asks=true
 | [],_,_,a,ha=>by simp at ha
 | x::t,last,h,a,ha=>by
  simp only [aZ,yK] at h
  rcases List.mem_cons.1 ha with rfl | ha
  ·exact h.2.2.2.1
  ·exact aDO t _ h.2.2.2.2 a ha
theorem aDN {s:St} (h:aS s=true) {i k:Nat} (hi:i<s.apps.length) (hk:k<s.apps[i].asks.length):0≤s.apps[i].asks[k].count∧s.apps[i].asks[k].count≤1000:=by
 simp only [aS,gM,yK,gF,iW] at h
 obtain ⟨_,_,_,_,_,⟨_,h6⟩,_⟩:=h
 have h1:=aDO _ _ h6 _ (yM hi)
 simp only [jB,yK,List.all_eq_true] at h1
 have h2:=h1.2 _ (yM hk)
 simp only [fK,yK,inB,yL] at h2
 omega
theorem lN {B b:Nat} {w:World} {arr:Array Value} {t:TypeId} (h:Blk w b arr t) (h1:t≠74) (h2:t≠77):¬aJv B w b:=fun ⟨_,N,e⟩=>by
 have hc:Cel w t b arr.size:=⟨arr,h,rfl⟩
 rcases e with e | e
 ·exact h1 (hc.type e)
 ·exact h2 (hc.type e)
theorem dR.nums {B:Nat} {w:World} {y:Sls} {s s':St} {hs:List AV} (h:dR B w y s hs) (h1:s'.qs=s.qs) (h2:s'.apps=s.apps) (h3:s'.ms=s.ms) (h4:s'.cs=s.cs):dR B w y s' hs:=by
 obtain ⟨a1,a2,a3,a4,a5,a6,a7⟩:=h
 exact ⟨by rw [h1];exact a1,a2,by rw [h2];exact a3,by rw [h3];exact a4,by rw [h4];exact a5,a6,a7⟩
theorem dR.other {B b:Nat} {w w':World} {y:Sls} {s:St} {hs:List AV} {arr:Array Value} (h:dR B w y s hs) (hm:Mks (fun k=>k=b) w w') (hc:Blk w b arr 34):dR B w' y s hs:=by
 have hS:∀k,k=b→∃N,Cel w 34 k N:=fun k e=>by subst e;exact ⟨_,arr,hc,rfl⟩
 exact ⟨h.q.mkg hm hS (by decide),h.p.mkg hm hS (by decide),h.k.mkg hm hS (by decide),h.m.mkg hm hS (by decide),h.c.mkg hm hS (by decide),h.cap,(h.rm.mks hm).mono (yJ _) hm.size⟩
theorem aLd {b:Bool} {p:Prop} (h:b=true):b=false→p:=fun e=>by rw [h] at e;cases e
theorem dR.offc {B g N:Nat} {w w':World} {y:Sls} {s:St} {hs:List AV} (h:dR B w y s hs) (hm:Mks (fun k=>k=g) w w') (hc:Cel w 38 g N) (ho:y.cl≠0→∀o,y.ca≠some ⟨g,o,none⟩):dR B w' y s hs:=by
 have hS:∀k,k=g→∃N,Cel w 38 k N:=fun k e=>by subst e;exact ⟨_,hc⟩
 refine ⟨h.q.mkg hm hS (by decide),h.p.mkg hm hS (by decide),h.k.mkg hm hS (by decide),h.m.mkg hm hS (by decide),⟨h.c.1.mks hm (fun k hk e=>?_),(h.c.2.mks hm).mono (yJ _) hm.size⟩,h.cap,(h.rm.mks hm).mono (yJ _) hm.size⟩
 subst e
 obtain ⟨h0,o,e⟩:=hk
 exact ho h0 o e
theorem dR.ins {B n:Nat} {w w':World} {y:Sls} {s:St} {hs:List AV} (h:dR B w y s hs) {ao':Option Addr} {cap':Nat} {l:List Con} (hc:CRm B w' ao' n cap' l) (hm:Mks (fun k=>y.cc≠0∧∃N,Cel w 38 k N∧B≤k∧∃o,y.ca=some ⟨k,o,none⟩) w w') :
  dR B w' ⟨y.qa,y.ql,y.qc,y.aa,y.al,y.ac,y.ma,y.ml,y.mc,ao',n,cap'⟩ ⟨s.qs,s.clock,s.epoch,s.next,s.serial,s.apps,s.ms,l⟩ hs:=by
 have hS:∀k,(y.cc≠0∧∃N,Cel w 38 k N∧B≤k∧∃o,y.ca=some ⟨k,o,none⟩)→∃N,Cel w 38 k N:=fun k ⟨_,N,h,_⟩=>⟨N,h⟩
 have hr:=(h.rm.mks hm).mono (yJ B) hm.size
 exact ⟨h.q.mkg hm hS (by decide),h.p.mkg hm hS (by decide),h.k.mkg hm hS (by decide),h.m.mkg hm hS (by decide),⟨hc.1,hc.2.own⟩,⟨h.cap.q,h.cap.a,h.cap.m,hc.2.1⟩,hr.1,hr.2.1,hr.2.2.1,hc.2.all,hr.2.2.2.2⟩
def aJj (B b:Nat) (y:Sls) (s:St) (nd:List UInt8) (w:World) (e:Ending) (w':World):Prop:=
 ∃y' hs',e=.returned (.tuple #[conv (rJ (aX s nd)),.bool (aX s nd).isSome])∧Blk w' b (svc y' (kJ s nd)) 34∧dR B w' y' (kJ s nd) hs'∧Kc B w.heap.size y.ca y.cc w w'∧∀g,y'.ca=some ⟨g,0,none⟩→y'.cc≠0→g<w.heap.size→y.cc≠0∧y.ca=some ⟨g,0,none⟩
theorem aHy {B b:Nat} {y:Sls} {s:St} {hs:List AV} {w:World} (h:dR B w y s hs) (hbx:Blk w b (svc y s) 34) (hBb:B≤b) (hBw:B≤w.heap.size) (nd:List UInt8) (hf:bD s) (hw:pX s) (hnd:nd.length≤1048576) :
  Calls Tryz.prog 30 #[.pointer (some ⟨b,0,none⟩),.string (bs nd)] w (aJj B b y s nd w):=by
 have hb1:=yA (yH _ w) (.cells #[.int .i64 0,.int .i64 0,.string ⟨#[]⟩,.int .i64 0,.int .i64 0] 38)
 have H1:=aA (h.below hb1)
 have X1:=aA (hbx.below hb1)
 have G1:=aA (yD w #[.int .i64 0,.int .i64 0,.string ⟨#[]⟩,.int .i64 0,.int .i64 0] 38)
 have B1:=aA (Kc.of (W:=w.heap.size) (ca:=y.ca) (cc:=y.cc) hb1 hBw)
 have CN:=aA (aJI y s nd _ (uH H1).ans.row hf h.cap.q hw hnd)
 have HFC:=aA (fun p (e:aX s nd=some p)=>jW e)
 have HG:=aA (show ∀e w',aJj B b y s nd w e w'↔∃y' hs',e=.returned (.tuple #[conv (rJ (aX s nd)),.bool (aX s nd).isSome])∧Blk w' b (svc y' (match aX s nd with | none=>s | some p=>bQ s p)) 34∧dR B w' y' (match aX s nd with | none=>s | some p=>bQ s p) hs'∧Kc B w.heap.size y.ca y.cc w w'∧∀g,y'.ca=some ⟨g,0,none⟩→y'.cc≠0→g<w.heap.size→y.cc≠0∧y.ca=some ⟨g,0,none⟩ from fun e w'=>Iff.rfl)
 obtain ⟨p,hp⟩:∃p,aX s nd=p:=⟨_,rfl⟩
 rw [hp] at CN HG HFC
 have hrow:=aA (fun (hc:y.cc≠0)=>show ∃g,y.ca=some ⟨g,0,none⟩∧g<w.heap.size from by
  rcases h.rm.2.2.2.1 with e | ⟨g,M,e,_,e2,_⟩
  ·exact absurd e hc
  ·exact ⟨g,e,e2⟩)
 have HP:=aA hp
 have hbl:=hbx.lt
 clear hb1 h hbx hp
 obtain ⟨g4,hg4⟩:∃g,w.heap.size=g:=⟨_,rfl⟩
 rw [hg4] at G1 hbl
 have HG4:=aA hg4
 cases p with
 | none=>
  simp only [atR,rJ,Option.isSome_none] at CN HG
  obtain ⟨u0,u1,u2,u3,u4,u5,u6,u7⟩:=zq (uH X1)
  go_enter Tryz.func30,Tryz.ntmps30
  go_wp2_with fail
  refine (uH CN).mono ?_
  rintro e w2 ⟨rfl,hb⟩
  have hb3:=yA (yA (yH _ w2) (.cells #[.int .i64 0,.int .i64 0] 115)) (.cells #[.int .i64 0,.int .i64 0,.string (bs []),.int .i64 0,.int .i64 0] 38)
  have H3:=aA (((uH H1).below hb).below hb3)
  have X3:=aA (((uH X1).below hb).below hb3)
  have G3:=aA (((uH G1).below hb).below hb3)
  have B3:=aA (show Kc B w.heap.size y.ca y.cc w _ from (uH B1).trans ((Kc.of hb (by rw [yE];omega)).trans (Kc.of hb3 (by have:=hb.size;rw [yE] at this;omega))))
  clear u0 u1 u2 u3 u4 u5 u6 u7 hb hb3 CN H1 X1 G1 B1
  go_upto_region 3 with fail
  generalize (w2.alloc (.cells #[.int .i64 0,.int .i64 0] 115)).alloc (.cells #[.int .i64 0,.int .i64 0,.string (bs []),.int .i64 0,.int .i64 0] 38)=w3 at H3 X3 G3 B3 ⊢
  obtain ⟨c0,c1,c2,c3,c4⟩:=zp (uH G3)
  have f0:=(uH G3).f 0;have f1:=(uH G3).f 1;have f2:=(uH G3).f 2;have f3:=(uH G3).f 3;have f4:=(uH G3).f 4
  have s0:=iI c0;have s1:=iI c1;have s2:=iI c2;have s3:=iI c3;have s4:=iI c4
  have HA:=aA (show aJj B b y s nd w (.returned (.tuple #[conv ⟨0,0,[],0,0⟩,.bool false])) w3 from (uH HG _ _).2 ⟨y,hs,rfl,uH X3,uH H3,uH B3,fun g e hc _=>⟨hc,e⟩⟩)
  clear HG H3 X3 G3 B3
  go_wp2
  refine bodyPost_ret (v:=.tuple #[conv ⟨0,0,[],0,0⟩,.bool false]) (by simp [results,Tryz.results30,go_sem,c0,c1,c2,c3,c4];try rfl) rfl ?_
  exact uH HA
 | some p=>
  obtain ⟨⟨i,k⟩,c⟩:=p
  obtain ⟨hok,hnx,hcl,hi,hk,hce⟩:=uH HFC _ rfl
  simp only at hi hk hce
  have hcn:c.node.length≤1048576:=by rw [hce];exact hnd
  have HFS:=aA (show bD (bQ s ((i,k),c)) by have:=rE hf hnd;rw [dX (uH HP)] at this;exact this)
  have hpa:∃pg,y.aa=some ⟨pg,0,none⟩:=by
   rcases (uH H1).p.2 with e | ⟨g,M,e,_⟩
   ·have h1:=(uH H1).p.1.1;have h2:=(uH H1).k.heads.1;omega
   ·exact ⟨g,e⟩
  obtain ⟨pg,hpa⟩:=hpa
  have HPA:=aA hpa
  have i1:(i:Int)<y.al:=by have h1:=(uH H1).p.1.1;have h2:=(uH H1).k.heads.1;omega
  have i0:(0:Int)≤i:=by omega
  obtain ⟨hasc,_,hse⟩:=wK hok
  have CS:=aA (fun wx hsx (hx:dR B wx y s hsx)=>aHG hx hpa hi hk hf (aDN hok hi hk))
  have HAS:=aA hasc
  simp only [atR,rJ,Option.isSome_some] at CN HG
  obtain ⟨c0,c1,cn,c3,c4⟩:=c
  simp only at CN HG HFS hcn
  have hclm:y.cl≤1048576:=by have h1:=(uH H1).c.1.1;omega
  clear hce hpa hasc HFC HP hi hk hnx hcl hok
  obtain ⟨u0,u1,u2,u3,u4,u5,u6,u7⟩:=zq (uH X1)
  go_enter Tryz.func30,Tryz.ntmps30
  go_wp2_with fail
  refine (uH CN).mono ?_
  rintro e w2 ⟨rfl,hb⟩
  have hb3:=yA (yA (yH _ w2) (.cells #[.int .i64 (i:Int),.int .i64 (k:Int)] 115)) (.cells #[.int .i64 c0,.int .i64 c1,.string (bs cn),.int .i64 c3,.int .i64 c4] 38)
  have H3:=aA (((uH H1).below hb).below hb3)
  have X3:=aA (((uH X1).below hb).below hb3)
  have G3:=aA (((uH G1).below hb).below hb3)
  have G6:=aA ((yD w2 #[.int .i64 (i:Int),.int .i64 (k:Int)] 115).al (.cells #[.int .i64 c0,.int .i64 c1,.string (bs cn),.int .i64 c3,.int .i64 c4] 38))
  have G7:=aA (yD (w2.alloc (.cells #[.int .i64 (i:Int),.int .i64 (k:Int)] 115)) #[.int .i64 c0,.int .i64 c1,.string (bs cn),.int .i64 c3,.int .i64 c4] 38)
  rw [yE] at G7
  have B3:=aA (show Kc B w.heap.size y.ca y.cc w _ from (uH B1).trans ((Kc.of hb (by rw [yE];omega)).trans (Kc.of hb3 (by have:=hb.size;rw [yE] at this;omega))))
  have hz2:g4<w2.heap.size:=by have:=hb.size;rw [yE] at this;omega
  clear u0 u1 u2 u3 u4 u5 u6 u7 hb hb3 CN H1 X1 G1 B1
  go_upto_region 4 with fail
  generalize (w2.alloc (.cells #[.int .i64 (i:Int),.int .i64 (k:Int)] 115)).alloc (.cells #[.int .i64 c0,.int .i64 c1,.string (bs cn),.int .i64 c3,.int .i64 c4] 38)=w3 at H3 X3 G3 G6 G7 B3 ⊢
  generalize w2.heap.size=g6 at G6 G7 hz2 ⊢
  refine wp_region_held_drew (S:=fun wx=>Blk wx b (svc y s) 34∧Blk wx g6 #[.int .i64 (i:Int),.int .i64 (k:Int)] 115) (by kernel_rfl) ⟨(uH X3).drew,(uH G6).drew⟩ (fun S0=>?_)
  have H4:=aA ((uH H3).below (yH _ w3).drew)
  have G4:=aA (uH G3).drew
  have G8:=aA (uH G7).drew
  have B4:=aA ((uH B3).trans (Kc.of (yH _ w3).drew (Nat.le_trans hBw (uH B3).below.size)))
  have hz3:B≤w3.drew.heap.size:=by have:=(uH B3).below.size;exact Nat.le_trans hBw this
  clear H3 X3 G3 G6 G7 B3
  generalize w3.drew=wn at S0 H4 G4 G8 B4 hz3 ⊢
  refine tW 0 23 _ S0 ?_
  try simp only [zW]
  refine tW 1 24 _ S0 ?_
  try simp only [zW]
  refine tW 2 25 _ S0 ?_
  try simp only [zW]
  refine fP 3 26 (.slice (some ⟨pg,0,none⟩) y.al y.ac) rfl rfl S0 ?_ (hy:=Or.inl ⟨by rfl,fun wz hz=>by (have c5:=hz.1.at 5;simp at c5;rw [uH HPA] at c5;go_simp)⟩)
  try simp only [zW]
  refine tW 4 27 _ S0 ?_
  try simp only [zW]
  refine fP 5 28 (.int .i64 (i:Int)) rfl rfl S0 ?_ (hy:=Or.inl ⟨by rfl,fun wz hz=>by (have q0:=hz.2.at 0;simp at q0;go_simp)⟩)
  try simp only [zW]
  refine tW 6 29 (.pointer (some ⟨pg,i*3,none⟩)) S0 ?_
  try simp only [zW]
  refine tW 7 30 _ S0 ?_
  try simp only [zW]
  refine fP 8 31 (.int .i64 (k:Int)) rfl rfl S0 ?_ (hy:=Or.inl ⟨by rfl,fun wz hz=>by (have q0:=hz.2.at 1;simp at q0;go_simp)⟩)
  try simp only [zW]
  refine wpAnyH_ready (rs:=[9]) (by kernel_rfl) (by simp) (AllReadyH.cons rfl (fun K hK=>?_) AllReadyH.nil)
  go_simp
  refine (uH CS _ _ (uH H4)).mono ?_
  rintro e w4 ⟨rfl,hs4,h4,hm4⟩
  have S1:=And.intro (hm4.blk S0.1 (lN S0.1 (by decide) (by decide))) (hm4.blk S0.2 (lN S0.2 (by decide) (by decide)))
  have G5:=aA (hm4.blk (uH G4) (lN (uH G4) (by decide) (by decide)))
  have G9:=aA (hm4.blk (uH G8) (lN (uH G8) (by decide) (by decide)))
  have B5:=aA ((uH B4).trans (Kc.mks hm4 (fun k e=>e.1) hz3 (fun k arr _ hb hs=>absurd hs (lN hb (by decide) (by decide)))))
  have hz4:B≤w4.heap.size:=Nat.le_trans hz3 hm4.size
  have H5:=aA h4
  clear S0 H4 G4 G8 B4 hz3 h4 hm4 CS
  go_wp2_with fail
  refine hK.out _ _ S1 (fun S0=>?_)
  clear hK K S1
  try simp only [zW]
  refine wpAnyH_done (by kernel_rfl) ?_ _
  have X5:=aA S0.1
  clear S0
  have x4:=(uH X5).at 4
  simp at x4
  have fx4:=(uH X5).f 4
  have hws:IntKind.i64.wrap (s.serial+1)=s.serial+1:=by rw [IntKind.wrap_i64];omega
  go_upto_region 6 with fail
  have X6:=aA ((uH X5).set 4 (.int .i64 (s.serial+1)))
  have M6:=aA (Mks.one (fun k=>k=b) w4 b 4 (.int .i64 (s.serial+1)) rfl)
  clear x4 fx4
  generalize w4.setCell ⟨b,4,none⟩ (.int .i64 (s.serial+1))=w5 at X6 M6 ⊢
  have x4:=(uH X6).at 4
  simp at x4
  have fx4:=(uH X6).f 4
  go_upto_if 44 with fail
  go_cut [40] from 41 to 47 (fun v40 wx=>Hid (Blk wx b (svc y ⟨s.qs,s.clock,s.epoch,s.next,dC s.serial,bL s.apps (i,k),s.ms,s.cs⟩) 34∧Mks (fun k=>k=b) w4 wx))
  case first=>
   by_cases hs9:99999<s.serial+1
   ·go_wp2_with fail
    go_meet
    refine aA ⟨?_,(uH M6).trans (Mks.one (fun k=>k=b) w5 b 4 (.int .i64 1) rfl)⟩
    have:=(uH X6).set 4 (.int .i64 1)
    simp only [dC]
    rw [if_pos (by omega)]
    exact this
   ·go_wp2_with fail
    go_meet
    refine aA ⟨?_,uH M6⟩
    simp only [dC]
    rw [if_neg (by omega)]
    exact uH X6
  case rest=>
   clear x4 fx4 X6 M6 hws
   have X7:=aA (uH hcut).1
   have H7:=aA (((uH H5).other (uH hcut).2 (uH X5)).nums (s':=⟨s.qs,s.clock,s.epoch,s.next,dC s.serial,bL s.apps (i,k),s.ms,s.cs⟩) rfl rfl rfl rfl)
   have G4:=aA ((uH hcut).2.blk (uH G5) (by omega))
   have G7:=aA ((uH hcut).2.blk (uH G9) (by omega))
   have B7:=aA ((uH B5).trans (Kc.mks (uH hcut).2 (fun k e=>by subst e;exact hBb) hz4 (fun k arr _ hb e=>by subst e;exact absurd (aFO hb (uH X5)) (by decide))))
   have hz7:B≤wc.heap.size:=Nat.le_trans hz4 (uH hcut).2.size
   clear hcut H5 G5 G9 B5 X5 hz4
   obtain ⟨w7,rfl⟩:∃z,z=wc:=⟨_,rfl⟩
   go_upto_region 8 with fail
   have CP:=aA (fun wx (hx:dR B wx y ⟨s.qs,s.clock,s.epoch,s.next,dC s.serial,bL s.apps (i,k),s.ms,s.cs⟩ hs4)=>rH y ⟨s.qs,s.clock,s.epoch,s.next,dC s.serial,bL s.apps (i,k),s.ms,s.cs⟩ c0 wx hx.ans.row ⟨hf.1,(uH HFS).2.1,hf.2.2.1,hf.2.2.2⟩ (uH HAS))
   refine wp_region_held_drew (S:=fun wx=>Kp w7 wx) (by kernel_rfl) ((dE w7).drew (Kp.new w7)) (fun S0=>?_)
   generalize w7.drew=wn at S0 ⊢
   refine tW 0 49 _ S0 ?_
   try simp only [zW]
   refine tW 1 50 _ S0 ?_
   try simp only [zW]
   refine fP 2 51 (sv y ⟨s.qs,s.clock,s.epoch,s.next,dC s.serial,bL s.apps (i,k),s.ms,s.cs⟩) rfl rfl S0 ?_ (hy:=Or.inl ⟨by rfl,fun wz hz=>mI (nX ((uH X7).below hz) rfl)⟩)
   try simp only [zW]
   refine tW 3 52 _ S0 ?_
   try simp only [zW]
   refine fP 4 53 (.int .i64 c0) rfl rfl S0 ?_ (hy:=Or.inl ⟨by rfl,fun wz hz=>by (have q0:=((uH G7).below hz).at 0;simp at q0;go_simp)⟩)
   try simp only [zW]
   refine wpAnyH_ready (rs:=[5]) (by kernel_rfl) (by simp) (AllReadyH.cons rfl (fun K hK=>?_) AllReadyH.nil)
   go_simp
   refine (uH CP _ ((uH H7).below S0)).mono ?_
   rintro e wq ⟨pp,ff,rfl,hp1,hp2,hp3,-,hb⟩
   have S1:Kp w7 wq:=yB S0 hb
   have hpl:=aA (show eQ c0 s.cs=pp from aCJ hp1 hp2 hp3)
   have hpn:pp≤y.cl:=by have h1:=(uH H7).c.1.1;simp only at h1 hp1;omega
   clear S0 hb hp1 hp2 hp3 CP
   go_wp2_with fail
   refine hK.out _ _ S1 (fun S0=>?_)
   clear hK K S1
   try simp only [zW]
   refine tW 6 48 _ S0 ?_
   try simp only [zW]
   refine tW 7 55 (.int .i64 (pp:Int)) S0 ?_
   try simp only [zW]
   refine tW 8 56 (.bool ff) S0 ?_
   try simp only [zW]
   refine tW 9 9 _ S0 ?_
   try simp only [zW]
   refine tW 10 10 _ S0 ?_
   try simp only [zW]
   refine wpAnyH_done (by kernel_rfl) ?_ _
   have X8:=aA ((uH X7).below S0)
   have H8:=aA ((uH H7).below S0)
   have G48:=aA ((uH G4).below S0)
   have G78:=aA ((uH G7).below S0)
   have B8:=aA ((uH B7).trans (Kc.of (show Below w7.heap.size w7 wq from S0) hz7))
   have hz8:B≤wq.heap.size:=Nat.le_trans hz7 S0.size
   clear S0 X7 H7 G4 G7 B7 hz7
   go_upto_region 9 with fail
   refine vO 9 (fun wx=>Blk wx (g6+1) #[.int .i64 c0,.int .i64 c1,.string (bs cn),.int .i64 c3,.int .i64 c4] 38) (fun wx=>Below wq.heap.size wq wx) (by kernel_rfl) (uH G78).drew (yH _ wq).drew (fun S0 T0=>?_)
   generalize wq.drew=wn at S0 T0 ⊢
   refine eP 0 57 _ rfl rfl S0 T0 ?_
   try simp only [zW]
   refine eP 1 58 _ rfl rfl S0 T0 ?_
   try simp only [zW]
   refine eP 2 59 _ rfl rfl S0 T0 ?_
   try simp only [zW]
   refine eP 3 60 _ rfl rfl S0 T0 ?_
   try simp only [zW]
   refine aJm 4 61 (.slice y.ca y.cl y.cc) rfl rfl S0 T0 ?_ (hy:=Or.inl ⟨by rfl,fun wz hz=>by (have c7:=((uH X8).below hz).at 7;simp at c7;go_simp)⟩)
   try simp only [zW]
   refine eP 5 62 _ rfl rfl S0 T0 ?_
   try simp only [zW]
   refine eP 6 63 (conv ⟨c0,c1,cn,c3,c4⟩) rfl rfl S0 T0 ?_ (hy:=Or.inl ⟨by rfl,fun wz hz=>mI (rG hz rfl)⟩)
   try simp only [zW]
   refine kP [7] (dV.cons rfl (fun K hK=>?_) dV.nil)
   go_simp
   refine (pG ⟨c0,c1,cn,c3,c4⟩ _ hcn).mono ?_
   rintro e wm ⟨rfl,hb⟩
   have S1:=S0.below hb
   have T1:=yB T0 hb
   clear S0 T0 hb
   go_wp2_with fail
   refine hK.out _ _ S1 (fun _=>T1) ?_
   clear hK K
   have S0:=S1
   have T0:=T1
   clear S1 T1
   try simp only [zW]
   have S1:=S0.below (yA (yH _ wm) (.cells #[.int .i64 c0,.int .i64 c1,.string (bs cn),.int .i64 c3,.int .i64 c4] 38))
   have T1:=yA T0 (.cells #[.int .i64 c0,.int .i64 c1,.string (bs cn),.int .i64 c3,.int .i64 c4] 38)
   have hgv:wq.heap.size≤wm.heap.size:=T0.size
   have GV:=aA (yD wm #[.int .i64 c0,.int .i64 c1,.string (bs cn),.int .i64 c3,.int .i64 c4] 38)
   refine kP [8] (dV.cons rfl (fun K hK=>aHL 65 (by rfl) rfl (mI (aKB wm 32 38 _ (.agg #[.int .i64 0,.int .i64 0,.string ByteArray.empty,.int .i64 0,.int .i64 0]) (.int .i64 c0) (.int .i64 c1) (.string (bs cn)) (.int .i64 c3) (.int .i64 c4) Tryz.underlying32 (by kernel_rfl) (by simp only [List.map_toArray,List.map_cons,List.map_nil];rfl))) ?_) dV.nil)
   refine hK.out _ _ S1 (fun _=>T1) ?_
   clear hK K S0 T0
   generalize wm.alloc (.cells #[.int .i64 c0,.int .i64 c1,.string (bs cn),.int .i64 c3,.int .i64 c4] 38)=wv at S1 T1 GV ⊢
   generalize wm.heap.size=gv at GV hgv ⊢
   try simp only [zW]
   have HV:=aA ((uH H8).below T1)
   have hg4q:g4<wq.heap.size:=(uH G48).lt
   have hne:y.cc≠0→∀o,y.ca≠some ⟨gv,o,none⟩:=fun hc o e=>by
    obtain ⟨g,e2,hgl⟩:=uH hrow hc
    rw [e2] at e
    cases e
    omega
   have CI:=aA (aEM (B:=B) y.ca y.cl y.cc gv pp s.cs ⟨c0,c1,cn,c3,c4⟩ wv ⟨(uH HV).c.1,aKC (uH HV).rm.2.2.2.1 (uH HV).cap.c⟩ (uH GV) hne hpn hclm (Nat.le_trans hz8 T1.size))
   have X9:=aA ((uH X8).below T1)
   have G49:=aA ((uH G48).below T1)
   have B9:=aA ((uH B8).trans (Kc.of T1 hz8))
   have hz9:B≤wv.heap.size:=Nat.le_trans hz8 T1.size
   have hg4v:g4<wv.heap.size:=Nat.lt_of_lt_of_le hg4q T1.size
   clear H8 X8 G48 B8 T1 GV hne hgv
   refine kP [9] (dV.cons rfl (fun K hK=>?_) dV.nil)
   go_simp
   refine (uH CI).mono ?_
   rintro e w8 ⟨ao,cp,rfl,hcr,hmk,hor⟩
   have hoff:∀q,g4≤q→¬(y.cc≠0∧∃N,Cel wv 38 q N∧B≤q∧∃o,y.ca=some ⟨q,o,none⟩):=fun q hq ⟨hc,_,_,_,o,e⟩=>by
    obtain ⟨g,e2,hgl⟩:=uH hrow hc
    rw [e2] at e
    cases e
    omega
   have S2:=hmk.blk S1 (hoff _ (by omega))
   have G410:=aA (hmk.blk (uH G49) (hoff _ (yJ _)))
   have X10:=aA (hmk.blk (uH X9) (fun ⟨_,N,hc,_⟩=>by have hc2:Cel wv 34 b _:=⟨_,uH X9,rfl⟩;exact absurd (hc2.type hc) (by decide)))
   have H10:=aA ((uH HV).ins hcr hmk)
   have B10:=aA ((uH B9).trans (Kc.mks hmk (fun k e=>e.2.choose_spec.2.1) hz9 (fun k arr _ _ e=>⟨e.1,e.2.choose_spec.2.2⟩)))
   have hao:∀o,ao≠some ⟨g4,o,none⟩:=fun o e=>by
    rcases hor with ⟨hc,e2⟩ | ⟨g',e2,hg'⟩
    ·obtain ⟨g,e3,hgl⟩:=uH hrow hc
     rw [e2,e3] at e
     cases e
     omega
    ·rw [e2] at e
     cases e
     omega
   have HAO:=aA hao
   have HCA:=aA (fun g (e:ao=some ⟨g,0,none⟩) (hg:g<w.heap.size)=>show y.cc≠0∧y.ca=some ⟨g,0,none⟩ from by
    rcases hor with ⟨hc,e2⟩ | ⟨g',e2,hg'⟩
    ·exact ⟨hc,e2.symm.trans e⟩
    ·rw [e2] at e
     cases e
     have:=uH HG4
     omega)
   have hz10:B≤w8.heap.size:=Nat.le_trans hz9 hmk.size
   clear HV X9 G49 B9 CI hcr hmk hor hoff hao S1 hz9
   go_wp2_with fail
   refine hK.out _ _ S2 (aLd (by kernel_rfl)) ?_
   clear hK K
   try simp only [zW]
   refine vP _ _ _ _ (by kernel_rfl) ?_
   refine fP 10 67 _ rfl rfl S2 ?_
   try simp only [zW]
   refine fP 11 68 _ rfl rfl S2 ?_
   try simp only [zW]
   have M11:=Mks.one (fun k=>k=b) w8 b 7 (.slice ao (y.cl+1) cp) rfl
   have S3:=M11.blk S2 (by omega)
   have X11:=aA (show Blk _ b (svc ⟨y.qa,y.ql,y.qc,y.aa,y.al,y.ac,y.ma,y.ml,y.mc,ao,y.cl+1,cp⟩ ⟨s.qs,s.clock,s.epoch,s.next,dC s.serial,bL s.apps (i,k),s.ms,s.cs.take pp++⟨c0,c1,cn,c3,c4⟩::s.cs.drop pp⟩) 34 from (uH X10).set 7 (.slice ao (y.cl+1) cp))
   have H11:=aA ((uH H10).other M11 (uH X10))
   have G411:=aA (M11.blk (uH G410) (by omega))
   have B11:=aA ((uH B10).trans (Kc.mks M11 (fun k e=>by subst e;exact hBb) hz10 (fun k arr _ hb e=>by subst e;exact absurd (aFO hb (uH X10)) (by decide))))
   have hz11:B≤(w8.setCell ⟨b,7,none⟩ (.slice ao (y.cl+1) cp)).heap.size:=by rw [bG];exact hz10
   refine wpAnyH_ready (rs:=[12]) (by kernel_rfl) (by simp) (AllReadyH.cons rfl (fun K hK=>aEm (by rfl) rfl (rW (aEo 32 (.slice ao (y.cl+1) cp) (uH X10) (by show 7<8;decide) (by kernel_rfl) rfl)) ?_) AllReadyH.nil)
   refine hK.out _ _ S3 (fun _=>?_)
   clear hK K X10 H10 G410 B10 S2 M11 hz10
   try simp only [zW]
   refine wpAnyH_done (by kernel_rfl) ?_ _
   have G711:=aA S3
   clear S3
   generalize w8.setCell ⟨b,7,none⟩ (.slice ao (y.cl+1) cp)=w9 at X11 H11 G411 B11 G711 hz11 ⊢
   go_upto_region 10 with fail
   refine wp_region_lit ?_
   refine cO (v:=conv ⟨c0,c1,cn,c3,c4⟩) (d:=some 69) rfl rfl (mI (rG (uH G711) rfl)) ?_
   simp only [zW]
   refine eF (d:=none) rfl rfl (rW (lU 38 (arr:=#[.int .i64 c0,.int .i64 c1,.string (bs cn),.int .i64 c3,.int .i64 c4]) (uH G411) (by kernel_rfl) rfl (by kernel_rfl))) ?_
   simp only [Act.put]
   have RR:=aA (jG (uH G411) #[.int .i64 c0,.int .i64 c1,.string (bs cn),.int .i64 c3,.int .i64 c4])
   have MM:=kD (uH G411) #[.int .i64 c0,.int .i64 c1,.string (bs cn),.int .i64 c3,.int .i64 c4] rfl
   have X12:=aA (MM.blk (uH X11) (by omega))
   have H12:=aA ((uH H11).offc MM ⟨_,uH G411,rfl⟩ (fun _=>uH HAO))
   have B12:=aA ((uH B11).trans (Kc.mks MM (fun k e=>by subst e;have:=uH HG4;omega) hz11 (fun k arr hk _ e=>by subst e;have:=uH HG4;omega)))
   clear X11 H11 G411 B11 G711 MM hz11
   generalize World.setRow w9 g4 #[.int .i64 c0,.int .i64 c1,.string (bs cn),.int .i64 c3,.int .i64 c4]=w10 at RR X12 H12 B12 ⊢
   have HA:=aA (show aJj B b y s nd w (.returned (.tuple #[conv ⟨c0,c1,cn,c3,c4⟩,.bool true])) w10 from (uH HG _ _).2 (by
    have e3:bQ s ((i,k),⟨c0,c1,cn,c3,c4⟩)=⟨s.qs,s.clock,s.epoch,s.next,dC s.serial,bL s.apps (i,k),s.ms,s.cs.take pp++⟨c0,c1,cn,c3,c4⟩::s.cs.drop pp⟩:=by unfold bQ mE;simp only;rw [uH hpl]
    simp only [e3]
    exact ⟨⟨y.qa,y.ql,y.qc,y.aa,y.al,y.ac,y.ma,y.ml,y.mc,ao,y.cl+1,cp⟩,hs4,(by first | rfl | trivial),uH X12,uH H12,uH B12,fun g e _ hg=>uH HCA g e hg⟩))
   obtain ⟨r0,r1,r2,r3,r4⟩:=zp (uH RR)
   clear X12 H12 B12 RR HG
   go_wp2
   refine bodyPost_ret (v:=.tuple #[conv ⟨c0,c1,cn,c3,c4⟩,.bool true]) (by simp [results,Tryz.results30,go_sem,r0,r1,r2,r3,r4];try rfl) rfl ?_
   exact uH HA
theorem aHS {w:World} {B B' sz n:Nat} {t:TypeId} {v:Value} {xs:List Value} (h:w.ownsRow B t sz v n xs) (hb:B'≤B):w.ownsRow B' t sz v n xs:=by
 obtain ⟨h1,h2⟩:=h
 rcases h2 with h2 | ⟨g,cap,cur,e,hg,r⟩
 ·exact ⟨h1,.inl h2⟩
 ·exact ⟨h1,.inr ⟨g,cap,cur,e,Nat.le_trans hb hg,r⟩⟩
theorem aDj {id:Int} {l:List Con} {k:Nat} (h:k<l.length):eQ id (l.drop k)=if l[k].id<id then eQ id (l.drop (k+1))+1 else 0:=by
 rw [List.drop_eq_getElem_cons h,eQ]
theorem aK9 (g n cap k:Nat) (hk:k≤cap) (wx:World):(Instr.slice 32 (.slice (some ⟨g,0,none⟩) n cap) none (some (.int .i64 (k:Int))) none).run Tryz.prog wx=.ok (.slice (some ⟨g,0,none⟩) k cap) wx:=by
 rw [run_slice_h (P:=Tryz.prog) (w:=wx) 32 (some ⟨g,0,none⟩) n cap Tryz.underlying32 .i64 (k:Int) (by omega) (by omega)]
 rw [show (sizeOf (Tryz.prog.elem 32)).run Tryz.prog wx=.ok 5 wx from by kernel_rfl]
 simp [Result.andThen,sliced,Addr.add]
theorem aKa (g n cap k:Nat) (hk:k≤n) (wx:World):(Instr.slice 32 (.slice (some ⟨g,0,none⟩) n cap) (some (.int .i64 (k:Int))) none none).run Tryz.prog wx=.ok (.slice (some (hiA g cap k 5)) (n - k) (cap - k)) wx:=by
 rw [run_slice_l (P:=Tryz.prog) (w:=wx) 32 (some ⟨g,0,none⟩) n cap Tryz.underlying32 .i64 (k:Int) (by omega) (by omega)]
 rw [show (sizeOf (Tryz.prog.elem 32)).run Tryz.prog wx=.ok 5 wx from by kernel_rfl]
 simp only [Result.andThen,sliced,Int.toNat_natCast,hiA]
 by_cases h:cap=k
 ·rw [if_pos h,if_pos h]
 ·rw [if_neg h,if_neg h]
  simp [Addr.add]
  try omega
def aLy (w1:World) (g n0 cap j g3:Nat) (NC1 NC2:List Value) (c0 c1:Int) (cn:List UInt8) (c3 c4:Int) (x6 x7 x8 x9 x10 x11 x12 x13 x14 x15 x16 x17 x18 x19 x20 x21:Value) (n:Nat) (lz:Array Bool) (az:Act) (wz:World):Prop:=(n=6∧lz=#[false,true,true,true,false,true,false,false,true,true,true,false,false]∧az = { tmps:=#[.slice (some ⟨g,0,none⟩) n0 cap,.agg #[.int .i64 c0,.int .i64 c1,.string (bs cn),.int .i64 c3,.int .i64 c4],undef,.pointer (some ⟨g3,0,none⟩),.slice none 0 0,.int .i64 (j:Int),x6,x7,x8,x9,x10,x11,x12,x13,x14,x15,x16,x17,x18,x19,x20,x21,undef,.slice (some ⟨g,0,none⟩) n0 cap,.int .i64 (j:Int),.slice (some ⟨g,0,none⟩) j cap,undef,.agg #[.int .i64 c0,.int .i64 c1,.string (bs cn),.int .i64 c3,.int .i64 c4],undef,undef,.slice (some ⟨g,0,none⟩) n0 cap,.int .i64 (j:Int),.slice (some (hiA g cap j 5)) (n0 - j) (cap - j),undef],defers:=[] }∧Kp w1 wz)
def aLx (w1:World) (g n0 cap j g3:Nat) (NC1 NC2:List Value) (c0 c1:Int) (cn:List UInt8) (c3 c4:Int) (x6 x7 x8 x9 x10 x11 x12 x13 x14 x15 x16 x17 x18 x19 x20 x21:Value) (n:Nat) (lz:Array Bool) (az:Act) (wz:World):Prop:=(∃gb:Nat,n=5∧lz=#[false,true,true,true,false,true,true,false,true,true,true,false,false]∧az = { tmps:=#[.slice (some ⟨g,0,none⟩) n0 cap,.agg #[.int .i64 c0,.int .i64 c1,.string (bs cn),.int .i64 c3,.int .i64 c4],undef,.pointer (some ⟨g3,0,none⟩),.slice none 0 0,.int .i64 (j:Int),x6,x7,x8,x9,x10,x11,x12,x13,x14,x15,x16,x17,x18,x19,x20,x21,undef,.slice (some ⟨g,0,none⟩) n0 cap,.int .i64 (j:Int),.slice (some ⟨g,0,none⟩) j cap,undef,.agg #[.int .i64 c0,.int .i64 c1,.string (bs cn),.int .i64 c3,.int .i64 c4],.slice (some ⟨gb,0,none⟩) 1 1,undef,.slice (some ⟨g,0,none⟩) n0 cap,.int .i64 (j:Int),.slice (some (hiA g cap j 5)) (n0 - j) (cap - j),undef],defers:=[] }∧aDS 38 w1 wz gb #[.int .i64 c0,.int .i64 c1,.string (bs cn),.int .i64 c3,.int .i64 c4]∧Kp w1 wz)
def aLw (w1:World) (g n0 cap j g3:Nat) (NC1 NC2:List Value) (c0 c1:Int) (cn:List UInt8) (c3 c4:Int) (x6 x7 x8 x9 x10 x11 x12 x13 x14 x15 x16 x17 x18 x19 x20 x21:Value) (n:Nat) (lz:Array Bool) (az:Act) (wz:World):Prop:=(∃g0:Nat,n=5∧lz=#[true,true,true,true,false,true,false,false,true,true,true,false,false]∧az = { tmps:=#[.slice (some ⟨g,0,none⟩) n0 cap,.agg #[.int .i64 c0,.int .i64 c1,.string (bs cn),.int .i64 c3,.int .i64 c4],undef,.pointer (some ⟨g3,0,none⟩),.slice none 0 0,.int .i64 (j:Int),x6,x7,x8,x9,x10,x11,x12,x13,x14,x15,x16,x17,x18,x19,x20,x21,.slice (some ⟨g0,0,none⟩) 0 0,.slice (some ⟨g,0,none⟩) n0 cap,.int .i64 (j:Int),.slice (some ⟨g,0,none⟩) j cap,undef,.agg #[.int .i64 c0,.int .i64 c1,.string (bs cn),.int .i64 c3,.int .i64 c4],undef,undef,.slice (some ⟨g,0,none⟩) n0 cap,.int .i64 (j:Int),.slice (some (hiA g cap j 5)) (n0 - j) (cap - j),undef],defers:=[] }∧vL 38 5 w1.heap.size wz (.slice (some ⟨g0,0,none⟩) 0 0) 0 []∧Kp w1 wz)
def aLv (w1:World) (g n0 cap j g3:Nat) (NC1 NC2:List Value) (c0 c1:Int) (cn:List UInt8) (c3 c4:Int) (x6 x7 x8 x9 x10 x11 x12 x13 x14 x15 x16 x17 x18 x19 x20 x21:Value) (n:Nat) (lz:Array Bool) (az:Act) (wz:World):Prop:=(∃g0:Nat,∃gb:Nat,n=4∧lz=#[true,true,true,true,false,true,true,false,true,true,true,false,false]∧az = { tmps:=#[.slice (some ⟨g,0,none⟩) n0 cap,.agg #[.int .i64 c0,.int .i64 c1,.string (bs cn),.int .i64 c3,.int .i64 c4],undef,.pointer (some ⟨g3,0,none⟩),.slice none 0 0,.int .i64 (j:Int),x6,x7,x8,x9,x10,x11,x12,x13,x14,x15,x16,x17,x18,x19,x20,x21,.slice (some ⟨g0,0,none⟩) 0 0,.slice (some ⟨g,0,none⟩) n0 cap,.int .i64 (j:Int),.slice (some ⟨g,0,none⟩) j cap,undef,.agg #[.int .i64 c0,.int .i64 c1,.string (bs cn),.int .i64 c3,.int .i64 c4],.slice (some ⟨gb,0,none⟩) 1 1,undef,.slice (some ⟨g,0,none⟩) n0 cap,.int .i64 (j:Int),.slice (some (hiA g cap j 5)) (n0 - j) (cap - j),undef],defers:=[] }∧vL 38 5 w1.heap.size wz (.slice (some ⟨g0,0,none⟩) 0 0) 0 []∧aDS 38 w1 wz gb #[.int .i64 c0,.int .i64 c1,.string (bs cn),.int .i64 c3,.int .i64 c4]∧gb≠g0∧Kp w1 wz)
def aLu (w1:World) (g n0 cap j g3:Nat) (NC1 NC2:List Value) (c0 c1:Int) (cn:List UInt8) (c3 c4:Int) (x6 x7 x8 x9 x10 x11 x12 x13 x14 x15 x16 x17 x18 x19 x20 x21:Value) (n:Nat) (lz:Array Bool) (az:Act) (wz:World):Prop:=(∃g0:Nat,∃v1:Value,n=4∧lz=#[true,true,true,true,true,true,false,false,true,true,true,false,false]∧az = { tmps:=#[.slice (some ⟨g,0,none⟩) n0 cap,.agg #[.int .i64 c0,.int .i64 c1,.string (bs cn),.int .i64 c3,.int .i64 c4],undef,.pointer (some ⟨g3,0,none⟩),.slice none 0 0,.int .i64 (j:Int),x6,x7,x8,x9,x10,x11,x12,x13,x14,x15,x16,x17,x18,x19,x20,x21,.slice (some ⟨g0,0,none⟩) 0 0,.slice (some ⟨g,0,none⟩) n0 cap,.int .i64 (j:Int),.slice (some ⟨g,0,none⟩) j cap,v1,.agg #[.int .i64 c0,.int .i64 c1,.string (bs cn),.int .i64 c3,.int .i64 c4],undef,undef,.slice (some ⟨g,0,none⟩) n0 cap,.int .i64 (j:Int),.slice (some (hiA g cap j 5)) (n0 - j) (cap - j),undef],defers:=[] }∧vL 38 5 w1.heap.size wz v1 j NC1∧Kp w1 wz)
def aLt (w1:World) (g n0 cap j g3:Nat) (NC1 NC2:List Value) (c0 c1:Int) (cn:List UInt8) (c3 c4:Int) (x6 x7 x8 x9 x10 x11 x12 x13 x14 x15 x16 x17 x18 x19 x20 x21:Value) (n:Nat) (lz:Array Bool) (az:Act) (wz:World):Prop:=(∃g0:Nat,∃v1:Value,∃gb:Nat,n=3∧lz=#[true,true,true,true,true,true,true,false,true,true,true,false,false]∧az = { tmps:=#[.slice (some ⟨g,0,none⟩) n0 cap,.agg #[.int .i64 c0,.int .i64 c1,.string (bs cn),.int .i64 c3,.int .i64 c4],undef,.pointer (some ⟨g3,0,none⟩),.slice none 0 0,.int .i64 (j:Int),x6,x7,x8,x9,x10,x11,x12,x13,x14,x15,x16,x17,x18,x19,x20,x21,.slice (some ⟨g0,0,none⟩) 0 0,.slice (some ⟨g,0,none⟩) n0 cap,.int .i64 (j:Int),.slice (some ⟨g,0,none⟩) j cap,v1,.agg #[.int .i64 c0,.int .i64 c1,.string (bs cn),.int .i64 c3,.int .i64 c4],.slice (some ⟨gb,0,none⟩) 1 1,undef,.slice (some ⟨g,0,none⟩) n0 cap,.int .i64 (j:Int),.slice (some (hiA g cap j 5)) (n0 - j) (cap - j),undef],defers:=[] }∧vL 38 5 w1.heap.size wz v1 j NC1∧aDS 38 w1 wz gb #[.int .i64 c0,.int .i64 c1,.string (bs cn),.int .i64 c3,.int .i64 c4]∧Kp w1 wz)
def aLs (w1:World) (g n0 cap j g3:Nat) (NC1 NC2:List Value) (c0 c1:Int) (cn:List UInt8) (c3 c4:Int) (x6 x7 x8 x9 x10 x11 x12 x13 x14 x15 x16 x17 x18 x19 x20 x21:Value) (n:Nat) (lz:Array Bool) (az:Act) (wz:World):Prop:=(∃g0:Nat,∃v1:Value,∃gb:Nat,∃v2:Value,n=2∧lz=#[true,true,true,true,true,true,true,true,true,true,true,false,false]∧az = { tmps:=#[.slice (some ⟨g,0,none⟩) n0 cap,.agg #[.int .i64 c0,.int .i64 c1,.string (bs cn),.int .i64 c3,.int .i64 c4],undef,.pointer (some ⟨g3,0,none⟩),.slice none 0 0,.int .i64 (j:Int),x6,x7,x8,x9,x10,x11,x12,x13,x14,x15,x16,x17,x18,x19,x20,x21,.slice (some ⟨g0,0,none⟩) 0 0,.slice (some ⟨g,0,none⟩) n0 cap,.int .i64 (j:Int),.slice (some ⟨g,0,none⟩) j cap,v1,.agg #[.int .i64 c0,.int .i64 c1,.string (bs cn),.int .i64 c3,.int .i64 c4],.slice (some ⟨gb,0,none⟩) 1 1,v2,.slice (some ⟨g,0,none⟩) n0 cap,.int .i64 (j:Int),.slice (some (hiA g cap j 5)) (n0 - j) (cap - j),undef],defers:=[] }∧vL 38 5 w1.heap.size wz v2 (j+1) (NC1++#[.int .i64 c0,.int .i64 c1,.string (bs cn),.int .i64 c3,.int .i64 c4].toList)∧Kp w1 wz)
def aLr (w1:World) (g n0 cap j g3:Nat) (NC1 NC2:List Value) (c0 c1:Int) (cn:List UInt8) (c3 c4:Int) (x6 x7 x8 x9 x10 x11 x12 x13 x14 x15 x16 x17 x18 x19 x20 x21:Value) (n:Nat) (lz:Array Bool) (az:Act) (wz:World):Prop:=(∃g0:Nat,∃v1:Value,∃gb:Nat,∃v2:Value,∃v3:Value,n=1∧lz=#[true,true,true,true,true,true,true,true,true,true,true,true,false]∧az = { tmps:=#[.slice (some ⟨g,0,none⟩) n0 cap,.agg #[.int .i64 c0,.int .i64 c1,.string (bs cn),.int .i64 c3,.int .i64 c4],undef,.pointer (some ⟨g3,0,none⟩),.slice none 0 0,.int .i64 (j:Int),x6,x7,x8,x9,x10,x11,x12,x13,x14,x15,x16,x17,x18,x19,x20,x21,.slice (some ⟨g0,0,none⟩) 0 0,.slice (some ⟨g,0,none⟩) n0 cap,.int .i64 (j:Int),.slice (some ⟨g,0,none⟩) j cap,v1,.agg #[.int .i64 c0,.int .i64 c1,.string (bs cn),.int .i64 c3,.int .i64 c4],.slice (some ⟨gb,0,none⟩) 1 1,v2,.slice (some ⟨g,0,none⟩) n0 cap,.int .i64 (j:Int),.slice (some (hiA g cap j 5)) (n0 - j) (cap - j),v3],defers:=[] }∧vL 38 5 w1.heap.size wz v3 (j+1+(n0 - j)) (NC1++#[.int .i64 c0,.int .i64 c1,.string (bs cn),.int .i64 c3,.int .i64 c4].toList++NC2)∧Kp w1 wz)
def aLq (w1:World) (g n0 cap j g3:Nat) (NC1 NC2:List Value) (c0 c1:Int) (cn:List UInt8) (c3 c4:Int) (x6 x7 x8 x9 x10 x11 x12 x13 x14 x15 x16 x17 x18 x19 x20 x21:Value) (n:Nat) (lz:Array Bool) (az:Act) (wz:World):Prop:=(∃g0:Nat,∃v1:Value,∃gb:Nat,∃v2:Value,∃v3:Value,n=0∧lz=#[true,true,true,true,true,true,true,true,true,true,true,true,true]∧az = { tmps:=#[.slice (some ⟨g,0,none⟩) n0 cap,.agg #[.int .i64 c0,.int .i64 c1,.string (bs cn),.int .i64 c3,.int .i64 c4],undef,.pointer (some ⟨g3,0,none⟩),v3,.int .i64 (j:Int),x6,x7,x8,x9,x10,x11,x12,x13,x14,x15,x16,x17,x18,x19,x20,x21,.slice (some ⟨g0,0,none⟩) 0 0,.slice (some ⟨g,0,none⟩) n0 cap,.int .i64 (j:Int),.slice (some ⟨g,0,none⟩) j cap,v1,.agg #[.int .i64 c0,.int .i64 c1,.string (bs cn),.int .i64 c3,.int .i64 c4],.slice (some ⟨gb,0,none⟩) 1 1,v2,.slice (some ⟨g,0,none⟩) n0 cap,.int .i64 (j:Int),.slice (some (hiA g cap j 5)) (n0 - j) (cap - j),v3],defers:=[] }∧vL 38 5 w1.heap.size wz v3 (j+1+(n0 - j)) (NC1++#[.int .i64 c0,.int .i64 c1,.string (bs cn),.int .i64 c3,.int .i64 c4].toList++NC2)∧Kp w1 wz)
def ADC (w1:World) (g n0 cap j g3:Nat) (NC1 NC2:List Value) (c0 c1:Int) (cn:List UInt8) (c3 c4:Int) (x6 x7 x8 x9 x10 x11 x12 x13 x14 x15 x16 x17 x18 x19 x20 x21:Value) (n:Nat) (lz:Array Bool) (az:Act) (wz:World):Prop:=aLy w1 g n0 cap j g3 NC1 NC2 c0 c1 cn c3 c4 x6 x7 x8 x9 x10 x11 x12 x13 x14 x15 x16 x17 x18 x19 x20 x21 n lz az wz∨aLx w1 g n0 cap j g3 NC1 NC2 c0 c1 cn c3 c4 x6 x7 x8 x9 x10 x11 x12 x13 x14 x15 x16 x17 x18 x19 x20 x21 n lz az wz∨aLw w1 g n0 cap j g3 NC1 NC2 c0 c1 cn c3 c4 x6 x7 x8 x9 x10 x11 x12 x13 x14 x15 x16 x17 x18 x19 x20 x21 n lz az wz∨aLv w1 g n0 cap j g3 NC1 NC2 c0 c1 cn c3 c4 x6 x7 x8 x9 x10 x11 x12 x13 x14 x15 x16 x17 x18 x19 x20 x21 n lz az wz∨aLu w1 g n0 cap j g3 NC1 NC2 c0 c1 cn c3 c4 x6 x7 x8 x9 x10 x11 x12 x13 x14 x15 x16 x17 x18 x19 x20 x21 n lz az wz∨aLt w1 g n0 cap j g3 NC1 NC2 c0 c1 cn c3 c4 x6 x7 x8 x9 x10 x11 x12 x13 x14 x15 x16 x17 x18 x19 x20 x21 n lz az wz∨aLs w1 g n0 cap j g3 NC1 NC2 c0 c1 cn c3 c4 x6 x7 x8 x9 x10 x11 x12 x13 x14 x15 x16 x17 x18 x19 x20 x21 n lz az wz∨aLr w1 g n0 cap j g3 NC1 NC2 c0 c1 cn c3 c4 x6 x7 x8 x9 x10 x11 x12 x13 x14 x15 x16 x17 x18 x19 x20 x21 n lz az wz∨aLq w1 g n0 cap j g3 NC1 NC2 c0 c1 cn c3 c4 x6 x7 x8 x9 x10 x11 x12 x13 x14 x15 x16 x17 x18 x19 x20 x21 n lz az wz
theorem aGI (g n cap:Nat) (l:List Con) (q:Con) (w:World) (h:bC w (some ⟨g,0,none⟩) n l) (hnc:n≤cap) (hl:n≤1048576) :
  Calls Tryz.prog 58 #[.slice (some ⟨g,0,none⟩) n cap,conv q] w fun e w'=>∃v,e=.returned v∧Hid (aGh w.heap.size w' v (mE l q))∧Hid (v≠.slice none 0 0)∧Hid (Below w.heap.size w w'):=by
 obtain ⟨c0,c1,cn,c3,c4⟩:=q
 have HLN:=aA h.1
 have hb1:=yA (yH _ w) (.cells #[.int .i64 c0,.int .i64 c1,.string (bs cn),.int .i64 c3,.int .i64 c4] 38)
 have R1:=aA (h.below hb1)
 have G1:=aA (yD w #[.int .i64 c0,.int .i64 c1,.string (bs cn),.int .i64 c3,.int .i64 c4] 38)
 have B1:=aA hb1
 clear h hb1
 obtain ⟨g3,hg3⟩:∃g,w.heap.size=g:=⟨_,rfl⟩
 rw [hg3] at G1
 go_enter Tryz.func58,Tryz.ntmps58
 go_wp2_with fail
 clear hg3
 generalize w.alloc (.cells #[.int .i64 c0,.int .i64 c1,.string (bs cn),.int .i64 c3,.int .i64 c4] 38)=w1 at R1 G1 B1 ⊢
 go_loopw [5] (fun i wr=>∃k:Nat,k≤n∧i=.int .i64 k∧Hid (eQ c0 l=k+eQ c0 (l.drop k))∧Hid (Below w1.heap.size w1 wr)) (fun i _=>n - (intOf i).toNat)
 case atStart=>exact ⟨0,Nat.zero_le _,rfl,aA (by simp),aA (yH _ _)⟩
 case round=>
  obtain ⟨k,hk,rfl,HP,BZ⟩:=hrel
  have G2:=aA ((uH G1).below (uH BZ))
  have R2:=aA ((uH R1).below (uH BZ))
  have A0:=aA (Kp.new wr)
  have HS:=aA (dE wr)
  have HB:=aA (show ∃bt:Bool,(bt=true→k<n∧eQ c0 l=((k+1:Nat):Nat)+eQ c0 (l.drop (k+1)))∧(bt=false→eQ c0 l=k)∧(∀hk2:k<l.length,k<n→bt=decide (l[k].id<c0))∧(¬k<n→bt=false) from by
   by_cases hlt:k<n
   ·have hkl:k<l.length:=by have:=uH HLN;omega
    have hs:=aDj (id:=c0) hkl
    have hp:=uH HP
    by_cases hc:l[k].id<c0
    ·rw [if_pos hc] at hs
     exact ⟨true,fun _=>⟨hlt,by omega⟩,(fun e=>by cases e),fun _ _=>by simp [hc],fun e=>absurd hlt e⟩
    ·rw [if_neg hc] at hs
     exact ⟨false,(fun e=>by cases e),fun _=>by omega,fun _ _=>by simp [hc],fun e=>absurd hlt e⟩
   ·have hp:=uH HP
    rw [List.drop_of_length_le (by have:=uH HLN;omega)] at hp
    exact ⟨false,(fun e=>by cases e),fun _=>by simpa [eQ] using hp,fun _ e=>absurd e hlt,fun _=>rfl⟩)
  obtain ⟨bt,hb1,hb2,hb3,hb4⟩:=uH HB
  have HB1:=aA hb1
  have HB2:=aA hb2
  have HB3:=aA hb3
  have HB4:=aA hb4
  clear HB hb1 hb2 hb3 hb4 HP
  go_upto_region 2 with fail
  go_cut [19] from 6 to 18 (fun v19 wx=>v19=.bool bt∧Hid (Below wr.heap.size wr wx))
  case first=>
   refine wp_region_held_drew (S:=fun wx=>Kp wr wx) (by kernel_rfl) ((uH HS).drew (uH A0)) (fun S0=>?_)
   generalize wr.drew=wn at S0 ⊢
   by_cases hlt:k<n
   ·have hkl:k<l.length:=by have:=uH HLN;omega
    have hv:=uH HB3 hkl hlt
    have hid:=((uH R2).at hlt)
    obtain ⟨b',off',he,hq⟩:=hid
    cases he
    have d0:=(hq hkl).1
    obtain ⟨x,hx⟩:∃x,l[k].id=x:=⟨_,rfl⟩
    rw [hx] at d0 hv
    have q0:=(uH G2).at 0
    simp at q0
    have R:∀wx,Kp wr wx→wx.cell? ⟨g,0+k*5,none⟩=some (.int .i64 x)∧wx.cell? ⟨g,k*5,none⟩=some (.int .i64 x)∧wx.cell? ⟨g3,0,none⟩=some (.int .i64 c0):=fun wx h=>⟨h.cell d0,by have:=h.cell d0;rwa [Nat.zero_add] at this,h.cell q0⟩
    have k0:(0:Int)≤k:=by omega
    have k1:(k:Int)<n:=by omega
    clear hq d0 q0 hx
    refine tW 0 6 _ S0 ?_
    try simp only [zW]
    refine tW 1 7 _ S0 ?_
    try simp only [zW]
    refine tW 2 8 _ S0 ?_
    try simp only [zW]
    refine tW 3 9 (.bool true) S0 ?_
    try simp only [zW]
    refine tW 4 10 _ S0 ?_
    try simp only [zW]
    refine tW 5 11 _ S0 ?_
    try simp only [zW]
    refine tW 6 12 _ S0 ?_
    try simp only [zW]
    refine tW 7 13 (.pointer (some ⟨g,k*5,none⟩)) S0 ?_
    try simp only [zW]
    refine tW 8 14 (.pointer (some ⟨g,k*5,none⟩)) S0 ?_
    try simp only [zW]
    refine fP 9 15 (.int .i64 x) rfl rfl S0 ?_ (hy:=Or.inl ⟨by rfl,fun wz hz=>by (have hr:=R wz hz;clear R;go_simp)⟩)
    try simp only [zW]
    refine tW 10 16 _ S0 ?_
    try simp only [zW]
    refine fP 11 17 (.int .i64 c0) rfl rfl S0 ?_ (hy:=Or.inl ⟨by rfl,fun wz hz=>by (have hr:=R wz hz;clear R;go_simp)⟩)
    try simp only [zW]
    refine fP 12 18 (.bool bt) rfl rfl S0 ?_ (hy:=Or.inl ⟨by rfl,fun wz hz=>by (subst hv;go_simp)⟩)
    try simp only [zW]
    refine tW 13 19 (.bool bt) S0 ?_
    try simp only [zW]
    refine wpAnyH_done (by kernel_rfl) ?_ _
    go_wp2_with fail
    go_meet
    exact ⟨rfl,aA S0⟩
   ·have hv:=uH HB4 hlt
    have k1:¬(k:Int)<n:=by omega
    subst hv
    refine tW 0 6 _ S0 ?_
    try simp only [zW]
    refine tW 1 7 _ S0 ?_
    try simp only [zW]
    refine tW 2 8 _ S0 ?_
    try simp only [zW]
    refine tW 3 9 (.bool false) S0 ?_
    try simp only [zW]
    refine tW 4 10 _ S0 ?_
    try simp only [zW]
    refine tU 5 11 S0 ?_
    try simp only [zW]
    refine tU 6 12 S0 ?_
    try simp only [zW]
    refine tU 7 13 S0 ?_
    try simp only [zW]
    refine tU 8 14 S0 ?_
    try simp only [zW]
    refine tU 9 15 S0 ?_
    try simp only [zW]
    refine tU 10 16 S0 ?_
    try simp only [zW]
    refine tU 11 17 S0 ?_
    try simp only [zW]
    refine tU 12 18 S0 ?_
    try simp only [zW]
    refine tW 13 19 (.bool false) S0 ?_
    try simp only [zW]
    refine wpAnyH_done (by kernel_rfl) ?_ _
    go_wp2_with fail
    go_meet
    exact ⟨rfl,aA S0⟩
  case rest=>
   obtain ⟨rfl,hbz⟩:=hcut
   have BY:=aA (yB (uH BZ) (uH hbz))
   have G3:=aA ((uH G2).below (uH hbz))
   have R3:=aA ((uH R2).below (uH hbz))
   obtain ⟨w2,rfl⟩:∃z,z=wc:=⟨_,rfl⟩
   clear hbz BZ G2 R2 A0 HS HB3 HB4
   cases bt with
   | true=>
    obtain ⟨hlt,hp⟩:=uH HB1 rfl
    have HPN:=aA hp
    clear hp HB1 HB2
    go_wp2
    go_roundw
    case rel=>exact ⟨k+1,by omega,by go_num,HPN,BY⟩
    case measure=>simp [intOf];omega
   | false=>
    have HPK:=aA (uH HB2 rfl)
    clear HB1 HB2
    obtain ⟨i0,hi,hz0,hz1,hz2⟩:=info_parts Tryz.infoCont
    obtain ⟨j,rfl⟩:∃j,j=k:=⟨_,rfl⟩
    have B2:=aA (yB (uH B1) (uH BY))
    have HIN:=aA (show mE l ⟨c0,c1,cn,c3,c4⟩=l.take j++⟨c0,c1,cn,c3,c4⟩::l.drop j by unfold mE;simp only;rw [uH HPK])
    have hjl:j≤l.length:=by have:=uH HLN;omega
    have hlo:=aK9 g n cap j (by omega)
    have hhi:=aKa g n cap j hk
    obtain ⟨NC1,hc1⟩:∃c,aD (l.take j)=c:=⟨_,rfl⟩
    obtain ⟨NC2,hc2⟩:∃c,aD (l.drop j)=c:=⟨_,rfl⟩
    have HLO:=aA (show ∀wx:World,Kp w2 wx→∀i u,NC1[i]? = some u→wx.cell? (Addr.add ⟨g,0,none⟩ i)=some u from fun wx hb i u hu=>by
     rw [Lib.add_plain]
     refine fQ ((uH R3).below hb) i u ?_
     rw [gU l j,hc1,List.getElem?_append_left (List.getElem?_eq_some_iff.1 hu).1]
     exact hu)
    have HL1:=aA (show NC1.length=j*5 by rw [←hc1];exact dM l hjl)
    have HL2:=aA (show NC2.length=(n - j)*5 by rw [←hc2,fJ,uH HLN])
    have HHI:=aA (show ∀wx:World,Kp w2 wx→∀i u,NC2[i]? = some u→wx.cell? (Addr.add (hiA g cap j 5) i)=some u from fun wx hb i u hu=>by
     have hlt:=(List.getElem?_eq_some_iff.1 hu).1
     rw [uH HL2] at hlt
     rw [aHr (by omega)]
     have h1:=fQ ((uH R3).below hb) (j*5+i) u (by
      rw [gU l j,hc1,hc2,List.getElem?_append_right (by rw [uH HL1];omega),uH HL1,Nat.add_sub_cancel_left]
      exact hu)
     rwa [Nat.zero_add] at h1)
    have HO1:=aA (show ∀u ∈ NC1,u.oneCell'=true by rw [←hc1];exact dQ _)
    have HO2:=aA (show ∀u ∈ NC2,u.oneCell'=true by rw [←hc2];exact dQ _)
    have HOX:=aA (show ∀u ∈ (#[.int .i64 c0,.int .i64 c1,.string (bs cn),.int .i64 c3,.int .i64 c4]:Array Value).toList,u.oneCell'=true from fun u hu=>dQ [⟨c0,c1,cn,c3,c4⟩] u (by simpa [aD,fG] using hu))
    have HC1:=aA hc1.symm
    have HC2:=aA hc2.symm
    have A0:=aA (Kp.new w2)
    have HS:=aA (dE w2)
    clear hc1 hc2 HPK R3 R1 G1 B1 BY hjl
    go_upto_region 4 with fail
    refine wp_region_held_drew (S:=fun wx=>Kp w2 wx) (by kernel_rfl) ((uH HS).drew (uH A0)) (fun S0=>?_)
    refine tW 1 23 _ S0 ?_
    try simp only [zW]
    refine tW 2 24 _ S0 ?_
    try simp only [zW]
    refine fP 3 25 (.slice (some ⟨g,0,none⟩) j cap) rfl rfl S0 ?_ (hy:=Or.inl ⟨by rfl,fun wz hz=>mI (hlo wz)⟩)
    try simp only [zW]
    refine fP 5 27 (.agg #[.int .i64 c0,.int .i64 c1,.string (bs cn),.int .i64 c3,.int .i64 c4]) rfl rfl S0 ?_ (hy:=Or.inl ⟨by rfl,fun wz hz=>mI (rG ((uH G3).below hz) rfl)⟩)
    try simp only [zW]
    refine tW 8 30 _ S0 ?_
    try simp only [zW]
    refine tW 9 31 _ S0 ?_
    try simp only [zW]
    refine fP 10 32 (.slice (some (hiA g cap j 5)) (n - j) (cap - j)) rfl rfl S0 ?_ (hy:=Or.inl ⟨by rfl,fun wz hz=>mI (hhi wz)⟩)
    try simp only [zW]
    refine lI (ADC w2 g n cap j g3 NC1 NC2 c0 c1 cn c3 c4 _ _ _ _ _ _ _ _ _ _ _ _ _ _ _ _) ?step ?fin 6 _ _ _ (.inl (⟨rfl,by kernel_rfl,rfl,S0⟩))
    case fin=>
     intro lz az wz hI
     rcases hI with h | h | h | h | h | h | h | h | h
     ·obtain ⟨hn,_⟩:=h
      cases hn
     ·obtain ⟨_,hn,_⟩:=h
      cases hn
     ·obtain ⟨_,hn,_⟩:=h
      cases hn
     ·obtain ⟨_,_,hn,_⟩:=h
      cases hn
     ·obtain ⟨_,_,hn,_⟩:=h
      cases hn
     ·obtain ⟨_,_,_,hn,_⟩:=h
      cases hn
     ·obtain ⟨_,_,_,_,hn,_⟩:=h
      cases hn
     ·obtain ⟨_,_,_,_,_,hn,_⟩:=h
      cases hn
     ·obtain ⟨g0,v1,gb,v2,v3,-,rfl,rfl,hr,kp⟩:=h
      refine ⟨by kernel_rfl,?_⟩
      have HOW:=aA (show aGh w.heap.size wz v3 (mE l ⟨c0,c1,cn,c3,c4⟩) from by
       have h1:=hr.1
       have e:NC1++#[.int .i64 c0,.int .i64 c1,.string (bs cn),.int .i64 c3,.int .i64 c4].toList++NC2=aD (mE l ⟨c0,c1,cn,c3,c4⟩):=by
        rw [uH HC1,uH HC2,uH HIN,oL]
        simp
       rw [e] at h1
       unfold aGh
       rw [aB0,←uH HLN,show n+1=j+1+(n - j) by omega]
       exact aHS h1 (uH B2).size)
      have HNE:=aA hr.2
      have B9:=aA (yB (uH B2) kp)
      clear hr kp
      go_wp2
      go_ret
      exact ⟨v3,rfl,HOW,HNE,B9⟩
    case step=>
     intro n lz az wz hI
     rcases hI with h | h | h | h | h | h | h | h | h
     ·obtain ⟨hn,rfl,rfl,kp⟩:=h
      obtain rfl:n=5:=by omega
      refine aR (rs:=[0,6]) (by kernel_rfl) (by simp) ?_
      refine aB.cons rfl (fun K hK=>?_) ?_
      ·go_simp
       go_wp2_with fail
       exact hK.out _ _ (yA kp _) (.inr (.inr (.inl (⟨wz.heap.size,rfl,rfl,rfl,mU kp,yA kp _⟩))))
      refine aB.cons rfl (fun K hK=>?_) ?_
      ·go_simp
       go_wp2_with fail
       exact hK.out _ _ (yA kp _) (.inr (.inl (⟨wz.heap.size,rfl,rfl,rfl,jN kp _,yA kp _⟩)))
      exact aB.nil
     ·obtain ⟨gb,hn,rfl,rfl,hbx,kp⟩:=h
      obtain rfl:n=4:=by omega
      refine aR (rs:=[0]) (by kernel_rfl) (by simp) ?_
      refine aB.cons rfl (fun K hK=>?_) ?_
      ·go_simp
       go_wp2_with fail
       exact hK.out _ _ (yA kp _) (.inr (.inr (.inr (.inl (⟨wz.heap.size,gb,rfl,rfl,rfl,mU kp,hbx.al _,Nat.ne_of_lt hbx.lt,yA kp _⟩)))))
      exact aB.nil
     ·obtain ⟨g0,hn,rfl,rfl,hr,kp⟩:=h
      obtain rfl:n=4:=by omega
      refine aR (rs:=[4,6]) (by kernel_rfl) (by simp) ?_
      refine aB.cons rfl (fun K hK=>?_) ?_
      ·refine iC (w1:=w2) rfl (.tmp 22) (.tmp 25) 32 rfl 38 i0 (.agg #[.int .i64 0,.int .i64 0,.string ByteArray.empty,.int .i64 0,.int .i64 0]) 5 48 Tryz.underlying32 hi hz0 hz1 hz2 rfl (by decide) (.slice (some ⟨g0,0,none⟩) 0 0) 0 [] rfl hr kp ⟨g,0,none⟩ j cap NC1 rfl (uH HL1) (fun i u hu=>uH HLO _ kp i u hu) (uH HO1) (by unfold maxLen;omega) (by omega) ?_
       intro v1 wz2 hr2 kp2 hsame
       try simp only [zW]
       exact hK.out _ _ kp2 (.inr (.inr (.inr (.inr (.inl (⟨g0,v1,rfl,by kernel_rfl,rfl,rZ hr2 (by omega) (List.nil_append _),kp2⟩))))))
      refine aB.cons rfl (fun K hK=>?_) ?_
      ·go_simp
       go_wp2_with fail
       exact hK.out _ _ (yA kp _) (.inr (.inr (.inr (.inl (⟨g0,wz.heap.size,rfl,rfl,rfl,hr.al _,jN kp _,(Nat.ne_of_gt (by obtain ⟨q,q2,q3,q4,q5,q6⟩:=hr.open;cases q3;exact (World.ownsRow.lt q5 g0 rfl).2)),yA kp _⟩)))))
      exact aB.nil
     ·obtain ⟨g0,gb,hn,rfl,rfl,hr,hbx,hne,kp⟩:=h
      obtain rfl:n=3:=by omega
      refine aR (rs:=[4]) (by kernel_rfl) (by simp) ?_
      refine aB.cons rfl (fun K hK=>?_) ?_
      ·refine iC (w1:=w2) rfl (.tmp 22) (.tmp 25) 32 rfl 38 i0 (.agg #[.int .i64 0,.int .i64 0,.string ByteArray.empty,.int .i64 0,.int .i64 0]) 5 48 Tryz.underlying32 hi hz0 hz1 hz2 rfl (by decide) (.slice (some ⟨g0,0,none⟩) 0 0) 0 [] rfl hr kp ⟨g,0,none⟩ j cap NC1 rfl (uH HL1) (fun i u hu=>uH HLO _ kp i u hu) (uH HO1) (by unfold maxLen;omega) (by omega) ?_
       intro v1 wz2 hr2 kp2 hsame
       try simp only [zW]
       exact hK.out _ _ kp2 (.inr (.inr (.inr (.inr (.inr (.inl (⟨g0,v1,gb,rfl,by kernel_rfl,rfl,rZ hr2 (by omega) (List.nil_append _),hbx.same (hsame gb hbx.lt (by simp [Value.ownBlock];omega)),kp2⟩)))))))
      exact aB.nil
     ·obtain ⟨g0,v1,hn,rfl,rfl,hr,kp⟩:=h
      obtain rfl:n=3:=by omega
      refine aR (rs:=[6]) (by kernel_rfl) (by simp) ?_
      refine aB.cons rfl (fun K hK=>?_) ?_
      ·go_simp
       go_wp2_with fail
       exact hK.out _ _ (yA kp _) (.inr (.inr (.inr (.inr (.inr (.inl (⟨g0,v1,wz.heap.size,rfl,rfl,rfl,hr.al _,jN kp _,yA kp _⟩)))))))
      exact aB.nil
     ·obtain ⟨g0,v1,gb,hn,rfl,rfl,hr,hbx,kp⟩:=h
      obtain rfl:n=2:=by omega
      refine aR (rs:=[7]) (by kernel_rfl) (by simp) ?_
      refine aB.cons rfl (fun K hK=>?_) ?_
      ·refine iC (w1:=w2) rfl (.tmp 26) (.tmp 28) 32 rfl 38 i0 (.agg #[.int .i64 0,.int .i64 0,.string ByteArray.empty,.int .i64 0,.int .i64 0]) 5 48 Tryz.underlying32 hi hz0 hz1 hz2 rfl (by decide) v1 j NC1 rfl hr kp ⟨gb,0,none⟩ 1 1 #[.int .i64 c0,.int .i64 c1,.string (bs cn),.int .i64 c3,.int .i64 c4].toList rfl (by rfl) hbx.news (uH HOX) (by unfold maxLen;omega) (by omega) ?_
       intro v2 wz2 hr2 kp2 hsame
       try simp only [zW]
       exact hK.out _ _ kp2 (.inr (.inr (.inr (.inr (.inr (.inr (.inl (⟨g0,v1,gb,v2,rfl,by kernel_rfl,rfl,hr2,kp2⟩))))))))
      exact aB.nil
     ·obtain ⟨g0,v1,gb,v2,hn,rfl,rfl,hr,kp⟩:=h
      obtain rfl:n=1:=by omega
      refine aR (rs:=[11]) (by kernel_rfl) (by simp) ?_
      refine aB.cons rfl (fun K hK=>?_) ?_
      ·refine iC (w1:=w2) rfl (.tmp 29) (.tmp 32) 32 rfl 38 i0 (.agg #[.int .i64 0,.int .i64 0,.string ByteArray.empty,.int .i64 0,.int .i64 0]) 5 48 Tryz.underlying32 hi hz0 hz1 hz2 rfl (by decide) v2 (j+1) (NC1++#[.int .i64 c0,.int .i64 c1,.string (bs cn),.int .i64 c3,.int .i64 c4].toList) rfl hr kp (hiA g cap j 5) (n - j) (cap - j) NC2 rfl (uH HL2) (fun i u hu=>uH HHI _ kp i u hu) (uH HO2) (by unfold maxLen;omega) (by omega) ?_
       intro v3 wz2 hr2 kp2 hsame
       try simp only [zW]
       exact hK.out _ _ kp2 (.inr (.inr (.inr (.inr (.inr (.inr (.inr (.inl (⟨g0,v1,gb,v2,v3,rfl,by kernel_rfl,rfl,hr2,kp2⟩)))))))))
      exact aB.nil
     ·obtain ⟨g0,v1,gb,v2,v3,hn,rfl,rfl,hr,kp⟩:=h
      obtain rfl:n=0:=by omega
      refine aR (rs:=[12]) (by kernel_rfl) (by simp) ?_
      refine aB.cons rfl (fun K hK=>?_) ?_
      ·go_simp
       go_wp2_with fail
       exact hK.out _ _ kp (.inr (.inr (.inr (.inr (.inr (.inr (.inr (.inr (⟨g0,v1,gb,v2,v3,rfl,rfl,rfl,hr,kp⟩)))))))))
      exact aB.nil
     ·obtain ⟨_,_,_,_,_,hn,_⟩:=h
      cases hn
def yY:List (Int×Int)→Int
 | []=>0
 | r::t=>r.1+yY t
def yX:List (Int×Int)→Int
 | []=>0
 | r::t=>r.2+yX t
theorem aAu:∀a b:List (Int×Int),yY (a++b)=yY a+yY b
 | [],b=>by simp [yY]
 | r::t,b=>by rw [List.cons_append,yY,yY,aAu t b];omega
theorem aAt:∀a b:List (Int×Int),yX (a++b)=yX a+yX b
 | [],b=>by simp [yX]
 | r::t,b=>by rw [List.cons_append,yX,yX,aAt t b];omega
theorem aDZ:∀l:List (Int×Int),(∀r ∈ l,aL r.1 r.2=true)→0≤yY l∧0≤yX l
 | [],_=>⟨Int.le_refl _,Int.le_refl _⟩
 | r::t,h=>by
  have i:=aDZ t (fun r hr=>h r (List.mem_cons_of_mem _ hr))
  have:=bN (h r List.mem_cons_self)
  rw [yY,yX];omega
theorem aEe:∀(l:List (Int×Int)) (x y:Int),(aT l x y).2.2=true→(aT l x y).1=x+yY l∧(aT l x y).2.1=y+yX l
 | [],x,y,_=>by simp [aT,yY,yX]
 | r::t,x,y,h=>by
  rw [aT] at h ⊢
  by_cases hb:aI 1 x y r.1 r.2=true
  ·rw [if_pos hb] at h ⊢
   have:=aEe t _ _ h
   rw [yY,yX];omega
  ·rw [if_neg hb] at h;cases h
theorem aJl:∀(l:List (Int×Int)) (x y:Int),aL x y=true→(∀r ∈ l,aL r.1 r.2=true)→x+yY l≤1000000000→y+yX l≤1000000000→(aT l x y).2.2=true
 | [],x,y,_,_,_,_=>rfl
 | r::t,x,y,h,hr,h1,h2=>by
  rw [yY] at h1;rw [yX] at h2
  have ht:∀r ∈ t,aL r.1 r.2=true:=fun r h=>hr r (List.mem_cons_of_mem _ h)
  have hp:=aDZ t ht
  have hq:=hr r List.mem_cons_self
  have b1:=bN h
  have b2:=bN hq
  have hn:aL (x+1*r.1) (y+1*r.2)=true:=by simp only [aL,inB,yK,yL];omega
  rw [aT,if_pos (by simp only [aI,yK];exact ⟨⟨h,hq⟩,hn⟩)]
  exact aJl t _ _ hn ht (by omega) (by omega)
theorem aIl {p:Con→Bool} {cs:List Con} {c:Con}:yY (aJ p (mE cs c))=yY (aJ p cs)+(if p c=true then c.mem else 0)∧yX (aJ p (mE cs c))=yX (aJ p cs)+(if p c=true then c.cpu else 0):=by
 have e:yY (aJ p cs)=yY (aJ p (cs.take (eQ c.id cs)))+yY (aJ p (cs.drop (eQ c.id cs)))∧yX (aJ p cs)=yX (aJ p (cs.take (eQ c.id cs)))+yX (aJ p (cs.drop (eQ c.id cs))):=by
  rw [←aAu,←aAt,aJ,aJ,aJ,←List.map_append,←List.filter_append,List.take_append_drop];exact ⟨rfl,rfl⟩
 rw [e.1,e.2,mE]
 unfold aJ
 rw [List.filter_append,List.map_append,aAu,aAt,List.filter_cons]
 by_cases h:p c=true
 ·simp only [if_pos h,List.map_cons,yY,yX];omega
 ·simp only [if_neg h];omega
theorem aIk {p:Con→Bool} {cs:List Con} {c:Con} {r:Int×Int} (h:r ∈ aJ p (mE cs c)):r ∈ aJ p cs∨r=(c.mem,c.cpu):=by
 obtain ⟨d,hd,rfl⟩:=List.mem_map.1 h
 obtain ⟨h1,h2⟩:=List.mem_filter.1 hd
 rcases aBZ h1 with rfl | h1
 ·exact .inr rfl
 ·exact .inl (List.mem_map.2 ⟨d,List.mem_filter.2 ⟨h1,h2⟩,rfl⟩)
theorem aEk {a b:Int} (h:0≤a∧a≤1000000000∧0≤b∧b≤1000000000):aL a b=true:=by
 simp only [aL,inB,yK,yL];omega
theorem aJW {cs:List Con} {m:Mac} {c:Con} (h:uW cs m=true) (hr:aL c.mem c.cpu=true) (hf:c.node=m.name→c.mem+yY (aJ (fun q=>decide (q.node=m.name)) cs)≤m.mem∧c.cpu+yX (aJ (fun q=>decide (q.node=m.name)) cs)≤m.cpu):uW (mE cs c) m=true:=by
 simp only [uW,yK,within,yL] at h ⊢
 obtain ⟨h1,h2,⟨⟨h3,_⟩,h4⟩,h5⟩:=h
 have e:=aEe _ _ _ h2
 have ea:=nJ _ _ _ h2
 rw [gX] at h4 h5
 have hb:=bN h1
 have u:=aIl (p:=fun q=>decide (q.node=m.name)) (cs:=cs) (c:=c)
 have cb:=bN hr
 have each:∀r ∈ aJ (fun q=>decide (q.node=m.name)) (mE cs c),aL r.1 r.2=true:=fun r hx=>by
  rcases aIk hx with hx | rfl
  ·exact ea r hx
  ·exact hr
 have le:yY (aJ (fun q=>decide (q.node=m.name)) (mE cs c))≤m.mem∧yX (aJ (fun q=>decide (q.node=m.name)) (mE cs c))≤m.cpu:=by
  by_cases hn:c.node=m.name
  ·have:=hf hn
   rw [if_pos (by simpa using hn),if_pos (by simpa using hn)] at u
   omega
  ·rw [if_neg (by simpa using hn),if_neg (by simpa using hn)] at u
   omega
 have ok:(aT (aJ (fun q=>decide (q.node=m.name)) (mE cs c)) 0 0).2.2=true:=aJl _ _ _ (by decide) each (by omega) (by omega)
 have e':=aEe _ _ _ ok
 have ps:=aDZ _ each
 rw [gX]
 exact ⟨h1,ok,⟨⟨aEk (by omega),h1⟩,by omega⟩,by omega⟩
theorem aB4 {id:Int} {l:List bY} {r:Nat×Nat}:(dK id (bL l r)).isSome=(dK id l).isSome:=by
 unfold dK bL
 rw [Bool.eq_iff_iff,List.find?_isSome,List.find?_isSome]
 constructor
 ·rintro ⟨a,ha,e⟩
  obtain ⟨b,hb,e1,_⟩:=pJ (r:=r) ha
  exact ⟨b,hb,by rw [←e1];exact e⟩
 ·rintro ⟨a,ha,e⟩
  obtain ⟨i,hi,rfl⟩:=List.mem_iff_getElem.1 ha
  refine ⟨(l.modify r.1 fun a=>aBE a r.2)[i]'(by simpa using hi),yM _,?_⟩
  rw [List.getElem_modify]
  split<;>exact e
theorem aDE {apps apps':List bY} {ms:List Mac} {c:Con} (ha:∀id,(dK id apps').isSome=(dK id apps).isSome) (h1:c.id≤1000000000) (h2:(dK c.app apps).isSome=true) (h3:(bF c.node ms).isSome=true) (h4:mG c.mem c.cpu=true):∀(cs:List Con) (last:Int),last<c.id→(∀d ∈ cs,d.id≠c.id)→dL apps ms last cs=true→dL apps' ms last (mE cs c)=true
 | [],last,hl,_,_=>by
  simp only [mE,eQ,List.take_nil,List.drop_nil,List.nil_append,dL,yK,yL]
  exact ⟨hl,h1,by rw [ha];exact h2,h3,h4,trivial⟩
 | d::t,last,hl,hn,h=>by
  have go:∀(t:List Con) (last:Int),dL apps ms last t=true→dL apps' ms last t=true:=fun t=>by
   induction t with
   | nil=>intro _ _;rfl
   | cons d t ih=>intro last h;simp only [dL,yK,yL] at h ⊢;exact ⟨h.1,h.2.1,by rw [ha];exact h.2.2.1,h.2.2.2.1,h.2.2.2.2.1,ih _ h.2.2.2.2.2⟩
  have hd:=hn d List.mem_cons_self
  by_cases hc:d.id<c.id
  ·have e:mE (d::t) c=d::mE t c:=by simp only [mE,eQ,if_pos hc,List.take_succ_cons,List.drop_succ_cons,List.cons_append]
   rw [e]
   simp only [dL,yK,yL] at h ⊢
   exact ⟨h.1,h.2.1,by rw [ha];exact h.2.2.1,h.2.2.2.1,h.2.2.2.2.1,aDE ha h1 h2 h3 h4 t d.id hc (fun x hx=>hn x (List.mem_cons_of_mem _ hx)) h.2.2.2.2.2⟩
  ·have e:mE (d::t) c=c::d::t:=by simp only [mE,eQ,if_neg hc,List.take_zero,List.drop_zero,List.nil_append]
   rw [e]
   simp only [dL,yK,yL] at h ⊢
   exact ⟨hl,h1,by rw [ha];exact h2,h3,h4,by omega,h.2.1,by rw [ha];exact h.2.2.1,h.2.2.2.1,h.2.2.2.2.1,go _ _ h.2.2.2.2.2⟩
theorem aE6 {l:List Ask} {k:Nat} (h:jB l=true):jB (gB l k)=true:=by
 simp only [jB,yK,yL,List.all_eq_true] at h ⊢
 refine ⟨Nat.le_trans (aAE l k) h.1,fun a ha=>?_⟩
 unfold gB at ha
 split at ha
 ·exact h.2 a ha
 ·rename_i b hb
  split at ha
  ·rename_i hc
   rcases List.mem_or_eq_of_mem_set ha with ha | rfl
   ·exact h.2 a ha
   ·have:=h.2 b (List.mem_of_getElem? hb)
    simp only [fK,aJS,yK,inB] at this ⊢
    have c:=this.2.1
    rw [yL] at c
    exact ⟨this.1,decide_eq_true (by omega),this.2.2⟩
  ·exact h.2 a (List.mem_of_mem_eraseIdx ha)
theorem yN {qs:List Q} {nx:Int} {k:Nat}:∀(l:List bY) (i:Nat) (last:Int),aZ qs nx last l=true→aZ qs nx last (l.modify i fun a=>aBE a k)=true
 | [],i,last,h=>by cases i<;>simpa using h
 | a::t,0,last,h=>by
  rw [List.modify_zero_cons]
  simp only [aZ,yK,aBE] at h ⊢
  exact ⟨h.1,h.2.1,h.2.2.1,aE6 h.2.2.2.1,h.2.2.2.2⟩
 | a::t,i+1,last,h=>by
  rw [List.modify_succ_cons]
  simp only [aZ,yK,yL] at h ⊢
  exact ⟨h.1,h.2.1,h.2.2.1,h.2.2.2.1,yN t i _ h.2.2.2.2⟩
theorem aAm {p:Ask→Bool}:∀{l:List Ask} {k j:Nat},fM p l k=some j→∃h:j - k<l.length,p l[j - k]=true
 | [],_,_,h=>by cases h
 | a::t,k,j,h=>by
  have hb:=oM h
  rw [fM] at h
  split at h
  ·rename_i hp
   cases h
   exact ⟨by simp,by simpa using hp⟩
  ·have hb':=oM h
   obtain ⟨h1,h2⟩:=aAm h
   have e:j - k=(j - (k+1))+1:=by omega
   refine ⟨by simp only [List.length_cons];omega,?_⟩
   simp only [e,List.getElem_cons_succ]
   exact h2
theorem aAn {p:Ask→Bool} {qu:List UInt8}:∀{l:List bY} {i:Nat} {r:Nat×Nat},dO p qu l i=some r→i≤r.1∧∃h:r.1 - i<l.length,∃h2:r.2<l[r.1 - i].asks.length,p l[r.1 - i].asks[r.2]=true∧l[r.1 - i].queue=qu
 | [],_,_,h=>by cases h
 | a::t,i,r,h=>by
  have go:dO p qu t (i+1)=some r→i≤r.1∧∃h:r.1 - i<(a::t).length,∃h2:r.2<(a::t)[r.1 - i].asks.length,p (a::t)[r.1 - i].asks[r.2]=true∧(a::t)[r.1 - i].queue=qu:=fun h=>by
   obtain ⟨h1,h2,h3,h4,h5⟩:=aAn h
   have e:r.1 - i=(r.1 - (i+1))+1:=by omega
   refine ⟨by omega,by simp only [List.length_cons];omega,?_⟩
   simp only [e,List.getElem_cons_succ]
   exact ⟨h3,h4,h5⟩
  rw [dO] at h
  split at h
  ·rename_i hq
   split at h
   ·rename_i k hk
    cases h
    obtain ⟨h1,h2⟩:=aAm hk
    refine ⟨yJ _,by simp,?_⟩
    simp only [Nat.sub_self,List.getElem_cons_zero,Nat.sub_zero] at h1 h2 ⊢
    exact ⟨h1,h2,hq⟩
   ·exact go h
  ·exact go h
theorem aAG {s:St} {nd:List UInt8} {r:Nat×Nat}:∀{l:List (List UInt8)},iA s nd l=some r→∃h:r.1<s.apps.length,∃h2:r.2<s.apps[r.1].asks.length,aIf s nd s.apps[r.1].queue s.apps[r.1].asks[r.2]=true
 | [],h=>by cases h
 | q::t,h=>by
  rw [iA] at h
  split at h
  ·rename_i r' hr
   cases h
   obtain ⟨_,h2,h3,h4,h5⟩:=aAn hr
   simp only [Nat.sub_zero] at h2 h3 h4 h5
   exact ⟨h2,h3,by rw [h5];exact h4⟩
  ·exact aAG h
theorem aB3 {s:St} {nd:List UInt8} {p:(Nat×Nat)×Con} (h:aX s nd=some p):aS (bQ s p)=true:=by
 obtain ⟨hk,hn,hl,h1,h2,e⟩:=jW h
 have hk':=hk
 simp only [aS,gM,yK,gF,iW,yL] at hk
 obtain ⟨k1,k2,k3,k4,k5,⟨k6,k7⟩,⟨k8,k9,k10⟩,k11,k12⟩:=hk
 unfold uT at hn
 split at hn
 case isFalse=>cases hn
 rename_i hm
 simp only [aLD,mW,yK,yL,Bool.not_eq_true',List.any_eq_false,beq_iff_eq] at hm
 obtain ⟨m1,m2,m3,m4⟩:=hm
 have can:aIf s nd s.apps[p.1.1].queue s.apps[p.1.1].asks[p.1.2]=true:=by
  cases hp:nN s nd with
  | none=>rw [hp] at hn;cases hn
  | some r=>
   rw [hp] at hn
   obtain rfl:=Option.some.inj hn
   obtain ⟨_,_,c⟩:=aAG hp
   exact c
 simp only [aIf,yK] at can
 obtain ⟨mm,hmm⟩:=Option.isSome_iff_exists.1 m1
 have mk:=(oH _ _).1 k8
 have hask:fK s.apps[p.1.1].asks[p.1.2]=true:=by
  have go:∀(l:List bY) (last:Int),aZ s.qs s.next last l=true→∀a ∈ l,jB a.asks=true:=fun l=>by
   induction l with
   | nil=>intro _ _ a ha;cases ha
   | cons b t ih=>
    intro last h a ha
    simp only [aZ,yK,yL] at h
    rcases List.mem_cons.1 ha with rfl | ha
    ·exact h.2.2.2.1
    ·exact ih _ h.2.2.2.2 a ha
  have:=go _ _ k7 _ (yM h1)
  simp only [jB,yK,List.all_eq_true] at this
  exact this.2 _ (yM h2)
 simp only [fK,yK] at hask
 have hsr:=hask.1
 have hrs:aL s.apps[p.1.1].asks[p.1.2].mem s.apps[p.1.1].asks[p.1.2].cpu=true:=by simp only [mG,yK] at hsr;exact hsr.1
 have hid:0<idV s:=by
  simp only [inB,yL] at k3 k5
  unfold idV
  omega
 have hl':(mE s.cs p.2).length≤150:=by rw [aB0];omega
 simp only [aS,gM,yK,gF,iW]
 refine ⟨k1,k2,k3,k4,?_,⟨decide_eq_true (by simpa [bQ,bL] using k6),yN _ _ _ k7⟩,⟨(oH _ _).2 ⟨mk.1,fun m hm=>?_⟩,k9,decide_eq_true k10⟩,decide_eq_true hl',?_⟩
 all_goals simp only [bQ]
 ·simp only [inB,yL] at k5 ⊢
  unfold dC
  split<;>omega
 ·rw [e]
  refine aJW (mk.2 m hm) hrs (fun en=>?_)
  have hfm:=sK _ _ mk.1 m hm
  have hw:=can.2.1
  simp only [fI] at hw
  rw [show nd=m.name from en,hfm] at hw
  have hh:=mk.2 m hm
  simp only [uW,yK,within,yL] at hh
  obtain ⟨a1,a2,⟨⟨a3,_⟩,a4⟩,a5⟩:=hh
  have es:=aEe _ _ _ a2
  have b1:=bN a1
  have b3:=bN a3
  rw [gX] at a3 a4 a5 b3
  have hb:aI (-1) m.mem m.cpu (fV s m.name).1 (fV s m.name).2=true:=by
   simp only [aI,yK]
   exact ⟨⟨a1,a3⟩,aEk (by
    show 0≤m.mem + -1*(aT (aJ (fun q=>decide (q.node=m.name)) s.cs) 0 0).1∧m.mem + -1*(aT (aJ (fun q=>decide (q.node=m.name)) s.cs) 0 0).1≤1000000000∧0≤m.cpu + -1*(aT (aJ (fun q=>decide (q.node=m.name)) s.cs) 0 0).2.1∧m.cpu + -1*(aT (aJ (fun q=>decide (q.node=m.name)) s.cs) 0 0).2.1≤1000000000
    omega)⟩
  simp only [aCc] at hw
  rw [if_pos hb] at hw
  simp only [within,yK,yL] at hw
  have w1:s.apps[p.1.1].asks[p.1.2].mem≤m.mem + -1*(aT (aJ (fun q=>decide (q.node=m.name)) s.cs) 0 0).1:=hw.1.2
  have w2:s.apps[p.1.1].asks[p.1.2].cpu≤m.cpu + -1*(aT (aJ (fun q=>decide (q.node=m.name)) s.cs) 0 0).2.1:=hw.2
  show s.apps[p.1.1].asks[p.1.2].mem+_≤_∧s.apps[p.1.1].asks[p.1.2].cpu+_≤_
  omega
 ·rw [e]
  refine aDE (fun id=>aB4) m3 ?_ m1 hsr _ _ hid (fun d hd=>m4 d hd) k12
  rw [dK,List.find?_isSome]
  exact ⟨_,yM h1,by simp⟩
def aW (nd:List UInt8):Nat→St→St×List Con
 | 0,s=>(s,[])
 | n+1,s=>match aX s nd with
  | none=>(s,[])
  | some p=>((aW nd n (bQ s p)).1,p.2::(aW nd n (bQ s p)).2)
theorem xI {nd:List UInt8} {n:Nat} {s:St} (h:aX s nd=none):aW nd n s=(s,[]):=by
 cases n with
 | zero=>rfl
 | succ n=>rw [aW,h]
theorem xH {nd:List UInt8} {n:Nat} {s:St} {p:(Nat×Nat)×Con} (h:aX s nd=some p):aW nd (n+1) s=((aW nd n (bQ s p)).1,p.2::(aW nd n (bQ s p)).2):=by
 rw [aW,h]
theorem aCw {nd:List UInt8} (hn:nd.length≤1048576):∀(n:Nat) {s:St},aS s=true→bD s→pX s→aS (aW nd n s).1=true∧bD (aW nd n s).1∧pX (aW nd n s).1∧(aW nd n s).2.length≤n∧(∀c ∈ (aW nd n s).2,c.node=nd)
 | 0,s,h1,h2,h3=>⟨h1,h2,h3,yJ _,fun c hc=>by cases hc⟩
 | n+1,s,h1,h2,h3=>by
  cases h:aX s nd with
  | none=>rw [xI h];exact ⟨h1,h2,h3,Nat.zero_le _,fun c hc=>by cases hc⟩
  | some p=>
   have f:=rE h2 hn
   have w:=aAq h3 nd
   rw [dX h] at f w
   obtain ⟨i1,i2,i3,i4,i5⟩:=aCw hn n (aB3 h) f w
   rw [xH h]
   refine ⟨i1,i2,i3,by simp only [List.length_cons];omega,fun c hc=>?_⟩
   rcases List.mem_cons.1 hc with rfl | hc
   ·obtain ⟨_,_,_,_,_,e⟩:=jW h
    rw [e]
   ·exact i5 c hc
def iM (nd:List UInt8) (a:Ask):Ask:=if jJ a nd=true then a else ⟨a.mem,a.cpu,a.count,a.node,min (a.missed+1) 1000⟩
def aJA (nd:List UInt8) (l:List Ask):List Ask:=l.map (iM nd)
def aCL (nd:List UInt8) (a:bY):bY:=⟨a.id,a.queue,aJA nd a.asks⟩
def iK (s:St) (nd:List UInt8):St:=⟨s.qs,s.clock,s.epoch,s.next,s.serial,s.apps.map (aCL nd),s.ms,s.cs⟩
theorem aFo (nd:List UInt8) (a:Ask):(iM nd a).node=a.node:=by unfold iM;split<;>rfl
theorem aFn {nd:List UInt8} {a:Ask} (h:fK a=true):iM nd a=if jJ a nd=false∧a.missed<1000 then ⟨a.mem,a.cpu,a.count,a.node,a.missed+1⟩ else a:=by
 simp only [fK,yK,inB,yL] at h
 have hm:=h.2.2.2
 unfold iM
 cases hs:jJ a nd
 ·rw [if_neg (by simp)]
  by_cases hl:a.missed<1000
  ·rw [if_pos ⟨rfl,hl⟩,show min (a.missed+1) 1000=a.missed+1 by omega]
  ·rw [if_neg (fun h=>hl h.2),show min (a.missed+1) 1000=a.missed by omega]
 ·rw [if_pos rfl,if_neg (fun h=>by cases h.1)]
theorem aIz {s:St} (hf:bD s) (nd:List UInt8):bD (iK s nd):=by
 refine ⟨hf.1,⟨by simp only [iK,List.length_map];exact hf.2.1.1,fun a ha=>?_⟩,hf.2.2⟩
 obtain ⟨b,hb,rfl⟩:=List.mem_map.1 ha
 have:=hf.2.1.2 b hb
 refine ⟨this.1,by simp only [aCL,aJA,List.length_map];exact this.2.1,fun q hq=>?_⟩
 obtain ⟨r,hr,rfl⟩:=List.mem_map.1 hq
 rw [aFo]
 exact this.2.2 r hr
theorem aKJ {s:St} (hw:pX s) (nd:List UInt8):pX (iK s nd):=by
 refine ⟨fun a ha=>?_,hw.2⟩
 obtain ⟨b,hb,rfl⟩:=List.mem_map.1 ha
 exact hw.1 b hb
theorem aH2 {s:St} (h:aS s=true):∀a ∈ s.apps,a.asks.length≤10∧∀q ∈ a.asks,fK q=true:=by
 simp only [aS,gM,yK,gF,yL] at h
 have go:∀(l:List bY) (last:Int),aZ s.qs s.next last l=true→∀a ∈ l,jB a.asks=true:=fun l=>by
  induction l with
  | nil=>intro _ _ a ha;cases ha
  | cons b t ih=>
   intro last h a ha
   simp only [aZ,yK,yL] at h
   rcases List.mem_cons.1 ha with rfl | ha
   ·exact h.2.2.2.1
   ·exact ih _ h.2.2.2.2 a ha
 intro a ha
 have:=go _ _ h.2.2.2.2.2.1.2 a ha
 simp only [jB,yK,List.all_eq_true,yL] at this
 exact this
def fH (s:St) (nd:List UInt8) (most:Int):St×List Con:=
 if aS s=true∧(bF nd s.ms).isSome=true∧0≤most∧most≤50 then (iK (aW nd most.toNat s).1 nd,(aW nd most.toNat s).2) else (s,[])
theorem aEQ {s:St} {nd:List UInt8} {most:Int} (hn:nd.length≤1048576) (hf:bD s) (hw:pX s):bD (fH s nd most).1∧pX (fH s nd most).1∧(fH s nd most).2.length≤50:=by
 unfold fH
 split
 ·rename_i h
  obtain ⟨_,f,w,l,_⟩:=aCw hn most.toNat h.1 hf hw
  exact ⟨aIz f nd,aKJ w nd,by show (aW nd most.toNat s).2.length≤50;omega⟩
 ·exact ⟨hf,hw,Nat.zero_le _⟩
def gW {α:Type} (f:α→α) (l:List α) (i:Nat):List α:=(l.take i).map f++l.drop i
theorem sJ {α:Type} (f:α→α) (l:List α):gW f l 0=l:=by simp [gW]
theorem wR {α:Type} (f:α→α) (l:List α) {i:Nat} (h:l.length≤i):gW f l i=l.map f:=by
 rw [gW,List.take_of_length_le h,List.drop_of_length_le h,List.append_nil]
theorem iB {α:Type} (f:α→α) (l:List α) (i:Nat):(gW f l i).length=l.length:=by
 rw [gW,List.length_append,List.length_map,List.length_take,List.length_drop];omega
theorem kS {α:Type} (f:α→α) (l:List α) {i k:Nat} (hk:k<l.length):(gW f l i)[k]'(by rw [iB];exact hk)=if k<i then f l[k] else l[k]:=by
 unfold gW
 rw [List.getElem_append]
 split
 ·rename_i h
  simp only [List.length_map,List.length_take] at h
  rw [if_pos (by omega),List.getElem_map,List.getElem_take]
 ·rename_i h
  simp only [List.length_map,List.length_take] at h
  rw [if_neg (by omega)]
  simp only [List.length_map,List.length_take,List.getElem_drop]
  congr 1
  omega
theorem oG {α:Type} (f:α→α) (l:List α) {i:Nat} (h:i<l.length):gW f l (i+1)=(gW f l i).set i (f l[i]):=by
 refine List.ext_getElem (by rw [List.length_set,iB,iB]) (fun k h1 h2=>?_)
 rw [iB] at h1
 rw [kS f l h1,List.getElem_set]
 split
 ·rename_i hk
  split
  ·rename_i e;subst e;rfl
  ·rename_i e;rw [kS f l h1,if_pos (by omega)]
 ·rename_i hk
  rw [if_neg (by omega),kS f l h1,if_neg (by omega)]
theorem aA6 {α:Type} (f:α→α) (l:List α) {i:Nat} (h:i<l.length) (e:f l[i]=l[i]):gW f l (i+1)=gW f l i:=by
 rw [oG f l h,e]
 have:l[i]=(gW f l i)[i]'(by rw [iB];exact h):=by rw [kS f l h,if_neg (Nat.lt_irrefl _)]
 rw [this,List.set_getElem_self]
theorem yS:∀(l:List Ask) (k:Nat) (h:k<l.length) (c:Int),aK (l.set k ⟨l[k].mem,l[k].cpu,l[k].count,l[k].node,c⟩)=(aK l).set (k*5+4) (.int .i64 c)
 | [],k,h,_=>by simp at h
 | q::t,0,_,c=>by simp [aK,aGa]
 | q::t,k+1,h,c=>by
  have ih:=yS t k (by simpa using h) c
  simp only [sC,List.getElem_cons_succ,aK,aGa] at ih ⊢
  rw [ih,show (k+1)*5+4=k*5+4+1+1+1+1+1 by omega]
  simp
def eD (s:St) (i:Nat) (l:List Ask):St:=⟨s.qs,s.clock,s.epoch,s.next,s.serial,s.apps.modify i (fun a=>⟨a.id,a.queue,l⟩),s.ms,s.cs⟩
def dJ (s:St) (nd:List UInt8) (i:Nat):St:=⟨s.qs,s.clock,s.epoch,s.next,s.serial,gW (aCL nd) s.apps i,s.ms,s.cs⟩
theorem wF (s:St) (nd:List UInt8):dJ s nd 0=s:=by rw [dJ,sJ]
theorem aAS (s:St) (nd:List UInt8) {i:Nat} (h:s.apps.length≤i):dJ s nd i=iK s nd:=by rw [dJ,wR _ _ h];rfl
theorem iL (s:St) (nd:List UInt8) (i:Nat):(dJ s nd i).apps.length=s.apps.length:=iB _ _ _
theorem aCK {s:St} {nd:List UInt8} {i:Nat} (h:i<s.apps.length):(dJ s nd i).apps[i]'(by rw [iL];exact h)=s.apps[i]:=by
 have:=kS (aCL nd) s.apps (i:=i) h
 rw [if_neg (Nat.lt_irrefl _)] at this
 exact this
theorem aAl (s:St) (i:Nat) (l:List Ask):(eD s i l).apps.length=s.apps.length:=List.length_modify ..
theorem aDM {s:St} {i:Nat} {l:List Ask} (h:i<s.apps.length) (h2:i<(eD s i l).apps.length):(eD s i l).apps[i]=⟨s.apps[i].id,s.apps[i].queue,l⟩:=by
 simp only [eD,List.getElem_modify,if_true]
theorem xZ {s:St} {i:Nat} (h:i<s.apps.length):eD s i s.apps[i].asks=s:=by
 unfold eD
 have:s.apps.modify i (fun a=>⟨a.id,a.queue,s.apps[i].asks⟩)=s.apps:=by
  refine List.ext_getElem (by simp) (fun j h1 h2=>?_)
  rw [List.getElem_modify]
  split
  ·rename_i e;subst e;rfl
  ·rfl
 rw [this]
theorem wG {s:St} {nd:List UInt8} {i:Nat} (h:i<s.apps.length):eD (dJ s nd i) i (aJA nd s.apps[i].asks)=dJ s nd (i+1):=by
 unfold eD dJ
 simp only
 rw [oG (aCL nd) s.apps h]
 have:(gW (aCL nd) s.apps i).modify i (fun a=>⟨a.id,a.queue,aJA nd s.apps[i].asks⟩)=(gW (aCL nd) s.apps i).set i (aCL nd s.apps[i]):=by
  refine List.ext_getElem (by simp) (fun j h1 h2=>?_)
  have hj:j<s.apps.length:=by rw [List.length_modify,iB] at h1;exact h1
  rw [List.getElem_modify,List.getElem_set]
  split
  ·rename_i e;subst e
   rw [kS _ _ hj,if_neg (Nat.lt_irrefl _)]
   rfl
  ·rfl
 rw [this]
def aJk (B:Nat) (w:World) (k:Nat):Prop:=B≤k∧∃N,Cel w 77 k N
theorem dR.head {B:Nat} {w:World} {y:Sls} {s:St} {hs:List AV} (h:dR B w y s hs) {i:Nat} (hi:i<hs.length):∃pg,y.aa=some ⟨pg,0,none⟩∧w.cell? ⟨pg,i*3,none⟩=some (.int .i64 hs[i].id)∧w.cell? ⟨pg,i*3+1,none⟩=some (.string (bs hs[i].queue))∧w.cell? ⟨pg,i*3+2,none⟩=some (.slice hs[i].ao hs[i].len hs[i].cap):=by
 have hl:y.al=hs.length:=h.p.1.1
 rcases h.p.2 with e | ⟨g,M,e,_⟩
 ·omega
 ·have hp:=h.p
  rw [e] at hp
  obtain ⟨M2,_,_,hlay,_,_⟩:=hp.lay (by omega)
  have hc:=kC hs i hi
  exact ⟨g,e,hlay.cell hc.1,hlay.cell hc.2.1,hlay.cell hc.2.2⟩
theorem dR.asked {B ga i k:Nat} {w:World} {y:Sls} {s:St} {hs:List AV} {l:List Ask} (h:dR B w y (eD s i l) hs) (hi:i<s.apps.length) (hih:i<hs.length) (hga:hs[i].ao=some ⟨ga,0,none⟩) (hk:k<l.length) :
  (∃N,Cel w 77 ga N)∧B≤ga∧hs[i].len=l.length∧pV w ga (k*5) l[k]:=by
 obtain ⟨_,_,hrow,_⟩:=h.k.heads.2 i hih (by rw [aAl];exact hi)
 rw [aDM hi,hga] at hrow
 simp only at hrow
 rcases h.k.own _ (yM hih) with h0 | ⟨g,M,e2,hB,hlt,hc,_⟩
 ·have:=hrow.1;omega
 ·rw [hga] at e2;cases e2
  obtain ⟨b,off,e3,ha⟩:=hrow.at (i:=k) (by have:=hrow.1;omega)
  cases e3
  have:=ha hk
  rw [Nat.zero_add] at this
  exact ⟨⟨_,hc⟩,hB,hrow.1,this⟩
theorem dR.miss {B ga i k:Nat} {w:World} {y:Sls} {s:St} {hs:List AV} {l:List Ask} (h:dR B w y (eD s i l) hs) (hi:i<s.apps.length) (hih:i<hs.length) (hga:hs[i].ao=some ⟨ga,0,none⟩) (hk:k<l.length) (c:Int) :
  dR B (w.setCell ⟨ga,k*5+4,none⟩ (.int .i64 c)) y (eD s i (l.set k ⟨l[k].mem,l[k].cpu,l[k].count,l[k].node,c⟩)) hs:=by
 have hia:i<(eD s i l).apps.length:=by rw [aAl];exact hi
 obtain ⟨_,_,hrow,hlc⟩:=h.k.heads.2 i hih hia
 rw [aDM hi,hga] at hrow
 simp only at hrow
 have hlen:hs[i].len≠0:=by have:=hrow.1;omega
 obtain ⟨M,hB,hcel,hM⟩:∃M,B≤ga∧Cel w 77 ga (M*5)∧hs[i].len≤M:=by
  rcases h.k.own _ (yM hih) with h0 | ⟨g,M,e2,hB,_,hc,hM⟩
  ·exact absurd h0 hlen
  ·rw [hga] at e2;cases e2;exact ⟨M,hB,hc,hM⟩
 have hlay:Lay w 77 ga (M*5) (aK l):=hrow.lay hcel (Nat.mul_le_mul_right _ (by have:=hrow.1;omega))
 have hl2:=aBU hlay (p:=k*5+4) (by rw [aU];omega) (.int .i64 c)
 rw [←yS l k hk] at hl2
 have hr:=hl2.rowA
 have hm:Mks (fun b=>b=ga) w (w.setCell ⟨ga,k*5+4,none⟩ (.int .i64 c)):=Mks.one _ _ _ _ _ rfl
 have hS:∀k,k=ga→∃N,Cel w 77 k N:=fun k e=>by subst e;exact ⟨_,hcel⟩
 have hset:hs.set i ⟨hs[i].id,hs[i].queue,some ⟨ga,0,none⟩,hs[i].len,hs[i].cap⟩=hs:=by rw [←hga];exact List.set_getElem_self hih
 have hk2:=h.k.upd (n':=hs[i].len) hih hia hga hlen hm (by rw [List.length_set,←hrow.1] at hr;exact hr) (yJ _)
 rw [hset] at hk2
 have hmm:(eD s i l).apps.modify i (fun a=>⟨a.id,a.queue,l.set k ⟨l[k].mem,l[k].cpu,l[k].count,l[k].node,c⟩⟩)=(eD s i (l.set k ⟨l[k].mem,l[k].cpu,l[k].count,l[k].node,c⟩)).apps:=by
  refine List.ext_getElem (by simp [eD]) (fun j h1 h2=>?_)
  simp only [eD,List.getElem_modify]
  split<;>rfl
 rw [hmm] at hk2
 exact ⟨h.q.mkg hm hS (by decide),h.p.mkg hm hS (by decide),hk2,h.m.mkg hm hS (by decide),h.c.mkg hm hS (by decide),h.cap,(h.rm.mks hm).mono (yJ _) hm.size⟩
def aKl (B:Nat) (y:Sls) (s:St) (hs:List AV) (nd:List UInt8) (w:World) (e:Ending) (w':World):Prop:=e=.returned (.tuple #[])∧dR B w' y (iK s nd) hs∧Mks (aJk B w) w w'
theorem aCM {B b:Nat} {y:Sls} {s:St} {hs:List AV} {w:World} (h:dR B w y s hs) (hbx:Blk w b (svc y s) 34) (nd:List UInt8) (hf:bD s) (hok:∀a ∈ s.apps,∀q ∈ a.asks,fK q=true) :
  Calls Tryz.prog 46 #[.pointer (some ⟨b,0,none⟩),.string (bs nd)] w (aKl B y s hs nd w):=by
 have hhl:hs.length=s.apps.length:=h.k.heads.1
 have hal:y.al=hs.length:=h.p.1.1
 have hal2:y.al≤1048576:=by have:=hf.2.1.1;omega
 have H0:=aA (show dR B w y (dJ s nd 0) hs by rw [wF];exact h)
 have HL:=aA (show y.al=s.apps.length by omega)
 have HHL:=aA hhl
 have HE:=aA (fun i (hi:s.apps.length≤i)=>aAS s nd hi)
 have HAS:=aA (fun i (hi:i<s.apps.length)=>aCK (nd:=nd) hi)
 have HST:=aA (fun i (hi:i<s.apps.length)=>wG (nd:=nd) hi)
 have HFL:=aA (fun i (hi:i<s.apps.length)=>(hf.2.1.2 _ (yM hi)).2.1)
 have HOK:=aA (fun i (hi:i<s.apps.length) k (hk:k<s.apps[i].asks.length)=>hok _ (yM hi) _ (yM hk))
 have HCE:=aA (fun v (hv:v ∈ hs)=>h.k.own v hv)
 have c5:=hbx.at 5
 simp at c5
 obtain ⟨Y,hY⟩:∃t,y=t:=⟨_,rfl⟩
 have hYa:Y.aa=y.aa:=by rw [hY]
 rw [hY] at H0
 have HYA:=aA hYa
 have HPA:=aA (show aKl B Y s hs nd w=aKl B y s hs nd w by rw [hY])
 rw [←uH HPA]
 clear h hbx hf hok hhl hal hY hYa HPA
 obtain ⟨qa,ql,qc,aa,al,ac,ma,ml,mc,ca,cl,cc⟩:=y
 simp only at c5 HL HYA hal2
 go_enter Tryz.func46,Tryz.ntmps46
 go_wp2
 go_loopw [5,6,7,13] (fun _ _ _ i wr=>∃i':Nat,i'≤al∧i=.int .i64 i'∧Hid (dR B wr Y (dJ s nd i') hs)∧Hid (Mks (aJk B w) w wr)) (fun _ _ _ i _=>al - (intOf i).toNat)
 case atStart=>exact ⟨0,Nat.zero_le _,rfl,H0,aA (Mks.refl _ _)⟩
 case round=>
  obtain ⟨i,hi,rfl,HS,HM⟩:=hrel
  obtain ⟨wi,rfl⟩:∃wo:World,wo=wr:=⟨_,rfl⟩
  clear H0 c5
  by_cases hlt:i<al
  ·have hil:i<s.apps.length:=by have:=uH HL;omega
   have hih:i<hs.length:=by have:=uH HHL;omega
   obtain ⟨pg,hpg,c0,c1,c2⟩:=(uH HS).head hih
   rw [uH HYA] at hpg
   subst hpg
   have hrow:=((uH HS).k.heads.2 i hih (by rw [iL];exact hil)).2.2.1
   rw [uH HAS i hil] at hrow
   have hvl:hs[i].len=s.apps[i].asks.length:=hrow.1
   have HI0:=aA (show dR B wi Y (eD (dJ s nd i) i (gW (iM nd) s.apps[i].asks 0)) hs by
    have:=xZ (s:=dJ s nd i) (i:=i) (by rw [iL];exact hil)
    rw [uH HAS i hil] at this
    rw [sJ,this]
    exact uH HS)
   have HIE:=aA (show eD (dJ s nd i) i (gW (iM nd) s.apps[i].asks s.apps[i].asks.length)=dJ s nd (i+1) by rw [wR _ _ (yJ _)];exact uH HST i hil)
   have hxl:=uH HFL i hil
   have HOKi:=aA (uH HOK i hil)
   have HCi:=aA (uH HCE _ (yM hih))
   have HIL:=aA (show i<(dJ s nd i).apps.length by rw [iL];exact hil)
   obtain ⟨asks,hak⟩:∃t,s.apps[i].asks=t:=⟨_,rfl⟩
   rw [hak] at hvl hxl HI0 HIE HOKi
   obtain ⟨v,hv⟩:∃t,hs[i]=t:=⟨_,rfl⟩
   have HV:=aA hv
   rw [hv] at c0 c1 c2 hvl HCi
   obtain ⟨vi,vq,vo,vl,vc⟩:=v
   simp only at c0 c1 c2 hvl HCi
   have HVL:=aA hvl
   have hvl2:vl≤1048576:=by omega
   have i0:(0:Int)≤i:=by omega
   have i1:(i:Int)<al:=by omega
   clear hrow hak hv hvl hxl hil HS
   have HIa:=aA ((uH HI0).below (yA (yH _ wi) (.cells #[.int .i64 vi,.string (bs vq),.slice vo vl vc] 74)))
   have HMa:=aA ((uH HM).on (yA (yH _ wi) (.cells #[.int .i64 vi,.string (bs vq),.slice vo vl vc] 74)))
   have A0:=aA (yD wi #[.int .i64 vi,.string (bs vq),.slice vo vl vc] 74)
   have hgw:w.heap.size≤wi.heap.size:=(uH HM).size
   obtain ⟨g5,hg5⟩:∃g,wi.heap.size=g:=⟨_,rfl⟩
   rw [hg5] at A0 hgw
   have HG5:=aA hg5
   clear HI0 HM hg5
   have e2:(wi.alloc (.cells #[.int .i64 vi,.string (bs vq),.slice vo vl vc] 74)).cell? ⟨wi.heap.size,2,none⟩=some (.slice vo vl vc):=by rw [uH HG5];exact (uH A0).at 2
   go_wp2
   try rw [uH HG5]
   clear e2 c0 c1 c2
   go_loopw [6,7,20] (fun _ _ j wr=>∃k:Nat,k≤vl∧j=.int .i64 k∧Hid (dR B wr Y (eD (dJ s nd i) i (gW (iM nd) asks k)) hs)∧Hid (Mks (aJk B w) w wr)∧Hid (Blk wr g5 #[.int .i64 vi,.string (bs vq),.slice vo vl vc] 74)) (fun _ _ j _=>vl - (intOf j).toNat)
   case atStart=>exact ⟨0,Nat.zero_le _,rfl,HIa,HMa,A0⟩
   case round=>
    obtain ⟨k,hk,rfl,HSk,HMk,HBk⟩:=hrel
    obtain ⟨wk,rfl⟩:∃wo:World,wo=wr:=⟨_,rfl⟩
    clear HIa HMa A0
    by_cases hkl:k<vl
    ·have hka:k<asks.length:=by have:=uH HVL;omega
     obtain ⟨ga,M,rfl,hB,hgl,hcel,hM⟩:∃g M,vo=some ⟨g,0,none⟩∧B≤g∧g<w.heap.size∧Cel w 77 g (M*5)∧vl≤M:=by
      rcases uH HCi with e | e
      ·omega
      ·exact e
     have hga:hs[i].ao=some ⟨ga,0,none⟩:=by rw [uH HV]
     have hkm:k<(gW (iM nd) asks k).length:=by rw [iB];exact hka
     have hmk:(gW (iM nd) asks k)[k]=asks[k]:=by rw [kS _ _ hka,if_neg (Nat.lt_irrefl _)]
     obtain ⟨⟨N,hcN⟩,_,_,d0,d1,d2,d3,d4⟩:=(uH HSk).asked (uH HIL) hih hga hkm
     have HSM:=aA (fun wx (hb:Below wk.heap.size wk wx) c=>((uH HSk).below hb).miss (uH HIL) hih hga hkm c)
     have HOKq:=aA (uH HOKi k hka)
     have HSAME:=aA (fun (e:iM nd asks[k]=asks[k])=>aA6 (iM nd) asks hka e)
     have HSTEP:=aA (oG (iM nd) asks hka)
     rw [hmk] at d0 d1 d2 d3 d4 HSM
     obtain ⟨q,hq⟩:∃q,asks[k]=q:=⟨_,rfl⟩
     rw [hq] at d0 d1 d2 d3 d4 HSM HOKq HSAME HSTEP
     have CS:=aA (fun wx=>qZ q nd wx)
     have HPS:=aA (show ∀su,jJ q nd=su→iM nd q=if su=true then q else ⟨q.mem,q.cpu,q.count,q.node,min (q.missed+1) 1000⟩ from fun su e=>by rw [iM,e])
     have hmb : -9000000000000000000≤q.missed∧q.missed≤9000000000000000000:=by
      have:=uH HOKq
      simp only [fK,yK,inB,yL] at this
      omega
     obtain ⟨me,cp,ct,nx,mi⟩:=q
     simp only at d0 d1 d2 d3 d4 HSM CS HPS hmb
     obtain ⟨su,hsu⟩:∃t,jJ ⟨me,cp,ct,nx,mi⟩ nd=t:=⟨_,rfl⟩
     have HQ:=aA (uH HPS su hsu)
     rw [hsu] at CS
     have j0:(0:Int)≤k:=by omega
     have j1:(k:Int)<vl:=by omega
     have b7:=yA (yH _ wk) (.cells #[.int .i64 me,.int .i64 cp,.int .i64 ct,.string (bs nx),.int .i64 mi] 77)
     have hd4:=aA d4
     have A7:=aA (yD wk #[.int .i64 me,.int .i64 cp,.int .i64 ct,.string (bs nx),.int .i64 mi] 77)
     have B7:=aA b7
     have HN:=aA (show wk.cell? ⟨ga,k*5+4,none⟩=some (.int .i64 mi)∧Cel wk 77 ga N from ⟨d4,hcN⟩)
     have hgk:ga<wk.heap.size:=hcN.lt
     clear hka hkm hmk hq hsu HPS hcN b7 HOKq hd4
     go_wp2_with fail
     refine (uH CS _).mono ?_
     rintro e w8 ⟨rfl,hb⟩
     have B8:=aA (yB (uH B7) hb)
     have A8:=aA ((uH A7).below hb)
     clear hb B7 A7 CS d0 d1 d2 d3 d4
     cases su
     case true=>
      have HR:=aA (show dR B w8 Y (eD (dJ s nd i) i (gW (iM nd) asks (k+1))) hs by
       rw [uH HSAME (by rw [uH HQ,if_pos rfl])]
       exact (uH HSk).below (uH B8))
      have HM8:=aA ((uH HMk).on (uH B8))
      have HB8:=aA ((uH HBk).below (uH B8))
      clear HSk HMk HBk HSM HSAME HSTEP
      go_wp2
      go_roundw
      case rel=>exact ⟨k+1,by omega,by go_num,HR,HM8,HB8⟩
      case measure=>simp [intOf];omega
     case false=>
      obtain ⟨mm,hmm⟩:∃m,min (mi+1) 1000=m:=⟨_,rfl⟩
      have HR:=aA (show dR B (w8.setCell ⟨ga,k*5+4,none⟩ (.int .i64 mm)) Y (eD (dJ s nd i) i (gW (iM nd) asks (k+1))) hs by
       rw [uH HSTEP,uH HQ,if_neg (by decide),hmm]
       exact uH HSM w8 (uH B8) mm)
      have HM8:=aA (((uH HMk).on (uH B8)).trans (Mks.one (aJk B w) w8 ga (k*5+4) (.int .i64 mm) ⟨hB,_,hcel⟩))
      have HB8:=aA (((uH HBk).below (uH B8)).other ga (k*5+4) (.int .i64 mm) (by omega))
      have q2:=((uH HBk).below (uH B8)).at 2
      have q4:=(uH A8).at 4
      simp at q2 q4
      have d4:=((uH B8).cell hgk).trans (uH HN).1
      have f4:=((uH HN).2.below (uH B8)).frozen (k*5+4)
      have hwm:IntKind.i64.wrap (mi+1)=mi+1:=by rw [IntKind.wrap_i64];omega
      have hmr:=aDu (mi+1) 1000
      rw [hmm] at hmr
      clear HSk HMk HBk HSM HSAME HSTEP hmm HN A8
      go_wp2
      go_roundw
      case rel=>exact ⟨k+1,by omega,by go_num,HR,HM8,HB8⟩
      case measure=>simp [intOf];omega
    ·have hke:k=asks.length:=by have:=uH HVL;omega
     have HN:=aA (show dR B wk Y (dJ s nd (i+1)) hs by rw [←uH HIE,←hke];exact uH HSk)
     have j1:¬(k:Int)<vl:=by omega
     clear HSk hke
     go_wp2
     go_roundw
     case rel=>exact ⟨i+1,by omega,by go_num,HN,HMk⟩
     case measure=>simp [intOf];omega
  ·have hie:s.apps.length≤i:=by have:=uH HL;omega
   have HN:=aA (show dR B wi Y (iK s nd) hs by rw [←uH HE i hie];exact uH HS)
   have j1:¬(i:Int)<al:=by omega
   clear HS
   go_wp2
   first | go_end0 | (simp only [Exit.inBlock,Exit.then];refine bodyPost_ret (results_none rfl _ _ _) rfl ?_) | refine bodyPost_ret (results_none rfl _ _ _) rfl ?_
   exact ⟨rfl,uH HN,uH HM⟩
theorem dR.sc {B k j:Nat} {v:Value} {w:World} {x:Sls} {s:St} {hs:List AV} (h:dR B w x s hs) (hk:k<B):dR B (w.setCell ⟨k,j,none⟩ v) x s hs:=⟨h.q.sc hk,h.p.sc hk,h.k.sc (.inl hk),h.m.sc hk,h.c.sc hk,h.cap,(h.rm.sc k j v).mono (yJ _) (by rw [bG];exact yJ _)⟩
def aI6 (w:World) (s:St) (gone:List Con) (e:Ending) (w':World):Prop:=
 ∃y hs go gn gc,e=.returned (.tuple #[sv y s,.slice go gn gc])∧p8 w.heap.size w'.heap.size w' y s hs∧qA w.heap.size w' go gn gone∧(∀k,inR go gn k→¬inR y.ca y.cl k)∧Below w.heap.size w w'
theorem aI6.lay {w w':World} {s:St} {gone:List Con} {e:Ending} (h:aI6 w s gone e w'):∃y hs go gn gc,e=.returned (.tuple #[sv y s,.slice go gn gc])∧aBj w.heap.size w'.heap.size (w'.alloc (.cells (svc y s) 34)) w'.heap.size y s hs go gn gone∧Below w.heap.size w w':=by
 obtain ⟨y,hs,go,gn,gc,rfl,h1,h2,h3,h4⟩:=h
 have hb:=yA (yH _ w') (.cells (svc y s) 34)
 exact ⟨y,hs,go,gn,gc,rfl,⟨yD _ _ _,h1.below hb,h2.1.below hb,h2.2.below hb,h3,yJ _⟩,h4⟩
end
end Go.Proofs.YtdhibeclkdepiaaGreat
