/-
  Texts in one: KKey, AKey, ROwn, Caps, SumI4, CapI, CapsI, HasI, WfS, MKey, MacAt, Cel, MarkFM, MarkFC, MarkAM, OwnP, MarkS, VarB, RegM.
-/
import Derived.Test.YtdhibeclkdepiaaGreatSackG
import Derived.Lib.SliceRun
set_option maxRecDepth 100000
set_option maxHeartbeats 16000000
set_option linter.unusedVariables false
set_option linter.unusedSimpArgs false
namespace Go.Proofs.YtdhibeclkdepiaaGreat
section
open Go.RowKit Go.Maps
abbrev pW (nm:List UInt8) (k:Int):Value:=.agg #[.string (bs nm),.int .i64 k]
theorem aGM:laidOutB Tryz.prog=true:=by kernel_rfl
theorem aLO:(133:TypeId)<Tryz.prog.types.size:=of_decide_eq_true (by kernel_rfl)
theorem aK2:(match Tryz.prog.underlying 133 with | some (.array _ _) | some (.struct _)=>true | _=>false)=true:=by kernel_rfl
theorem jL:Keyed Tryz.prog 133:=Keyed.of_law (deep_law_laid aGM (m:=3) (by omega) aLO (by kernel_rfl) aK2)
theorem aGN:Tryz.prog.keyType 133=true:=by kernel_rfl
theorem aBX:Tryz.prog.cellsOf 133=2:=by kernel_rfl
theorem xC:Tryz.prog.cellsOf 3=1:=by kernel_rfl
theorem wZ:Tryz.prog.cellsOf 9=1:=by kernel_rfl
theorem uD:∃m,Tryz.prog.types.size+1=m+2:=⟨Tryz.prog.types.size - 1,by have:3≤Tryz.prog.types.size:=of_decide_eq_true (by kernel_rfl);omega⟩
theorem aHk (n:Nat) {a:Int} (h:(Lit.int .i64 a).wf=true):Tryz.prog.keyLits (n+1) 3 [.int .i64 a]=some [.int .i64 a]:=by
 simp [Program.keyLits,Tryz.underlying3,h]
theorem aHj (n:Nat) {s:ByteArray} (h:s.size≤maxLen):Tryz.prog.keyLits (n+1) 9 [.string s]=some [.string s.data.toList]:=by
 simp [Program.keyLits,Tryz.underlying9,h]
theorem aAa {nm:List UInt8} {k:Int} (hn:nm.length≤9223372036854775807) (hk:(Lit.int .i64 k).wf=true):∃kl,keyOf Tryz.prog 133 (pW nm k)=some kl:=by
 obtain ⟨m,hm⟩:=uD
 have hs:(bs nm).size≤maxLen:=by rw [dI];exact hn
 have h:Tryz.prog.keyLits (m+2) 133 [.string (bs nm),.int .i64 k]=some [.string (bs nm).data.toList,.int .i64 k]:=by
  have h:=Tryz.underlying133
  unfold Program.keyLits
  simp [h,aBX,xC,wZ,aHk m hk,aHj m hs]
 have hu:=Tryz.underlying133
 have hk:keyOf Tryz.prog 133 (pW nm k)=if Tryz.prog.keyType 133&&(pW nm k).formed Tryz.prog 133 then (Tryz.prog.keyLits (Tryz.prog.types.size+1) 133 (pW nm k).cells.toList).map (fun ls=>.string (keyBytes ls)) else none:=by
  unfold keyOf
  rw [hu]
 rw [hk,if_pos (by simp [aGN,Value.formed,hu,aBX]),hm,show (pW nm k).cells.toList=[.string (bs nm),.int .i64 k] from rfl,h]
 exact ⟨_,rfl⟩
theorem aE1 (s:ByteArray):bs s.data.toList=s:=by simp [bs]
structure AV where
 id:Int
 queue:List UInt8
 ao:Option Addr
 len:Nat
 cap:Nat
abbrev avv (v:AV):Value:=.agg #[.int .i64 v.id,.string (bs v.queue),.slice v.ao v.len v.cap]
def aGk (w:World) (b p:Nat) (v:AV):Prop:=
 w.cell? ⟨b,p,none⟩=some (.int .i64 v.id)∧w.cell? ⟨b,p+1,none⟩=some (.string (bs v.queue))∧w.cell? ⟨b,p+2,none⟩=some (.slice v.ao v.len v.cap)
theorem aGk.lt {w:World} {b p:Nat} {v:AV} (h:aGk w b p v):b<w.heap.size:=yG h.1
theorem aGk.below {w w':World} {b p:Nat} {v:AV} (h:aGk w b p v) (hb:Below w.heap.size w w'):aGk w' b p v:=
 ⟨(hb.cell h.lt).trans h.1,(hb.cell h.lt).trans h.2.1,(hb.cell h.lt).trans h.2.2⟩
def fA (w:World) (ao:Option Addr) (len:Nat) (l:List AV):Prop:=
 len=l.length∧(len=0∨∃b off,ao=some ⟨b,off,none⟩∧∀i (h:i<l.length),aGk w b (off+i*3) l[i])
theorem fA.below {w w':World} {ao:Option Addr} {len:Nat} {l:List AV} (h:fA w ao len l) (hb:Below w.heap.size w w'):fA w' ao len l:=by
 obtain ⟨h1,h2⟩:=h
 refine ⟨h1,?_⟩
 rcases h2 with h2 | ⟨b,off,h3,h4⟩
 ·exact .inl h2
 ·exact .inr ⟨b,off,h3,fun i h=>(h4 i h).below hb⟩
theorem fA.at {w:World} {ao:Option Addr} {len:Nat} {l:List AV} (h:fA w ao len l) {i:Nat} (hi:i<len):∃b off,ao=some ⟨b,off,none⟩∧∀(h:i<l.length),aGk w b (off+i*3) l[i]:=by
 obtain ⟨h1,h2⟩:=h
 rcases h2 with h2 | ⟨b,off,h3,h4⟩
 ·omega
 ·exact ⟨b,off,h3,fun hi=>h4 i hi⟩
def jH (w:World) (hs:List AV) (l:List bY):Prop:=
 hs.length=l.length∧∀i (h:i<hs.length) (h':i<l.length),hs[i].id=l[i].id∧hs[i].queue=l[i].queue∧aO w hs[i].ao hs[i].len l[i].asks∧hs[i].len≤hs[i].cap
theorem eO.heads {w:World} {ao:Option Addr} {len:Nat} {l:List bY} (h:eO w ao len l):∃hs,fA w ao len hs∧jH w hs l:=by
 obtain ⟨h1,h2⟩:=h
 by_cases h0:len=0
 ·have hl:l=[]:=List.length_eq_zero_iff.1 (by omega)
  subst hl
  exact ⟨[],⟨by simpa using h0,.inl h0⟩,rfl,fun i h=>by simp at h⟩
 ·rcases h2 with h2 | ⟨b,off,h3,h4⟩
  ·exact absurd h2 h0
  ·have inh:Inhabited AV:=⟨⟨0,[],none,0,0⟩⟩
   obtain ⟨F,hF⟩:=Go.Deep.choose_lt (α:=AV) (n:=l.length) (p:=fun i v=>∀hi:i<l.length,aGk w b (off+i*3) v∧v.id=l[i].id∧v.queue=l[i].queue∧aO w v.ao v.len l[i].asks∧v.len≤v.cap) (fun i hi=>by
    obtain ⟨x,y,z,a,c,d,e,f⟩:=h4 i hi
    exact ⟨⟨l[i].id,l[i].queue,x,y,z⟩,fun _=>⟨⟨a,c,d⟩,rfl,rfl,e,f⟩⟩)
   refine ⟨(List.range l.length).map F,⟨by simpa using h1,.inr ⟨b,off,h3,fun i hi=>?_⟩⟩,by simp,fun i hi hi'=>?_⟩
   ·have hi':i<l.length:=by simpa using hi
    simpa using (hF i hi' hi').1
   ·simpa using (hF i hi' hi').2
def yR:Option Addr→DataW Unit
 | none=>.agg []
 | some ⟨b,o,none⟩=>.agg [.lit (.int .i64 b),.lit (.int .i64 o)]
 | some ⟨b,o,some k⟩=>.agg [.lit (.int .i64 b),.lit (.int .i64 o),.lit (.int .i64 k)]
theorem aI2 {a b:Option Addr} (h:yR a=yR b):a=b:=by
 match a,b with
 | none,none=>rfl
 | none,some ⟨x,y,none⟩=>simp [yR] at h
 | none,some ⟨x,y,some z⟩=>simp [yR] at h
 | some ⟨x,y,none⟩,none=>simp [yR] at h
 | some ⟨x,y,some z⟩,none=>simp [yR] at h
 | some ⟨x,y,none⟩,some ⟨x',y',none⟩=>simp [yR] at h;obtain ⟨h1,h2⟩:=h;(have e1:x=x':=(by omega));(have e2:y=y':=(by omega));subst e1 e2;rfl
 | some ⟨x,y,none⟩,some ⟨x',y',some z'⟩=>simp [yR] at h
 | some ⟨x,y,some z⟩,some ⟨x',y',none⟩=>simp [yR] at h
 | some ⟨x,y,some z⟩,some ⟨x',y',some z'⟩=>simp [yR] at h;obtain ⟨h1,h2,h3⟩:=h;(have e1:x=x':=(by omega));(have e2:y=y':=(by omega));(have e3:z=z':=(by omega));subst e1 e2 e3;rfl
def ad (v:AV):DataW Unit:=.agg [.lit (.int .i64 v.id),.lit (.string v.queue),yR v.ao,.lit (.int .i64 v.len),.lit (.int .i64 v.cap)]
theorem aI3 {a b:AV} (h:ad a=ad b):a=b:=by
 obtain ⟨a1,a2,a3,a4,a5⟩:=a
 obtain ⟨b1,b2,b3,b4,b5⟩:=b
 simp [ad] at h
 obtain ⟨h1,h2,h3,h4,h5⟩:=h
 have e3:=aI2 h3
 have e4:a4=b4:=by omega
 have e5:a5=b5:=by omega
 subst h1 h2 e3 e4 e5
 rfl
def eZ:Value→Option (DataW Unit×List MemPlace)
 | .agg cs=>match cs.toList with
  | [.int .i64 x,.string s,.slice ao len cap]=>some (ad ⟨x,s.data.toList,ao,len,cap⟩,[])
  | _=>none
 | _=>none
theorem lV (v:AV):eZ (avv v)=some (ad v,[]):=by
 obtain ⟨x,qu,ao,len,cap⟩:=v
 simp [eZ,bs]
theorem nC {v:Value} {y:DataW Unit×List MemPlace} (h:eZ v=some y):∃c,v=avv c:=by
 unfold eZ at h
 split at h
 ·rename_i cs
  split at h
  ·rename_i x s ao len cap e
   have e2:cs=#[.int .i64 x,.string s,.slice ao len cap]:=by cases cs;simpa using e
   exact ⟨⟨x,s.data.toList,ao,len,cap⟩,by rw [e2];simp [avv,aE1]⟩
  ·cases h
 ·cases h
theorem aE8 {v:Value} {m:AV} {ps:List MemPlace} (h:eZ v=some (ad m,ps)):v=avv m:=by
 obtain ⟨c,rfl⟩:=nC h
 rw [lV] at h
 have:=aI3 (congrArg Prod.fst (Option.some.inj h))
 rw [show c=m from this]
def jP (id:Int) (l:List AV):Option AV:=l.find? (fun v=>decide (v.id=id))
theorem aJ0 {id:Int} {l:List AV} {v:AV} (h:jP id l=some v):v.id=id:=by simpa using List.find?_some h
def fE (l:List AV) (keep:Lit→AV→Bool) (D:DataW Unit):Prop:=
 (∀kl,Maps.has D kl=true→∃v,jP v.id l=some v∧keyOf Tryz.prog 133 (pW [] v.id)=some kl∧∀zd,D.atKey kl zd=ad v)∧
 (∀v kl,jP v.id l=some v→keyOf Tryz.prog 133 (pW [] v.id)=some kl→Maps.has D kl=keep kl v)
abbrev aJg:Lit→AV→Bool:=fun _ _=>true
theorem aCl:fE [] aJg (.map []):=⟨fun kl h=>by simp [Maps.has] at h,fun v kl h=>by simp [jP] at h⟩
theorem fE.put {l:List AV} {D:DataW Unit} (h:fE l aJg D) (hD:IsMap D) {m:AV} {kl:Lit} (hk:keyOf Tryz.prog 133 (pW [] m.id)=some kl):fE (m::l) aJg (D.put kl (ad m)):=by
 have hne:∀(kl':Lit) (v:AV),kl'≠kl→keyOf Tryz.prog 133 (pW [] v.id)=some kl'→¬m.id=v.id:=fun kl' v e hv e'=>e (by rw [←e'] at hv;rw [hk] at hv;exact (Option.some.inj hv).symm)
 refine ⟨fun kl' hh=>?_,fun v kl' h1 h2=>?_⟩
 ·by_cases e:kl'=kl
  ·subst e
   exact ⟨m,by simp [jP],hk,fun zd=>atKey_put_same hD (jL.key hk) _ _⟩
  ·rw [has_put_other e] at hh
   obtain ⟨v,h1,h2,h3⟩:=h.1 kl' hh
   exact ⟨v,by have:=hne kl' v e h2;simpa [jP,this] using h1,h2,fun zd=>by rw [atKey_put_other e];exact h3 zd⟩
 ·by_cases e:kl'=kl
  ·subst e
   exact has_put_same hD (jL.key hk) _
  ·rw [has_put_other e]
   exact h.2 v kl' (by have:=hne kl' v e h2;simpa [jP,this] using h1) h2
theorem vI {a b:Int} {kl:Lit} (h1:keyOf Tryz.prog 133 (pW [] a)=some kl) (h2:keyOf Tryz.prog 133 (pW [] b)=some kl):a=b:=by
 have:=jL.inj h1 h2
 simpa [pW] using this
theorem fE.look {l:List AV} {keep:Lit→AV→Bool} {D:DataW Unit} (h:fE l keep D) {id:Int} {kl:Lit} (hk:keyOf Tryz.prog 133 (pW [] id)=some kl) :
  (jP id l=none→Maps.has D kl=false)∧∀v,jP id l=some v→Maps.has D kl=keep kl v∧(Maps.has D kl=true→∀zd,D.atKey kl zd=ad v):=by
 refine ⟨fun hf=>?_,fun v hf=>?_⟩
 ·cases hh:Maps.has D kl with
  | false=>rfl
  | true=>
   obtain ⟨v,h1,h2,_⟩:=h.1 kl hh
   rw [←vI hk h2] at h1
   rw [hf] at h1
   cases h1
 ·have hv:=aJ0 hf
  rw [←hv] at hf hk
  refine ⟨h.2 v kl hf hk,fun hh=>?_⟩
  obtain ⟨u,h1,h2,h3⟩:=h.1 kl hh
  have e:=vI hk h2
  rw [←e,hf] at h1
  cases h1
  exact h3
theorem fE.strike {l:List AV} {left:Lit→Bool} {keep:AV→Bool} {D:DataW Unit} (h:fE l (fun kl v=>left kl||keep v) D) {v:AV} {kl:Lit} (hf:jP v.id l=some v) (hk:keyOf Tryz.prog 133 (pW [] v.id)=some kl) (hn:keep v=false) :
  fE l (fun z u=>(left z&&!z.sameKey kl)||keep u) (D.del kl):=by
 refine ⟨fun kl' hh=>?_,fun u kl' h1 h2=>?_⟩
 ·by_cases e:kl'=kl
  ·subst e
   rw [has_del_same] at hh
   cases hh
  ·rw [has_del_other e] at hh
   obtain ⟨u,h1,h2,h3⟩:=h.1 kl' hh
   exact ⟨u,h1,h2,fun zd=>by rw [atKey_del_other e];exact h3 zd⟩
 ·by_cases e:kl'=kl
  ·subst e
   have e2:=vI hk h2
   rw [←e2,hf] at h1
   cases h1
   rw [has_del_same]
   simp [hn,WideAt.sameKey_self (jL.key hk)]
  ·rw [has_del_other e,h.2 u kl' h1 h2]
   simp [sameKey_ne e]
theorem fE.stay {l:List AV} {left:Lit→Bool} {keep:AV→Bool} {D:DataW Unit} (h:fE l (fun kl v=>left kl||keep v) D) {v:AV} {kl:Lit} (hf:jP v.id l=some v) (hk:keyOf Tryz.prog 133 (pW [] v.id)=some kl) (hn:keep v=true) :
  fE l (fun z u=>(left z&&!z.sameKey kl)||keep u) D:=by
 refine ⟨h.1,fun u kl' h1 h2=>?_⟩
 by_cases e:kl'=kl
 ·subst e
  have e2:=vI hk h2
  rw [←e2,hf] at h1
  cases h1
  rw [h.2 v kl' hf hk]
  simp [hn]
 ·rw [h.2 u kl' h1 h2]
  simp [sameKey_ne e]
def aKn (o:Option AV) (f:AV→Bool):Bool:=match o with
 | none=>false
 | some v=>f v
theorem aKf (w:World):(zeroValue 74).run Tryz.prog w=.ok (avv ⟨0,[],none,0,0⟩) w:=by kernel_rfl
theorem aL6 {w:World} {bm n:Nat} {l:List AV} {keep:Lit→AV→Bool} {D:DataW Unit} (hown:w.ownsMap Tryz.prog 133 eZ bm n D) (hk:fE l keep D) {id:Int} {kl:Lit} (hkey:keyOf Tryz.prog 133 (pW [] id)=some kl) :
  ∃v:AV,(Instr.lookup 164 (.map (some bm)) (pW [] id) true).run Tryz.prog w=.ok (.tuple #[avv v,.bool (aKn (jP id l) (keep kl))]) w∧(∀u,jP id l=some u→keep kl u=true→v=u)∧(jP id l=none→v=⟨0,[],none,0,0⟩):=by
 obtain ⟨v,ps,hrun,hv⟩:=hown.look_ok jL Tryz.underlying164 (aKf w) (lV ⟨0,[],none,0,0⟩) hkey
 obtain ⟨h1,h2⟩:=hk.look hkey
 cases hf:jP id l with
 | none=>
  have hh:=h1 hf
  rw [atKey_of_not_has hh] at hv
  rw [aE8 hv,hh] at hrun
  exact ⟨_,hrun,(fun u e=>by cases e),fun _=>rfl⟩
 | some u=>
  obtain ⟨ha,hb⟩:=h2 u hf
  obtain ⟨c,rfl⟩:=nC hv
  rw [ha] at hrun
  refine ⟨c,hrun,fun u' e hu=>?_,(fun e=>by cases e)⟩
  cases e
  rw [hb (ha.trans hu)] at hv
  rw [lV] at hv
  exact aI3 (congrArg Prod.fst (Option.some.inj hv))
end
section
open Go.RowKit
def RAt (w:World) (b p:Nat) (r:Int×Int):Prop:=w.cell? ⟨b,p,none⟩=some (.int .i64 r.1)∧w.cell? ⟨b,p+1,none⟩=some (.int .i64 r.2)
def aGd (w:World) (ao:Option Addr) (len:Nat) (l:List (Int×Int)):Prop:=
 len=l.length∧(len=0∨∃b off,ao=some ⟨b,off,none⟩∧∀i (h:i<l.length),RAt w b (off+i*2) l[i])
theorem RAt.lt {w:World} {b p:Nat} {r:Int×Int} (h:RAt w b p r):b<w.heap.size:=yG h.1
theorem RAt.below {w w':World} {b p:Nat} {r:Int×Int} (h:RAt w b p r) (hb:Below w.heap.size w w'):RAt w' b p r:=⟨(hb.cell h.lt).trans h.1,(hb.cell h.lt).trans h.2⟩
theorem aGd.below {w w':World} {ao:Option Addr} {len:Nat} {l:List (Int×Int)} (h:aGd w ao len l) (hb:Below w.heap.size w w'):aGd w' ao len l:=by
 obtain ⟨h1,h2⟩:=h
 refine ⟨h1,?_⟩
 rcases h2 with h2 | ⟨b,off,h3,h4⟩
 ·exact .inl h2
 ·exact .inr ⟨b,off,h3,fun i h=>(h4 i h).below hb⟩
theorem aGd.at {w:World} {ao:Option Addr} {len:Nat} {l:List (Int×Int)} (h:aGd w ao len l) {i:Nat} (hi:i<len):∃b off,ao=some ⟨b,off,none⟩∧∀(h:i<l.length),RAt w b (off+i*2) l[i]:=by
 obtain ⟨h1,h2⟩:=h
 rcases h2 with h2 | ⟨b,off,h3,h4⟩
 ·omega
 ·exact ⟨b,off,h3,fun hi=>h4 i hi⟩
abbrev zF (r:Int×Int):List Value:=[.int .i64 r.1,.int .i64 r.2]
def gZ:List (Int×Int)→List Value
 | []=>[]
 | q::t=>zF q++gZ t
theorem aFf (a:List (Int×Int)) (q:Int×Int):gZ (a++[q])=gZ a++zF q:=by
 induction a with
 | nil=>rfl
 | cons x t ih=>rw [List.cons_append,gZ,gZ,ih,List.append_assoc]
theorem aCD:∀(l:List (Int×Int)) (i:Nat) (h:i<l.length),(gZ l)[i*2]? = some (.int .i64 l[i].1)∧(gZ l)[i*2+1]? = some (.int .i64 l[i].2)
 | q::t,0,_=>⟨rfl,rfl⟩
 | q::t,i+1,h=>by
  have e:=aCD t i (by simpa using h)
  have k:∀j,(gZ (q::t))[(i+1)*2+j]? = (gZ t)[i*2+j]?:=fun j=>by
   rw [gZ,show (i+1)*2+j=(zF q).length+(i*2+j) by simp;omega,List.getElem?_append_right (by omega)]
   congr 1
   omega
  have k0:=k 0
  simp only [Nat.add_zero] at k0
  rw [k0,k 1]
  simpa using e
def yZ (B:Nat) (w:World) (v:Value) (l:List (Int×Int)):Prop:=w.ownsRow B 36 2 v l.length (gZ l)
theorem aBG (B:Nat) (w:World):yZ B w (.slice none 0 0) []:=World.ownsRow_nil _ _ _ _
theorem rX (w:World):yZ w.heap.size (w.alloc (.cells #[] 36)) (.slice (some ⟨w.heap.size,0,none⟩) 0 0) []:=
 ⟨rfl,.inr ⟨w.heap.size,0,#[],rfl,yJ _,by show (w.heap.push _)[w.heap.size]? = _;simp,yJ _,by unfold maxLen;omega,rfl,rfl⟩⟩
theorem yZ.base {w:World} {B B':Nat} {v:Value} {l:List (Int×Int)} (h:yZ B w v l) (hb:B'≤B):yZ B' w v l:=by
 obtain ⟨h1,h2⟩:=h
 refine ⟨h1,?_⟩
 rcases h2 with h2 | ⟨g,cap,cur,a,b,c⟩
 ·exact .inl h2
 ·exact .inr ⟨g,cap,cur,a,Nat.le_trans hb b,c⟩
theorem yZ.below {w w':World} {B:Nat} {v:Value} {l:List (Int×Int)} (h:yZ B w v l) (hb:Below w.heap.size w w'):yZ B w' v l:=
 h.kept (aG (aC w none) hb) (by by_cases e:v.ownBlock=none;exact .inl e;exact .inr e)
theorem yZ.row {w:World} {B:Nat} {v:Value} {l:List (Int×Int)} (h:yZ B w v l):∃ao cap,v=.slice ao l.length cap∧aGd w ao l.length l∧l.length≤cap:=by
 rcases h.2 with ⟨rfl,h0⟩ | ⟨g,cap,cur,rfl,h1,h2,h3,h4,h5,h6⟩
 ·exact ⟨none,0,by rw [h0],⟨rfl,.inl h0⟩,by omega⟩
 ·refine ⟨some ⟨g,0,none⟩,cap,rfl,⟨rfl,.inr ⟨g,0,rfl,fun i hi=>?_⟩⟩,h3⟩
  obtain ⟨a,b⟩:=aCD l i hi
  have k:∀j (v:Value),j<l.length*2→(gZ l)[j]? = some v→w.cell? ⟨g,j,none⟩=some v:=fun j v hj hv=>by
   rw [←h6,List.getElem?_take_of_lt hj] at hv
   simp [World.cell?,h2]
   simpa using hv
  unfold RAt
  rw [Nat.zero_add]
  exact ⟨k _ _ (by omega) a,k _ _ (by omega) b⟩
theorem lM {w wr w1:World} {B:Nat} {v v':Value} {l:List (Int×Int)} {q:Int×Int} {ob:Obj} (hb:Below B w wr) (hown:yZ B wr v l)
  (h1:w1.ownsRow B 36 2 v' (l.length+1) (gZ l++zF q)) (hg:(wr.alloc ob).grownBy w1 v.ownBlock) (hB:B≤wr.heap.size) :
  yZ B w1 v' (l++[q])∧Below B w w1:=by
 refine ⟨?_,(hb.alloc hB ob).grown hg (by simp;omega) ?_⟩
 ·unfold yZ
  rw [aFf,List.length_append]
  exact h1
 ·intro k hk
  rcases hown.2 with ⟨rfl,_⟩ | ⟨g,cap,cur,rfl,hg',_⟩
  ·simp [Value.ownBlock] at hk
  ·simp [Value.ownBlock] at hk;omega
theorem Tryz.infoR:(Tryz.prog.info? 36).map (fun i=>(i.zero,i.size,i.bytes))=some (some (.agg #[.int .i64 0,.int .i64 0]),2,16):=by kernel_rfl
def aT:List (Int×Int)→Int→Int→Int×Int×Bool
 | [],x,y=>(x,y,true)
 | r::t,x,y=>if aI 1 x y r.1 r.2=true then aT t (x+1*r.1) (y+1*r.2) else (0,0,false)
def gX (l:List (Int×Int)):Int×Int×Bool:=aT l 0 0
theorem tN {l:List (Int×Int)} {k:Nat} (h:k<l.length) (x y:Int):aT (l.drop k) x y=if aI 1 x y l[k].1 l[k].2=true then aT (l.drop (k+1)) (x+1*l[k].1) (y+1*l[k].2) else (0,0,false):=by
 rw [List.drop_eq_getElem_cons h,aT]
theorem vS {l:List (Int×Int)} {k:Nat} (h:l.length≤k) (x y:Int):aT (l.drop k) x y=(x,y,true):=by
 rw [List.drop_of_length_le h];rfl
def aY (l:List Mac):List (Int×Int):=l.map (fun m=>(m.mem,m.cpu))
theorem xX {l:List Mac} {k:Nat} (h:k<l.length):aY (l.take (k+1))=aY (l.take k)++[(l[k].mem,l[k].cpu)]:=by
 rw [List.take_succ_eq_append_getElem h,aY,List.map_append];rfl
def aJ (p:Con→Bool) (l:List Con):List (Int×Int):=(l.filter p).map (fun c=>(c.mem,c.cpu))
theorem nW {p:Con→Bool} {l:List Con} {k:Nat} (h:k<l.length):aJ p (l.take (k+1))=if p l[k]=true then aJ p (l.take k)++[(l[k].mem,l[k].cpu)] else aJ p (l.take k):=by
 rw [List.take_succ_eq_append_getElem h]
 simp only [aJ,List.filter_append,List.map_append]
 by_cases hp:p l[k]=true<;>simp [hp]
def sQ (w:World) (c:Array Value):World:=(w.alloc (.cells c 34)).alloc (.cells #[.int .i64 0,.int .i64 0] 36)
theorem rP (w:World) (c:Array Value):(sQ w c).heap.size=w.heap.size+1+1:=by simp only [sQ,yE]
theorem cK (w:World) (c:Array Value):Below w.heap.size w (sQ w c):=yA (yA (yH _ w) _) _
theorem iF (w:World) (c:Array Value):Var (sQ w c) 36 (w.heap.size+1) 0 0:=by
 have:=aH (w.alloc (.cells c 34)) 36 0 0
 rwa [yE] at this
abbrev tY (m:Mac):Obj:=.cells #[.string (bs m.name),.int .i64 m.mem,.int .i64 m.cpu,.int .i64 m.seen] 104
def rU (w:World) (c:Array Value):World:=w.alloc (.cells c 34)
theorem xY (w:World) (c:Array Value):(rU w c).heap.size=w.heap.size+1:=by simp only [rU,yE]
theorem iQ (w:World) (c:Array Value):Below w.heap.size w (rU w c):=yA (yH _ w) _
theorem fD (w:World) (c:Array Value):Blk (rU w c) w.heap.size c 34:=yD w c _
theorem nI (ao:Option Addr) (len cap:Nat) (l:List (Int×Int)) (w:World) (h:aGd w ao len l) (hl:len≤1048576) :
  Calls Tryz.prog 150 #[.slice ao len cap] w fun e w'=>e=.returned (.tuple #[rv (gX l).1 (gX l).2.1,.bool (gX l).2.2])∧Below w.heap.size w w':=by
 have HR:=aA h
 have HL:=aA h.1
 obtain ⟨⟨sx,sy,so⟩,hs⟩:∃s,gX l=s:=⟨_,rfl⟩
 have HS:=aA (show aT l 0 0=(sx,sy,so) from hs)
 rw [hs]
 clear h hs
 go_enter Tryz.func150,Tryz.ntmps150
 go_wp2
 go_loopw [12] (fun i wr=>∃(k:Nat) (x y:Int),k≤len∧i=.int .i64 k∧Hid (aT (l.drop k) x y=(sx,sy,so))∧Hid (Var wr 36 w.heap.size 0 0)∧Hid (Var wr 36 (w.heap.size+1) x y)∧Hid (Below w.heap.size w wr)) (fun i _=>len - (intOf i).toNat)
 case atStart=>exact ⟨0,0,0,Nat.zero_le _,rfl,aA (by simpa using uH HS),aA ((aH w _ _ _).al _),aA (gL w _ _ 0 0 0 0),aA (yA (yA (yH _ _) _) _)⟩
 case round=>
  obtain ⟨k,x,y,hk,rfl,HQ,HV0,HV1,HB⟩:=hrel
  by_cases hlt:k<len
  ·obtain ⟨b,off,rfl,hq⟩:=((uH HR).below (uH HB)).at hlt
   have hkl:k<l.length:=by have:=uH HL;omega
   have hst:=tN hkl x y
   obtain ⟨c0,c1⟩:=hq hkl
   obtain ⟨⟨a,d⟩,hs⟩:∃q,l[k]=q:=⟨_,rfl⟩
   rw [hs] at c0 c1 hst
   simp only at c0 c1 hst
   have HST:=aA hst
   have s0:=(uH HV1).c0
   have s1:=(uH HV1).c1
   have hsz:=(uH HV1).lt
   have hl2:=World.cell?_alloc_lt wr (.cells #[.int .i64 a,.int .i64 d] 36) ⟨w.heap.size+1,0,none⟩ hsz
   have hl3:=World.cell?_alloc_lt wr (.cells #[.int .i64 a,.int .i64 d] 36) ⟨w.heap.size+1,1,none⟩ hsz
   rw [s0] at hl2
   rw [s1] at hl3
   clear hq hs hkl hst
   have CA:=aA (fun wx=>aEN x y a d wx)
   have HA:=aA (yA (yH _ wr) (.cells #[.int .i64 a,.int .i64 d] 36))
   cases ho:aI 1 x y a d with
   | true=>
    rw [kW ho,ho] at CA
    rw [if_pos ho] at HST
    clear ho
    go_wp2_with fail
    refine (uH CA _).mono ?_
    rintro e w1 ⟨rfl,hb⟩
    have W0:=aA (((uH HV0).below (uH HA)).below hb)
    have W1:=aA (((uH HV1).below (uH HA)).below hb)
    have HB1:=aA (yB (yB (uH HB) (uH HA)) hb)
    have hsz1:=(uH W1).lt
    have t0:=(uH W1).c0
    have t1:=(uH W1).c1
    have f0:=(uH W1).f 0
    have f1:=(uH W1).f 1
    have g0:=World.cell?_alloc_lt w1 (.cells #[.int .i64 (x+1*a),.int .i64 (y+1*d)] 36) ⟨w.heap.size+1,0,none⟩ hsz1
    have g1:=World.cell?_alloc_lt w1 (.cells #[.int .i64 (x+1*a),.int .i64 (y+1*d)] 36) ⟨w.heap.size+1,1,none⟩ hsz1
    rw [t0] at g0
    rw [t1] at g1
    clear hb CA HA c0 c1 s0 s1 hl2 hl3 HV0 HV1 HB
    obtain ⟨x',hx'⟩:∃x',x+1*a=x':=⟨_,rfl⟩
    obtain ⟨y',hy'⟩:∃y',y+1*d=y':=⟨_,rfl⟩
    rw [hx',hy'] at HST g0 g1
    rw [hx',hy']
    clear hx' hy'
    have h2:=(uH W1).al (.cells #[.int .i64 x',.int .i64 y'] 36)
    have ff0:=h2.f 0
    have ff1:=h2.f 1
    have W2:=aA h2
    clear h2
    go_wp2
    go_roundw
    case rel=>exact ⟨k+1,x',y',by omega,by go_num,aA (by rw [←uH HST];exact uH HQ),aA ((((uH W0).other _ _ _ (show w.heap.size≠w.heap.size+1 by omega)).other _ _ _ (show w.heap.size≠w.heap.size+1 by omega)).al _),aA (((uH W1).set _ _).al _),aA (yA (yC (yC (uH HB1) _ _ _ (show w.heap.size≤w.heap.size+1 by omega)) _ _ _ (show w.heap.size≤w.heap.size+1 by omega)) _)⟩
    case measure=>simp [intOf];omega
   | false=>
    rw [kL ho,ho] at CA
    rw [if_neg (by rw [ho];simp)] at HST
    have hres:=(uH HST).symm.trans (uH HQ)
    simp only [Prod.mk.injEq] at hres
    obtain ⟨rfl,rfl,rfl⟩:=hres
    clear ho HST HS
    go_wp2_with fail
    refine (uH CA _).mono ?_
    rintro e w1 ⟨rfl,hb⟩
    have W0:=aA ((((uH HV0).below (uH HA)).below hb).al (.cells #[.int .i64 0,.int .i64 0] 36))
    have HB1:=aA (yA (yB (yB (uH HB) (uH HA)) hb) (.cells #[.int .i64 0,.int .i64 0] 36))
    clear hb CA HA c0 c1 s0 s1 hl2 hl3 HV0 HV1 HB
    have t0:=(uH W0).c0
    have t1:=(uH W0).c1
    have f0:=(uH W0).f 0
    have f1:=(uH W0).f 1
    have k4:=(uH W0).s0 (.int .i64 0)
    have k5:=(uH W0).s1 (.int .i64 0) (.int .i64 0)
    go_wp2
    refine bodyPost_ret (v:=.tuple #[rv 0 0,.bool false]) (by simp [results,Tryz.results150,go_sem,k4,k5]) rfl ⟨rfl,?_⟩
    repeat (first | exact uH HB1 | refine yC ?_ _ _ _ (by omega))
  ·have hres:(x,y,true)=(sx,sy,so):=by rw [←uH HQ,vS (by have:=uH HL;omega)]
   simp only [Prod.mk.injEq] at hres
   obtain ⟨rfl,rfl,rfl⟩:=hres
   have s0:=(uH HV1).c0
   have s1:=(uH HV1).c1
   have t0:=(uH HV0).c0
   have t1:=(uH HV0).c1
   have f0:=(uH HV0).f 0
   have f1:=(uH HV0).f 1
   have k4:=(uH HV0).s0 (.int .i64 x)
   have k5:=(uH HV0).s1 (.int .i64 x) (.int .i64 y)
   go_wp2
   refine bodyPost_ret (v:=.tuple #[rv x y,.bool true]) (by simp [results,Tryz.results150,go_sem,k4,k5]) rfl ⟨rfl,?_⟩
   repeat (first | exact uH HB | refine yC ?_ _ _ _ (by omega))
theorem aFN (x:Sls) (s:St) (w:World) (h:bE w x.ma x.ml s.ms) (hl:x.ml≤1048576) :
  Calls Tryz.prog 120 #[sv x s] w fun e w'=>e=.returned (.tuple #[rv (gX (aY s.ms)).1 (gX (aY s.ms)).2.1,.bool (gX (aY s.ms)).2.2])∧Below w.heap.size w w':=by
 obtain ⟨i0,hi,hz0,hz1,hz2⟩:=info_parts Tryz.infoR
 obtain ⟨qa,ql,qc,aa,al,ac,ma,ml,mc,ca,cl,cc⟩:=x
 obtain ⟨qs,clock,epoch,next,serial,apps,ms,cs⟩:=s
 simp only at h hl ⊢
 have HR:=aA h
 have HL:=aA h.1
 obtain ⟨c,hc⟩:∃c:Array Value,#[.slice qa ql qc,.int .i64 clock,.int .i64 epoch,.int .i64 next,.int .i64 serial,.slice aa al ac,.slice ma ml mc,.slice ca cl cc]=c:=⟨_,rfl⟩
 have HC:=aA hc
 have HB0:=aA (cK w c)
 have V0:=aA (iF w c)
 have hW:=rP w c
 have HW:=aA hW
 clear h hc hW
 obtain ⟨⟨sx,sy,so⟩,hs⟩:∃s,gX (aY ms)=s:=⟨_,rfl⟩
 have HS:=aA hs
 rw [hs]
 clear hs
 go_enter Tryz.func120,Tryz.ntmps120
 go_wp2
 go_loopw [4,10] (fun v i wr=>∃(k:Nat),k≤ml∧i=.int .i64 k∧Hid (yZ (sQ w c).heap.size wr v (aY (ms.take k)))∧Hid (Below (sQ w c).heap.size (sQ w c) wr)) (fun _ i _=>ml - (intOf i).toNat)
 case atStart=>
  obtain rfl:=uH HC
  exact ⟨0,Nat.zero_le _,rfl,aA (by simpa [aY] using aBG _ _),aA (yH _ _)⟩
 case round=>
  obtain ⟨k,hk,rfl,HO,HB⟩:=hrel
  by_cases hlt:k<ml
  ·obtain ⟨b,off,rfl,hq⟩:=(((uH HR).below (uH HB0)).below (uH HB)).at hlt
   have hkl:k<ms.length:=by have:=uH HL;omega
   have hst:=aA (xX hkl)
   obtain ⟨c0,c1,c2,c3⟩:=hq hkl
   obtain ⟨m,hs⟩:∃q,ms[k]=q:=⟨_,rfl⟩
   rw [hs] at c0 c1 c2 c3 hst
   have hal:(aY (ms.take k)).length≤1048576:=by simp [aY];omega
   obtain ⟨acc,hacc⟩:∃a,aY (ms.take k)=a:=⟨_,rfl⟩
   rw [hacc] at hst hal HO
   obtain ⟨nm,me,cp,se⟩:=m
   simp only at c0 c1 c2 c3 hst
   have HB2:=aA (yA (uH HB) (tY ⟨nm,me,cp,se⟩))
   have HO2:=aA ((uH HO).below (yA (yH _ wr) (tY ⟨nm,me,cp,se⟩)))
   have hs2:(sQ w c).heap.size≤(wr.alloc (tY ⟨nm,me,cp,se⟩)).heap.size:=(uH HB2).size
   have hown:(wr.alloc (tY ⟨nm,me,cp,se⟩)).ownsRow (sQ w c).heap.size 36 2 _ acc.length (gZ acc):=uH HO2
   clear hq hs hkl hacc HO HB
   go_wp2_with (at_builtin;refine wpList_append_own _ rfl _ _ 141 rfl (sQ w c).heap.size 36 i0 (.agg #[.int .i64 0,.int .i64 0]) 2 16 Tryz.underlying141 hi hz0 hz1 hz2 rfl (by decide) _ _ _ rfl (hown.alloc _) ⟨wr.heap.size+1,0,none⟩ 1 1 (zF (me,cp)) rfl rfl ?c1 ?c2 ?c3 ?c4 ?c5 ?_)
   case c1=>
    intro j x hj
    match j,hj with
    | 0,hj=>simp at hj;subst hj;simp [Addr.add]
    | 1,hj=>simp at hj;subst hj;simp [Addr.add]
    | _+2,hj=>simp at hj
   case c2=>intro x hx;simp at hx;rcases hx with rfl | rfl<;>rfl
   case c3=>unfold maxLen;omega
   case c4=>omega
   case c5=>simp at hs2 ⊢;omega
   intro v' w3 hown' hgrow _
   have R:=lM (q:=(me,cp)) (uH HB2) (uH HO2) hown' hgrow hs2
   have HR3:=aA R
   clear hown' hgrow hown c0 c1 c2 c3 R
   go_wp2
   go_roundw
   case rel=>exact ⟨k+1,by omega,by go_num,aA (by rw [uH hst];exact (uH HR3).1),aA (uH HR3).2⟩
   case measure=>simp [intOf];omega
  ·have htk:ms.take k=ms:=List.take_of_length_le (by have:=uH HL;omega)
   rw [htk] at HO
   obtain ⟨ao,cp,rfl,hrow,hcp⟩:=(uH HO).row
   have hlc:(aY ms).length≤1048576:=by have:=uH HL;simp [aY];omega
   have CT:=aA (nI ao _ cp (aY ms) wr hrow hlc)
   rw [uH HS] at CT
   obtain ⟨n,hn⟩:∃n,(aY ms).length=n:=⟨_,rfl⟩
   rw [hn] at CT ⊢
   clear hrow hn htk hcp hlc HO
   go_wp2_with fail
   refine (uH CT).mono ?_
   rintro e w1 ⟨rfl,hb⟩
   have hsz:w.heap.size+1<(sQ w c).heap.size:=by have:=uH HW;omega
   have V1:Var w1 36 (w.heap.size+1) 0 0:=Var.below ((uH HB).block _ hsz |>.trans (uH V0)) hb
   have HB1:=aA (yB (yB (uH HB0) (uH HB)) hb)
   have t0:=V1.c0
   have t1:=V1.c1
   have f0:=V1.f 0
   have f1:=V1.f 1
   have k4:=V1.s0 (.int .i64 sx)
   have k5:=V1.s1 (.int .i64 sx) (.int .i64 sy)
   clear hb V1 CT HB HB0
   go_wp2
   refine bodyPost_ret (v:=.tuple #[rv sx sy,.bool so]) (by simp [results,Tryz.results120,go_sem,k4,k5]) rfl ⟨rfl,?_⟩
   repeat (first | exact uH HB1 | refine yC ?_ _ _ _ (by omega))
theorem qY (x:Sls) (s:St) (w:World) (h:bE w x.ma x.ml s.ms) (hl:x.ml≤1048576) :
  Calls Tryz.prog 174 #[sv x s] w fun e w'=>e=.returned (rv (gX (aY s.ms)).1 (gX (aY s.ms)).2.1)∧Below w.heap.size w w':=by
 have HR:=aA h
 clear h
 obtain ⟨⟨sx,sy,so⟩,hs⟩:∃y,gX (aY s.ms)=y:=⟨_,rfl⟩
 have CC:=aA (fun wx (hb:Below w.heap.size w wx)=>by have:=aFN x s wx ((uH HR).below hb) hl;rw [hs] at this;exact this)
 rw [hs]
 clear hs
 obtain ⟨qa,ql,qc,aa,al,ac,ma,ml,mc,ca,cl,cc⟩:=x
 obtain ⟨qs,clock,epoch,next,serial,apps,ms,cs⟩:=s
 go_enter Tryz.func174,Tryz.ntmps174
 go_wp2_with fail
 refine (uH CC _ (cK w _)).mono ?_
 rintro e w1 ⟨rfl,hb⟩
 have V1:=(iF w _).below hb
 have HB1:=aA (yB (cK w _) hb)
 have V2:=V1.al (.cells #[.int .i64 sx,.int .i64 sy] 36)
 have t0:=V2.c0
 have t1:=V2.c1
 have f0:=V2.f 0
 have f1:=V2.f 1
 have u0:=V1.c0
 have u1:=V1.c1
 have e0:=V1.f 0
 have e1:=V1.f 1
 have VG:=V2.set sx sy
 have k6:=VG.c0
 have k7:=VG.c1
 clear hb V1 V2 VG CC
 go_wp2
 refine bodyPost_ret (v:=rv sx sy) (by simp [results,Tryz.results174,go_sem,k6,k7]) rfl ⟨rfl,?_⟩
 repeat (first | exact uH HB1 | refine yA ?_ _ | refine yC ?_ _ _ _ (by omega))
end
section
open Go.RowKit Go.Maps
def aHw (hs:List AV) (keep:AV→Bool) (q:Con):Bool:=aKn (jP q.app hs) keep
theorem aH7 (q:Con) (w:World) :
  Calls Tryz.prog 156 #[conv q] w fun e w'=>e=.returned (.agg #[.string (bs []),.int .i64 q.app])∧Below w.heap.size w w':=by
 obtain ⟨id,ap,nd,me,cp⟩:=q
 go_enter Tryz.func156,Tryz.ntmps156
 go_wp2
 refine bodyPost_ret (v:=.agg #[.string (bs []),.int .i64 ap]) (by simp [results,Tryz.results156,go_sem];rfl) rfl ⟨rfl,?_⟩
 repeat (first | exact yH _ _ | refine yA ?_ _ | refine Below.drew ?_ | refine yC ?_ _ _ _ (by omega))
theorem dD {w w':World} {k:TypeId} {R:Value→Option (DataW Unit×List MemPlace)} {b n:Nat} {D:DataW Unit} (h:w.ownsMap Tryz.prog k R b n D) (hb:Below w.heap.size w w'):w'.ownsMap Tryz.prog k R b n D:=h.kept (aG (aC w none) hb) (by simp)
theorem aHu (bm n:Nat) (D:DataW Unit) (hs:List AV) (keep:AV→Bool) (q:Con) (w:World) (hown:w.ownsMap Tryz.prog 133 eZ bm n D) (hk:fE hs (fun _ v=>keep v) D) (hwf:(Lit.int .i64 q.app).wf=true) :
  Calls Tryz.prog 125 #[.map (some bm),conv q] w fun e w'=>e=.returned (.bool (aHw hs keep q))∧Below w.heap.size w w':=by
 obtain ⟨kl,hkey⟩:=aAa (nm:=[]) (k:=q.app) (by decide) hwf
 have HL:=aA (fun wx (hb:Below w.heap.size w wx)=>aL6 (dD hown hb) hk hkey)
 obtain ⟨o,ho⟩:∃o,aHw hs keep q=o:=⟨_,rfl⟩
 have HO:=aA (show aKn (jP q.app hs) keep=o from ho)
 rw [ho]
 clear ho hkey hown hk hwf
 have CO:=aA (fun wx=>aH7 q wx)
 obtain ⟨id,ap,nd,me,cp⟩:=q
 simp only at HL HO
 have HB0:=aA (yA (yH _ w) (.cells #[.int .i64 id,.int .i64 ap,.string (bs nd),.int .i64 me,.int .i64 cp] 38))
 go_enter Tryz.func125,Tryz.ntmps125
 go_wp2_with fail
 refine (uH CO _).mono ?_
 rintro e w1 ⟨rfl,hb⟩
 have HB1:=aA (yB (uH HB0) hb)
 obtain ⟨v,hlk,_,_⟩:=uH HL _ (uH HB1)
 rw [show aKn (jP ap hs) (fun v=>keep v)=o from uH HO] at hlk
 obtain ⟨v1,v2,v3,v4,v5⟩:=v
 clear hb HB0 HL HO
 go_wp2
 go_ret
 refine ⟨rfl,?_⟩
 repeat (first | exact uH HB1 | refine yA ?_ _ | refine Below.drew ?_ | refine yC ?_ _ _ _ (by omega))
def pX (s:St):Prop:=(∀a ∈ s.apps,(Lit.int .i64 a.id).wf=true)∧(∀c ∈ s.cs,(Lit.int .i64 c.app).wf=true)
theorem aGb.wfs {x:Sls} {s:St} (h:aGb x s):pX s:=⟨fun a ha=>(h.2.1.2 a ha).2.1,fun c hc=>(h.2.2.2.1.2 c hc).2.2.1⟩
theorem aFJ {w:World} {hs:List AV} {l:List bY} (hh:jH w hs l) (h:∀a ∈ l,(Lit.int .i64 a.id).wf=true):∀v ∈ hs,(Lit.int .i64 v.id).wf=true:=fun v hv=>by
 obtain ⟨i,hi,rfl⟩:=List.mem_iff_getElem.1 hv
 have hi':i<l.length:=by rw [←hh.1];exact hi
 rw [(hh.2 i hi hi').1]
 exact h _ (yM _)
def md (m:Mac):DataW Unit:=.agg [.lit (.string m.name),.lit (.int .i64 m.mem),.lit (.int .i64 m.cpu),.lit (.int .i64 m.seen)]
def iO:Value→Option (DataW Unit×List MemPlace)
 | .agg cs=>match cs.toList with
  | [.string s,.int .i64 x,.int .i64 y,.int .i64 z]=>some (md ⟨s.data.toList,x,y,z⟩,[])
  | _=>none
 | _=>none
theorem sM (m:Mac):iO (aBk m)=some (md m,[]):=by
 obtain ⟨nm,x,y,z⟩:=m
 simp [iO,bs]
theorem wT {v:Value} {m:Mac} {ps:List MemPlace} (h:iO v=some (md m,ps)):v=aBk m:=by
 unfold iO at h
 split at h
 ·rename_i cs
  split at h
  ·rename_i s x y z e
   have e2:cs=#[.string s,.int .i64 x,.int .i64 y,.int .i64 z]:=by cases cs;simpa using e
   obtain ⟨nm,a,b,c⟩:=m
   simp [md] at h
   obtain ⟨⟨h1,h2,h3,h4⟩,_⟩:=h
   subst h1 h2 h3 h4
   rw [e2]
   simp [aBk,aE1]
  ·cases h
 ·cases h
def bF (nm:List UInt8) (l:List Mac):Option Mac:=l.find? (fun m=>decide (m.name=nm))
def l5 (l:List Mac) (D:DataW Unit):Prop:=∀nm kl,keyOf Tryz.prog 133 (pW nm 0)=some kl→Maps.has D kl=(bF nm l).isSome∧∀m,bF nm l=some m→∀zd,D.atKey kl zd=md m
theorem aCk:l5 [] (.map []):=fun nm kl _=>⟨by simp [Maps.has,bF],fun m h=>by simp [bF] at h⟩
theorem l5.put {l:List Mac} {D:DataW Unit} (h:l5 l D) (hD:IsMap D) {m:Mac} {kl:Lit} (hk:keyOf Tryz.prog 133 (pW m.name 0)=some kl):l5 (m::l) (D.put kl (md m)):=fun nm kl' hk'=>by
 by_cases e:kl'=kl
 ·subst e
  have:=jL.inj hk hk'
  simp [pW] at this
  have hn:m.name=nm:=by
   have h1:=congrArg (fun b:ByteArray=>b.data.toList) this
   simpa [bs] using h1
  have hf:bF nm (m::l)=some m:=by simp [bF,hn]
  rw [hf]
  refine ⟨?_,fun m' h' zd=>?_⟩
  ·rw [has_put_same hD (jL.key hk)];rfl
  ·cases h'
   exact atKey_put_same hD (jL.key hk) _ _
 ·have hn:¬m.name=nm:=fun hn=>e (by subst hn;rw [hk] at hk';exact (Option.some.inj hk').symm)
  have hf:bF nm (m::l)=bF nm l:=by simp [bF,hn]
  rw [hf,has_put_other e]
  refine ⟨(h nm kl' hk').1,fun m' h' zd=>?_⟩
  rw [atKey_put_other e]
  exact (h nm kl' hk').2 m' h' zd
theorem aKR (w:World):(zeroValue 104).run Tryz.prog w=.ok (aBk ⟨[],0,0,0⟩) w:=by kernel_rfl
theorem aKT {w:World} {bm n:Nat} {l:List Mac} {D:DataW Unit} (hown:w.ownsMap Tryz.prog 133 iO bm n D) (hk:l5 l D) {nm:List UInt8} {kl:Lit} (hkey:keyOf Tryz.prog 133 (pW nm 0)=some kl) :
  (Instr.lookup 130 (.map (some bm)) (pW nm 0) true).run Tryz.prog w=.ok (.tuple #[aBk ((bF nm l).getD ⟨[],0,0,0⟩),.bool (bF nm l).isSome]) w:=by
 obtain ⟨v,ps,hrun,hv⟩:=hown.look_ok jL Tryz.underlying130 (aKR w) (sM ⟨[],0,0,0⟩) hkey
 obtain ⟨h1,h2⟩:=hk nm kl hkey
 rw [hrun,h1]
 cases hf:bF nm l with
 | none=>
  rw [hf] at h1
  rw [atKey_of_not_has h1] at hv
  rw [wT hv]
  rfl
 | some m=>
  rw [h2 m hf] at hv
  rw [wT hv]
  rfl
def kG (nm:List UInt8):List Mac→Nat→Int
 | [],_=>-1
 | q::t,k=>if q.name=nm then k else kG nm t (k+1)
def wU (l:List Mac) (nm:List UInt8):Int:=kG nm l 0
theorem aC8 {nm:List UInt8} {l:List Mac} {k:Nat} (h:k<l.length):kG nm (l.drop k) k=if l[k].name=nm then (k:Int) else kG nm (l.drop (k+1)) (k+1):=by
 rw [List.drop_eq_getElem_cons h,kG]
theorem aEA {nm:List UInt8} {l:List Mac} {k:Nat} (h:l.length≤k):kG nm (l.drop k) k = -1:=by
 rw [List.drop_of_length_le h];rfl
theorem tZ (nm:List UInt8):∀(l:List Mac) (k:Nat),(bF nm l=none∧kG nm l k = -1)∨(∃(j:Nat) (h:j<l.length),bF nm l=some l[j]∧kG nm l k=((k+j:Nat):Int))
 | [],k=>.inl ⟨rfl,rfl⟩
 | q::t,k=>by
  by_cases h:q.name=nm
  ·right
   exact ⟨0,by simp,by simp [bF,h],by rw [kG,if_pos h];simp⟩
  ·have hf:bF nm (q::t)=bF nm t:=by simp [bF,h]
   rw [hf,kG,if_neg h]
   rcases tZ nm t (k+1) with ⟨a,b⟩ | ⟨j,hj,a,b⟩
   ·exact .inl ⟨a,b⟩
   ·exact .inr ⟨j+1,by simpa using hj,by simpa using a,by rw [b];congr 1;omega⟩
theorem oI (nm:List UInt8) (l:List Mac):(bF nm l=none∧wU l nm = -1)∨(∃(j:Nat) (h:j<l.length),bF nm l=some l[j]∧wU l nm=(j:Int)):=by
 rcases tZ nm l 0 with h | ⟨j,h,a,b⟩
 ·exact .inl h
 ·exact .inr ⟨j,h,a,by rw [wU,b];congr 1;omega⟩
theorem iX (x:Sls) (s:St) (nm:List UInt8) (w:World) (h:bE w x.ma x.ml s.ms) (hl:x.ml≤1048576) :
  Calls Tryz.prog 41 #[sv x s,.string (bs nm)] w fun e w'=>e=.returned (.int .i64 (wU s.ms nm))∧Below w.heap.size w w':=by
 have HR:=aA h
 have HL:=aA h.1
 have HB0:=aA (yA (yH _ w) (.cells (svc x s) 34))
 have P0:=aA (yD w (svc x s) 34)
 clear h
 obtain ⟨qa,ql,qc,aa,al,ac,ma,ml,mc,ca,cl,cc⟩:=x
 obtain ⟨qs,clock,epoch,next,serial,apps,ms,cs⟩:=s
 simp only at hl HR HL ⊢
 go_enter Tryz.func41,Tryz.ntmps41
 go_wp2
 go_loopw [5] (fun i wr=>∃(k:Nat),k≤ml∧i=.int .i64 k∧Hid (wU ms nm=kG nm (ms.drop k) k)∧Hid (Blk wr w.heap.size (svc ⟨qa,ql,qc,aa,al,ac,ma,ml,mc,ca,cl,cc⟩ ⟨qs,clock,epoch,next,serial,apps,ms,cs⟩) 34)∧Hid (Below w.heap.size w wr)) (fun i _=>ml - (intOf i).toNat)
 case atStart=>exact ⟨0,Nat.zero_le _,rfl,aA (by simp [wU]),P0,HB0⟩
 case round=>
  obtain ⟨k,hk,rfl,HQ,HP,HB⟩:=hrel
  have p6:=(uH HP).at 6
  simp at p6
  by_cases hlt:k<ml
  ·obtain ⟨b,off,rfl,hq⟩:=((uH HR).below (uH HB)).at hlt
   have hkl:k<ms.length:=by have:=uH HL;omega
   have hst:=aA (aC8 (nm:=nm) hkl)
   have c0:=(hq hkl).1
   clear hq
   obtain ⟨s,hs⟩:∃s,ms[k].name=s:=⟨_,rfl⟩
   rw [hs] at c0 hst
   have hbe:=nS s nm
   clear hs hkl
   by_cases he:s=nm
   ·have HE:=aA he
    rw [decide_eq_true he] at hbe
    clear he
    go_wp2
    go_ret
    exact ⟨bV (by rw [uH HQ,uH hst,if_pos (uH HE)]),uH HB⟩
   ·have HE:=aA he
    rw [decide_eq_false he] at hbe
    clear he
    go_wp2
    go_roundw
    case rel=>exact ⟨k+1,by omega,by go_num,aA (by rw [uH HQ,uH hst,if_neg (uH HE)]),HP,HB⟩
    case measure=>simp [intOf];omega
  ·go_wp2
   go_ret
   exact ⟨bV (by rw [uH HQ,aEA (by have:=uH HL;omega)]),uH HB⟩
end
section
open Go.RowKit
theorem lX.cel {w:World} {t:TypeId} {g n k:Nat} {l:List Q} (h:lX w t g n k l):Cel w t g (n*4):=let ⟨arr,h1,h2,_⟩:=h;⟨arr,h1,h2⟩
theorem bM.cel {w:World} {t:TypeId} {g n k:Nat} {l:List Ask} (h:bM w t g n k l):Cel w t g (n*5):=let ⟨arr,h1,h2,_⟩:=h;⟨arr,h1,h2⟩
theorem bT.cel {w:World} {t:TypeId} {g n k:Nat} {l:List Mac} (h:bT w t g n k l):Cel w t g (n*4):=let ⟨arr,h1,h2,_⟩:=h;⟨arr,h1,h2⟩
theorem bU.cel {w:World} {t:TypeId} {g n k:Nat} {l:List Con} (h:bU w t g n k l):Cel w t g (n*5):=let ⟨arr,h1,h2,_⟩:=h;⟨arr,h1,h2⟩
theorem bS.cel {w:World} {t:TypeId} {g n k:Nat} {l:List bY} (h:bS w t g n k l):Cel w t g (n*3):=let ⟨arr,h1,h2,_⟩:=h;⟨arr,h1,h2⟩
def aDw (k j:Nat):Mac:=⟨109::dgs (k+4*j),(k:Int)+4*(j:Int)+1,(k:Int)+4*(j:Int)+1+1,(k:Int)+4*(j:Int)+1+1+1⟩
def kR (k n:Nat):List Mac:=(List.range n).map (aDw k)
theorem aA3 (k n:Nat):(kR k n).length=n:=by simp [kR]
theorem aCY (k n j:Nat) (h:j<(kR k n).length):(kR k n)[j]=aDw k j:=by simp [kR]
theorem bT.tail {w:World} {t:TypeId} {g n k:Nat} {l:List Mac} (h:bT w t g n k l) {p:Nat} (hp:k*4≤p) (v:Value):bT (w.setCell ⟨g,p,none⟩ v) t g n k l:=by
 obtain ⟨arr,h1,h2,h3⟩:=h
 refine ⟨_,heap_setCell_same w g p _ _ v h1,by simp [h2],fun i hi hik=>?_⟩
 obtain ⟨a,b,c,d⟩:=h3 i hi hik
 refine ⟨?_,?_,?_,?_⟩
 ·rw [←a,Array.getElem?_setIfInBounds,if_neg (by omega)]
 ·rw [←b,Array.getElem?_setIfInBounds,if_neg (by omega)]
 ·rw [←c,Array.getElem?_setIfInBounds,if_neg (by omega)]
 ·rw [←d,Array.getElem?_setIfInBounds,if_neg (by omega)]
theorem bT.next {w:World} {t:TypeId} {g n k:Nat} {l:List Mac} (h:bT w t g n k l) (c:∀hk:k<l.length,oO w g (k*4) l[k]):bT w t g n (k+1) l:=by
 obtain ⟨arr,h1,h2,h3⟩:=h
 refine ⟨arr,h1,h2,fun i hi hik=>?_⟩
 by_cases e:i=k
 ·subst e
  obtain ⟨c0,c1,c2,c3⟩:=c hi
  simp [World.cell?,h1] at c0 c1 c2 c3
  exact ⟨c0,c1,c2,c3⟩
 ·exact h3 i hi (by omega)
theorem bT.rowOf {w:World} {t:TypeId} {g c n:Nat} {l:List Mac} (h:bT w t g c n l) (hl:n=l.length):bE w (some ⟨g,0,none⟩) n l:=by
 obtain ⟨arr,h1,h2,h3⟩:=h
 refine ⟨hl,.inr ⟨g,0,rfl,fun i hi=>?_⟩⟩
 obtain ⟨a,b,c,d⟩:=h3 i hi (by omega)
 unfold oO
 simp only [Nat.zero_add]
 exact ⟨by simp [World.cell?,h1,a],by simp [World.cell?,h1,b],by simp [World.cell?,h1,c],by simp [World.cell?,h1,d]⟩
theorem lT {w:World} {g p q:Nat} {u v:Value} (h:w.cell? ⟨g,p,none⟩=some u) (hne:q≠p):(w.setCell ⟨g,q,none⟩ v).cell? ⟨g,p,none⟩=some u:=
 (World.cell?_setCell_other _ _ _ _ (fun e=>hne (congrArg Addr.off e))).trans h
theorem sH (g n c K:Nat) {d:Nat} (w:World) (h:Cel w 104 g (c*4)) (hc:n≤c) (hn:n≤1048576) (h0:0<K) (h1:K≤1000000000000000) :
  Calls Tryz.prog 37 #[.slice (some ⟨g,0,none⟩) n d,.int .i64 (K:Int)] w fun e w'=>e=.returned (.int .i64 ((K:Int)+4*(n:Int)))∧bE w' (some ⟨g,0,none⟩) n (kR K n)∧Mkd g (g+1) w w':=by
 have HQ0:=aA (show bT w 104 g c 0 (kR K n) by obtain ⟨arr,h1,h2⟩:=h;exact ⟨arr,h1,h2,fun i _ h=>absurd h (by omega)⟩)
 clear h
 go_enter Tryz.func37,Tryz.ntmps37
 go_wp2
 go_loopw [1,5] (fun s i wr=>∃(j:Nat) (k:Int),j≤n∧i=.int .i64 j∧s=.int .i64 k∧k=(K:Int)+4*(j:Int)∧Hid (bT wr 104 g c j (kR K n))∧Hid (Mkd g (g+1) w wr)) (fun _ i _=>n - (intOf i).toNat)
 case atStart=>exact ⟨0,K,Nat.zero_le _,rfl,rfl,by omega,HQ0,aA (Mkd.refl _ _ _)⟩
 case round=>
  obtain ⟨j,k,hj,rfl,rfl,hk,HQ,HG⟩:=hrel
  by_cases hlt:j<n
  ·have HK:=aA hk
   have hk0:0<k:=by omega
   have hk1:k≤1000000010000000:=by omega
   clear hk
   go_wp2_with fail
   refine (aV (k) _ (by omega) (by omega)).mono ?_
   rintro e w1 ⟨rfl,hb⟩
   have HQt:=aA ((uH HQ).below hb)
   have HGt:=aA ((uH HG).on hb)
   clear HQ HG hb
   obtain ⟨v0,d0⟩:=(uH HQt).cell (j:=j*4) (by omega)
   have f0:=(uH HQt).frozen (j*4)
   have Z0_1:=aA (World.cell?_setCell_same _ ⟨g,j*4,none⟩ (.string (mk (k).toNat)) d0)
   have HQ1z:=aA ((uH HQt).tail (p:=j*4) (by omega) (.string (mk (k).toNat)))
   have HG1z:=aA ((uH HGt).sc g (j*4) (.string (mk (k).toNat)) (yJ _) (by omega))
   obtain ⟨v1,d1⟩:=(uH HQ1z).cell (j:=j*4+1) (by omega)
   have f1:=(uH HQ1z).frozen (j*4+1)
   have Z0_2:=aA (lT (q:=j*4+1) (v:=.int .i64 (k+1)) (uH Z0_1) (by omega))
   have Z1_3:=aA (World.cell?_setCell_same _ ⟨g,j*4+1,none⟩ (.int .i64 (k+1)) d1)
   have HQ2z:=aA ((uH HQ1z).tail (p:=j*4+1) (by omega) (.int .i64 (k+1)))
   have HG2z:=aA ((uH HG1z).sc g (j*4+1) (.int .i64 (k+1)) (yJ _) (by omega))
   obtain ⟨v2,d2⟩:=(uH HQ2z).cell (j:=j*4+2) (by omega)
   have f2:=(uH HQ2z).frozen (j*4+2)
   have Z0_4:=aA (lT (q:=j*4+2) (v:=.int .i64 (k+1+1)) (uH Z0_2) (by omega))
   have Z1_5:=aA (lT (q:=j*4+2) (v:=.int .i64 (k+1+1)) (uH Z1_3) (by omega))
   have Z2_6:=aA (World.cell?_setCell_same _ ⟨g,j*4+2,none⟩ (.int .i64 (k+1+1)) d2)
   have HQ3z:=aA ((uH HQ2z).tail (p:=j*4+2) (by omega) (.int .i64 (k+1+1)))
   have HG3z:=aA ((uH HG2z).sc g (j*4+2) (.int .i64 (k+1+1)) (yJ _) (by omega))
   obtain ⟨v3,d3⟩:=(uH HQ3z).cell (j:=j*4+3) (by omega)
   have f3:=(uH HQ3z).frozen (j*4+3)
   have HN:=aA (show bT _ 104 g c (j+1) (kR K n) from ((uH HQ3z).tail (p:=j*4+3) (by omega) (.int .i64 (k+1+1+1))).next (fun hj'=>by
    rw [aCY]
    have e1:(k).toNat=K+4*j:=by have:=uH HK;omega
    have e3:=uH HK
    have y0:=lT (q:=j*4+3) (v:=.int .i64 (k+1+1+1)) (uH Z0_4) (by omega)
    have y1:=lT (q:=j*4+3) (v:=.int .i64 (k+1+1+1)) (uH Z1_5) (by omega)
    have y2:=lT (q:=j*4+3) (v:=.int .i64 (k+1+1+1)) (uH Z2_6) (by omega)
    have y3:=World.cell?_setCell_same _ ⟨g,j*4+3,none⟩ (.int .i64 (k+1+1+1)) d3
    refine ⟨y0.trans ?_,y1.trans ?_,y2.trans ?_,y3.trans ?_⟩
    ·rw [e1];rfl
    ·rw [e3];rfl
    ·rw [e3];rfl
    ·rw [e3];rfl))
   have HGn:=aA ((uH HG3z).sc g (j*4+3) (.int .i64 (k+1+1+1)) (yJ _) (by omega))
   clear HQt HGt Z0_1 HQ1z HG1z Z0_2 Z1_3 HQ2z HG2z HG3z Z0_4 Z1_5 Z2_6
   go_wp2
   go_roundw
   case rel=>exact ⟨j+1,k+1+1+1+1,by omega,by go_num,by go_num,by have:=uH HK;omega,HN,HGn⟩
   case measure=>simp [intOf];omega
  ·have hjn:j=n:=by omega
   subst hjn
   go_wp2
   go_ret
   exact ⟨bV (by omega),(uH HQ).rowOf (by rw [aA3]),uH HG⟩
def lZ (w0:World) (b p:Nat) (q:Mac) (w:World):Prop:=oO w b p q∧Below w0.heap.size w0 w
theorem lZ.call {w0 w w':World} {b p:Nat} {q:Mac} (h:lZ w0 b p q w) (hb:Below w.heap.size w w'):lZ w0 b p q w':=⟨h.1.below hb,yB h.2 hb⟩
theorem lZ.drew {w0 w:World} {b p:Nat} {q:Mac} (h:lZ w0 b p q w):lZ w0 b p q w.drew:=h.call (yH _ _).drew
theorem lZ.read (w0:World) (b p:Nat) (q:Mac):∀wx,lZ w0 b p q wx→wx.cell? ⟨b,p,none⟩=some (.string (bs q.name))∧wx.cell? ⟨b,p+1,none⟩=some (.int .i64 q.mem)∧wx.cell? ⟨b,p+2,none⟩=some (.int .i64 q.cpu)∧wx.cell? ⟨b,p+3,none⟩=some (.int .i64 q.seen):=fun wx h=>h.1
theorem uX (ao:Option Addr) (n c K:Nat) (w:World) (h:bE w ao n (kR K n)) (hn:n≤1048576) (h0:0<K) (h1:K≤1000000000000000) :
  Calls Tryz.prog 40 #[.slice ao n c,.int .i64 (K:Int)] w fun e w'=>e=.returned (.int .i64 ((K:Int)+4*(n:Int)))∧Below w.heap.size w w':=by
 have HR:=aA h
 clear h
 go_enter Tryz.func40,Tryz.ntmps40
 go_wp2
 go_loopw [1,5] (fun s i wr=>∃(j:Nat) (k:Int),j≤n∧i=.int .i64 j∧s=.int .i64 k∧k=(K:Int)+4*(j:Int)∧Hid (Below w.heap.size w wr)) (fun _ i _=>n - (intOf i).toNat)
 case atStart=>exact ⟨0,K,Nat.zero_le _,rfl,rfl,by omega,aA (yH _ _)⟩
 case round=>
  obtain ⟨j,k,hj,rfl,rfl,hk,HB⟩:=hrel
  by_cases hlt:j<n
  ·obtain ⟨b,off,rfl,hq⟩:=((uH HR).below (uH HB)).at hlt
   have hqq:=hq (by rw [aA3];exact hlt)
   rw [aCY] at hqq
   have T0:∀wx,Calls Tryz.prog 47 #[.int .i64 (k)] wx fun e w'=>e=.returned (.string (bs (aDw K j).name))∧Below wx.heap.size wx w':=fun wx=>by
    have:=aV (k) wx (by omega) (by omega)
    rw [show (k).toNat=K+4*j by omega] at this
    exact this
   have h_1:(aDw K j).mem=k+1:=by rw [hk];rfl
   have h_2:(aDw K j).cpu=k+1+1:=by rw [hk];rfl
   have h_3:(aDw K j).seen=k+1+1+1:=by rw [hk];rfl
   obtain ⟨q,hqe⟩:∃q,aDw K j=q:=⟨_,rfl⟩
   rw [hqe] at hqq T0 h_1 h_2 h_3
   have A0:=aA (show lZ w b (off+j*4) q wr from ⟨hqq,uH HB⟩)
   have C0:=aA T0
   have HK:=aA hk
   have H_1:=aA h_1
   have H_2:=aA h_2
   have H_3:=aA h_3
   have R:=lZ.read w b (off+j*4) q
   have R':=aA R
   obtain ⟨_,_,_,_⟩:=R _ (uH A0)
   have j0:(0:Int)≤j:=by omega
   have j1:(j:Int)<n:=by omega
   have hk0:0<k:=by omega
   have hk1:k≤1000000010000000:=by omega
   clear hq hqq T0 hqe hk h_1 h_2 h_3 R
   go_wp2_with fail
   have R:=uH R'
   go_region_held3 (fun wx=>lZ w b (off+j*4) q wx)
    (first | (with_reducible assumption) | exact (uH A0).drew | exact lZ.call (by assumption) (by assumption))
    (first
    | (go_at_call 47;refine (uH C0 _).mono ?_;rintro e wt ⟨rfl,hb⟩;have SA:=lZ.call (w0:=w) (b:=b) (p:=off+j*4) (q:=q) (by assumption) hb))
   obtain ⟨_,r1,r2,r3⟩:=R _ SA
   rw [uH H_1] at r1
   rw [uH H_2] at r2
   rw [uH H_3] at r3
   have HB2:=aA SA.2
   clear SA A0 R C0 R'
   go_wp2
   go_roundw
   case rel=>exact ⟨j+1,k+1+1+1+1,by omega,by go_num,by go_num,by have:=uH HK;omega,HB2⟩
   case measure=>simp [intOf];omega
  ·have hjn:j=n:=by omega
   subst hjn
   go_wp2
   go_ret
   exact ⟨bV (by omega),uH HB⟩
def aC2 (k j:Nat):Con:=⟨(k:Int)+5*(j:Int),(k:Int)+5*(j:Int)+1,109::dgs (k+5*j+1+1),(k:Int)+5*(j:Int)+1+1+1,(k:Int)+5*(j:Int)+1+1+1+1⟩
def kE (k n:Nat):List Con:=(List.range n).map (aC2 k)
theorem aA4 (k n:Nat):(kE k n).length=n:=by simp [kE]
theorem aCZ (k n j:Nat) (h:j<(kE k n).length):(kE k n)[j]=aC2 k j:=by simp [kE]
theorem bU.tail {w:World} {t:TypeId} {g n k:Nat} {l:List Con} (h:bU w t g n k l) {p:Nat} (hp:k*5≤p) (v:Value):bU (w.setCell ⟨g,p,none⟩ v) t g n k l:=by
 obtain ⟨arr,h1,h2,h3⟩:=h
 refine ⟨_,heap_setCell_same w g p _ _ v h1,by simp [h2],fun i hi hik=>?_⟩
 obtain ⟨a,b,c,d,e⟩:=h3 i hi hik
 refine ⟨?_,?_,?_,?_,?_⟩
 ·rw [←a,Array.getElem?_setIfInBounds,if_neg (by omega)]
 ·rw [←b,Array.getElem?_setIfInBounds,if_neg (by omega)]
 ·rw [←c,Array.getElem?_setIfInBounds,if_neg (by omega)]
 ·rw [←d,Array.getElem?_setIfInBounds,if_neg (by omega)]
 ·rw [←e,Array.getElem?_setIfInBounds,if_neg (by omega)]
theorem bU.next {w:World} {t:TypeId} {g n k:Nat} {l:List Con} (h:bU w t g n k l) (c:∀hk:k<l.length,oP w g (k*5) l[k]):bU w t g n (k+1) l:=by
 obtain ⟨arr,h1,h2,h3⟩:=h
 refine ⟨arr,h1,h2,fun i hi hik=>?_⟩
 by_cases e:i=k
 ·subst e
  obtain ⟨c0,c1,c2,c3,c4⟩:=c hi
  simp [World.cell?,h1] at c0 c1 c2 c3 c4
  exact ⟨c0,c1,c2,c3,c4⟩
 ·exact h3 i hi (by omega)
theorem bU.rowOf {w:World} {t:TypeId} {g c n:Nat} {l:List Con} (h:bU w t g c n l) (hl:n=l.length):bC w (some ⟨g,0,none⟩) n l:=by
 obtain ⟨arr,h1,h2,h3⟩:=h
 refine ⟨hl,.inr ⟨g,0,rfl,fun i hi=>?_⟩⟩
 obtain ⟨a,b,c,d,e⟩:=h3 i hi (by omega)
 unfold oP
 simp only [Nat.zero_add]
 exact ⟨by simp [World.cell?,h1,a],by simp [World.cell?,h1,b],by simp [World.cell?,h1,c],by simp [World.cell?,h1,d],by simp [World.cell?,h1,e]⟩
theorem gI {w:World} {g p q:Nat} {u v:Value} (h:w.cell? ⟨g,p,none⟩=some u) (hne:q≠p):(w.setCell ⟨g,q,none⟩ v).cell? ⟨g,p,none⟩=some u:=
 (World.cell?_setCell_other _ _ _ _ (fun e=>hne (congrArg Addr.off e))).trans h
theorem aFM {w w':World} {g p:Nat} {u:Value} (h:w.cell? ⟨g,p,none⟩=some u) (hb:Below w.heap.size w w'):w'.cell? ⟨g,p,none⟩=some u:=(hb.cell (yG h)).trans h
theorem zL (g n c K:Nat) {d:Nat} (w:World) (h:Cel w 38 g (c*5)) (hc:n≤c) (hn:n≤1048576) (h0:0<K) (h1:K≤1000000000000000) :
  Calls Tryz.prog 16 #[.slice (some ⟨g,0,none⟩) n d,.int .i64 (K:Int)] w fun e w'=>e=.returned (.int .i64 ((K:Int)+5*(n:Int)))∧bC w' (some ⟨g,0,none⟩) n (kE K n)∧Mkd g (g+1) w w':=by
 have HQ0:=aA (show bU w 38 g c 0 (kE K n) by obtain ⟨arr,h1,h2⟩:=h;exact ⟨arr,h1,h2,fun i _ h=>absurd h (by omega)⟩)
 clear h
 go_enter Tryz.func16,Tryz.ntmps16
 go_wp2
 go_loopw [1,5] (fun s i wr=>∃(j:Nat) (k:Int),j≤n∧i=.int .i64 j∧s=.int .i64 k∧k=(K:Int)+5*(j:Int)∧Hid (bU wr 38 g c j (kE K n))∧Hid (Mkd g (g+1) w wr)) (fun _ i _=>n - (intOf i).toNat)
 case atStart=>exact ⟨0,K,Nat.zero_le _,rfl,rfl,by omega,HQ0,aA (Mkd.refl _ _ _)⟩
 case round=>
  obtain ⟨j,k,hj,rfl,rfl,hk,HQ,HG⟩:=hrel
  by_cases hlt:j<n
  ·have HK:=aA hk
   have hk0:0<k:=by omega
   have hk1:k≤1000000010000000:=by omega
   clear hk
   obtain ⟨v0,d0⟩:=(uH HQ).cell (j:=j*5) (by omega)
   have f0:=(uH HQ).frozen (j*5)
   have X0_1:=aA (World.cell?_setCell_same _ ⟨g,j*5,none⟩ (.int .i64 (k)) d0)
   have HQ1:=aA ((uH HQ).tail (p:=j*5) (by omega) (.int .i64 (k)))
   have HG1:=aA ((uH HG).sc g (j*5) (.int .i64 (k)) (yJ _) (by omega))
   obtain ⟨v1,d1⟩:=(uH HQ1).cell (j:=j*5+1) (by omega)
   have f1:=(uH HQ1).frozen (j*5+1)
   have X0_2:=aA (gI (q:=j*5+1) (v:=.int .i64 (k+1)) (uH X0_1) (by omega))
   have X1_3:=aA (World.cell?_setCell_same _ ⟨g,j*5+1,none⟩ (.int .i64 (k+1)) d1)
   have HQ2:=aA ((uH HQ1).tail (p:=j*5+1) (by omega) (.int .i64 (k+1)))
   have HG2:=aA ((uH HG1).sc g (j*5+1) (.int .i64 (k+1)) (yJ _) (by omega))
   clear HQ HG X0_1 HQ1 HG1
   go_wp2_with fail
   refine (aV (k+1+1) _ (by omega) (by omega)).mono ?_
   rintro e w1 ⟨rfl,hb⟩
   have HQt:=aA ((uH HQ2).below hb)
   have HGt:=aA ((uH HG2).on hb)
   have Y0:=aA (aFM (uH X0_2) hb)
   have Y1:=aA (aFM (uH X1_3) hb)
   clear HQ2 HG2 X0_2 X1_3 hb d0 f0 d1 f1
   obtain ⟨v2,d2⟩:=(uH HQt).cell (j:=j*5+2) (by omega)
   have f2:=(uH HQt).frozen (j*5+2)
   have Z0_4:=aA (gI (q:=j*5+2) (v:=.string (mk (k+1+1).toNat)) (uH Y0) (by omega))
   have Z1_5:=aA (gI (q:=j*5+2) (v:=.string (mk (k+1+1).toNat)) (uH Y1) (by omega))
   have Z2_6:=aA (World.cell?_setCell_same _ ⟨g,j*5+2,none⟩ (.string (mk (k+1+1).toNat)) d2)
   have HQ3z:=aA ((uH HQt).tail (p:=j*5+2) (by omega) (.string (mk (k+1+1).toNat)))
   have HG3z:=aA ((uH HGt).sc g (j*5+2) (.string (mk (k+1+1).toNat)) (yJ _) (by omega))
   obtain ⟨v3,d3⟩:=(uH HQ3z).cell (j:=j*5+3) (by omega)
   have f3:=(uH HQ3z).frozen (j*5+3)
   have Z0_7:=aA (gI (q:=j*5+3) (v:=.int .i64 (k+1+1+1)) (uH Z0_4) (by omega))
   have Z1_8:=aA (gI (q:=j*5+3) (v:=.int .i64 (k+1+1+1)) (uH Z1_5) (by omega))
   have Z2_9:=aA (gI (q:=j*5+3) (v:=.int .i64 (k+1+1+1)) (uH Z2_6) (by omega))
   have Z3_10:=aA (World.cell?_setCell_same _ ⟨g,j*5+3,none⟩ (.int .i64 (k+1+1+1)) d3)
   have HQ4z:=aA ((uH HQ3z).tail (p:=j*5+3) (by omega) (.int .i64 (k+1+1+1)))
   have HG4z:=aA ((uH HG3z).sc g (j*5+3) (.int .i64 (k+1+1+1)) (yJ _) (by omega))
   obtain ⟨v4,d4⟩:=(uH HQ4z).cell (j:=j*5+4) (by omega)
   have f4:=(uH HQ4z).frozen (j*5+4)
   have HN:=aA (show bU _ 38 g c (j+1) (kE K n) from ((uH HQ4z).tail (p:=j*5+4) (by omega) (.int .i64 (k+1+1+1+1))).next (fun hj'=>by
    rw [aCZ]
    have e1:(k+1+1).toNat=K+5*j+1+1:=by have:=uH HK;omega
    have e3:=uH HK
    have y0:=gI (q:=j*5+4) (v:=.int .i64 (k+1+1+1+1)) (uH Z0_7) (by omega)
    have y1:=gI (q:=j*5+4) (v:=.int .i64 (k+1+1+1+1)) (uH Z1_8) (by omega)
    have y2:=gI (q:=j*5+4) (v:=.int .i64 (k+1+1+1+1)) (uH Z2_9) (by omega)
    have y3:=gI (q:=j*5+4) (v:=.int .i64 (k+1+1+1+1)) (uH Z3_10) (by omega)
    have y4:=World.cell?_setCell_same _ ⟨g,j*5+4,none⟩ (.int .i64 (k+1+1+1+1)) d4
    refine ⟨y0.trans ?_,y1.trans ?_,y2.trans ?_,y3.trans ?_,y4.trans ?_⟩
    ·rw [e3];rfl
    ·rw [e3];rfl
    ·rw [e1];rfl
    ·rw [e3];rfl
    ·rw [e3];rfl))
   have HGn:=aA ((uH HG4z).sc g (j*5+4) (.int .i64 (k+1+1+1+1)) (yJ _) (by omega))
   clear Y0 Y1 HQt HGt Z0_4 Z1_5 Z2_6 HQ3z HG3z HG4z Z0_7 Z1_8 Z2_9 Z3_10
   go_wp2
   go_roundw
   case rel=>exact ⟨j+1,k+1+1+1+1+1,by omega,by go_num,by go_num,by have:=uH HK;omega,HN,HGn⟩
   case measure=>simp [intOf];omega
  ·have hjn:j=n:=by omega
   subst hjn
   go_wp2
   go_ret
   exact ⟨bV (by omega),(uH HQ).rowOf (by rw [aA4]),uH HG⟩
def l8 (w0:World) (b p:Nat) (q:Con) (w:World):Prop:=oP w b p q∧Below w0.heap.size w0 w
theorem l8.call {w0 w w':World} {b p:Nat} {q:Con} (h:l8 w0 b p q w) (hb:Below w.heap.size w w'):l8 w0 b p q w':=⟨h.1.below hb,yB h.2 hb⟩
theorem l8.drew {w0 w:World} {b p:Nat} {q:Con} (h:l8 w0 b p q w):l8 w0 b p q w.drew:=h.call (yH _ _).drew
theorem l8.read (w0:World) (b p:Nat) (q:Con):∀wx,l8 w0 b p q wx→wx.cell? ⟨b,p,none⟩=some (.int .i64 q.id)∧wx.cell? ⟨b,p+1,none⟩=some (.int .i64 q.app)∧wx.cell? ⟨b,p+2,none⟩=some (.string (bs q.node))∧wx.cell? ⟨b,p+3,none⟩=some (.int .i64 q.mem)∧wx.cell? ⟨b,p+4,none⟩=some (.int .i64 q.cpu):=fun wx h=>h.1
theorem rD (ao:Option Addr) (n c K:Nat) (w:World) (h:bC w ao n (kE K n)) (hn:n≤1048576) (h0:0<K) (h1:K≤1000000000000000) :
  Calls Tryz.prog 17 #[.slice ao n c,.int .i64 (K:Int)] w fun e w'=>e=.returned (.int .i64 ((K:Int)+5*(n:Int)))∧Below w.heap.size w w':=by
 have HR:=aA h
 clear h
 go_enter Tryz.func17,Tryz.ntmps17
 go_wp2
 go_loopw [1,5] (fun s i wr=>∃(j:Nat) (k:Int),j≤n∧i=.int .i64 j∧s=.int .i64 k∧k=(K:Int)+5*(j:Int)∧Hid (Below w.heap.size w wr)) (fun _ i _=>n - (intOf i).toNat)
 case atStart=>exact ⟨0,K,Nat.zero_le _,rfl,rfl,by omega,aA (yH _ _)⟩
 case round=>
  obtain ⟨j,k,hj,rfl,rfl,hk,HB⟩:=hrel
  by_cases hlt:j<n
  ·obtain ⟨b,off,rfl,hq⟩:=((uH HR).below (uH HB)).at hlt
   have hqq:=hq (by rw [aA4];exact hlt)
   rw [aCZ] at hqq
   have T0:∀wx,Calls Tryz.prog 47 #[.int .i64 (k+1+1)] wx fun e w'=>e=.returned (.string (bs (aC2 K j).node))∧Below wx.heap.size wx w':=fun wx=>by
    have:=aV (k+1+1) wx (by omega) (by omega)
    rw [show (k+1+1).toNat=K+5*j+1+1 by omega] at this
    exact this
   have h_0:(aC2 K j).id=k:=by rw [hk];rfl
   have h_1:(aC2 K j).app=k+1:=by rw [hk];rfl
   have h_3:(aC2 K j).mem=k+1+1+1:=by rw [hk];rfl
   have h_4:(aC2 K j).cpu=k+1+1+1+1:=by rw [hk];rfl
   obtain ⟨q,hqe⟩:∃q,aC2 K j=q:=⟨_,rfl⟩
   rw [hqe] at hqq T0 h_0 h_1 h_3 h_4
   have A0:=aA (show l8 w b (off+j*5) q wr from ⟨hqq,uH HB⟩)
   have C0:=aA T0
   have HK:=aA hk
   have H_0:=aA h_0
   have H_1:=aA h_1
   have H_3:=aA h_3
   have H_4:=aA h_4
   have R:=l8.read w b (off+j*5) q
   have R':=aA R
   obtain ⟨r0,r1,_,_,_⟩:=R _ (uH A0)
   rw [h_0] at r0
   rw [h_1] at r1
   have j0:(0:Int)≤j:=by omega
   have j1:(j:Int)<n:=by omega
   have hk0:0<k:=by omega
   have hk1:k≤1000000010000000:=by omega
   have hw1:IntKind.i64.wrap (k+1)=k+1:=by rw [IntKind.wrap_i64];omega
   have hw2:IntKind.i64.wrap (k+1+1)=k+1+1:=by rw [IntKind.wrap_i64];omega
   clear hq hqq T0 hqe hk h_0 h_1 h_3 h_4 R
   go_wp2_with fail
   have R:=uH R'
   clear r0 r1
   go_region_held3 (fun wx=>l8 w b (off+j*5) q wx)
    (first | (with_reducible assumption) | exact (uH A0).drew | exact l8.call (by assumption) (by assumption))
    (first
    | (go_at_call 47;refine (uH C0 _).mono ?_;rintro e wt ⟨rfl,hb⟩;have SA:=l8.call (w0:=w) (b:=b) (p:=off+j*5) (q:=q) (by assumption) hb))
   obtain ⟨_,_,_,r3,r4⟩:=R _ SA
   rw [uH H_3] at r3
   rw [uH H_4] at r4
   have HB2:=aA SA.2
   clear SA A0 R C0 R'
   go_wp2
   go_roundw
   case rel=>exact ⟨j+1,k+1+1+1+1+1,by omega,by go_num,by go_num,by have:=uH HK;omega,HB2⟩
   case measure=>simp [intOf];omega
  ·have hjn:j=n:=by omega
   subst hjn
   go_wp2
   go_ret
   exact ⟨bV (by omega),uH HB⟩
def aC5 (k j:Nat):Ask:=⟨(k:Int)+5*(j:Int),(k:Int)+5*(j:Int)+1,(k:Int)+5*(j:Int)+1+1,109::dgs (k+5*j+1+1+1),(k:Int)+5*(j:Int)+1+1+1+1⟩
def kF (k n:Nat):List Ask:=(List.range n).map (aC5 k)
theorem aA5 (k n:Nat):(kF k n).length=n:=by simp [kF]
theorem aC0 (k n j:Nat) (h:j<(kF k n).length):(kF k n)[j]=aC5 k j:=by simp [kF]
theorem bM.tail {w:World} {t:TypeId} {g n k:Nat} {l:List Ask} (h:bM w t g n k l) {p:Nat} (hp:k*5≤p) (v:Value):bM (w.setCell ⟨g,p,none⟩ v) t g n k l:=by
 obtain ⟨arr,h1,h2,h3⟩:=h
 refine ⟨_,heap_setCell_same w g p _ _ v h1,by simp [h2],fun i hi hik=>?_⟩
 obtain ⟨a,b,c,d,e⟩:=h3 i hi hik
 refine ⟨?_,?_,?_,?_,?_⟩
 ·rw [←a,Array.getElem?_setIfInBounds,if_neg (by omega)]
 ·rw [←b,Array.getElem?_setIfInBounds,if_neg (by omega)]
 ·rw [←c,Array.getElem?_setIfInBounds,if_neg (by omega)]
 ·rw [←d,Array.getElem?_setIfInBounds,if_neg (by omega)]
 ·rw [←e,Array.getElem?_setIfInBounds,if_neg (by omega)]
theorem bM.next {w:World} {t:TypeId} {g n k:Nat} {l:List Ask} (h:bM w t g n k l) (c:∀hk:k<l.length,pV w g (k*5) l[k]):bM w t g n (k+1) l:=by
 obtain ⟨arr,h1,h2,h3⟩:=h
 refine ⟨arr,h1,h2,fun i hi hik=>?_⟩
 by_cases e:i=k
 ·subst e
  obtain ⟨c0,c1,c2,c3,c4⟩:=c hi
  simp [World.cell?,h1] at c0 c1 c2 c3 c4
  exact ⟨c0,c1,c2,c3,c4⟩
 ·exact h3 i hi (by omega)
theorem bM.rowOf {w:World} {t:TypeId} {g c n:Nat} {l:List Ask} (h:bM w t g c n l) (hl:n=l.length):aO w (some ⟨g,0,none⟩) n l:=by
 obtain ⟨arr,h1,h2,h3⟩:=h
 refine ⟨hl,.inr ⟨g,0,rfl,fun i hi=>?_⟩⟩
 obtain ⟨a,b,c,d,e⟩:=h3 i hi (by omega)
 unfold pV
 simp only [Nat.zero_add]
 exact ⟨by simp [World.cell?,h1,a],by simp [World.cell?,h1,b],by simp [World.cell?,h1,c],by simp [World.cell?,h1,d],by simp [World.cell?,h1,e]⟩
theorem bI {w:World} {g p q:Nat} {u v:Value} (h:w.cell? ⟨g,p,none⟩=some u) (hne:q≠p):(w.setCell ⟨g,q,none⟩ v).cell? ⟨g,p,none⟩=some u:=
 (World.cell?_setCell_other _ _ _ _ (fun e=>hne (congrArg Addr.off e))).trans h
theorem gD {w w':World} {g p:Nat} {u:Value} (h:w.cell? ⟨g,p,none⟩=some u) (hb:Below w.heap.size w w'):w'.cell? ⟨g,p,none⟩=some u:=(hb.cell (yG h)).trans h
theorem qV (g n c K:Nat) {d:Nat} (w:World) (h:Cel w 77 g (c*5)) (hc:n≤c) (hn:n≤1048576) (h0:0<K) (h1:K≤1000000000000000) :
  Calls Tryz.prog 77 #[.slice (some ⟨g,0,none⟩) n d,.int .i64 (K:Int)] w fun e w'=>e=.returned (.int .i64 ((K:Int)+5*(n:Int)))∧aO w' (some ⟨g,0,none⟩) n (kF K n)∧Mkd g (g+1) w w':=by
 have HQ0:=aA (show bM w 77 g c 0 (kF K n) by obtain ⟨arr,h1,h2⟩:=h;exact ⟨arr,h1,h2,fun i _ h=>absurd h (by omega)⟩)
 clear h
 go_enter Tryz.func77,Tryz.ntmps77
 go_wp2
 go_loopw [1,5] (fun s i wr=>∃(j:Nat) (k:Int),j≤n∧i=.int .i64 j∧s=.int .i64 k∧k=(K:Int)+5*(j:Int)∧Hid (bM wr 77 g c j (kF K n))∧Hid (Mkd g (g+1) w wr)) (fun _ i _=>n - (intOf i).toNat)
 case atStart=>exact ⟨0,K,Nat.zero_le _,rfl,rfl,by omega,HQ0,aA (Mkd.refl _ _ _)⟩
 case round=>
  obtain ⟨j,k,hj,rfl,rfl,hk,HQ,HG⟩:=hrel
  by_cases hlt:j<n
  ·have HK:=aA hk
   have hk0:0<k:=by omega
   have hk1:k≤1000000010000000:=by omega
   clear hk
   obtain ⟨v0,d0⟩:=(uH HQ).cell (j:=j*5) (by omega)
   have f0:=(uH HQ).frozen (j*5)
   have X0:=aA (World.cell?_setCell_same wr ⟨g,j*5,none⟩ (.int .i64 k) d0)
   have HQ1:=aA ((uH HQ).tail (p:=j*5) (by omega) (.int .i64 k))
   have HG1:=aA ((uH HG).sc g (j*5) (.int .i64 k) (yJ _) (by omega))
   obtain ⟨v1,d1⟩:=(uH HQ1).cell (j:=j*5+1) (by omega)
   have f1:=(uH HQ1).frozen (j*5+1)
   have X1:=aA (World.cell?_setCell_same _ ⟨g,j*5+1,none⟩ (.int .i64 (k+1)) d1)
   have X01:=aA (bI (q:=j*5+1) (v:=.int .i64 (k+1)) (uH X0) (by omega))
   have HQ2:=aA ((uH HQ1).tail (p:=j*5+1) (by omega) (.int .i64 (k+1)))
   have HG2:=aA ((uH HG1).sc g (j*5+1) (.int .i64 (k+1)) (yJ _) (by omega))
   obtain ⟨v2,d2⟩:=(uH HQ2).cell (j:=j*5+2) (by omega)
   have f2:=(uH HQ2).frozen (j*5+2)
   have X2:=aA (World.cell?_setCell_same _ ⟨g,j*5+2,none⟩ (.int .i64 (k+1+1)) d2)
   have X02:=aA (bI (q:=j*5+2) (v:=.int .i64 (k+1+1)) (uH X01) (by omega))
   have X12:=aA (bI (q:=j*5+2) (v:=.int .i64 (k+1+1)) (uH X1) (by omega))
   have HQ3:=aA ((uH HQ2).tail (p:=j*5+2) (by omega) (.int .i64 (k+1+1)))
   have HG3:=aA ((uH HG2).sc g (j*5+2) (.int .i64 (k+1+1)) (yJ _) (by omega))
   clear X0 X1 X01 HQ HG
   go_wp2_with fail
   refine (aV (k+1+1+1) _ (by omega) (by omega)).mono ?_
   rintro e w1 ⟨rfl,hb⟩
   have HQ4:=aA ((uH HQ3).below hb)
   have HG4:=aA ((uH HG3).on hb)
   have Y0:=aA (gD (uH X02) hb)
   have Y1:=aA (gD (uH X12) hb)
   have Y2:=aA (gD (uH X2) hb)
   clear hb d0 f0 d1 f1 d2 f2 X2 X02 X12 HQ1 HQ2 HQ3 HG1 HG2 HG3
   obtain ⟨v3,d3⟩:=(uH HQ4).cell (j:=j*5+3) (by omega)
   have f3:=(uH HQ4).frozen (j*5+3)
   have Z0:=aA (bI (q:=j*5+3) (v:=.string (mk (k+1+1+1).toNat)) (uH Y0) (by omega))
   have Z1:=aA (bI (q:=j*5+3) (v:=.string (mk (k+1+1+1).toNat)) (uH Y1) (by omega))
   have Z2:=aA (bI (q:=j*5+3) (v:=.string (mk (k+1+1+1).toNat)) (uH Y2) (by omega))
   have Z3:=aA (World.cell?_setCell_same w1 ⟨g,j*5+3,none⟩ (.string (mk (k+1+1+1).toNat)) d3)
   have HQ5:=aA ((uH HQ4).tail (p:=j*5+3) (by omega) (.string (mk (k+1+1+1).toNat)))
   have HG5:=aA ((uH HG4).sc g (j*5+3) (.string (mk (k+1+1+1).toNat)) (yJ _) (by omega))
   obtain ⟨v4,d4⟩:=(uH HQ5).cell (j:=j*5+4) (by omega)
   have f4:=(uH HQ5).frozen (j*5+4)
   have HN:=aA (show bM _ 77 g c (j+1) (kF K n) from ((uH HQ5).tail (p:=j*5+4) (by omega) (.int .i64 (k+1+1+1+1))).next (fun hj'=>by
    rw [aC0]
    have e1:(k+1+1+1).toNat=K+5*j+1+1+1:=by have:=uH HK;omega
    have e3:=uH HK
    have y0:=bI (q:=j*5+4) (v:=.int .i64 (k+1+1+1+1)) (uH Z0) (by omega)
    have y1:=bI (q:=j*5+4) (v:=.int .i64 (k+1+1+1+1)) (uH Z1) (by omega)
    have y2:=bI (q:=j*5+4) (v:=.int .i64 (k+1+1+1+1)) (uH Z2) (by omega)
    have y3:=bI (q:=j*5+4) (v:=.int .i64 (k+1+1+1+1)) (uH Z3) (by omega)
    have y4:=World.cell?_setCell_same _ ⟨g,j*5+4,none⟩ (.int .i64 (k+1+1+1+1)) d4
    refine ⟨y0.trans ?_,y1.trans ?_,y2.trans ?_,y3.trans ?_,y4.trans ?_⟩
    ·rw [e3];rfl
    ·rw [e3];rfl
    ·rw [e3];rfl
    ·rw [e1];rfl
    ·rw [e3];rfl))
   have HG6:=aA ((uH HG5).sc g (j*5+4) (.int .i64 (k+1+1+1+1)) (yJ _) (by omega))
   clear HQ4 HG4 HG5 Y0 Y1 Y2 Z0 Z1 Z2 Z3
   go_wp2
   go_roundw
   case rel=>exact ⟨j+1,k+1+1+1+1+1,by omega,by go_num,by go_num,by have:=uH HK;omega,HN,HG6⟩
   case measure=>simp [intOf];omega
  ·have hjn:j=n:=by omega
   subst hjn
   go_wp2
   go_ret
   exact ⟨bV (by omega),(uH HQ).rowOf (by rw [aA5]),uH HG⟩
abbrev aDm (q:AV):List Value:=[.int .i64 q.id,.string (bs q.queue),.slice q.ao q.len q.cap]
def dB:List AV→List Value
 | []=>[]
 | q::t=>aDm q++dB t
theorem aAQ (a:List AV) (q:AV):dB (a++[q])=dB a++aDm q:=by
 induction a with
 | nil=>rfl
 | cons x t ih=>rw [List.cons_append,dB,dB,ih,List.append_assoc]
theorem iJ:∀l:List AV,(dB l).length=l.length*3
 | []=>rfl
 | q::t=>by rw [dB,List.length_append,iJ t];simp;omega
theorem kC:∀(l:List AV) (i:Nat) (h:i<l.length),(dB l)[i*3]? = some (.int .i64 l[i].id)∧(dB l)[i*3+1]? = some (.string (bs l[i].queue))∧(dB l)[i*3+2]? = some (.slice l[i].ao l[i].len l[i].cap)
 | q::t,0,_=>⟨rfl,rfl,rfl⟩
 | q::t,i+1,h=>by
  have e:=kC t i (by simpa using h)
  have k:∀j,(dB (q::t))[(i+1)*3+j]? = (dB t)[i*3+j]?:=fun j=>by
   rw [dB,show (i+1)*3+j=(aDm q).length+(i*3+j) by simp;omega,List.getElem?_append_right (by omega)]
   congr 1
   omega
  have k0:=k 0
  simp only [Nat.add_zero] at k0
  rw [k0,k 1,k 2]
  simpa using e
theorem aAO {w:World} {b off len:Nat} {l:List AV} (h:fA w (some ⟨b,off,none⟩) len l):∀j u,(dB l)[j]? = some u→w.cell? ⟨b,off+j,none⟩=some u:=fun j u hj=>by
 have hjl:j<l.length*3:=by rw [←iJ];exact (List.getElem?_eq_some_iff.1 hj).1
 obtain ⟨h1,h2⟩:=h
 rcases h2 with h2 | ⟨b',off',e,h4⟩
 ·omega
 ·cases e
  have hi:j / 3<l.length:=by omega
  obtain ⟨a0,a1,a2⟩:=kC l (j / 3) hi
  obtain ⟨c0,c1,c2⟩:=h4 (j / 3) hi
  rcases (show j % 3=0∨j % 3=1∨j % 3=2 by omega) with e | e | e
  ·rw [show j=j / 3*3 by omega] at hj ⊢;rw [a0] at hj;cases hj;exact c0
  ·rw [show j=j / 3*3+1 by omega] at hj ⊢;rw [a1] at hj;cases hj;rw [←Nat.add_assoc];exact c1
  ·rw [show j=j / 3*3+2 by omega] at hj ⊢;rw [a2] at hj;cases hj;rw [←Nat.add_assoc];exact c2
theorem aAP:∀(l:List AV),∀u ∈ dB l,u.oneCell'=true
 | [],u,h=>by simp [dB] at h
 | q::t,u,h=>by
  rw [dB,List.mem_append] at h
  rcases h with h | h
  ·simp at h
   rcases h with rfl | rfl | rfl<;>rfl
  ·exact aAP t u h
def aBm (B:Nat) (w:World) (v:Value) (l:List AV):Prop:=w.ownsRow B 74 3 v l.length (dB l)
theorem aIy (B:Nat) (w:World):aBm B w (.slice none 0 0) []:=World.ownsRow_nil _ _ _ _
theorem aAL (w:World):w.alloc (.cells #[] 74) |>.ownsRow w.heap.size 74 3 (.slice (some ⟨w.heap.size,0,none⟩) 0 0) 0 []:=
 ⟨rfl,.inr ⟨w.heap.size,0,#[],rfl,yJ _,by show (w.heap.push _)[w.heap.size]? = _;simp,yJ _,by unfold maxLen;omega,rfl,rfl⟩⟩
theorem aAM {w w':World} {B:Nat} {v:Value} {l:List AV} (h:aBm B w v l) (hb:Below w.heap.size w w'):aBm B w' v l:=
 World.ownsRow.kept h (aG (aC w none) hb) (by by_cases e:v.ownBlock=none;exact .inl e;exact .inr e)
theorem wD {w:World} {B B':Nat} {v:Value} {l:List AV} (h:aBm B w v l) (hb:B'≤B):aBm B' w v l:=by
 obtain ⟨h1,h2⟩:=h
 refine ⟨h1,?_⟩
 rcases h2 with h2 | ⟨g,cap,cur,a,b,c⟩
 ·exact .inl h2
 ·exact .inr ⟨g,cap,cur,a,Nat.le_trans hb b,c⟩
theorem aIx {w:World} {B:Nat} {v:Value} {l:List AV} (h:aBm B w v l):∃ao cap,v=.slice ao l.length cap∧fA w ao l.length l∧l.length≤cap∧(l≠[]→∃g cur,ao=some ⟨g,0,none⟩∧B≤g∧w.heap[g]? = some (.cells cur 74 (0,0))∧cur.size=cap*3):=by
 rcases h.2 with ⟨rfl,h0⟩ | ⟨g,cap,cur,rfl,h1,h2,h3,h4,h5,h6⟩
 ·exact ⟨none,0,by rw [h0],⟨rfl,.inl h0⟩,by omega,fun hn=>absurd (List.length_eq_zero_iff.1 h0) hn⟩
 ·refine ⟨some ⟨g,0,none⟩,cap,rfl,⟨rfl,.inr ⟨g,0,rfl,fun i hi=>?_⟩⟩,h3,fun _=>⟨g,cur,rfl,h1,h2,h5⟩⟩
  obtain ⟨a,b,c⟩:=kC l i hi
  have k:∀j (v:Value),j<l.length*3→(dB l)[j]? = some v→w.cell? ⟨g,j,none⟩=some v:=fun j v hj hv=>by
   rw [←h6,List.getElem?_take_of_lt hj] at hv
   simp [World.cell?,h2]
   simpa using hv
  unfold aGk
  rw [Nat.zero_add]
  exact ⟨k _ _ (by omega) a,k _ _ (by omega) b,k _ _ (by omega) c⟩
theorem aAK {w:World} {B:Nat} {v:Value} {l:List AV} (h:aBm B w v l) (k j:Nat) (x:Value) (hk:k<B):aBm B (w.setCell ⟨k,j,none⟩ x) v l:=by
 obtain ⟨h1,h2⟩:=h
 refine ⟨h1,?_⟩
 rcases h2 with h2 | ⟨g,cap,cur,a,b,c,d⟩
 ·exact .inl h2
 ·exact .inr ⟨g,cap,cur,a,b,(heap_setCell_other w ⟨k,j,none⟩ g x (show g≠k by omega)).trans c,d⟩
theorem Tryz.infoApp:(Tryz.prog.info? 74).map (fun i=>(i.zero,i.size,i.bytes))=some (some (.agg #[.int .i64 0,.string ByteArray.empty,.slice none 0 0]),3,48):=by kernel_rfl
theorem aDJ (ao:Option Addr) (len cap:Nat) (l:List AV) (w:World) (h:fA w ao len l) (hl:len≤1048576) :
  Calls Tryz.prog 64 #[.slice ao len cap] w fun e w'=>∃v,e=.returned v∧aBm w.heap.size w' v l∧Below w.heap.size w w':=by
 obtain ⟨i0,hi,hz0,hz1,hz2⟩:=info_parts Tryz.infoApp
 cases ao with
 | none=>
  have hn:len=0:=by rcases h.2 with h | ⟨b,off,e,_⟩;exact h;cases e
  subst hn
  have hl0:l=[]:=List.length_eq_zero_iff.1 h.1.symm
  subst hl0
  have hnl:∀wx,(binOp .eql 30 (.slice none 0 cap) (.slice none 0 0)).run Tryz.prog wx=.ok (.bool true) wx:=fun wx=>Lib.run_eql_slice_nil wx _ _ none 0 cap 0 0 Tryz.underlying30
  clear h hl
  go_enter Tryz.func64,Tryz.ntmps64
  go_wp2
  go_ret
  exact ⟨_,rfl,aIy _ _,yH _ _⟩
 | some ad=>
  have hnew:∀j u,(dB l)[j]? = some u→(w.alloc (.cells #[] 74)).cell? (ad.add j)=some u:=fun j u hj=>by
   have hjl:j<l.length*3:=by rw [←iJ];exact (List.getElem?_eq_some_iff.1 hj).1
   rcases h.2 with h0 | ⟨b,off,e,_⟩
   ·have:=h.1;omega
   ·cases e
    have:=aAO (h.below (yA (yH _ w) (.cells #[] 74))) j u hj
    rw [Lib.add_plain]
    exact this
  have HNW:=aA hnew
  have HLN:=aA h.1
  have hown:=aAL w
  have hll:(dB l).length=len*3:=by rw [iJ,h.1]
  have hone:=aAP l
  have hnl:∀wx,(binOp .eql 30 (.slice (some ad) len cap) (.slice none 0 0)).run Tryz.prog wx=.ok (.bool false) wx:=fun wx=>Lib.run_eql_slice_nil wx _ _ (some ad) len cap 0 0 Tryz.underlying30
  clear h hnew
  go_enter Tryz.func64,Tryz.ntmps64
  go_wp2_with (at_builtin;refine wpList_append_own _ rfl _ _ 30 rfl w.heap.size 74 i0 (.agg #[.int .i64 0,.string ByteArray.empty,.slice none 0 0]) 3 48 Tryz.underlying30 hi hz0 hz1 hz2 rfl (by decide) _ _ _ rfl hown ad len cap (dB l) rfl hll (uH HNW) hone ?c3 ?c4 ?c5 ?_)
  case c3=>unfold maxLen;omega
  case c4=>omega
  case c5=>simp
  intro v' w3 hown' hgrow _
  have HO:=aA (show aBm w.heap.size w3 v' l by
   unfold aBm
   rw [←uH HLN]
   simpa using hown')
  have HB:=aA (show Below w.heap.size w w3 from (yA (yH _ w) (.cells #[] 74)).grown hgrow (by simp) (fun k e=>by simp [Value.ownBlock] at e;omega))
  clear hown' hgrow hown hone hll
  go_wp2
  go_ret
  exact ⟨_,rfl,uH HO,uH HB⟩
theorem wQ (g n c:Nat) (k0:Int) (w:World) (h:Cel w 100 g (c*4)) (hc:n≤c) (hn:n≤1048576) (h0:0<k0) (h1:k0≤1000000000000000) :
  Calls Tryz.prog 35 #[.slice (some ⟨g,0,none⟩) n c,.int .i64 k0] w fun e w'=>e=.returned (.int .i64 (k0+4*(n:Int)))∧Mkd g (g+1) w w':=by
 have HQ0:=aA h
 clear h
 go_enter Tryz.func35,Tryz.ntmps35
 go_wp2
 go_loopw [1,5] (fun s i wr=>∃(j:Nat) (k:Int),j≤n∧i=.int .i64 j∧s=.int .i64 k∧k=k0+4*(j:Int)∧Hid (Cel wr 100 g (c*4))∧Hid (Mkd g (g+1) w wr)) (fun _ i _=>n - (intOf i).toNat)
 case atStart=>exact ⟨0,k0,Nat.zero_le _,rfl,rfl,by omega,HQ0,aA (Mkd.refl _ _ _)⟩
 case round=>
  obtain ⟨j,k,hj,rfl,rfl,hk,HQ,HG⟩:=hrel
  by_cases hlt:j<n
  ·have HK:=aA hk
   have hk0:0<k:=by omega
   have hk1:k≤1000000010000000:=by omega
   clear hk
   go_wp2_with fail
   refine (aV k _ (by omega) (by omega)).mono ?_
   rintro e w1 ⟨rfl,hb⟩
   have HQt0:=aA ((uH HQ).below hb)
   have HGt0:=aA ((uH HG).on hb)
   clear hb  HQ HG
   obtain ⟨v0,d0⟩:=(uH HQt0).cell (j:=j*4) (by omega)
   have f0:=(uH HQt0).frozen (j*4)
   have HQs0:=aA ((uH HQt0).set g (j*4) (.string (mk k.toNat)))
   have HGs0:=aA ((uH HGt0).sc g (j*4) (.string (mk k.toNat)) (yJ _) (by omega))
   go_wp2_with fail
   refine (aV (k+1) _ (by omega) (by omega)).mono ?_
   rintro e w2 ⟨rfl,hb⟩
   have HQt1:=aA ((uH HQs0).below hb)
   have HGt1:=aA ((uH HGs0).on hb)
   clear hb d0 f0 HQt0 HGt0 HQs0 HGs0
   obtain ⟨v1,d1⟩:=(uH HQt1).cell (j:=j*4+1) (by omega)
   have f1:=(uH HQt1).frozen (j*4+1)
   have HQs1:=aA ((uH HQt1).set g (j*4+1) (.string (mk (k+1).toNat)))
   have HGs1:=aA ((uH HGt1).sc g (j*4+1) (.string (mk (k+1).toNat)) (yJ _) (by omega))
   obtain ⟨v2,d2⟩:=(uH HQs1).cell (j:=j*4+2) (by omega)
   have f2:=(uH HQs1).frozen (j*4+2)
   have HQs2:=aA ((uH HQs1).set g (j*4+2) (.int .i64 (k+1+1)))
   have HGs2:=aA ((uH HGs1).sc g (j*4+2) (.int .i64 (k+1+1)) (yJ _) (by omega))
   obtain ⟨v3,d3⟩:=(uH HQs2).cell (j:=j*4+3) (by omega)
   have f3:=(uH HQs2).frozen (j*4+3)
   have HQs3:=aA ((uH HQs2).set g (j*4+3) (.int .i64 (k+1+1+1)))
   have HGs3:=aA ((uH HGs2).sc g (j*4+3) (.int .i64 (k+1+1+1)) (yJ _) (by omega))
   go_wp2
   go_roundw
   case rel=>exact ⟨j+1,k+1+1+1+1,by omega,by go_num,by go_num,by have:=uH HK;omega,HQs3,HGs3⟩
   case measure=>simp [intOf];omega
  ·have hjn:j=n:=by omega
   subst hjn
   go_wp2
   go_ret
   exact ⟨bV (by omega),uH HG⟩
theorem sI (g n c:Nat) (k0:Int) (w:World) (h:Cel w 104 g (c*4)) (hc:n≤c) (hn:n≤1048576) (h0:0<k0) (h1:k0≤1000000000000000) :
  Calls Tryz.prog 37 #[.slice (some ⟨g,0,none⟩) n c,.int .i64 k0] w fun e w'=>e=.returned (.int .i64 (k0+4*(n:Int)))∧Mkd g (g+1) w w':=by
 have HQ0:=aA h
 clear h
 go_enter Tryz.func37,Tryz.ntmps37
 go_wp2
 go_loopw [1,5] (fun s i wr=>∃(j:Nat) (k:Int),j≤n∧i=.int .i64 j∧s=.int .i64 k∧k=k0+4*(j:Int)∧Hid (Cel wr 104 g (c*4))∧Hid (Mkd g (g+1) w wr)) (fun _ i _=>n - (intOf i).toNat)
 case atStart=>exact ⟨0,k0,Nat.zero_le _,rfl,rfl,by omega,HQ0,aA (Mkd.refl _ _ _)⟩
 case round=>
  obtain ⟨j,k,hj,rfl,rfl,hk,HQ,HG⟩:=hrel
  by_cases hlt:j<n
  ·have HK:=aA hk
   have hk0:0<k:=by omega
   have hk1:k≤1000000010000000:=by omega
   clear hk
   go_wp2_with fail
   refine (aV k _ (by omega) (by omega)).mono ?_
   rintro e w1 ⟨rfl,hb⟩
   have HQt0:=aA ((uH HQ).below hb)
   have HGt0:=aA ((uH HG).on hb)
   clear hb  HQ HG
   obtain ⟨v0,d0⟩:=(uH HQt0).cell (j:=j*4) (by omega)
   have f0:=(uH HQt0).frozen (j*4)
   have HQs0:=aA ((uH HQt0).set g (j*4) (.string (mk k.toNat)))
   have HGs0:=aA ((uH HGt0).sc g (j*4) (.string (mk k.toNat)) (yJ _) (by omega))
   obtain ⟨v1,d1⟩:=(uH HQs0).cell (j:=j*4+1) (by omega)
   have f1:=(uH HQs0).frozen (j*4+1)
   have HQs1:=aA ((uH HQs0).set g (j*4+1) (.int .i64 (k+1)))
   have HGs1:=aA ((uH HGs0).sc g (j*4+1) (.int .i64 (k+1)) (yJ _) (by omega))
   obtain ⟨v2,d2⟩:=(uH HQs1).cell (j:=j*4+2) (by omega)
   have f2:=(uH HQs1).frozen (j*4+2)
   have HQs2:=aA ((uH HQs1).set g (j*4+2) (.int .i64 (k+1+1)))
   have HGs2:=aA ((uH HGs1).sc g (j*4+2) (.int .i64 (k+1+1)) (yJ _) (by omega))
   obtain ⟨v3,d3⟩:=(uH HQs2).cell (j:=j*4+3) (by omega)
   have f3:=(uH HQs2).frozen (j*4+3)
   have HQs3:=aA ((uH HQs2).set g (j*4+3) (.int .i64 (k+1+1+1)))
   have HGs3:=aA ((uH HGs2).sc g (j*4+3) (.int .i64 (k+1+1+1)) (yJ _) (by omega))
   go_wp2
   go_roundw
   case rel=>exact ⟨j+1,k+1+1+1+1,by omega,by go_num,by go_num,by have:=uH HK;omega,HQs3,HGs3⟩
   case measure=>simp [intOf];omega
  ·have hjn:j=n:=by omega
   subst hjn
   go_wp2
   go_ret
   exact ⟨bV (by omega),uH HG⟩
theorem zM (g n c:Nat) (k0:Int) (w:World) (h:Cel w 38 g (c*5)) (hc:n≤c) (hn:n≤1048576) (h0:0<k0) (h1:k0≤1000000000000000) :
  Calls Tryz.prog 16 #[.slice (some ⟨g,0,none⟩) n c,.int .i64 k0] w fun e w'=>e=.returned (.int .i64 (k0+5*(n:Int)))∧Mkd g (g+1) w w':=by
 have HQ0:=aA h
 clear h
 go_enter Tryz.func16,Tryz.ntmps16
 go_wp2
 go_loopw [1,5] (fun s i wr=>∃(j:Nat) (k:Int),j≤n∧i=.int .i64 j∧s=.int .i64 k∧k=k0+5*(j:Int)∧Hid (Cel wr 38 g (c*5))∧Hid (Mkd g (g+1) w wr)) (fun _ i _=>n - (intOf i).toNat)
 case atStart=>exact ⟨0,k0,Nat.zero_le _,rfl,rfl,by omega,HQ0,aA (Mkd.refl _ _ _)⟩
 case round=>
  obtain ⟨j,k,hj,rfl,rfl,hk,HQ,HG⟩:=hrel
  by_cases hlt:j<n
  ·have HK:=aA hk
   have hk0:0<k:=by omega
   have hk1:k≤1000000010000000:=by omega
   clear hk
   obtain ⟨v0,d0⟩:=(uH HQ).cell (j:=j*5) (by omega)
   have f0:=(uH HQ).frozen (j*5)
   have HQs0:=aA ((uH HQ).set g (j*5) (.int .i64 k))
   have HGs0:=aA ((uH HG).sc g (j*5) (.int .i64 k) (yJ _) (by omega))
   obtain ⟨v1,d1⟩:=(uH HQs0).cell (j:=j*5+1) (by omega)
   have f1:=(uH HQs0).frozen (j*5+1)
   have HQs1:=aA ((uH HQs0).set g (j*5+1) (.int .i64 (k+1)))
   have HGs1:=aA ((uH HGs0).sc g (j*5+1) (.int .i64 (k+1)) (yJ _) (by omega))
   go_wp2_with fail
   refine (aV (k+1+1) _ (by omega) (by omega)).mono ?_
   rintro e w1 ⟨rfl,hb⟩
   have HQt2:=aA ((uH HQs1).below hb)
   have HGt2:=aA ((uH HGs1).on hb)
   clear hb d0 f0 HQ HG d1 f1 HQs0 HGs0 HQs1 HGs1
   obtain ⟨v2,d2⟩:=(uH HQt2).cell (j:=j*5+2) (by omega)
   have f2:=(uH HQt2).frozen (j*5+2)
   have HQs2:=aA ((uH HQt2).set g (j*5+2) (.string (mk (k+1+1).toNat)))
   have HGs2:=aA ((uH HGt2).sc g (j*5+2) (.string (mk (k+1+1).toNat)) (yJ _) (by omega))
   obtain ⟨v3,d3⟩:=(uH HQs2).cell (j:=j*5+3) (by omega)
   have f3:=(uH HQs2).frozen (j*5+3)
   have HQs3:=aA ((uH HQs2).set g (j*5+3) (.int .i64 (k+1+1+1)))
   have HGs3:=aA ((uH HGs2).sc g (j*5+3) (.int .i64 (k+1+1+1)) (yJ _) (by omega))
   obtain ⟨v4,d4⟩:=(uH HQs3).cell (j:=j*5+4) (by omega)
   have f4:=(uH HQs3).frozen (j*5+4)
   have HQs4:=aA ((uH HQs3).set g (j*5+4) (.int .i64 (k+1+1+1+1)))
   have HGs4:=aA ((uH HGs3).sc g (j*5+4) (.int .i64 (k+1+1+1+1)) (yJ _) (by omega))
   go_wp2
   go_roundw
   case rel=>exact ⟨j+1,k+1+1+1+1+1,by omega,by go_num,by go_num,by have:=uH HK;omega,HQs4,HGs4⟩
   case measure=>simp [intOf];omega
  ·have hjn:j=n:=by omega
   subst hjn
   go_wp2
   go_ret
   exact ⟨bV (by omega),uH HG⟩
def VB (w1 w:World) (g:Nat) (x y:Int):Prop:=w1.heap.size≤g∧Var w 36 g x y
theorem VB.below {w1 w w':World} {g:Nat} {x y:Int} (h:VB w1 w g x y) (hb:Below w.heap.size w w'):VB w1 w' g x y:=⟨h.1,h.2.below hb⟩
theorem VB.al {w1 w:World} {g:Nat} {x y:Int} (h:VB w1 w g x y) (o:Obj):VB w1 (w.alloc o) g x y:=⟨h.1,h.2.al o⟩
theorem VB.ne {w1 w:World} {g:Nat} {x y:Int} (h:VB w1 w g x y):g≠w.heap.size:=Nat.ne_of_lt h.2.lt
theorem aKq {w1 w:World} (h:Below w1.heap.size w1 w):VB w1 (w.alloc (.cells #[.int .i64 0,.int .i64 0] 36)) w.heap.size 0 0:=⟨h.size,aH w _ 0 0⟩
theorem VB.set {w1 w:World} {g:Nat} {a b:Int} (h:VB w1 w g a b) (x y:Int):VB w1 ((w.setCell ⟨g,0,none⟩ (.int .i64 x)).setCell ⟨g,1,none⟩ (.int .i64 y)) g x y:=⟨h.1,h.2.set x y⟩
theorem VB.off {w1 w:World} {g k:Nat} {a b:Int} (h:VB w1 w g a b) (hn:g≠k) {u v:Value}:VB w1 ((w.setCell ⟨k,0,none⟩ u).setCell ⟨k,1,none⟩ v) g a b:=⟨h.1,(h.2.other k 0 u hn).other k 1 v hn⟩
theorem VB.kp {w1 w:World} {g:Nat} {a b:Int} (h:VB w1 w g a b) (hk:Below w1.heap.size w1 w) {u v:Value}:Below w1.heap.size w1 ((w.setCell ⟨g,0,none⟩ u).setCell ⟨g,1,none⟩ v):=yC (yC hk _ _ _ h.1) _ _ _ h.1
def aGQ:Nat→List (List Bool)
 | 0=>[[]]
 | k+1=>(aGQ k).map (false :: ·)++(aGQ k).map (true :: ·)
theorem aCW:∀(f:List Bool),f ∈ aGQ f.length
 | []=>by simp [aGQ]
 | b::t=>by
  have:=aCW t
  cases b<;>simp [aGQ,this]
structure Mul where
 n:Nat
 cs:List Nat
 al:List Nat
 st:List Nat
 l0:List Bool
def Mul.lst (M:Mul) (c:Nat) (f:List Bool) (s:Nat):Array Bool:=
 ((List.range M.n).map fun i=>M.l0.getD i false||((M.cs.take c).contains i||(((M.al.zip f).any fun p=>p.1==i&&p.2)||(M.st.take s).contains i))).toArray
def Mul.nxt (M:Mul) (c:Nat) (f:List Bool) (s:Nat):List (Nat×Nat):=
 (List.range M.n).filterMap fun i=>
  if M.cs[c]? = some i then some (i,0)
  else match (List.range M.al.length).find? (fun j=>M.al[j]? == some i&&f[j]? == some false) with
   | some j=>some (i,j+2)
   | none=>if decide (c=M.cs.length)&&(f.all id&&decide (M.st[s]? = some i)) then some (i,1) else none
def Mul.to (c:Nat) (f:List Bool) (s:Nat):Nat→Nat×List Bool×Nat
 | 0=>(c+1,f,s)
 | 1=>(c,f,s+1)
 | j+2=>(c,f.set j true,s)
def Mul.one (M:Mul) (md:Region.Mode) (ops:Array Oper) (c:Nat) (f:List Bool) (s:Nat):Bool:=
 decide (Region.ready md ops (M.lst c f s)=(M.nxt c f s).map (·.1)) &&
 ((M.nxt c f s).isEmpty==(decide (c=M.cs.length)&&(f.all id&&decide (s=M.st.length)))) &&
 (M.nxt c f s).all fun p=>decide ((M.lst c f s).setIfInBounds p.1 true=M.lst (Mul.to c f s p.2).1 (Mul.to c f s p.2).2.1 (Mul.to c f s p.2).2.2) &&
  (match p.2 with | 0=>decide (M.cs[c]? = some p.1) | 1=>decide (c=M.cs.length)&&(f.all id&&decide (M.st[s]? = some p.1)) | j+2=>decide (M.al[j]? = some p.1)&&f[j]? == some false)
def Mul.ok (M:Mul) (md:Region.Mode) (ops:Array Oper):Bool:=
 decide (M.al.length=M.st.length)&&((List.range (M.cs.length+1)).all fun c=>(aGQ M.al.length).all fun f=>M.one md ops c f 0)&&(List.range (M.st.length+1)).all fun s=>M.one md ops M.cs.length (List.replicate M.al.length true) s
theorem rR {f:List Bool} (h:f.all id=true):f=List.replicate f.length true:=by
 induction f with
 | nil=>rfl
 | cons b t ih=>
  simp only [List.all_cons,id,yK] at h
  rw [List.length_cons,List.replicate_succ,←ih h.2,h.1]
theorem Mul.at {M:Mul} {md:Region.Mode} {ops:Array Oper} (h:M.ok md ops=true) {c:Nat} {f:List Bool} {s:Nat} (hc:c≤M.cs.length) (hf:f.length=M.al.length) (hs:s≤M.st.length) (h0:0<s→c=M.cs.length∧f.all id=true):M.one md ops c f s=true:=by
 simp only [Mul.ok,yK,List.all_eq_true,List.mem_range] at h
 obtain ⟨⟨_,h1⟩,h2⟩:=h
 by_cases e:s=0
 ·subst e
  exact h1 c (by omega) f (by rw [←hf];exact aCW f)
 ·obtain ⟨rfl,h3⟩:=h0 (by omega)
  have:=rR h3
  rw [hf] at this
  rw [this]
  exact h2 s (by omega)
def Mul.step (P:Program) (ops:Array Oper) (Q:Exit→Act→World→Prop) (i:Nat) (a:Act) (w:World) (K:Act→World→Prop):Prop:=
 ∃o,ops[i]? = some o∧(if Region.wanted o (yielded ops a.tmps)=true then Oper.wp P o a w K Q else K (a.put o.dst undef) w)
theorem aIH {f:List Bool} {j:Nat} (h:f[j]? = some false):(f.set j true).count false+1=f.count false:=by
 induction f generalizing j with
 | nil=>simp at h
 | cons b t ih=>
  cases j with
  | zero=>simp at h;subst h;simp
  | succ j=>simp at h;have:=ih h;simp only [sC,List.count_cons];omega
theorem aAg {f:List Bool} (h:f.all id=true):f.count false=0:=by rw [rR h];simp [List.count_replicate]
theorem aGl {P:Program} {md:Region.Mode} {ops:Array Oper} {Q:Exit→Act→World→Prop} {S:World→Prop} {n n':Nat} {l l':Array Bool} {a a':Act} {w:World} (hn:n=n') (hl:l=l') (ha:a=a') (h:wpAnyH P md ops Q S n' l' a' w):wpAnyH P md ops Q S n l a w:=by
 subst hn hl ha
 exact h
def aJN (b:Bool) (g:Nat):Value:=match b with | true=>.pointer (some ⟨g,0,none⟩) | false=>undef
def aJM (b:Bool) (v:Value):Value:=match b with | true=>v | false=>undef
theorem aGF {α:Type} {l:List α} (h:l.length=4):∃a b c d,l=[a,b,c,d]:=by
 match l,h with
 | [a,b,c,d],_=>exact ⟨a,b,c,d,rfl⟩
theorem aCC {P:Program} {md:Region.Mode} {ops:Array Oper} {Q:Exit→Act→World→Prop} {w1:World} (M:Mul) (Fr:Nat→List Bool→List Nat→Act) (vals:List (Int×Int)) (hv:vals.length=M.al.length)
  (hok:M.ok md ops=true)
  (hcall:∀c f us w K,c<M.cs.length→f.length=M.al.length→us.length=M.al.length→Kp w1 w→(∀w',Below w.heap.size w w'→K (Fr (c+1) f us) w')→Mul.step P ops Q (M.cs.getD c 0) (Fr c f us) w K)
  (hal:∀j c f us w K,c≤M.cs.length→f.length=M.al.length→us.length=M.al.length→f[j]? = some false→K (Fr c (f.set j true) (us.set j w.heap.size)) (w.alloc (.cells #[.int .i64 0,.int .i64 0] 36))→Mul.step P ops Q (M.al.getD j 0) (Fr c f us) w K)
  (hst:∀s us w K,s<M.al.length→us.length=M.al.length→Var w 36 (us.getD s 0) 0 0→K (Fr M.cs.length (List.replicate M.al.length true) us) ((w.setCell ⟨us.getD s 0,0,none⟩ (.int .i64 (vals.getD s (0,0)).1)).setCell ⟨us.getD s 0,1,none⟩ (.int .i64 (vals.getD s (0,0)).2))→Mul.step P ops Q (M.st.getD s 0) (Fr M.cs.length (List.replicate M.al.length true) us) w K)
  (fin:∀us w,us.length=M.al.length→(∀j,j<M.al.length→VB w1 w (us.getD j 0) (vals.getD j (0,0)).1 (vals.getD j (0,0)).2)→Kp w1 w→Q .normal (Fr M.cs.length (List.replicate M.al.length true) us) w)
  (w:World) (hw:Kp w1 w):wpAnyH P md ops Q (Kp w1) (M.cs.length+M.al.length+M.al.length) (M.lst 0 (List.replicate M.al.length false) 0) (Fr 0 (List.replicate M.al.length false) (List.replicate M.al.length 0)) w:=by
 have hla:M.al.length=M.st.length:=by have:=hok;simp only [Mul.ok,yK,yL] at this;exact this.1.1
 refine lI (fun n lz az wz=>∃c f us s,c≤M.cs.length∧f.length=M.al.length∧us.length=M.al.length∧s≤M.al.length∧(0<s→c=M.cs.length∧f.all id=true)∧n=(M.cs.length - c)+f.count false+(M.al.length - s)∧lz=M.lst c f s∧az=Fr c f us
   ∧(∀j,f[j]? = some true→VB w1 wz (us.getD j 0) (if j<s then (vals.getD j (0,0)).1 else 0) (if j<s then (vals.getD j (0,0)).2 else 0))∧(∀i j,f[i]? = some true→f[j]? = some true→i≠j→us.getD i 0≠us.getD j 0)∧Kp w1 wz) ?_ ?_ _ _ _ _ ⟨0,_,_,0,Nat.zero_le _,by simp,by simp,Nat.zero_le _,fun h=>absurd h (by omega),by simp,rfl,rfl,fun j hj=>by simp [List.getElem?_replicate] at hj,fun i j hi=>by simp [List.getElem?_replicate] at hi,hw⟩
 ·rintro n lz az wz ⟨c,f,us,s,hc,hf,hu,hs,h0,hn,rfl,rfl,hV,hD,hk⟩
  have hone:=Mul.at hok hc hf (by omega) h0
  simp only [Mul.one,yK,yL,List.all_eq_true] at hone
  obtain ⟨⟨hr,he⟩,hall⟩:=hone
  have hne:(M.nxt c f s).map (·.1)≠[]:=fun e=>by
   have e':M.nxt c f s=[]:=List.map_eq_nil_iff.1 e
   rw [e'] at he
   simp only [List.isEmpty_nil,beq_iff_eq] at he
   have he':=he.symm
   simp only [yK,yL] at he'
   have:=aAg he'.2.1
   omega
  refine aR hr hne (fun i hi=>?_)
  obtain ⟨⟨i',k⟩,hp,rfl⟩:=List.mem_map.1 hi
  obtain ⟨hset,hk'⟩:=hall _ hp
  simp only at hset hk'
  match k,hset,hk' with
  | 0,hset,hk'=>
   simp only [yL] at hk'
   have hlt:c<M.cs.length:=(List.getElem?_eq_some_iff.1 hk').1
   have hcd:M.cs.getD c 0=i':=by rw [List.getD_eq_getElem?_getD,hk'];rfl
   obtain ⟨o,ho,hh⟩:=hcall c f us wz (fun a' w'=>Kp w1 w'∧∃c' f' us' s',c'≤M.cs.length∧f'.length=M.al.length∧us'.length=M.al.length∧s'≤M.al.length∧(0<s'→c'=M.cs.length∧f'.all id=true)∧n=(M.cs.length - c')+f'.count false+(M.al.length - s')∧(M.lst c f s).setIfInBounds i' true=M.lst c' f' s'∧a'=Fr c' f' us'∧(∀j,f'[j]? = some true→VB w1 w' (us'.getD j 0) (if j<s' then (vals.getD j (0,0)).1 else 0) (if j<s' then (vals.getD j (0,0)).2 else 0))∧(∀i j,f'[i]? = some true→f'[j]? = some true→i≠j→us'.getD i 0≠us'.getD j 0)∧Kp w1 w') hlt hf hu hk
    (fun w' hb=>⟨yB hk hb,c+1,f,us,s,hlt,hf,hu,hs,fun h=>absurd (h0 h).1 (by omega),by omega,hset,rfl,fun j hj=>(hV j hj).below hb,hD,yB hk hb⟩)
   rw [hcd] at ho
   exact wpOp_step ho (fun K' hK=>by
    split
    ·rename_i hw;rw [if_pos hw] at hh;exact Oper.wp_mono (fun _ _ h=>hK _ _ h) hh
    ·rename_i hw;rw [if_neg hw] at hh;exact hK _ _ hh)
  | 1,hset,hk'=>
   simp only [yK,yL] at hk'
   obtain ⟨rfl,hft,hst'⟩:=hk'
   have hsl:s<M.al.length:=by rw [hla];exact (List.getElem?_eq_some_iff.1 hst').1
   have hft':=rR hft
   rw [hf] at hft'
   have hj:f[s]? = some true:=by rw [hft',List.getElem?_replicate,if_pos hsl]
   have hcd:M.st.getD s 0=i':=by rw [List.getD_eq_getElem?_getD,hst'];rfl
   have hvs:=hV s hj
   rw [if_neg (by omega),if_neg (by omega)] at hvs
   obtain ⟨o,ho,hh⟩:=hst s us wz (fun a' w'=>Kp w1 w'∧∃c' f' us' s',c'≤M.cs.length∧f'.length=M.al.length∧us'.length=M.al.length∧s'≤M.al.length∧(0<s'→c'=M.cs.length∧f'.all id=true)∧n=(M.cs.length - c')+f'.count false+(M.al.length - s')∧(M.lst M.cs.length f s).setIfInBounds i' true=M.lst c' f' s'∧a'=Fr c' f' us'∧(∀j,f'[j]? = some true→VB w1 w' (us'.getD j 0) (if j<s' then (vals.getD j (0,0)).1 else 0) (if j<s' then (vals.getD j (0,0)).2 else 0))∧(∀i j,f'[i]? = some true→f'[j]? = some true→i≠j→us'.getD i 0≠us'.getD j 0)∧Kp w1 w') hsl hu hvs.2
    ⟨hvs.kp hk,M.cs.length,f,us,s+1,yJ _,hf,hu,hsl,fun _=>⟨rfl,hft⟩,by have:=aAg hft;omega,hset,by rw [←hft'],fun j hj'=>by
     by_cases e:j=s
     ·subst e
      rw [if_pos (by omega),if_pos (by omega)]
      exact hvs.set _ _
     ·have h1:=(hV j hj').off (hD j s hj' hj e) (u:=.int .i64 (vals.getD s (0,0)).1) (v:=.int .i64 (vals.getD s (0,0)).2)
      by_cases e2:j<s
      ·rw [if_pos e2,if_pos e2] at h1
       rw [if_pos (by omega),if_pos (by omega)]
       exact h1
      ·rw [if_neg e2,if_neg e2] at h1
       rw [if_neg (by omega),if_neg (by omega)]
       exact h1,hD,hvs.kp hk⟩
   rw [hcd] at ho
   rw [hft']
   rw [←hft'] at hh ⊢
   exact wpOp_step ho (fun K' hK=>by
    rw [hft'] at hK ⊢
    rw [hft'] at hh
    split
    ·rename_i hw;rw [if_pos hw] at hh;exact Oper.wp_mono (fun _ _ h=>hK _ _ h) hh
    ·rename_i hw;rw [if_neg hw] at hh;exact hK _ _ hh)
  | j+2,hset,hk'=>
   simp only [yK,yL,beq_iff_eq] at hk'
   obtain ⟨ha,hfj⟩:=hk'
   have hjl:j<M.al.length:=(List.getElem?_eq_some_iff.1 ha).1
   have hcd:M.al.getD j 0=i':=by rw [List.getD_eq_getElem?_getD,ha];rfl
   have hs0:s=0:=by
    by_cases e:s=0
    ·exact e
    ·have h1:=rR (h0 (by omega)).2
     rw [h1,List.getElem?_replicate,if_pos (by omega)] at hfj
     cases hfj
   obtain ⟨o,ho,hh⟩:=hal j c f us wz (fun a' w'=>Kp w1 w'∧∃c' f' us' s',c'≤M.cs.length∧f'.length=M.al.length∧us'.length=M.al.length∧s'≤M.al.length∧(0<s'→c'=M.cs.length∧f'.all id=true)∧n=(M.cs.length - c')+f'.count false+(M.al.length - s')∧(M.lst c f s).setIfInBounds i' true=M.lst c' f' s'∧a'=Fr c' f' us'∧(∀j,f'[j]? = some true→VB w1 w' (us'.getD j 0) (if j<s' then (vals.getD j (0,0)).1 else 0) (if j<s' then (vals.getD j (0,0)).2 else 0))∧(∀i j,f'[i]? = some true→f'[j]? = some true→i≠j→us'.getD i 0≠us'.getD j 0)∧Kp w1 w') hc hf hu hfj
    ⟨yA hk _,c,f.set j true,us.set j wz.heap.size,s,hc,by simpa using hf,by simpa using hu,hs,fun h=>absurd h (by omega),by have:=aIH hfj;omega,hset,rfl,fun x hx=>by
     subst hs0
     rw [if_neg (by omega),if_neg (by omega)]
     by_cases e:x=j
     ·subst e
      rw [List.getD_eq_getElem?_getD,List.getElem?_set_self (by omega)]
      exact aKq hk
     ·rw [List.getElem?_set_ne (fun h=>e h.symm)] at hx
      rw [List.getD_eq_getElem?_getD,List.getElem?_set_ne (fun h=>e h.symm),←List.getD_eq_getElem?_getD]
      have:=hV x hx
      rw [if_neg (by omega),if_neg (by omega)] at this
      exact this.al _,fun x y hx hy hne2=>by
     by_cases e:x=j
     ·subst e
      by_cases e2:y=x
      ·exact absurd e2.symm hne2
      ·rw [List.getElem?_set_ne (fun h=>e2 h.symm)] at hy
       rw [List.getD_eq_getElem?_getD,List.getElem?_set_self (by omega),List.getD_eq_getElem?_getD,List.getElem?_set_ne (fun h=>e2 h.symm),←List.getD_eq_getElem?_getD]
       exact (hV y hy).ne.symm
     ·rw [List.getElem?_set_ne (fun h=>e h.symm)] at hx
      rw [List.getD_eq_getElem?_getD (l:=us.set j wz.heap.size) (i:=x),List.getElem?_set_ne (fun h=>e h.symm),←List.getD_eq_getElem?_getD]
      by_cases e2:y=j
      ·subst e2
       rw [List.getD_eq_getElem?_getD (l:=us.set y wz.heap.size),List.getElem?_set_self (by omega)]
       exact (hV x hx).ne
      ·rw [List.getElem?_set_ne (fun h=>e2 h.symm)] at hy
       rw [List.getD_eq_getElem?_getD (l:=us.set j wz.heap.size),List.getElem?_set_ne (fun h=>e2 h.symm),←List.getD_eq_getElem?_getD]
       exact hD x y hx hy hne2,yA hk _⟩
   rw [hcd] at ho
   exact wpOp_step ho (fun K' hK=>by
    split
    ·rename_i hw;rw [if_pos hw] at hh;exact Oper.wp_mono (fun _ _ h=>hK _ _ h) hh
    ·rename_i hw;rw [if_neg hw] at hh;exact hK _ _ hh)
 ·rintro lz az wz ⟨c,f,us,s,hc,hf,hu,hs,h0,hn,rfl,rfl,hV,hD,hk⟩
  have hone:=Mul.at hok hc hf (by omega) h0
  simp only [Mul.one,yK,yL,List.all_eq_true] at hone
  obtain ⟨⟨hr,he⟩,_⟩:=hone
  have hcc:c=M.cs.length:=by omega
  have hfa:f.all id=true:=by
   rw [List.all_eq_true]
   intro b hb
   cases b with
   | true=>rfl
   | false=>have:=List.count_pos_iff.2 hb;omega
  have hss:s=M.al.length:=by omega
  subst hcc hss
  have hf':=rR hfa
  rw [hf] at hf'
  refine ⟨?_,?_⟩
  ·rw [hr]
   have:(M.nxt M.cs.length f M.al.length).isEmpty=true:=by
    simp only [beq_iff_eq] at he
    rw [he,hfa,hla]
    simp
   rw [List.isEmpty_iff.1 this]
   rfl
  ·rw [hf']
   refine fin us wz hu (fun j hj=>?_) hk
   have:=hV j (by rw [hf',List.getElem?_replicate,if_pos hj])
   rw [if_pos hj,if_pos hj] at this
   exact this
end
end Go.Proofs.YtdhibeclkdepiaaGreat
