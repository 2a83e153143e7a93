/-
  bI in one: KKey, AKey, wU, Caps, SumI4, CapI, WfS, SuitB, MKey, aI6, OwnC, VarB, RegM.
-/
import Derived.Test.YtdhibeclkdepiaaGreatPackI
import Derived.Maps.OwnSet
import Derived.Maps.Views
import Derived.DeepKeys4
import Derived.Test.YtdhibeclkdepiaaGreatPackE
import Derived.Test.YtdhibeclkdepiaaGreatPackC
import Derived.Lib.SliceRun
set_option maxRecDepth 100000
set_option maxHeartbeats 16000000
set_option linter.unusedVariables false
set_option linter.unusedSimpArgs false
namespace Go.Proofs.YtdhibeclkdepiaaGreat
section
open Go.RowKit Go.Maps
abbrev oL (nm:List UInt8) (k:Int):Value:=.agg #[.string (bs nm),.int .i64 k]
theorem aFK:laidOutB Tryz.prog=true:=by kernel_rfl
theorem aKC:(133:TypeId)<Tryz.prog.types.size:=of_decide_eq_true (by kernel_rfl)
theorem aJP:(match Tryz.prog.underlying 133 with | some (.array _ _) | some (.struct _)=>true | _=>false)=true:=by kernel_rfl
theorem iT:Keyed Tryz.prog 133:=Keyed.of_law (deep_law_laid aFK (m:=3) (by omega) aKC (by kernel_rfl) aJP)
theorem aFL:Tryz.prog.keyType 133=true:=by kernel_rfl
theorem aA7:Tryz.prog.cellsOf 133=2:=by kernel_rfl
theorem vR:Tryz.prog.cellsOf 3=1:=by kernel_rfl
theorem vO:Tryz.prog.cellsOf 9=1:=by kernel_rfl
theorem sI:∃m,Tryz.prog.types.size+1=m+2:=⟨Tryz.prog.types.size - 1,by have:3≤Tryz.prog.types.size:=of_decide_eq_true (by kernel_rfl);omega⟩
theorem aGg (n:Nat) {a:Int} (h:(Lit.int .i64 a).wf=true):Tryz.prog.keyLits (n+1) 3 [.int .i64 a]=some [.int .i64 a]:=by
 simp [Program.keyLits,Tryz.underlying3,h]
theorem aGf (n:Nat) {s:ByteArray} (h:s.size≤maxLen):Tryz.prog.keyLits (n+1) 9 [.string s]=some [.string s.data.toList]:=by
 simp [Program.keyLits,Tryz.underlying9,h]
theorem zO {nm:List UInt8} {k:Int} (hn:nm.length≤9223372036854775807) (hk:(Lit.int .i64 k).wf=true):∃kl,keyOf Tryz.prog 133 (oL nm k)=some kl:=by
 obtain ⟨m,hm⟩:=sI
 have hs:(bs nm).size≤maxLen:=by rw [dA];exact hn
 have h:Tryz.prog.keyLits (m+2) 133 [.string (bs nm),.int .i64 k]=some [.string (bs nm).data.toList,.int .i64 k]:=by
  have h:=Tryz.underlying133
  unfold Program.keyLits
  simp [h,aA7,vR,vO,aGg m hk,aGf m hs]
 have hu:=Tryz.underlying133
 have hk:keyOf Tryz.prog 133 (oL nm k)=if Tryz.prog.keyType 133&&(oL nm k).formed Tryz.prog 133 then (Tryz.prog.keyLits (Tryz.prog.types.size+1) 133 (oL nm k).cells.toList).map (fun ls=>.string (keyBytes ls)) else none:=by
  unfold keyOf
  rw [hu]
 rw [hk,if_pos (by simp [aFL,Value.formed,hu,aA7]),hm,show (oL nm k).cells.toList=[.string (bs nm),.int .i64 k] from rfl,h]
 exact ⟨_,rfl⟩
theorem aD2 (s:ByteArray):bs s.data.toList=s:=by simp [bs]
structure AV where
 id:Int
 queue:List UInt8
 ao:Option Addr
 len:Nat
 cap:Nat
abbrev avv (v:AV):Value:=.agg #[.int .i64 v.id,.string (bs v.queue),.slice v.ao v.len v.cap]
def aFh (w:World) (b p:Nat) (v:AV):Prop:=
 w.cell? ⟨b,p,none⟩=some (.int .i64 v.id)∧w.cell? ⟨b,p+1,none⟩=some (.string (bs v.queue))∧w.cell? ⟨b,p+2,none⟩=some (.slice v.ao v.len v.cap)
theorem aFh.lt {w:World} {b p:Nat} {v:AV} (h:aFh w b p v):b<w.heap.size:=yG h.1
theorem aFh.below {w w':World} {b p:Nat} {v:AV} (h:aFh w b p v) (hb:Below w.heap.size w w'):aFh w' b p v:=
 ⟨(hb.cell h.lt).trans h.1,(hb.cell h.lt).trans h.2.1,(hb.cell h.lt).trans h.2.2⟩
def eF (w:World) (ao:Option Addr) (len:Nat) (l:List AV):Prop:=
 len=l.length∧(len=0∨∃b off,ao=some ⟨b,off,none⟩∧∀i (h:i<l.length),aFh w b (off+i*3) l[i])
theorem eF.below {w w':World} {ao:Option Addr} {len:Nat} {l:List AV} (h:eF w ao len l) (hb:Below w.heap.size w w'):eF w' ao len l:=by
 obtain ⟨h1,h2⟩:=h
 refine ⟨h1,?_⟩
 rcases h2 with h2 | ⟨b,off,h3,h4⟩
 ·exact .inl h2
 ·exact .inr ⟨b,off,h3,fun i h=>(h4 i h).below hb⟩
theorem eF.at {w:World} {ao:Option Addr} {len:Nat} {l:List AV} (h:eF w ao len l) {i:Nat} (hi:i<len):∃b off,ao=some ⟨b,off,none⟩∧∀(h:i<l.length),aFh w b (off+i*3) l[i]:=by
 obtain ⟨h1,h2⟩:=h
 rcases h2 with h2 | ⟨b,off,h3,h4⟩
 ·omega
 ·exact ⟨b,off,h3,fun hi=>h4 i hi⟩
def iP (w:World) (hs:List AV) (l:List dB):Prop:=
 hs.length=l.length∧∀i (h:i<hs.length) (h':i<l.length),hs[i].id=l[i].id∧hs[i].queue=l[i].queue∧aO w hs[i].ao hs[i].len l[i].asks∧hs[i].len≤hs[i].cap
theorem dV.heads {w:World} {ao:Option Addr} {len:Nat} {l:List dB} (h:dV w ao len l):∃hs,eF w ao len hs∧iP w hs l:=by
 obtain ⟨h1,h2⟩:=h
 by_cases h0:len=0
 ·have hl:l=[]:=List.length_eq_zero_iff.1 (by omega)
  subst hl
  exact ⟨[],⟨by simpa using h0,.inl h0⟩,rfl,fun i h=>by simp at h⟩
 ·rcases h2 with h2 | ⟨b,off,h3,h4⟩
  ·exact absurd h2 h0
  ·have inh:Inhabited AV:=⟨⟨0,[],none,0,0⟩⟩
   obtain ⟨F,hF⟩:=Go.Deep.choose_lt (α:=AV) (n:=l.length) (p:=fun i v=>∀hi:i<l.length,aFh w b (off+i*3) v∧v.id=l[i].id∧v.queue=l[i].queue∧aO w v.ao v.len l[i].asks∧v.len≤v.cap) (fun i hi=>by
    obtain ⟨x,y,z,a,c,d,e,f⟩:=h4 i hi
    exact ⟨⟨l[i].id,l[i].queue,x,y,z⟩,fun _=>⟨⟨a,c,d⟩,rfl,rfl,e,f⟩⟩)
   refine ⟨(List.range l.length).map F,⟨by simpa using h1,.inr ⟨b,off,h3,fun i hi=>?_⟩⟩,by simp,fun i hi hi'=>?_⟩
   ·have hi':i<l.length:=by simpa using hi
    simpa using (hF i hi' hi').1
   ·simpa using (hF i hi' hi').2
def wQ:Option Addr→DataW Unit
 | none=>.agg []
 | some ⟨b,o,none⟩=>.agg [.lit (.int .i64 b),.lit (.int .i64 o)]
 | some ⟨b,o,some k⟩=>.agg [.lit (.int .i64 b),.lit (.int .i64 o),.lit (.int .i64 k)]
theorem aHX {a b:Option Addr} (h:wQ a=wQ b):a=b:=by
 match a,b with
 | none,none=>rfl
 | none,some ⟨x,y,none⟩=>simp [wQ] at h
 | none,some ⟨x,y,some z⟩=>simp [wQ] at h
 | some ⟨x,y,none⟩,none=>simp [wQ] at h
 | some ⟨x,y,some z⟩,none=>simp [wQ] at h
 | some ⟨x,y,none⟩,some ⟨x',y',none⟩=>simp [wQ] at h;obtain ⟨h1,h2⟩:=h;(have e1:x=x':=(by omega));(have e2:y=y':=(by omega));subst e1 e2;rfl
 | some ⟨x,y,none⟩,some ⟨x',y',some z'⟩=>simp [wQ] at h
 | some ⟨x,y,some z⟩,some ⟨x',y',none⟩=>simp [wQ] at h
 | some ⟨x,y,some z⟩,some ⟨x',y',some z'⟩=>simp [wQ] at h;obtain ⟨h1,h2,h3⟩:=h;(have e1:x=x':=(by omega));(have e2:y=y':=(by omega));(have e3:z=z':=(by omega));subst e1 e2 e3;rfl
def ad (v:AV):DataW Unit:=.agg [.lit (.int .i64 v.id),.lit (.string v.queue),wQ v.ao,.lit (.int .i64 v.len),.lit (.int .i64 v.cap)]
theorem aHY {a b:AV} (h:ad a=ad b):a=b:=by
 obtain ⟨a1,a2,a3,a4,a5⟩:=a
 obtain ⟨b1,b2,b3,b4,b5⟩:=b
 simp [ad] at h
 obtain ⟨h1,h2,h3,h4,h5⟩:=h
 have e3:=aHX h3
 have e4:a4=b4:=by omega
 have e5:a5=b5:=by omega
 subst h1 h2 e3 e4 e5
 rfl
def eD:Value→Option (DataW Unit×List MemPlace)
 | .agg cs=>match cs.toList with
  | [.int .i64 x,.string s,.slice ao len cap]=>some (ad ⟨x,s.data.toList,ao,len,cap⟩,[])
  | _=>none
 | _=>none
theorem kX (v:AV):eD (avv v)=some (ad v,[]):=by
 obtain ⟨x,qu,ao,len,cap⟩:=v
 simp [eD,bs]
theorem l8 {v:Value} {y:DataW Unit×List MemPlace} (h:eD v=some y):∃c,v=avv c:=by
 unfold eD at h
 split at h
 ·rename_i cs
  split at h
  ·rename_i x s ao len cap e
   have e2:cs=#[.int .i64 x,.string s,.slice ao len cap]:=by cases cs;simpa using e
   exact ⟨⟨x,s.data.toList,ao,len,cap⟩,by rw [e2];simp [avv,aD2]⟩
  ·cases h
 ·cases h
theorem aD8 {v:Value} {m:AV} {ps:List MemPlace} (h:eD v=some (ad m,ps)):v=avv m:=by
 obtain ⟨c,rfl⟩:=l8 h
 rw [kX] at h
 have:=aHY (congrArg Prod.fst (Option.some.inj h))
 rw [show c=m from this]
def iZ (id:Int) (l:List AV):Option AV:=l.find? (fun v=>decide (v.id=id))
theorem aIO {id:Int} {l:List AV} {v:AV} (h:iZ id l=some v):v.id=id:=by simpa using List.find?_some h
def eP (l:List AV) (keep:Lit→AV→Bool) (D:DataW Unit):Prop:=
 (∀kl,Maps.has D kl=true→∃v,iZ v.id l=some v∧keyOf Tryz.prog 133 (oL [] v.id)=some kl∧∀zd,D.atKey kl zd=ad v)∧
 (∀v kl,iZ v.id l=some v→keyOf Tryz.prog 133 (oL [] v.id)=some kl→Maps.has D kl=keep kl v)
abbrev aI4:Lit→AV→Bool:=fun _ _=>true
theorem aBo:eP [] aI4 (.map []):=⟨fun kl h=>by simp [Maps.has] at h,fun v kl h=>by simp [iZ] at h⟩
theorem eP.put {l:List AV} {D:DataW Unit} (h:eP l aI4 D) (hD:IsMap D) {m:AV} {kl:Lit} (hk:keyOf Tryz.prog 133 (oL [] m.id)=some kl):eP (m::l) aI4 (D.put kl (ad m)):=by
 have hne:∀(kl':Lit) (v:AV),kl'≠kl→keyOf Tryz.prog 133 (oL [] v.id)=some kl'→¬m.id=v.id:=fun kl' v e hv e'=>e (by rw [←e'] at hv;rw [hk] at hv;exact (Option.some.inj hv).symm)
 refine ⟨fun kl' hh=>?_,fun v kl' h1 h2=>?_⟩
 ·by_cases e:kl'=kl
  ·subst e
   exact ⟨m,by simp [iZ],hk,fun zd=>atKey_put_same hD (iT.key hk) _ _⟩
  ·rw [has_put_other e] at hh
   obtain ⟨v,h1,h2,h3⟩:=h.1 kl' hh
   exact ⟨v,by have:=hne kl' v e h2;simpa [iZ,this] using h1,h2,fun zd=>by rw [atKey_put_other e];exact h3 zd⟩
 ·by_cases e:kl'=kl
  ·subst e
   exact has_put_same hD (iT.key hk) _
  ·rw [has_put_other e]
   exact h.2 v kl' (by have:=hne kl' v e h2;simpa [iZ,this] using h1) h2
theorem uC {a b:Int} {kl:Lit} (h1:keyOf Tryz.prog 133 (oL [] a)=some kl) (h2:keyOf Tryz.prog 133 (oL [] b)=some kl):a=b:=by
 have:=iT.inj h1 h2
 simpa [oL] using this
theorem eP.look {l:List AV} {keep:Lit→AV→Bool} {D:DataW Unit} (h:eP l keep D) {id:Int} {kl:Lit} (hk:keyOf Tryz.prog 133 (oL [] id)=some kl) :
  (iZ id l=none→Maps.has D kl=false)∧∀v,iZ id l=some v→Maps.has D kl=keep kl v∧(Maps.has D kl=true→∀zd,D.atKey kl zd=ad v):=by
 refine ⟨fun hf=>?_,fun v hf=>?_⟩
 ·cases hh:Maps.has D kl with
  | false=>rfl
  | true=>
   obtain ⟨v,h1,h2,_⟩:=h.1 kl hh
   rw [←uC hk h2] at h1
   rw [hf] at h1
   cases h1
 ·have hv:=aIO hf
  rw [←hv] at hf hk
  refine ⟨h.2 v kl hf hk,fun hh=>?_⟩
  obtain ⟨u,h1,h2,h3⟩:=h.1 kl hh
  have e:=uC hk h2
  rw [←e,hf] at h1
  cases h1
  exact h3
theorem eP.strike {l:List AV} {left:Lit→Bool} {keep:AV→Bool} {D:DataW Unit} (h:eP l (fun kl v=>left kl||keep v) D) {v:AV} {kl:Lit} (hf:iZ v.id l=some v) (hk:keyOf Tryz.prog 133 (oL [] v.id)=some kl) (hn:keep v=false) :
  eP l (fun z u=>(left z&&!z.sameKey kl)||keep u) (D.del kl):=by
 refine ⟨fun kl' hh=>?_,fun u kl' h1 h2=>?_⟩
 ·by_cases e:kl'=kl
  ·subst e
   rw [has_del_same] at hh
   cases hh
  ·rw [has_del_other e] at hh
   obtain ⟨u,h1,h2,h3⟩:=h.1 kl' hh
   exact ⟨u,h1,h2,fun zd=>by rw [atKey_del_other e];exact h3 zd⟩
 ·by_cases e:kl'=kl
  ·subst e
   have e2:=uC hk h2
   rw [←e2,hf] at h1
   cases h1
   rw [has_del_same]
   simp [hn,WideAt.sameKey_self (iT.key hk)]
  ·rw [has_del_other e,h.2 u kl' h1 h2]
   simp [sameKey_ne e]
theorem eP.stay {l:List AV} {left:Lit→Bool} {keep:AV→Bool} {D:DataW Unit} (h:eP l (fun kl v=>left kl||keep v) D) {v:AV} {kl:Lit} (hf:iZ v.id l=some v) (hk:keyOf Tryz.prog 133 (oL [] v.id)=some kl) (hn:keep v=true) :
  eP l (fun z u=>(left z&&!z.sameKey kl)||keep u) D:=by
 refine ⟨h.1,fun u kl' h1 h2=>?_⟩
 by_cases e:kl'=kl
 ·subst e
  have e2:=uC hk h2
  rw [←e2,hf] at h1
  cases h1
  rw [h.2 v kl' hf hk]
  simp [hn]
 ·rw [h.2 u kl' h1 h2]
  simp [sameKey_ne e]
def aJa (o:Option AV) (f:AV→Bool):Bool:=match o with
 | none=>false
 | some v=>f v
theorem aJ3 (w:World):(zeroValue 74).run Tryz.prog w=.ok (avv ⟨0,[],none,0,0⟩) w:=by kernel_rfl
theorem aKV {w:World} {bm n:Nat} {l:List AV} {keep:Lit→AV→Bool} {D:DataW Unit} (hown:w.ownsMap Tryz.prog 133 eD bm n D) (hk:eP l keep D) {id:Int} {kl:Lit} (hkey:keyOf Tryz.prog 133 (oL [] id)=some kl) :
  ∃v:AV,(Instr.lookup 164 (.map (some bm)) (oL [] id) true).run Tryz.prog w=.ok (.tuple #[avv v,.bool (aJa (iZ id l) (keep kl))]) w∧(∀u,iZ id l=some u→keep kl u=true→v=u)∧(iZ id l=none→v=⟨0,[],none,0,0⟩):=by
 obtain ⟨v,ps,hrun,hv⟩:=hown.look_ok iT Tryz.underlying164 (aJ3 w) (kX ⟨0,[],none,0,0⟩) hkey
 obtain ⟨h1,h2⟩:=hk.look hkey
 cases hf:iZ id l with
 | none=>
  have hh:=h1 hf
  rw [atKey_of_not_has hh] at hv
  rw [aD8 hv,hh] at hrun
  exact ⟨_,hrun,(fun u e=>by cases e),fun _=>rfl⟩
 | some u=>
  obtain ⟨ha,hb⟩:=h2 u hf
  obtain ⟨c,rfl⟩:=l8 hv
  rw [ha] at hrun
  refine ⟨c,hrun,fun u' e hu=>?_,(fun e=>by cases e)⟩
  cases e
  rw [hb (ha.trans hu)] at hv
  rw [kX] at hv
  exact aHY (congrArg Prod.fst (Option.some.inj hv))
end
section
open Go.RowKit
def RAt (w:World) (b p:Nat) (r:Int×Int):Prop:=w.cell? ⟨b,p,none⟩=some (.int .i64 r.1)∧w.cell? ⟨b,p+1,none⟩=some (.int .i64 r.2)
def aF9 (w:World) (ao:Option Addr) (len:Nat) (l:List (Int×Int)):Prop:=
 len=l.length∧(len=0∨∃b off,ao=some ⟨b,off,none⟩∧∀i (h:i<l.length),RAt w b (off+i*2) l[i])
theorem RAt.lt {w:World} {b p:Nat} {r:Int×Int} (h:RAt w b p r):b<w.heap.size:=yG h.1
theorem RAt.below {w w':World} {b p:Nat} {r:Int×Int} (h:RAt w b p r) (hb:Below w.heap.size w w'):RAt w' b p r:=⟨(hb.cell h.lt).trans h.1,(hb.cell h.lt).trans h.2⟩
theorem aF9.below {w w':World} {ao:Option Addr} {len:Nat} {l:List (Int×Int)} (h:aF9 w ao len l) (hb:Below w.heap.size w w'):aF9 w' ao len l:=by
 obtain ⟨h1,h2⟩:=h
 refine ⟨h1,?_⟩
 rcases h2 with h2 | ⟨b,off,h3,h4⟩
 ·exact .inl h2
 ·exact .inr ⟨b,off,h3,fun i h=>(h4 i h).below hb⟩
theorem aF9.at {w:World} {ao:Option Addr} {len:Nat} {l:List (Int×Int)} (h:aF9 w ao len l) {i:Nat} (hi:i<len):∃b off,ao=some ⟨b,off,none⟩∧∀(h:i<l.length),RAt w b (off+i*2) l[i]:=by
 obtain ⟨h1,h2⟩:=h
 rcases h2 with h2 | ⟨b,off,h3,h4⟩
 ·omega
 ·exact ⟨b,off,h3,fun hi=>h4 i hi⟩
abbrev xB (r:Int×Int):List Value:=[.int .i64 r.1,.int .i64 r.2]
def gH:List (Int×Int)→List Value
 | []=>[]
 | q::t=>xB q++gH t
theorem aEf (a:List (Int×Int)) (q:Int×Int):gH (a++[q])=gH a++xB q:=by
 induction a with
 | nil=>rfl
 | cons x t ih=>rw [List.cons_append,gH,gH,ih,List.append_assoc]
theorem aBK:∀(l:List (Int×Int)) (i:Nat) (h:i<l.length),(gH l)[i*2]? = some (.int .i64 l[i].1)∧(gH l)[i*2+1]? = some (.int .i64 l[i].2)
 | q::t,0,_=>⟨rfl,rfl⟩
 | q::t,i+1,h=>by
  have e:=aBK t i (by simpa using h)
  have k:∀j,(gH (q::t))[(i+1)*2+j]? = (gH t)[i*2+j]?:=fun j=>by
   rw [gH,show (i+1)*2+j=(xB q).length+(i*2+j) by simp;omega,List.getElem?_append_right (by omega)]
   congr 1
   omega
  have k0:=k 0
  simp only [Nat.add_zero] at k0
  rw [k0,k 1]
  simpa using e
def wU (B:Nat) (w:World) (v:Value) (l:List (Int×Int)):Prop:=w.ownsRow B 36 2 v l.length (gH l)
theorem aAR (B:Nat) (w:World):wU B w (.slice none 0 0) []:=World.ownsRow_nil _ _ _ _
theorem qN (w:World):wU w.heap.size (w.alloc (.cells #[] 36)) (.slice (some ⟨w.heap.size,0,none⟩) 0 0) []:=
 ⟨rfl,.inr ⟨w.heap.size,0,#[],rfl,Nat.le_refl _,by show (w.heap.push _)[w.heap.size]? = _;simp,Nat.le_refl _,by unfold maxLen;omega,rfl,rfl⟩⟩
theorem wU.base {w:World} {B B':Nat} {v:Value} {l:List (Int×Int)} (h:wU B w v l) (hb:B'≤B):wU B' w v l:=by
 obtain ⟨h1,h2⟩:=h
 refine ⟨h1,?_⟩
 rcases h2 with h2 | ⟨g,cap,cur,a,b,c⟩
 ·exact .inl h2
 ·exact .inr ⟨g,cap,cur,a,Nat.le_trans hb b,c⟩
theorem wU.below {w w':World} {B:Nat} {v:Value} {l:List (Int×Int)} (h:wU B w v l) (hb:Below w.heap.size w w'):wU B w' v l:=
 h.kept (aH (aF w none) hb) (by by_cases e:v.ownBlock=none;exact .inl e;exact .inr e)
theorem wU.row {w:World} {B:Nat} {v:Value} {l:List (Int×Int)} (h:wU B w v l):∃ao cap,v=.slice ao l.length cap∧aF9 w ao l.length l∧l.length≤cap:=by
 rcases h.2 with ⟨rfl,h0⟩ | ⟨g,cap,cur,rfl,h1,h2,h3,h4,h5,h6⟩
 ·exact ⟨none,0,by rw [h0],⟨rfl,.inl h0⟩,by omega⟩
 ·refine ⟨some ⟨g,0,none⟩,cap,rfl,⟨rfl,.inr ⟨g,0,rfl,fun i hi=>?_⟩⟩,h3⟩
  obtain ⟨a,b⟩:=aBK l i hi
  have k:∀j (v:Value),j<l.length*2→(gH l)[j]? = some v→w.cell? ⟨g,j,none⟩=some v:=fun j v hj hv=>by
   rw [←h6,List.getElem?_take_of_lt hj] at hv
   simp [World.cell?,h2]
   simpa using hv
  unfold RAt
  rw [Nat.zero_add]
  exact ⟨k _ _ (by omega) a,k _ _ (by omega) b⟩
theorem kR {w wr w1:World} {B:Nat} {v v':Value} {l:List (Int×Int)} {q:Int×Int} {ob:Obj} (hb:Below B w wr) (hown:wU B wr v l)
  (h1:w1.ownsRow B 36 2 v' (l.length+1) (gH l++xB q)) (hg:(wr.alloc ob).grownBy w1 v.ownBlock) (hB:B≤wr.heap.size) :
  wU B w1 v' (l++[q])∧Below B w w1:=by
 refine ⟨?_,(hb.alloc hB ob).grown hg (by simp;omega) ?_⟩
 ·unfold wU
  rw [aEf,List.length_append]
  exact h1
 ·intro k hk
  rcases hown.2 with ⟨rfl,_⟩ | ⟨g,cap,cur,rfl,hg',_⟩
  ·simp [Value.ownBlock] at hk
  ·simp [Value.ownBlock] at hk;omega
theorem Tryz.infoR:(Tryz.prog.info? 36).map (fun i=>(i.zero,i.size,i.bytes))=some (some (.agg #[.int .i64 0,.int .i64 0]),2,16):=by kernel_rfl
def bJ:List (Int×Int)→Int→Int→Int×Int×Bool
 | [],x,y=>(x,y,true)
 | r::t,x,y=>if aK 1 x y r.1 r.2=true then bJ t (x+1*r.1) (y+1*r.2) else (0,0,false)
def gN (l:List (Int×Int)):Int×Int×Bool:=bJ l 0 0
theorem rR {l:List (Int×Int)} {k:Nat} (h:k<l.length) (x y:Int):bJ (l.drop k) x y=if aK 1 x y l[k].1 l[k].2=true then bJ (l.drop (k+1)) (x+1*l[k].1) (y+1*l[k].2) else (0,0,false):=by
 rw [List.drop_eq_getElem_cons h,bJ]
theorem uL {l:List (Int×Int)} {k:Nat} (h:l.length≤k) (x y:Int):bJ (l.drop k) x y=(x,y,true):=by
 rw [List.drop_of_length_le h];rfl
def aX (l:List Mac):List (Int×Int):=l.map (fun m=>(m.mem,m.cpu))
theorem wK {l:List Mac} {k:Nat} (h:k<l.length):aX (l.take (k+1))=aX (l.take k)++[(l[k].mem,l[k].cpu)]:=by
 rw [List.take_succ_eq_append_getElem h,aX,List.map_append];rfl
def aT (p:Con→Bool) (l:List Con):List (Int×Int):=(l.filter p).map (fun c=>(c.mem,c.cpu))
theorem mZ {p:Con→Bool} {l:List Con} {k:Nat} (h:k<l.length):aT p (l.take (k+1))=if p l[k]=true then aT p (l.take k)++[(l[k].mem,l[k].cpu)] else aT p (l.take k):=by
 rw [List.take_succ_eq_append_getElem h]
 simp only [aT,List.filter_append,List.map_append]
 by_cases hp:p l[k]=true<;>simp [hp]
def rC (w:World) (c:Array Value):World:=(w.alloc (.cells c 34)).alloc (.cells #[.int .i64 0,.int .i64 0] 36)
theorem qE (w:World) (c:Array Value):(rC w c).heap.size=w.heap.size+1+1:=by simp only [rC,yE]
theorem bV (w:World) (c:Array Value):Below w.heap.size w (rC w c):=yA (yA (Below.refl _ w) _) _
theorem gL (w:World) (c:Array Value):Var (rC w c) 36 (w.heap.size+1) 0 0:=by
 have:=aJ (w.alloc (.cells c 34)) 36 0 0
 rwa [yE] at this
abbrev rZ (m:Mac):Obj:=.cells #[.string (bs m.name),.int .i64 m.mem,.int .i64 m.cpu,.int .i64 m.seen] 104
def qK (w:World) (c:Array Value):World:=w.alloc (.cells c 34)
theorem wL (w:World) (c:Array Value):(qK w c).heap.size=w.heap.size+1:=by simp only [qK,yE]
theorem gZ (w:World) (c:Array Value):Below w.heap.size w (qK w c):=yA (Below.refl _ w) _
theorem eO (w:World) (c:Array Value):Blk (qK w c) w.heap.size c 34:=yD w c _
theorem mH (ao:Option Addr) (len cap:Nat) (l:List (Int×Int)) (w:World) (h:aF9 w ao len l) (hl:len≤1048576) :
  Calls Tryz.prog 150 #[.slice ao len cap] w fun e w'=>e=.returned (.tuple #[rv (gN l).1 (gN l).2.1,.bool (gN l).2.2])∧Below w.heap.size w w':=by
 have HR:=aA h
 have HL:=aA h.1
 obtain ⟨⟨sx,sy,so⟩,hs⟩:∃s,gN l=s:=⟨_,rfl⟩
 have HS:=aA (show bJ l 0 0=(sx,sy,so) from hs)
 rw [hs]
 clear h hs
 go_enter Tryz.func150,Tryz.ntmps150
 go_wp2
 go_loopw [12] (fun i wr=>∃(k:Nat) (x y:Int),k≤len∧i=.int .i64 k∧Hid (bJ (l.drop k) x y=(sx,sy,so))∧Hid (Var wr 36 w.heap.size 0 0)∧Hid (Var wr 36 (w.heap.size+1) x y)∧Hid (Below w.heap.size w wr)) (fun i _=>len - (intOf i).toNat)
 case atStart=>exact ⟨0,0,0,Nat.zero_le _,rfl,aA (by simpa using uH HS),aA ((aJ w _ _ _).al _),aA (fJ w _ _ 0 0 0 0),aA (yA (yA (Below.refl _ _) _) _)⟩
 case round=>
  obtain ⟨k,x,y,hk,rfl,HQ,HV0,HV1,HB⟩:=hrel
  by_cases hlt:k<len
  ·obtain ⟨b,off,rfl,hq⟩:=((uH HR).below (uH HB)).at hlt
   have hkl:k<l.length:=by have:=uH HL;omega
   have hst:=rR hkl x y
   obtain ⟨c0,c1⟩:=hq hkl
   obtain ⟨⟨a,d⟩,hs⟩:∃q,l[k]=q:=⟨_,rfl⟩
   rw [hs] at c0 c1 hst
   simp only at c0 c1 hst
   have HST:=aA hst
   have s0:=(uH HV1).c0
   have s1:=(uH HV1).c1
   have hsz:=(uH HV1).lt
   have hl2:=World.cell?_alloc_lt wr (.cells #[.int .i64 a,.int .i64 d] 36) ⟨w.heap.size+1,0,none⟩ hsz
   have hl3:=World.cell?_alloc_lt wr (.cells #[.int .i64 a,.int .i64 d] 36) ⟨w.heap.size+1,1,none⟩ hsz
   rw [s0] at hl2
   rw [s1] at hl3
   clear hq hs hkl hst
   have CA:=aA (fun wx=>aDQ x y a d wx)
   have HA:=aA (yA (Below.refl _ wr) (.cells #[.int .i64 a,.int .i64 d] 36))
   cases ho:aK 1 x y a d with
   | true=>
    rw [kC ho,ho] at CA
    rw [if_pos ho] at HST
    clear ho
    go_wp2_with fail
    refine (uH CA _).mono ?_
    rintro e w1 ⟨rfl,hb⟩
    have W0:=aA (((uH HV0).below (uH HA)).below hb)
    have W1:=aA (((uH HV1).below (uH HA)).below hb)
    have HB1:=aA (yB (yB (uH HB) (uH HA)) hb)
    have hsz1:=(uH W1).lt
    have t0:=(uH W1).c0
    have t1:=(uH W1).c1
    have f0:=(uH W1).f 0
    have f1:=(uH W1).f 1
    have g0:=World.cell?_alloc_lt w1 (.cells #[.int .i64 (x+1*a),.int .i64 (y+1*d)] 36) ⟨w.heap.size+1,0,none⟩ hsz1
    have g1:=World.cell?_alloc_lt w1 (.cells #[.int .i64 (x+1*a),.int .i64 (y+1*d)] 36) ⟨w.heap.size+1,1,none⟩ hsz1
    rw [t0] at g0
    rw [t1] at g1
    clear hb CA HA c0 c1 s0 s1 hl2 hl3 HV0 HV1 HB
    obtain ⟨x',hx'⟩:∃x',x+1*a=x':=⟨_,rfl⟩
    obtain ⟨y',hy'⟩:∃y',y+1*d=y':=⟨_,rfl⟩
    rw [hx',hy'] at HST g0 g1
    rw [hx',hy']
    clear hx' hy'
    have h2:=(uH W1).al (.cells #[.int .i64 x',.int .i64 y'] 36)
    have ff0:=h2.f 0
    have ff1:=h2.f 1
    have W2:=aA h2
    clear h2
    go_wp2
    go_roundw
    case rel=>exact ⟨k+1,x',y',by omega,by go_num,aA (by rw [←uH HST];exact uH HQ),aA ((((uH W0).other _ _ _ (show w.heap.size≠w.heap.size+1 by omega)).other _ _ _ (show w.heap.size≠w.heap.size+1 by omega)).al _),aA (((uH W1).set _ _).al _),aA (yA (yC (yC (uH HB1) _ _ _ (show w.heap.size≤w.heap.size+1 by omega)) _ _ _ (show w.heap.size≤w.heap.size+1 by omega)) _)⟩
    case measure=>simp [intOf];omega
   | false=>
    rw [jS ho,ho] at CA
    rw [if_neg (by rw [ho];simp)] at HST
    have hres:=(uH HST).symm.trans (uH HQ)
    simp only [Prod.mk.injEq] at hres
    obtain ⟨rfl,rfl,rfl⟩:=hres
    clear ho HST HS
    go_wp2_with fail
    refine (uH CA _).mono ?_
    rintro e w1 ⟨rfl,hb⟩
    have W0:=aA ((((uH HV0).below (uH HA)).below hb).al (.cells #[.int .i64 0,.int .i64 0] 36))
    have HB1:=aA (yA (yB (yB (uH HB) (uH HA)) hb) (.cells #[.int .i64 0,.int .i64 0] 36))
    clear hb CA HA c0 c1 s0 s1 hl2 hl3 HV0 HV1 HB
    have t0:=(uH W0).c0
    have t1:=(uH W0).c1
    have f0:=(uH W0).f 0
    have f1:=(uH W0).f 1
    have k4:=(uH W0).s0 (.int .i64 0)
    have k5:=(uH W0).s1 (.int .i64 0) (.int .i64 0)
    go_wp2
    refine bodyPost_ret (v:=.tuple #[rv 0 0,.bool false]) (by simp [results,Tryz.results150,go_sem,k4,k5]) rfl ⟨rfl,?_⟩
    repeat (first | exact uH HB1 | refine yC ?_ _ _ _ (by omega))
  ·have hres:(x,y,true)=(sx,sy,so):=by rw [←uH HQ,uL (by have:=uH HL;omega)]
   simp only [Prod.mk.injEq] at hres
   obtain ⟨rfl,rfl,rfl⟩:=hres
   have s0:=(uH HV1).c0
   have s1:=(uH HV1).c1
   have t0:=(uH HV0).c0
   have t1:=(uH HV0).c1
   have f0:=(uH HV0).f 0
   have f1:=(uH HV0).f 1
   have k4:=(uH HV0).s0 (.int .i64 x)
   have k5:=(uH HV0).s1 (.int .i64 x) (.int .i64 y)
   go_wp2
   refine bodyPost_ret (v:=.tuple #[rv x y,.bool true]) (by simp [results,Tryz.results150,go_sem,k4,k5]) rfl ⟨rfl,?_⟩
   repeat (first | exact uH HB | refine yC ?_ _ _ _ (by omega))
theorem aEL (x:Sls) (s:St) (w:World) (h:aZ w x.ma x.ml s.ms) (hl:x.ml≤1048576) :
  Calls Tryz.prog 120 #[sv x s] w fun e w'=>e=.returned (.tuple #[rv (gN (aX s.ms)).1 (gN (aX s.ms)).2.1,.bool (gN (aX s.ms)).2.2])∧Below w.heap.size w w':=by
 obtain ⟨i0,hi,hz0,hz1,hz2⟩:=info_parts Tryz.infoR
 obtain ⟨qa,ql,qc,aa,al,ac,ma,ml,mc,ca,cl,cc⟩:=x
 obtain ⟨qs,clock,epoch,next,serial,apps,ms,cs⟩:=s
 simp only at h hl ⊢
 have HR:=aA h
 have HL:=aA h.1
 obtain ⟨c,hc⟩:∃c:Array Value,#[.slice qa ql qc,.int .i64 clock,.int .i64 epoch,.int .i64 next,.int .i64 serial,.slice aa al ac,.slice ma ml mc,.slice ca cl cc]=c:=⟨_,rfl⟩
 have HC:=aA hc
 have HB0:=aA (bV w c)
 have V0:=aA (gL w c)
 have hW:=qE w c
 have HW:=aA hW
 clear h hc hW
 obtain ⟨⟨sx,sy,so⟩,hs⟩:∃s,gN (aX ms)=s:=⟨_,rfl⟩
 have HS:=aA hs
 rw [hs]
 clear hs
 go_enter Tryz.func120,Tryz.ntmps120
 go_wp2
 go_loopw [4,10] (fun v i wr=>∃(k:Nat),k≤ml∧i=.int .i64 k∧Hid (wU (rC w c).heap.size wr v (aX (ms.take k)))∧Hid (Below (rC w c).heap.size (rC w c) wr)) (fun _ i _=>ml - (intOf i).toNat)
 case atStart=>
  obtain rfl:=uH HC
  exact ⟨0,Nat.zero_le _,rfl,aA (by simpa [aX] using aAR _ _),aA (Below.refl _ _)⟩
 case round=>
  obtain ⟨k,hk,rfl,HO,HB⟩:=hrel
  by_cases hlt:k<ml
  ·obtain ⟨b,off,rfl,hq⟩:=(((uH HR).below (uH HB0)).below (uH HB)).at hlt
   have hkl:k<ms.length:=by have:=uH HL;omega
   have hst:=aA (wK hkl)
   obtain ⟨c0,c1,c2,c3⟩:=hq hkl
   obtain ⟨m,hs⟩:∃q,ms[k]=q:=⟨_,rfl⟩
   rw [hs] at c0 c1 c2 c3 hst
   have hal:(aX (ms.take k)).length≤1048576:=by simp [aX];omega
   obtain ⟨acc,hacc⟩:∃a,aX (ms.take k)=a:=⟨_,rfl⟩
   rw [hacc] at hst hal HO
   obtain ⟨nm,me,cp,se⟩:=m
   simp only at c0 c1 c2 c3 hst
   have HB2:=aA (yA (uH HB) (rZ ⟨nm,me,cp,se⟩))
   have HO2:=aA ((uH HO).below (yA (Below.refl _ wr) (rZ ⟨nm,me,cp,se⟩)))
   have hs2:(rC w c).heap.size≤(wr.alloc (rZ ⟨nm,me,cp,se⟩)).heap.size:=(uH HB2).size
   have hown:(wr.alloc (rZ ⟨nm,me,cp,se⟩)).ownsRow (rC w c).heap.size 36 2 _ acc.length (gH acc):=uH HO2
   clear hq hs hkl hacc HO HB
   go_wp2_with (at_builtin;refine wpList_append_own _ rfl _ _ 141 rfl (rC w c).heap.size 36 i0 (.agg #[.int .i64 0,.int .i64 0]) 2 16 Tryz.underlying141 hi hz0 hz1 hz2 rfl (by decide) _ _ _ rfl (hown.alloc _) ⟨wr.heap.size+1,0,none⟩ 1 1 (xB (me,cp)) rfl rfl ?c1 ?c2 ?c3 ?c4 ?c5 ?_)
   case c1=>
    intro j x hj
    match j,hj with
    | 0,hj=>simp at hj;subst hj;simp [Addr.add]
    | 1,hj=>simp at hj;subst hj;simp [Addr.add]
    | _+2,hj=>simp at hj
   case c2=>intro x hx;simp at hx;rcases hx with rfl | rfl<;>rfl
   case c3=>unfold maxLen;omega
   case c4=>omega
   case c5=>simp at hs2 ⊢;omega
   intro v' w3 hown' hgrow _
   have R:=kR (q:=(me,cp)) (uH HB2) (uH HO2) hown' hgrow hs2
   have HR3:=aA R
   clear hown' hgrow hown c0 c1 c2 c3 R
   go_wp2
   go_roundw
   case rel=>exact ⟨k+1,by omega,by go_num,aA (by rw [uH hst];exact (uH HR3).1),aA (uH HR3).2⟩
   case measure=>simp [intOf];omega
  ·have htk:ms.take k=ms:=List.take_of_length_le (by have:=uH HL;omega)
   rw [htk] at HO
   obtain ⟨ao,cp,rfl,hrow,hcp⟩:=(uH HO).row
   have hlc:(aX ms).length≤1048576:=by have:=uH HL;simp [aX];omega
   have CT:=aA (mH ao _ cp (aX ms) wr hrow hlc)
   rw [uH HS] at CT
   obtain ⟨n,hn⟩:∃n,(aX ms).length=n:=⟨_,rfl⟩
   rw [hn] at CT ⊢
   clear hrow hn htk hcp hlc HO
   go_wp2_with fail
   refine (uH CT).mono ?_
   rintro e w1 ⟨rfl,hb⟩
   have hsz:w.heap.size+1<(rC w c).heap.size:=by have:=uH HW;omega
   have V1:Var w1 36 (w.heap.size+1) 0 0:=Var.below ((uH HB).block _ hsz |>.trans (uH V0)) hb
   have HB1:=aA (yB (yB (uH HB0) (uH HB)) hb)
   have t0:=V1.c0
   have t1:=V1.c1
   have f0:=V1.f 0
   have f1:=V1.f 1
   have k4:=V1.s0 (.int .i64 sx)
   have k5:=V1.s1 (.int .i64 sx) (.int .i64 sy)
   clear hb V1 CT HB HB0
   go_wp2
   refine bodyPost_ret (v:=.tuple #[rv sx sy,.bool so]) (by simp [results,Tryz.results120,go_sem,k4,k5]) rfl ⟨rfl,?_⟩
   repeat (first | exact uH HB1 | refine yC ?_ _ _ _ (by omega))
end
section
open Go.RowKit Go.Maps
def aEP (s:St):Prop:=(∀a ∈ s.apps,(Lit.int .i64 a.id).wf=true)∧(∀c ∈ s.cs,(Lit.int .i64 c.app).wf=true)
theorem aF7.wfs {x:Sls} {s:St} (h:aF7 x s):aEP s:=⟨fun a ha=>(h.2.1.2 a ha).2.1,fun c hc=>(h.2.2.2.1.2 c hc).2.2.1⟩
theorem aEI {w:World} {hs:List AV} {l:List dB} (hh:iP w hs l) (h:∀a ∈ l,(Lit.int .i64 a.id).wf=true):∀v ∈ hs,(Lit.int .i64 v.id).wf=true:=fun v hv=>by
 obtain ⟨i,hi,rfl⟩:=List.mem_iff_getElem.1 hv
 have hi':i<l.length:=by rw [←hh.1];exact hi
 rw [(hh.2 i hi hi').1]
 exact h _ (List.getElem_mem _)
end
section
open Go.ChangeShapes Go.WideShapes Go.ChangeAt Go.RowKit
def nP (q:Ask) (nm:List UInt8):Bool:=decide (q.node=[])||(decide (q.node=nm)||decide (3≤q.missed))
theorem aA9 (q:Ask) (nm:List UInt8) (w:World) :
  Calls Tryz.prog 85 #[aCX q,.string (bs nm)] w fun e w'=>e=.returned (.bool (nP q nm))∧Below w.heap.size w w':=by
 obtain ⟨x0,x1,x2,nd,x4⟩:=q
 have hbe:=mV nd nm
 have hbz:=l7 nd
 simp only [nP]
 by_cases h1:nd=[]<;>by_cases h2:nd=nm<;>by_cases h3:3≤x4
 all_goals
  first | rw [decide_eq_true h1] at hbz ⊢ | rw [decide_eq_false h1] at hbz ⊢
  first | rw [decide_eq_true h2] at hbe ⊢ | rw [decide_eq_false h2] at hbe ⊢
  first | rw [decide_eq_true h3] | rw [decide_eq_false h3]
  clear h1 h2
  go_enter Tryz.func85,Tryz.ntmps85
  go_wp2
  go_ret
  refine ⟨rfl,?_⟩
  repeat (first | exact Below.refl _ _ | refine yA ?_ _ | refine Below.drew ?_ | refine yC ?_ _ _ _ (by omega))
theorem aAL (q:Ask) (nm:List UInt8) (w:World) :
  Calls Tryz.prog 43 #[aCX q,.string (bs nm)] w fun e w'=>e=.returned (.bool (nP q nm))∧Below w.heap.size w w':=by
 obtain ⟨x0,x1,x2,nd,x4⟩:=q
 have hbe:=mV nd nm
 have hbz:=l7 nd
 simp only [nP]
 by_cases h1:nd=[]<;>by_cases h2:nd=nm<;>by_cases h3:3≤x4
 all_goals
  first | rw [decide_eq_true h1] at hbz ⊢ | rw [decide_eq_false h1] at hbz ⊢
  first | rw [decide_eq_true h2] at hbe ⊢ | rw [decide_eq_false h2] at hbe ⊢
  first | rw [decide_eq_true h3] | rw [decide_eq_false h3]
  clear h1 h2
  go_enter Tryz.func43,Tryz.ntmps43
  go_wp2
  go_ret
  refine ⟨rfl,?_⟩
  repeat (first | exact Below.refl _ _ | refine yA ?_ _ | refine Below.drew ?_ | refine yC ?_ _ _ _ (by omega))
end
section
open Go.RowKit Go.Maps
def md (m:Mac):DataW Unit:=.agg [.lit (.string m.name),.lit (.int .i64 m.mem),.lit (.int .i64 m.cpu),.lit (.int .i64 m.seen)]
def gW:Value→Option (DataW Unit×List MemPlace)
 | .agg cs=>match cs.toList with
  | [.string s,.int .i64 x,.int .i64 y,.int .i64 z]=>some (md ⟨s.data.toList,x,y,z⟩,[])
  | _=>none
 | _=>none
theorem qX (m:Mac):gW (aAq m)=some (md m,[]):=by
 obtain ⟨nm,x,y,z⟩:=m
 simp [gW,bs]
theorem vJ {v:Value} {m:Mac} {ps:List MemPlace} (h:gW v=some (md m,ps)):v=aAq m:=by
 unfold gW at h
 split at h
 ·rename_i cs
  split at h
  ·rename_i s x y z e
   have e2:cs=#[.string s,.int .i64 x,.int .i64 y,.int .i64 z]:=by cases cs;simpa using e
   obtain ⟨nm,a,b,c⟩:=m
   simp [md] at h
   obtain ⟨⟨h1,h2,h3,h4⟩,_⟩:=h
   subst h1 h2 h3 h4
   rw [e2]
   simp [aAq,aD2]
  ·cases h
 ·cases h
def bF (nm:List UInt8) (l:List Mac):Option Mac:=l.find? (fun m=>decide (m.name=nm))
def lF (l:List Mac) (D:DataW Unit):Prop:=∀nm kl,keyOf Tryz.prog 133 (oL nm 0)=some kl→Maps.has D kl=(bF nm l).isSome∧∀m,bF nm l=some m→∀zd,D.atKey kl zd=md m
theorem aBn:lF [] (.map []):=fun nm kl _=>⟨by simp [Maps.has,bF],fun m h=>by simp [bF] at h⟩
theorem lF.put {l:List Mac} {D:DataW Unit} (h:lF l D) (hD:IsMap D) {m:Mac} {kl:Lit} (hk:keyOf Tryz.prog 133 (oL m.name 0)=some kl):lF (m::l) (D.put kl (md m)):=fun nm kl' hk'=>by
 by_cases e:kl'=kl
 ·subst e
  have:=iT.inj hk hk'
  simp [oL] at this
  have hn:m.name=nm:=by
   have h1:=congrArg (fun b:ByteArray=>b.data.toList) this
   simpa [bs] using h1
  have hf:bF nm (m::l)=some m:=by simp [bF,hn]
  rw [hf]
  refine ⟨?_,fun m' h' zd=>?_⟩
  ·rw [has_put_same hD (iT.key hk)];rfl
  ·cases h'
   exact atKey_put_same hD (iT.key hk) _ _
 ·have hn:¬m.name=nm:=fun hn=>e (by subst hn;rw [hk] at hk';exact (Option.some.inj hk').symm)
  have hf:bF nm (m::l)=bF nm l:=by simp [bF,hn]
  rw [hf,has_put_other e]
  refine ⟨(h nm kl' hk').1,fun m' h' zd=>?_⟩
  rw [atKey_put_other e]
  exact (h nm kl' hk').2 m' h' zd
theorem aJD (w:World):(zeroValue 104).run Tryz.prog w=.ok (aAq ⟨[],0,0,0⟩) w:=by kernel_rfl
theorem aJF {w:World} {bm n:Nat} {l:List Mac} {D:DataW Unit} (hown:w.ownsMap Tryz.prog 133 gW bm n D) (hk:lF l D) {nm:List UInt8} {kl:Lit} (hkey:keyOf Tryz.prog 133 (oL nm 0)=some kl) :
  (Instr.lookup 130 (.map (some bm)) (oL nm 0) true).run Tryz.prog w=.ok (.tuple #[aAq ((bF nm l).getD ⟨[],0,0,0⟩),.bool (bF nm l).isSome]) w:=by
 obtain ⟨v,ps,hrun,hv⟩:=hown.look_ok iT Tryz.underlying130 (aJD w) (qX ⟨[],0,0,0⟩) hkey
 obtain ⟨h1,h2⟩:=hk nm kl hkey
 rw [hrun,h1]
 cases hf:bF nm l with
 | none=>
  rw [hf] at h1
  rw [atKey_of_not_has h1] at hv
  rw [vJ hv]
  rfl
 | some m=>
  rw [h2 m hf] at hv
  rw [vJ hv]
  rfl
end
section
open Go.RowKit
def aI6 (w0:World) (n:Nat) (L:List (Nat×Array Value×TypeId)) (wx:World):Prop:=
 (∀p ∈ L,p.1<n∧Blk wx p.1 p.2.1 p.2.2)∧n≤wx.heap.size∧w0.heap.size≤n∧Below w0.heap.size w0 wx
theorem aFM (w0:World) (n:Nat) (L:List (Nat×Array Value×TypeId)):aCU (aI6 w0 n L) w0 n where
 call:=fun h hb=>⟨fun p hp=>⟨(h.1 p hp).1,(h.1 p hp).2.below hb⟩,Nat.le_trans h.2.1 hb.size,h.2.2.1,yB h.2.2.2 hb⟩
 set:=fun k j v h hk=>⟨fun p hp=>⟨(h.1 p hp).1,(h.1 p hp).2.other k j v (by have:=(h.1 p hp).1;omega)⟩,by rw [bE];exact h.2.1,h.2.2.1,yC h.2.2.2 _ _ _ (Nat.le_trans h.2.2.1 hk)⟩
 size:=fun h=>h.2.1
 below:=fun h=>h.2.2.2
theorem aI6.blk {w0:World} {n:Nat} {L:List (Nat×Array Value×TypeId)} {wx:World} (h:aI6 w0 n L wx) {p:Nat×Array Value×TypeId} (hp:p ∈ L):Blk wx p.1 p.2.1 p.2.2:=(h.1 p hp).2
theorem Var.blk {w:World} {t:TypeId} {g:Nat} {x y:Int} (h:Var w t g x y):Blk w g #[.int .i64 x,.int .i64 y] t:=h
theorem Blk.var {w:World} {t:TypeId} {g:Nat} {x y:Int} (h:Blk w g #[.int .i64 x,.int .i64 y] t):Var w t g x y:=h
abbrev fP (q:Con):List Value:=[.int .i64 q.id,.int .i64 q.app,.string (bs q.node),.int .i64 q.mem,.int .i64 q.cpu]
def aI:List Con→List Value
 | []=>[]
 | q::t=>fP q++aI t
theorem bU:∀l:List Con,(aI l).length=l.length*5
 | []=>rfl
 | q::t=>by rw [aI,List.length_append,bU t];simp;omega
theorem qD:∀(l:List Con) (i:Nat) (h:i<l.length),(aI l)[i*5]? = some (.int .i64 l[i].id)∧(aI l)[i*5+1]? = some (.int .i64 l[i].app)∧(aI l)[i*5+2]? = some (.string (bs l[i].node))∧(aI l)[i*5+3]? = some (.int .i64 l[i].mem)∧(aI l)[i*5+4]? = some (.int .i64 l[i].cpu)
 | q::t,0,_=>⟨rfl,rfl,rfl,rfl,rfl⟩
 | q::t,i+1,h=>by
  have e:=qD t i (by simpa using h)
  have k:∀j,(aI (q::t))[(i+1)*5+j]? = (aI t)[i*5+j]?:=fun j=>by
   rw [aI,show (i+1)*5+j=(fP q).length+(i*5+j) by simp;omega,List.getElem?_append_right (by omega)]
   congr 1
   omega
  have k0:=k 0
  simp only [Nat.add_zero] at k0
  rw [k0,k 1,k 2,k 3,k 4]
  simpa using e
theorem gY {w:World} {b off len:Nat} {l:List Con} (h:aY w (some ⟨b,off,none⟩) len l):∀j u,(aI l)[j]? = some u→w.cell? ⟨b,off+j,none⟩=some u:=fun j u hj=>by
 have hjl:j<l.length*5:=by rw [←bU];exact (List.getElem?_eq_some_iff.1 hj).1
 obtain ⟨h1,h2⟩:=h
 rcases h2 with h2 | ⟨b',off',e,h4⟩
 ·omega
 ·cases e
  have hi:j / 5<l.length:=by omega
  obtain ⟨a0,a1,a2,a3,a4⟩:=qD l (j / 5) hi
  obtain ⟨c0,c1,c2,c3,c4⟩:=h4 (j / 5) hi
  rcases (show j % 5=0∨j % 5=1∨j % 5=2∨j % 5=3∨j % 5=4 by omega) with e | e | e | e | e
  ·rw [show j=j / 5*5 by omega] at hj ⊢;rw [a0] at hj;cases hj;exact c0
  ·rw [show j=j / 5*5+1 by omega] at hj ⊢;rw [a1] at hj;cases hj;rw [←Nat.add_assoc];exact c1
  ·rw [show j=j / 5*5+2 by omega] at hj ⊢;rw [a2] at hj;cases hj;rw [←Nat.add_assoc];exact c2
  ·rw [show j=j / 5*5+3 by omega] at hj ⊢;rw [a3] at hj;cases hj;rw [←Nat.add_assoc];exact c3
  ·rw [show j=j / 5*5+4 by omega] at hj ⊢;rw [a4] at hj;cases hj;rw [←Nat.add_assoc];exact c4
theorem dG:∀(l:List Con),∀u ∈ aI l,u.oneCell'=true
 | [],u,h=>by simp [aI] at h
 | q::t,u,h=>by
  rw [aI,List.mem_append] at h
  rcases h with h | h
  ·simp at h
   rcases h with rfl | rfl | rfl | rfl | rfl<;>rfl
  ·exact dG t u h
def aFd (B:Nat) (w:World) (v:Value) (l:List Con):Prop:=w.ownsRow B 38 5 v l.length (aI l)
theorem aIT (B:Nat) (w:World):aFd B w (.slice none 0 0) []:=World.ownsRow_nil _ _ _ _
theorem zT (w:World):w.alloc (.cells #[] 38) |>.ownsRow w.heap.size 38 5 (.slice (some ⟨w.heap.size,0,none⟩) 0 0) 0 []:=
 ⟨rfl,.inr ⟨w.heap.size,0,#[],rfl,Nat.le_refl _,by show (w.heap.push _)[w.heap.size]? = _;simp,Nat.le_refl _,by unfold maxLen;omega,rfl,rfl⟩⟩
theorem aHB {w:World} {B B':Nat} {v:Value} {l:List Con} (h:aFd B w v l) (hb:B'≤B):aFd B' w v l:=by
 obtain ⟨h1,h2⟩:=h
 refine ⟨h1,?_⟩
 rcases h2 with h2 | ⟨g,cap,cur,a,b,c⟩
 ·exact .inl h2
 ·exact .inr ⟨g,cap,cur,a,Nat.le_trans hb b,c⟩
theorem aIS {w:World} {B:Nat} {v:Value} {l:List Con} (h:aFd B w v l):∃ao cap,v=.slice ao l.length cap∧aY w ao l.length l∧l.length≤cap∧(l≠[]→∃g cur,ao=some ⟨g,0,none⟩∧B≤g∧w.heap[g]? = some (.cells cur 38 (0,0))∧cur.size=cap*5):=by
 rcases h.2 with ⟨rfl,h0⟩ | ⟨g,cap,cur,rfl,h1,h2,h3,h4,h5,h6⟩
 ·exact ⟨none,0,by rw [h0],⟨rfl,.inl h0⟩,by omega,fun hn=>absurd (List.length_eq_zero_iff.1 h0) hn⟩
 ·refine ⟨some ⟨g,0,none⟩,cap,rfl,⟨rfl,.inr ⟨g,0,rfl,fun i hi=>?_⟩⟩,h3,fun _=>⟨g,cur,rfl,h1,h2,h5⟩⟩
  obtain ⟨a,b,c,d,e⟩:=qD l i hi
  have k:∀j (v:Value),j<l.length*5→(aI l)[j]? = some v→w.cell? ⟨g,j,none⟩=some v:=fun j v hj hv=>by
   rw [←h6,List.getElem?_take_of_lt hj] at hv
   simp [World.cell?,h2]
   simpa using hv
  unfold nO
  rw [Nat.zero_add]
  exact ⟨k _ _ (by omega) a,k _ _ (by omega) b,k _ _ (by omega) c,k _ _ (by omega) d,k _ _ (by omega) e⟩
theorem Tryz.infoCont:(Tryz.prog.info? 38).map (fun i=>(i.zero,i.size,i.bytes))=some (some (.agg #[.int .i64 0,.int .i64 0,.string ByteArray.empty,.int .i64 0,.int .i64 0]),5,48):=by kernel_rfl
theorem aAl (ao:Option Addr) (len cap:Nat) (l:List Con) (w:World) (h:aY w ao len l) (hl:len≤1048576) :
  Calls Tryz.prog 104 #[.slice ao len cap] w fun e w'=>∃v,e=.returned v∧aFd w.heap.size w' v l∧Below w.heap.size w w':=by
 obtain ⟨i0,hi,hz0,hz1,hz2⟩:=info_parts Tryz.infoCont
 cases ao with
 | none=>
  have hn:len=0:=by rcases h.2 with h | ⟨b,off,e,_⟩;exact h;cases e
  subst hn
  have hl0:l=[]:=List.length_eq_zero_iff.1 h.1.symm
  subst hl0
  have hnl:∀wx,(binOp .eql 32 (.slice none 0 cap) (.slice none 0 0)).run Tryz.prog wx=.ok (.bool true) wx:=fun wx=>Lib.run_eql_slice_nil wx _ _ none 0 cap 0 0 Tryz.underlying32
  clear h hl
  go_enter Tryz.func104,Tryz.ntmps104
  go_wp2
  go_ret
  exact ⟨_,rfl,aIT _ _,Below.refl _ _⟩
 | some ad=>
  have hnew:∀j u,(aI l)[j]? = some u→(w.alloc (.cells #[] 38)).cell? (ad.add j)=some u:=fun j u hj=>by
   have hjl:j<l.length*5:=by rw [←bU];exact (List.getElem?_eq_some_iff.1 hj).1
   rcases h.2 with h0 | ⟨b,off,e,_⟩
   ·have:=h.1;omega
   ·cases e
    have:=gY (h.below (yA (Below.refl _ w) (.cells #[] 38))) j u hj
    rw [Lib.add_plain]
    exact this
  have HNW:=aA hnew
  have HLN:=aA h.1
  have hown:=zT w
  have hll:(aI l).length=len*5:=by rw [bU,h.1]
  have hone:=dG l
  have hnl:∀wx,(binOp .eql 32 (.slice (some ad) len cap) (.slice none 0 0)).run Tryz.prog wx=.ok (.bool false) wx:=fun wx=>Lib.run_eql_slice_nil wx _ _ (some ad) len cap 0 0 Tryz.underlying32
  clear h hnew
  go_enter Tryz.func104,Tryz.ntmps104
  go_wp2_with (at_builtin;refine wpList_append_own _ rfl _ _ 32 rfl w.heap.size 38 i0 (.agg #[.int .i64 0,.int .i64 0,.string ByteArray.empty,.int .i64 0,.int .i64 0]) 5 48 Tryz.underlying32 hi hz0 hz1 hz2 rfl (by decide) _ _ _ rfl hown ad len cap (aI l) rfl hll (uH HNW) hone ?c3 ?c4 ?c5 ?_)
  case c3=>unfold maxLen;omega
  case c4=>omega
  case c5=>simp
  intro v' w3 hown' hgrow _
  have HO:=aA (show aFd w.heap.size w3 v' l by
   unfold aFd
   rw [←uH HLN]
   simpa using hown')
  have HB:=aA (show Below w.heap.size w w3 from (yA (Below.refl _ w) (.cells #[] 38)).grown hgrow (by simp) (fun k e=>by simp [Value.ownBlock] at e;omega))
  clear hown' hgrow hown hone hll
  go_wp2
  go_ret
  exact ⟨_,rfl,uH HO,uH HB⟩
def VB (w1 w:World) (g:Nat) (x y:Int):Prop:=w1.heap.size≤g∧Var w 36 g x y
theorem VB.below {w1 w w':World} {g:Nat} {x y:Int} (h:VB w1 w g x y) (hb:Below w.heap.size w w'):VB w1 w' g x y:=⟨h.1,h.2.below hb⟩
theorem VB.al {w1 w:World} {g:Nat} {x y:Int} (h:VB w1 w g x y) (o:Obj):VB w1 (w.alloc o) g x y:=⟨h.1,h.2.al o⟩
theorem VB.ne {w1 w:World} {g:Nat} {x y:Int} (h:VB w1 w g x y):g≠w.heap.size:=Nat.ne_of_lt h.2.lt
theorem aJd {w1 w:World} (h:Below w1.heap.size w1 w):VB w1 (w.alloc (.cells #[.int .i64 0,.int .i64 0] 36)) w.heap.size 0 0:=⟨h.size,aJ w _ 0 0⟩
theorem VB.set {w1 w:World} {g:Nat} {a b:Int} (h:VB w1 w g a b) (x y:Int):VB w1 ((w.setCell ⟨g,0,none⟩ (.int .i64 x)).setCell ⟨g,1,none⟩ (.int .i64 y)) g x y:=⟨h.1,h.2.set x y⟩
theorem VB.off {w1 w:World} {g k:Nat} {a b:Int} (h:VB w1 w g a b) (hn:g≠k) {u v:Value}:VB w1 ((w.setCell ⟨k,0,none⟩ u).setCell ⟨k,1,none⟩ v) g a b:=⟨h.1,(h.2.other k 0 u hn).other k 1 v hn⟩
theorem VB.kp {w1 w:World} {g:Nat} {a b:Int} (h:VB w1 w g a b) (hk:Below w1.heap.size w1 w) {u v:Value}:Below w1.heap.size w1 ((w.setCell ⟨g,0,none⟩ u).setCell ⟨g,1,none⟩ v):=yC (yC hk _ _ _ h.1) _ _ _ h.1
def aFO:Nat→List (List Bool)
 | 0=>[[]]
 | k+1=>(aFO k).map (false :: ·)++(aFO k).map (true :: ·)
theorem aB0:∀(f:List Bool),f ∈ aFO f.length
 | []=>by simp [aFO]
 | b::t=>by
  have:=aB0 t
  cases b<;>simp [aFO,this]
structure Mul where
 n:Nat
 cs:List Nat
 al:List Nat
 st:List Nat
 l0:List Bool
def Mul.lst (M:Mul) (c:Nat) (f:List Bool) (s:Nat):Array Bool:=
 ((List.range M.n).map fun i=>M.l0.getD i false||((M.cs.take c).contains i||(((M.al.zip f).any fun p=>p.1==i&&p.2)||(M.st.take s).contains i))).toArray
def Mul.nxt (M:Mul) (c:Nat) (f:List Bool) (s:Nat):List (Nat×Nat):=
 (List.range M.n).filterMap fun i=>
  if M.cs[c]? = some i then some (i,0)
  else match (List.range M.al.length).find? (fun j=>M.al[j]? == some i&&f[j]? == some false) with
   | some j=>some (i,j+2)
   | none=>if decide (c=M.cs.length)&&(f.all id&&decide (M.st[s]? = some i)) then some (i,1) else none
def Mul.to (c:Nat) (f:List Bool) (s:Nat):Nat→Nat×List Bool×Nat
 | 0=>(c+1,f,s)
 | 1=>(c,f,s+1)
 | j+2=>(c,f.set j true,s)
def Mul.one (M:Mul) (md:Region.Mode) (ops:Array Oper) (c:Nat) (f:List Bool) (s:Nat):Bool:=
 decide (Region.ready md ops (M.lst c f s)=(M.nxt c f s).map (·.1)) &&
 ((M.nxt c f s).isEmpty==(decide (c=M.cs.length)&&(f.all id&&decide (s=M.st.length)))) &&
 (M.nxt c f s).all fun p=>decide ((M.lst c f s).setIfInBounds p.1 true=M.lst (Mul.to c f s p.2).1 (Mul.to c f s p.2).2.1 (Mul.to c f s p.2).2.2) &&
  (match p.2 with | 0=>decide (M.cs[c]? = some p.1) | 1=>decide (c=M.cs.length)&&(f.all id&&decide (M.st[s]? = some p.1)) | j+2=>decide (M.al[j]? = some p.1)&&f[j]? == some false)
def Mul.ok (M:Mul) (md:Region.Mode) (ops:Array Oper):Bool:=
 decide (M.al.length=M.st.length)&&((List.range (M.cs.length+1)).all fun c=>(aFO M.al.length).all fun f=>M.one md ops c f 0)&&(List.range (M.st.length+1)).all fun s=>M.one md ops M.cs.length (List.replicate M.al.length true) s
theorem qG {f:List Bool} (h:f.all id=true):f=List.replicate f.length true:=by
 induction f with
 | nil=>rfl
 | cons b t ih=>
  simp only [List.all_cons,id,Bool.and_eq_true] at h
  rw [List.length_cons,List.replicate_succ,←ih h.2,h.1]
theorem Mul.at {M:Mul} {md:Region.Mode} {ops:Array Oper} (h:M.ok md ops=true) {c:Nat} {f:List Bool} {s:Nat} (hc:c≤M.cs.length) (hf:f.length=M.al.length) (hs:s≤M.st.length) (h0:0<s→c=M.cs.length∧f.all id=true):M.one md ops c f s=true:=by
 simp only [Mul.ok,Bool.and_eq_true,List.all_eq_true,List.mem_range] at h
 obtain ⟨⟨_,h1⟩,h2⟩:=h
 by_cases e:s=0
 ·subst e
  exact h1 c (by omega) f (by rw [←hf];exact aB0 f)
 ·obtain ⟨rfl,h3⟩:=h0 (by omega)
  have:=qG h3
  rw [hf] at this
  rw [this]
  exact h2 s (by omega)
def Mul.step (P:Program) (ops:Array Oper) (Q:Exit→Act→World→Prop) (i:Nat) (a:Act) (w:World) (K:Act→World→Prop):Prop:=
 ∃o,ops[i]? = some o∧(if Region.wanted o (yielded ops a.tmps)=true then Oper.wp P o a w K Q else K (a.put o.dst undef) w)
theorem aHC {f:List Bool} {j:Nat} (h:f[j]? = some false):(f.set j true).count false+1=f.count false:=by
 induction f generalizing j with
 | nil=>simp at h
 | cons b t ih=>
  cases j with
  | zero=>simp at h;subst h;simp
  | succ j=>simp at h;have:=ih h;simp only [sC,List.count_cons];omega
theorem zU {f:List Bool} (h:f.all id=true):f.count false=0:=by rw [qG h];simp [List.count_replicate]
theorem aFi {P:Program} {md:Region.Mode} {ops:Array Oper} {Q:Exit→Act→World→Prop} {S:World→Prop} {n n':Nat} {l l':Array Bool} {a a':Act} {w:World} (hn:n=n') (hl:l=l') (ha:a=a') (h:wpAnyH P md ops Q S n' l' a' w):wpAnyH P md ops Q S n l a w:=by
 subst hn hl ha
 exact h
def aID (b:Bool) (g:Nat):Value:=match b with | true=>.pointer (some ⟨g,0,none⟩) | false=>undef
def aIC (b:Bool) (v:Value):Value:=match b with | true=>v | false=>undef
theorem aFD {α:Type} {l:List α} (h:l.length=4):∃a b c d,l=[a,b,c,d]:=by
 match l,h with
 | [a,b,c,d],_=>exact ⟨a,b,c,d,rfl⟩
theorem aBI {P:Program} {md:Region.Mode} {ops:Array Oper} {Q:Exit→Act→World→Prop} {w1:World} (M:Mul) (Fr:Nat→List Bool→List Nat→Act) (vals:List (Int×Int)) (hv:vals.length=M.al.length)
  (hok:M.ok md ops=true)
  (hcall:∀c f us w K,c<M.cs.length→f.length=M.al.length→us.length=M.al.length→Kp w1 w→(∀w',Below w.heap.size w w'→K (Fr (c+1) f us) w')→Mul.step P ops Q (M.cs.getD c 0) (Fr c f us) w K)
  (hal:∀j c f us w K,c≤M.cs.length→f.length=M.al.length→us.length=M.al.length→f[j]? = some false→K (Fr c (f.set j true) (us.set j w.heap.size)) (w.alloc (.cells #[.int .i64 0,.int .i64 0] 36))→Mul.step P ops Q (M.al.getD j 0) (Fr c f us) w K)
  (hst:∀s us w K,s<M.al.length→us.length=M.al.length→Var w 36 (us.getD s 0) 0 0→K (Fr M.cs.length (List.replicate M.al.length true) us) ((w.setCell ⟨us.getD s 0,0,none⟩ (.int .i64 (vals.getD s (0,0)).1)).setCell ⟨us.getD s 0,1,none⟩ (.int .i64 (vals.getD s (0,0)).2))→Mul.step P ops Q (M.st.getD s 0) (Fr M.cs.length (List.replicate M.al.length true) us) w K)
  (fin:∀us w,us.length=M.al.length→(∀j,j<M.al.length→VB w1 w (us.getD j 0) (vals.getD j (0,0)).1 (vals.getD j (0,0)).2)→Kp w1 w→Q .normal (Fr M.cs.length (List.replicate M.al.length true) us) w)
  (w:World) (hw:Kp w1 w):wpAnyH P md ops Q (Kp w1) (M.cs.length+M.al.length+M.al.length) (M.lst 0 (List.replicate M.al.length false) 0) (Fr 0 (List.replicate M.al.length false) (List.replicate M.al.length 0)) w:=by
 have hla:M.al.length=M.st.length:=by have:=hok;simp only [Mul.ok,Bool.and_eq_true,decide_eq_true_eq] at this;exact this.1.1
 refine kM (fun n lz az wz=>∃c f us s,c≤M.cs.length∧f.length=M.al.length∧us.length=M.al.length∧s≤M.al.length∧(0<s→c=M.cs.length∧f.all id=true)∧n=(M.cs.length - c)+f.count false+(M.al.length - s)∧lz=M.lst c f s∧az=Fr c f us
   ∧(∀j,f[j]? = some true→VB w1 wz (us.getD j 0) (if j<s then (vals.getD j (0,0)).1 else 0) (if j<s then (vals.getD j (0,0)).2 else 0))∧(∀i j,f[i]? = some true→f[j]? = some true→i≠j→us.getD i 0≠us.getD j 0)∧Kp w1 wz) ?_ ?_ _ _ _ _ ⟨0,_,_,0,Nat.zero_le _,by simp,by simp,Nat.zero_le _,fun h=>absurd h (by omega),by simp,rfl,rfl,fun j hj=>by simp [List.getElem?_replicate] at hj,fun i j hi=>by simp [List.getElem?_replicate] at hi,hw⟩
 ·rintro n lz az wz ⟨c,f,us,s,hc,hf,hu,hs,h0,hn,rfl,rfl,hV,hD,hk⟩
  have hone:=Mul.at hok hc hf (by omega) h0
  simp only [Mul.one,Bool.and_eq_true,decide_eq_true_eq,List.all_eq_true] at hone
  obtain ⟨⟨hr,he⟩,hall⟩:=hone
  have hne:(M.nxt c f s).map (·.1)≠[]:=fun e=>by
   have e':M.nxt c f s=[]:=List.map_eq_nil_iff.1 e
   rw [e'] at he
   simp only [List.isEmpty_nil,beq_iff_eq] at he
   have he':=he.symm
   simp only [Bool.and_eq_true,decide_eq_true_eq] at he'
   have:=zU he'.2.1
   omega
  refine aS hr hne (fun i hi=>?_)
  obtain ⟨⟨i',k⟩,hp,rfl⟩:=List.mem_map.1 hi
  obtain ⟨hset,hk'⟩:=hall _ hp
  simp only at hset hk'
  match k,hset,hk' with
  | 0,hset,hk'=>
   simp only [decide_eq_true_eq] at hk'
   have hlt:c<M.cs.length:=(List.getElem?_eq_some_iff.1 hk').1
   have hcd:M.cs.getD c 0=i':=by rw [List.getD_eq_getElem?_getD,hk'];rfl
   obtain ⟨o,ho,hh⟩:=hcall c f us wz (fun a' w'=>Kp w1 w'∧∃c' f' us' s',c'≤M.cs.length∧f'.length=M.al.length∧us'.length=M.al.length∧s'≤M.al.length∧(0<s'→c'=M.cs.length∧f'.all id=true)∧n=(M.cs.length - c')+f'.count false+(M.al.length - s')∧(M.lst c f s).setIfInBounds i' true=M.lst c' f' s'∧a'=Fr c' f' us'∧(∀j,f'[j]? = some true→VB w1 w' (us'.getD j 0) (if j<s' then (vals.getD j (0,0)).1 else 0) (if j<s' then (vals.getD j (0,0)).2 else 0))∧(∀i j,f'[i]? = some true→f'[j]? = some true→i≠j→us'.getD i 0≠us'.getD j 0)∧Kp w1 w') hlt hf hu hk
    (fun w' hb=>⟨yB hk hb,c+1,f,us,s,hlt,hf,hu,hs,fun h=>absurd (h0 h).1 (by omega),by omega,hset,rfl,fun j hj=>(hV j hj).below hb,hD,yB hk hb⟩)
   rw [hcd] at ho
   exact wpOp_step ho (fun K' hK=>by
    split
    ·rename_i hw;rw [if_pos hw] at hh;exact Oper.wp_mono (fun _ _ h=>hK _ _ h) hh
    ·rename_i hw;rw [if_neg hw] at hh;exact hK _ _ hh)
  | 1,hset,hk'=>
   simp only [Bool.and_eq_true,decide_eq_true_eq] at hk'
   obtain ⟨rfl,hft,hst'⟩:=hk'
   have hsl:s<M.al.length:=by rw [hla];exact (List.getElem?_eq_some_iff.1 hst').1
   have hft':=qG hft
   rw [hf] at hft'
   have hj:f[s]? = some true:=by rw [hft',List.getElem?_replicate,if_pos hsl]
   have hcd:M.st.getD s 0=i':=by rw [List.getD_eq_getElem?_getD,hst'];rfl
   have hvs:=hV s hj
   rw [if_neg (by omega),if_neg (by omega)] at hvs
   obtain ⟨o,ho,hh⟩:=hst s us wz (fun a' w'=>Kp w1 w'∧∃c' f' us' s',c'≤M.cs.length∧f'.length=M.al.length∧us'.length=M.al.length∧s'≤M.al.length∧(0<s'→c'=M.cs.length∧f'.all id=true)∧n=(M.cs.length - c')+f'.count false+(M.al.length - s')∧(M.lst M.cs.length f s).setIfInBounds i' true=M.lst c' f' s'∧a'=Fr c' f' us'∧(∀j,f'[j]? = some true→VB w1 w' (us'.getD j 0) (if j<s' then (vals.getD j (0,0)).1 else 0) (if j<s' then (vals.getD j (0,0)).2 else 0))∧(∀i j,f'[i]? = some true→f'[j]? = some true→i≠j→us'.getD i 0≠us'.getD j 0)∧Kp w1 w') hsl hu hvs.2
    ⟨hvs.kp hk,M.cs.length,f,us,s+1,Nat.le_refl _,hf,hu,hsl,fun _=>⟨rfl,hft⟩,by have:=zU hft;omega,hset,by rw [←hft'],fun j hj'=>by
     by_cases e:j=s
     ·subst e
      rw [if_pos (by omega),if_pos (by omega)]
      exact hvs.set _ _
     ·have h1:=(hV j hj').off (hD j s hj' hj e) (u:=.int .i64 (vals.getD s (0,0)).1) (v:=.int .i64 (vals.getD s (0,0)).2)
      by_cases e2:j<s
      ·rw [if_pos e2,if_pos e2] at h1
       rw [if_pos (by omega),if_pos (by omega)]
       exact h1
      ·rw [if_neg e2,if_neg e2] at h1
       rw [if_neg (by omega),if_neg (by omega)]
       exact h1,hD,hvs.kp hk⟩
   rw [hcd] at ho
   rw [hft']
   rw [←hft'] at hh ⊢
   exact wpOp_step ho (fun K' hK=>by
    rw [hft'] at hK ⊢
    rw [hft'] at hh
    split
    ·rename_i hw;rw [if_pos hw] at hh;exact Oper.wp_mono (fun _ _ h=>hK _ _ h) hh
    ·rename_i hw;rw [if_neg hw] at hh;exact hK _ _ hh)
  | j+2,hset,hk'=>
   simp only [Bool.and_eq_true,decide_eq_true_eq,beq_iff_eq] at hk'
   obtain ⟨ha,hfj⟩:=hk'
   have hjl:j<M.al.length:=(List.getElem?_eq_some_iff.1 ha).1
   have hcd:M.al.getD j 0=i':=by rw [List.getD_eq_getElem?_getD,ha];rfl
   have hs0:s=0:=by
    by_cases e:s=0
    ·exact e
    ·have h1:=qG (h0 (by omega)).2
     rw [h1,List.getElem?_replicate,if_pos (by omega)] at hfj
     cases hfj
   obtain ⟨o,ho,hh⟩:=hal j c f us wz (fun a' w'=>Kp w1 w'∧∃c' f' us' s',c'≤M.cs.length∧f'.length=M.al.length∧us'.length=M.al.length∧s'≤M.al.length∧(0<s'→c'=M.cs.length∧f'.all id=true)∧n=(M.cs.length - c')+f'.count false+(M.al.length - s')∧(M.lst c f s).setIfInBounds i' true=M.lst c' f' s'∧a'=Fr c' f' us'∧(∀j,f'[j]? = some true→VB w1 w' (us'.getD j 0) (if j<s' then (vals.getD j (0,0)).1 else 0) (if j<s' then (vals.getD j (0,0)).2 else 0))∧(∀i j,f'[i]? = some true→f'[j]? = some true→i≠j→us'.getD i 0≠us'.getD j 0)∧Kp w1 w') hc hf hu hfj
    ⟨yA hk _,c,f.set j true,us.set j wz.heap.size,s,hc,by simpa using hf,by simpa using hu,hs,fun h=>absurd h (by omega),by have:=aHC hfj;omega,hset,rfl,fun x hx=>by
     subst hs0
     rw [if_neg (by omega),if_neg (by omega)]
     by_cases e:x=j
     ·subst e
      rw [List.getD_eq_getElem?_getD,List.getElem?_set_self (by omega)]
      exact aJd hk
     ·rw [List.getElem?_set_ne (fun h=>e h.symm)] at hx
      rw [List.getD_eq_getElem?_getD,List.getElem?_set_ne (fun h=>e h.symm),←List.getD_eq_getElem?_getD]
      have:=hV x hx
      rw [if_neg (by omega),if_neg (by omega)] at this
      exact this.al _,fun x y hx hy hne2=>by
     by_cases e:x=j
     ·subst e
      by_cases e2:y=x
      ·exact absurd e2.symm hne2
      ·rw [List.getElem?_set_ne (fun h=>e2 h.symm)] at hy
       rw [List.getD_eq_getElem?_getD,List.getElem?_set_self (by omega),List.getD_eq_getElem?_getD,List.getElem?_set_ne (fun h=>e2 h.symm),←List.getD_eq_getElem?_getD]
       exact (hV y hy).ne.symm
     ·rw [List.getElem?_set_ne (fun h=>e h.symm)] at hx
      rw [List.getD_eq_getElem?_getD (l:=us.set j wz.heap.size) (i:=x),List.getElem?_set_ne (fun h=>e h.symm),←List.getD_eq_getElem?_getD]
      by_cases e2:y=j
      ·subst e2
       rw [List.getD_eq_getElem?_getD (l:=us.set y wz.heap.size),List.getElem?_set_self (by omega)]
       exact (hV x hx).ne
      ·rw [List.getElem?_set_ne (fun h=>e2 h.symm)] at hy
       rw [List.getD_eq_getElem?_getD (l:=us.set j wz.heap.size),List.getElem?_set_ne (fun h=>e2 h.symm),←List.getD_eq_getElem?_getD]
       exact hD x y hx hy hne2,yA hk _⟩
   rw [hcd] at ho
   exact wpOp_step ho (fun K' hK=>by
    split
    ·rename_i hw;rw [if_pos hw] at hh;exact Oper.wp_mono (fun _ _ h=>hK _ _ h) hh
    ·rename_i hw;rw [if_neg hw] at hh;exact hK _ _ hh)
 ·rintro lz az wz ⟨c,f,us,s,hc,hf,hu,hs,h0,hn,rfl,rfl,hV,hD,hk⟩
  have hone:=Mul.at hok hc hf (by omega) h0
  simp only [Mul.one,Bool.and_eq_true,decide_eq_true_eq,List.all_eq_true] at hone
  obtain ⟨⟨hr,he⟩,_⟩:=hone
  have hcc:c=M.cs.length:=by omega
  have hfa:f.all id=true:=by
   rw [List.all_eq_true]
   intro b hb
   cases b with
   | true=>rfl
   | false=>have:=List.count_pos_iff.2 hb;omega
  have hss:s=M.al.length:=by omega
  subst hcc hss
  have hf':=qG hfa
  rw [hf] at hf'
  refine ⟨?_,?_⟩
  ·rw [hr]
   have:(M.nxt M.cs.length f M.al.length).isEmpty=true:=by
    simp only [beq_iff_eq] at he
    rw [he,hfa,hla]
    simp
   rw [List.isEmpty_iff.1 this]
   rfl
  ·rw [hf']
   refine fin us wz hu (fun j hj=>?_) hk
   have:=hV j (by rw [hf',List.getElem?_replicate,if_pos hj])
   rw [if_pos hj,if_pos hj] at this
   exact this
end
end Go.Proofs.YtdhibeclkdepiaaGreat
