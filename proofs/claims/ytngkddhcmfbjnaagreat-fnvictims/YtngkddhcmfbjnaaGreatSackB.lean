/-
  Texts in one: MarkA, KKey, AKey, MarkP, MarkO, CopyN, MarkV, OwnP, AppR, WfS, Both, ROwn, Caps, MarkN, MKey, HasI, AddS, MacAt, SubS, VarB, LessRatioS, RegM, GrK.
-/
import Derived.Test.YtngkddhcmfbjnaaGreatSackA
import Derived.Maps.OwnSet
import Derived.Maps.Views
import Derived.DeepKeys4
import Derived.Laws.CopyOwn
import Derived.Deep.RegionLaw
import Derived.Deep.AppendLies
import Derived.ArgAppend
set_option maxRecDepth 100000
set_option maxHeartbeats 16000000
set_option linter.unusedVariables false
set_option linter.unusedSimpArgs false
namespace Go.Proofs.YtngkddhcmfbjnaaGreat
section
open Go.RowKit
variable {q:Ask} {b p:Nat} {w w0:World}
def vH (w0:World) (b p:Nat) (q:Ask) (w:World):Prop:=sZ w b p q∧Bw w0 w
theorem vH.call {w':World} (h:vH w0 b p q w) (hb:Bw w w'):vH w0 b p q w':=⟨h.1.below hb,yB h.2 hb⟩
theorem vH.drew (h:vH w0 b p q w):vH w0 b p q w.drew:=h.call (yH _ _).drew
theorem vH.read (w0:World) (b p:Nat) (q:Ask):∀wx,vH w0 b p q wx→wx.cell? ⟨b,p,none⟩=some (.int .i64 q.mem)∧wx.cell? ⟨b,p+1,none⟩=some (.int .i64 q.cpu)∧wx.cell? ⟨b,p+2,none⟩=some (.int .i64 q.count)∧wx.cell? ⟨b,p+3,none⟩=some (.string (bs q.node))∧wx.cell? ⟨b,p+4,none⟩=some (.int .i64 q.missed):=
 fun wx h=>h.1
end
section
open Go.RowKit Go.Maps
variable {D:DataW Unit} {a:Int} {kl:Lit} {left:Lit→Bool} {b p:Nat} {ao:Option Addr} {v:Value} {w w':World}
abbrev oW (nm:List UInt8) (k:Int):Value:=.agg #[.string (bs nm),.int .i64 k]
theorem aFd:laidOutB Tryz.prog=true:=by kernel_rfl
theorem aKh:(92:TypeId)<Tryz.prog.types.size:=of_decide_eq_true (by kernel_rfl)
theorem aJq:(match Tryz.prog.underlying 92 with | some (.array _ _) | some (.struct _)=>true | _=>false)=true:=by kernel_rfl
theorem jS:Keyed Tryz.prog 92:=Keyed.of_law (deep_law_laid aFd (m:=3) (by omega) aKh (by kernel_rfl) aJq)
theorem aFe:Tryz.prog.keyType 92=true:=by kernel_rfl
theorem aBW:Tryz.prog.cellsOf 92=2:=by kernel_rfl
theorem xU:Tryz.prog.cellsOf 3=1:=by kernel_rfl
theorem xQ:Tryz.prog.cellsOf 9=1:=by kernel_rfl
theorem uO:∃m,Tryz.prog.types.size+1=m+2:=⟨Tryz.prog.types.size - 1,by have:3≤Tryz.prog.types.size:=of_decide_eq_true (by kernel_rfl);omega⟩
theorem aHE (n:Nat) (h:(Lit.int .i64 a).wf=true):Tryz.prog.keyLits (n+1) 3 [.int .i64 a]=some [.int .i64 a]:=by
 simp [Program.keyLits,Tryz.underlying3,h]
theorem aHD (n:Nat) {s:ByteArray} (h:s.size≤maxLen):Tryz.prog.keyLits (n+1) 9 [.string s]=some [.string s.data.toList]:=by
 simp [Program.keyLits,Tryz.underlying9,h]
theorem aA9 {nm:List UInt8} {k:Int} (hn:nm.length≤9223372036854775807) (hk:(Lit.int .i64 k).wf=true):∃kl,keyOf Tryz.prog 92 (oW nm k)=some kl:=by
 obtain ⟨m,hm⟩:=uO
 have hs:(bs nm).size≤maxLen:=by rw [dD];exact hn
 have h:Tryz.prog.keyLits (m+2) 92 [.string (bs nm),.int .i64 k]=some [.string (bs nm).data.toList,.int .i64 k]:=by
  have h:=Tryz.underlying92
  unfold Program.keyLits
  simp [h,aBW,xU,xQ,aHE m hk,aHD m hs]
 have hu:=Tryz.underlying92
 have hk:keyOf Tryz.prog 92 (oW nm k)=if Tryz.prog.keyType 92&&(oW nm k).formed Tryz.prog 92 then (Tryz.prog.keyLits (Tryz.prog.types.size+1) 92 (oW nm k).cells.toList).map (fun ls=>.string (keyBytes ls)) else none:=by
  unfold keyOf
  rw [hu]
 rw [hk,if_pos (by simp [aFe,Value.formed,hu,aBW]),hm,show (oW nm k).cells.toList=[.string (bs nm),.int .i64 k] from rfl,h]
 exact ⟨_,rfl⟩
theorem aDu (s:ByteArray):bs s.data.toList=s:=by simp [bs]
structure AV where
 id:Int
 queue:List UInt8
 ao:Option Addr
 len:Nat
 cap:Nat
abbrev avv (v:AV):Value:=.agg #[.int .i64 v.id,.string (bs v.queue),.slice v.ao v.len v.cap]
def aGJ (w:World) (b p:Nat) (v:AV):Prop:=
 w.cell? ⟨b,p,none⟩=some (.int .i64 v.id)∧w.cell? ⟨b,p+1,none⟩=some (.string (bs v.queue))∧w.cell? ⟨b,p+2,none⟩=some (.slice v.ao v.len v.cap)
theorem aGJ.lt {v:AV} (h:aGJ w b p v):b<w.heap.size:=yG h.1
theorem aGJ.below {v:AV} (h:aGJ w b p v) (hb:Bw w w'):aGJ w' b p v:=
 ⟨(hb.cell h.lt).trans h.1,(hb.cell h.lt).trans h.2.1,(hb.cell h.lt).trans h.2.2⟩
def fK (w:World) (ao:Option Addr) (len:Nat) (l:List AV):Prop:=
 len=l.length∧(len=0∨∃b off,ao=some ⟨b,off,none⟩∧∀i (h:i<l.length),aGJ w b (off+i*3) l[i])
theorem fK.below {len:Nat} {l:List AV} (h:fK w ao len l) (hb:Bw w w'):fK w' ao len l:=by
 obtain ⟨h1,h2⟩:=h
 refine ⟨h1,?_⟩
 rcases h2 with h2 | ⟨b,off,h3,h4⟩
 ·exact .inl h2
 ·exact .inr ⟨b,off,h3,fun i h=>(h4 i h).below hb⟩
theorem fK.at {len:Nat} {l:List AV} (h:fK w ao len l) {i:Nat} (hi:i<len):∃b off,ao=some ⟨b,off,none⟩∧∀(h:i<l.length),aGJ w b (off+i*3) l[i]:=by
 obtain ⟨h1,h2⟩:=h
 rcases h2 with h2 | ⟨b,off,h3,h4⟩
 ·omega
 ·exact ⟨b,off,h3,fun hi=>h4 i hi⟩
def jJ (w:World) (hs:List AV) (l:List bN):Prop:=
 hs.length=l.length∧∀i (h:i<hs.length) (h':i<l.length),hs[i].id=l[i].id∧hs[i].queue=l[i].queue∧bE w hs[i].ao hs[i].len l[i].asks∧hs[i].len≤hs[i].cap
theorem iC.heads {len:Nat} {l:List bN} (h:iC w ao len l):∃hs,fK w ao len hs∧jJ w hs l:=by
 obtain ⟨h1,h2⟩:=h
 by_cases h0:len=0
 ·have hl:l=[]:=List.length_eq_zero_iff.1 (by omega)
  subst hl
  exact ⟨[],⟨by simpa using h0,.inl h0⟩,rfl,fun i h=>by simp at h⟩
 ·rcases h2 with h2 | ⟨b,off,h3,h4⟩
  ·exact absurd h2 h0
  ·have inh:Inhabited AV:=⟨⟨0,[],none,0,0⟩⟩
   obtain ⟨F,hF⟩:=Go.Deep.choose_lt (α:=AV) (n:=l.length) (p:=fun i v=>∀hi:i<l.length,aGJ w b (off+i*3) v∧v.id=l[i].id∧v.queue=l[i].queue∧bE w v.ao v.len l[i].asks∧v.len≤v.cap) (fun i hi=>by
    obtain ⟨x,y,z,a,c,d,e,f⟩:=h4 i hi
    exact ⟨⟨l[i].id,l[i].queue,x,y,z⟩,fun _=>⟨⟨a,c,d⟩,rfl,rfl,e,f⟩⟩)
   refine ⟨(List.range l.length).map F,⟨by simpa using h1,.inr ⟨b,off,h3,fun i hi=>?_⟩⟩,by simp,fun i hi hi'=>?_⟩
   ·have hi':i<l.length:=by simpa using hi
    simpa using (hF i hi' hi').1
   ·simpa using (hF i hi' hi').2
def zI:Option Addr→DataW Unit
 | none=>.agg []
 | some ⟨b,o,none⟩=>.agg [.lit (.int .i64 b),.lit (.int .i64 o)]
 | some ⟨b,o,some k⟩=>.agg [.lit (.int .i64 b),.lit (.int .i64 o),.lit (.int .i64 k)]
theorem aHn {a b:Option Addr} (h:zI a=zI b):a=b:=by
 match a,b with
 | none,none=>rfl
 | none,some ⟨x,y,none⟩=>simp [zI] at h
 | none,some ⟨x,y,some z⟩=>simp [zI] at h
 | some ⟨x,y,none⟩,none=>simp [zI] at h
 | some ⟨x,y,some z⟩,none=>simp [zI] at h
 | some ⟨x,y,none⟩,some ⟨x',y',none⟩=>simp [zI] at h;obtain ⟨h1,h2⟩:=h;(have e1:x=x':=(by omega));(have e2:y=y':=(by omega));subst e1 e2;rfl
 | some ⟨x,y,none⟩,some ⟨x',y',some z'⟩=>simp [zI] at h
 | some ⟨x,y,some z⟩,some ⟨x',y',none⟩=>simp [zI] at h
 | some ⟨x,y,some z⟩,some ⟨x',y',some z'⟩=>simp [zI] at h;obtain ⟨h1,h2,h3⟩:=h;(have e1:x=x':=(by omega));(have e2:y=y':=(by omega));(have e3:z=z':=(by omega));subst e1 e2 e3;rfl
def ad (v:AV):DataW Unit:=.agg [.lit (.int .i64 v.id),.lit (.string v.queue),zI v.ao,.lit (.int .i64 v.len),.lit (.int .i64 v.cap)]
theorem aEy {a b:AV} (h:ad a=ad b):a=b:=by
 obtain ⟨a1,a2,a3,a4,a5⟩:=a
 obtain ⟨b1,b2,b3,b4,b5⟩:=b
 simp [ad] at h
 obtain ⟨h1,h2,h3,h4,h5⟩:=h
 have e3:=aHn h3
 have e4:a4=b4:=by omega
 have e5:a5=b5:=by omega
 subst h1 h2 e3 e4 e5
 rfl
def dE:Value→Option (DataW Unit×List MemPlace)
 | .agg cs=>match cs.toList with
  | [.int .i64 x,.string s,.slice ao len cap]=>some (ad ⟨x,s.data.toList,ao,len,cap⟩,[])
  | _=>none
 | _=>none
theorem jG (v:AV):dE (avv v)=some (ad v,[]):=by
 obtain ⟨x,qu,ao,len,cap⟩:=v
 simp [dE,bs]
theorem kH {y:DataW Unit×List MemPlace} (h:dE v=some y):∃c,v=avv c:=by
 unfold dE at h
 split at h
 ·rename_i cs
  split at h
  ·rename_i x s ao len cap e
   have e2:cs=#[.int .i64 x,.string s,.slice ao len cap]:=by cases cs;simpa using e
   exact ⟨⟨x,s.data.toList,ao,len,cap⟩,by rw [e2];simp [avv,aDu]⟩
  ·cases h
 ·cases h
theorem zF {m:AV} {ps:List MemPlace} (h:dE v=some (ad m,ps)):v=avv m:=by
 obtain ⟨c,rfl⟩:=kH h
 rw [jG] at h
 have:=aEy (congrArg Prod.fst (Option.some.inj h))
 rw [show c=m from this]
def fJ (id:Int) (l:List AV):Option AV:=l.find? (fun v=>decide (v.id=id))
theorem aIl {id:Int} {l:List AV} {v:AV} (h:fJ id l=some v):v.id=id:=by simpa using List.find?_some h
def dO (l:List AV) (keep:Lit→AV→Bool) (D:DataW Unit):Prop:=
 (∀kl,Maps.has D kl=true→∃v,fJ v.id l=some v∧keyOf Tryz.prog 92 (oW [] v.id)=some kl∧∀zd,D.atKey kl zd=ad v)∧
 (∀v kl,fJ v.id l=some v→keyOf Tryz.prog 92 (oW [] v.id)=some kl→Maps.has D kl=keep kl v)
abbrev aDE:Lit→AV→Bool:=fun _ _=>true
theorem aC8:dO [] aDE (.map []):=⟨fun kl h=>by simp [Maps.has] at h,fun v kl h=>by simp [fJ] at h⟩
theorem dO.put {l:List AV} (h:dO l aDE D) (hD:IsMap D) {m:AV} (hk:keyOf Tryz.prog 92 (oW [] m.id)=some kl):dO (m::l) aDE (D.put kl (ad m)):=by
 have hne:∀(kl':Lit) (v:AV),kl'≠kl→keyOf Tryz.prog 92 (oW [] v.id)=some kl'→¬m.id=v.id:=fun kl' v e hv e'=>e (by rw [←e'] at hv;rw [hk] at hv;exact (Option.some.inj hv).symm)
 refine ⟨fun kl' hh=>?_,fun v kl' h1 h2=>?_⟩
 ·by_cases e:kl'=kl
  ·subst e
   exact ⟨m,by simp [fJ],hk,fun zd=>atKey_put_same hD (jS.key hk) _ _⟩
  ·rw [has_put_other e] at hh
   obtain ⟨v,h1,h2,h3⟩:=h.1 kl' hh
   exact ⟨v,by have:=hne kl' v e h2;simpa [fJ,this] using h1,h2,fun zd=>by rw [atKey_put_other e];exact h3 zd⟩
 ·by_cases e:kl'=kl
  ·subst e
   exact has_put_same hD (jS.key hk) _
  ·rw [has_put_other e]
   exact h.2 v kl' (by have:=hne kl' v e h2;simpa [fJ,this] using h1) h2
theorem wC {b:Int} (h1:keyOf Tryz.prog 92 (oW [] a)=some kl) (h2:keyOf Tryz.prog 92 (oW [] b)=some kl):a=b:=by
 have:=jS.inj h1 h2
 simpa [oW] using this
theorem dO.look {l:List AV} {keep:Lit→AV→Bool} (h:dO l keep D) {id:Int} (hk:keyOf Tryz.prog 92 (oW [] id)=some kl) :
  (fJ id l=none→Maps.has D kl=false)∧∀v,fJ id l=some v→Maps.has D kl=keep kl v∧(Maps.has D kl=true→∀zd,D.atKey kl zd=ad v):=by
 refine ⟨fun hf=>?_,fun v hf=>?_⟩
 ·cases hh:Maps.has D kl with
  | false=>rfl
  | true=>
   obtain ⟨v,h1,h2,_⟩:=h.1 kl hh
   rw [←wC hk h2] at h1
   rw [hf] at h1
   cases h1
 ·have hv:=aIl hf
  rw [←hv] at hf hk
  refine ⟨h.2 v kl hf hk,fun hh=>?_⟩
  obtain ⟨u,h1,h2,h3⟩:=h.1 kl hh
  have e:=wC hk h2
  rw [←e,hf] at h1
  cases h1
  exact h3
theorem dO.strike {l:List AV} {keep:AV→Bool} (h:dO l (fun kl v=>left kl||keep v) D) {v:AV} (hf:fJ v.id l=some v) (hk:keyOf Tryz.prog 92 (oW [] v.id)=some kl) (hn:keep v=false) :
  dO l (fun z u=>(left z&&!z.sameKey kl)||keep u) (D.del kl):=by
 refine ⟨fun kl' hh=>?_,fun u kl' h1 h2=>?_⟩
 ·by_cases e:kl'=kl
  ·subst e
   rw [has_del_same] at hh
   cases hh
  ·rw [has_del_other e] at hh
   obtain ⟨u,h1,h2,h3⟩:=h.1 kl' hh
   exact ⟨u,h1,h2,fun zd=>by rw [atKey_del_other e];exact h3 zd⟩
 ·by_cases e:kl'=kl
  ·subst e
   have e2:=wC hk h2
   rw [←e2,hf] at h1
   cases h1
   rw [has_del_same]
   simp [hn,WideAt.sameKey_self (jS.key hk)]
  ·rw [has_del_other e,h.2 u kl' h1 h2]
   simp [sameKey_ne e]
theorem dO.stay {l:List AV} {keep:AV→Bool} (h:dO l (fun kl v=>left kl||keep v) D) {v:AV} (hf:fJ v.id l=some v) (hk:keyOf Tryz.prog 92 (oW [] v.id)=some kl) (hn:keep v=true) :
  dO l (fun z u=>(left z&&!z.sameKey kl)||keep u) D:=by
 refine ⟨h.1,fun u kl' h1 h2=>?_⟩
 by_cases e:kl'=kl
 ·subst e
  have e2:=wC hk h2
  rw [←e2,hf] at h1
  cases h1
  rw [h.2 v kl' hf hk]
  simp [hn]
 ·rw [h.2 u kl' h1 h2]
  simp [sameKey_ne e]
def aKI (o:Option AV) (f:AV→Bool):Bool:=match o with
 | none=>false
 | some v=>f v
theorem aHk (w:World):(zeroValue 48).run Tryz.prog w=.ok (avv ⟨0,[],none,0,0⟩) w:=by kernel_rfl
theorem aK9 {bm n:Nat} {l:List AV} {keep:Lit→AV→Bool} (Hq:w.ownsMap Tryz.prog 92 dE bm n D) (hk:dO l keep D) {id:Int} (G7:keyOf Tryz.prog 92 (oW [] id)=some kl) :
  ∃v:AV,(Instr.lookup 89 (.map (some bm)) (oW [] id) true).run Tryz.prog w=.ok (.tuple #[avv v,.bool (aKI (fJ id l) (keep kl))]) w∧(∀u,fJ id l=some u→keep kl u=true→v=u)∧(fJ id l=none→v=⟨0,[],none,0,0⟩):=by
 obtain ⟨v,ps,gq,hv⟩:=Hq.look_ok jS Tryz.underlying89 (aHk w) (jG ⟨0,[],none,0,0⟩) G7
 obtain ⟨h1,h2⟩:=hk.look G7
 cases hf:fJ id l with
 | none=>
  have hh:=h1 hf
  rw [atKey_of_not_has hh] at hv
  rw [zF hv,hh] at gq
  exact ⟨_,gq,(fun u e=>by cases e),fun _=>rfl⟩
 | some u=>
  obtain ⟨ha,hb⟩:=h2 u hf
  obtain ⟨c,rfl⟩:=kH hv
  rw [ha] at gq
  refine ⟨c,gq,fun u' e hu=>?_,(fun e=>by cases e)⟩
  cases e
  rw [hb (ha.trans hu)] at hv
  rw [jG] at hv
  exact aEy (congrArg Prod.fst (Option.some.inj hv))
end
section
open Go.RowKit
variable {K:Act→World→Prop} {ops:Array Oper} {cs:List Value} {B B' E E' M N b g j n n' p sz:Nat} {S:Nat→Prop} {o:Oper} {ao:Option Addr} {P:Program} {x:Sls} {s:St} {t t':TypeId} {u v:Value} {a w w' w0:World}
def aHW:Nat→List AV→Nat
 | K,[]=>K
 | K,v::t=>aHW (K+2+5*v.len) t
def hsM:Nat→List AV→List AV
 | _,[]=>[]
 | K,v::t=>⟨(K:Int),109::dgs (K+1),v.ao,v.len,v.cap⟩::hsM (K+2+5*v.len) t
def zR (w:World):Nat→List AV→Prop
 | _,[]=>True
 | K,v::t=>bE w v.ao v.len (aK4 (K+2) v.len)∧zR w (K+2+5*v.len) t
theorem zR.below {w w':World} (hb:Bw w w'):∀(l:List AV) (K:Nat),zR w K l→zR w' K l
 | [],_,_=>trivial
 | v::t,K,h=>⟨h.1.below hb,zR.below hb t _ h.2⟩
theorem aHV:∀(l:List AV) (K:Nat),K≤aHW K l
 | [],K=>yJ _
 | v::t,K=>by have:=aHV t (K+2+5*v.len);rw [aHW];omega
def aDD (w0:World) (b p:Nat) (q:AV) (w:World):Prop:=aGJ w b p q∧Bw w0 w
theorem aDD.call {q:AV} (h:aDD w0 b p q w) (hb:Bw w w'):aDD w0 b p q w':=⟨h.1.below hb,yB h.2 hb⟩
theorem aDD.drew {q:AV} (h:aDD w0 b p q w):aDD w0 b p q w.drew:=h.call (yH _ _).drew
theorem aDD.read (w0:World) (b p:Nat) (q:AV):∀wx,aDD w0 b p q wx→wx.cell? ⟨b,p,none⟩=some (.int .i64 q.id)∧wx.cell? ⟨b,p+1,none⟩=some (.string (bs q.queue))∧wx.cell? ⟨b,p+2,none⟩=some (.slice q.ao q.len q.cap):=fun wx h=>h.1
theorem Cel.type {N':Nat} (h:Cel w t g N) (h':Cel w t' g N'):t=t':=by
 obtain ⟨a,h1,_⟩:=h
 obtain ⟨b,h2,_⟩:=h'
 rw [h1] at h2
 cases h2
 rfl
structure Mks (S:Nat→Prop) (w w':World):Prop where
 os:w'.os=w.os
 tape:w'.tape=w.tape
 output:w'.output=w.output
 size:w.heap.size≤w'.heap.size
 block:∀k,k<w.heap.size→¬S k→w'.heap[k]? = w.heap[k]?
 cel:∀t g N,Cel w t g N→Cel w' t g N
theorem Mks.refl (S:Nat→Prop) (w:World):Mks S w w:=⟨rfl,rfl,rfl,yJ _,fun _ _ _=>rfl,fun _ _ _ h=>h⟩
theorem Mks.trans {b c:World} (h:Mks S a b) (k:Mks S b c):Mks S a c:=
 ⟨k.os.trans h.os,k.tape.trans h.tape,k.output.trans h.output,Nat.le_trans h.size k.size,fun i hi ho=>(k.block i (Nat.lt_of_lt_of_le hi h.size) ho).trans (h.block i hi ho),fun t g N x=>k.cel t g N (h.cel t g N x)⟩
theorem Mks.mono {S':Nat→Prop} {b:World} (h:Mks S a b) (hs:∀k,S k→S' k):Mks S' a b:=
 ⟨h.os,h.tape,h.output,h.size,fun i hi ho=>h.block i hi (fun hk=>ho (hs i hk)),h.cel⟩
theorem Mks.of_below (hb:Bw w w'):Mks S w w':=⟨hb.os,hb.tape,hb.output,hb.size,fun i hi _=>hb.block i hi,fun t g N x=>x.below hb⟩
theorem Mks.on (h:Mks S a w) (hb:Bw w w'):Mks S a w':=h.trans (.of_below hb)
theorem Mks.one (S:Nat→Prop) (w:World) (g j:Nat) (v:Value) (hg:S g):Mks S w (w.setCell ⟨g,j,none⟩ v):=
 ⟨rfl,rfl,rfl,by simp [World.setCell],fun k _ ho=>Below.heap_setCell _ _ _ _ (by show k≠g;intro e;exact ho (e ▸ hg)),fun t g' N x=>x.set g j v⟩
theorem Mks.sc (h:Mks S a w) (g j:Nat) (v:Value) (hg:S g):Mks S a (w.setCell ⟨g,j,none⟩ v):=h.trans (.one S w g j v hg)
theorem Mkd.mks (h:Mkd g (g+1) w w'):Mks (fun k=>k=g) w w':=⟨h.os,h.tape,h.output,h.size,fun i hi ho=>h.block i hi (by omega),h.cel⟩
theorem Mks.below (h:Mks S a w) (hS:∀k,S k→B≤k) (hB:B≤a.heap.size):Below B a w:=
 ⟨h.os,h.tape,h.output,h.size,fun k hk=>h.block k (by omega) (fun hs=>by have:=hS k hs;omega)⟩
theorem Mks.blk {arr:Array Value} (h:Mks S a w) (hb:Blk a g arr t) (ho:¬S g):Blk w g arr t:=(h.block g hb.lt ho).trans hb
def inR (ao:Option Addr) (n:Nat) (k:Nat):Prop:=n≠0∧∃o,ao=some ⟨k,o,none⟩
def dS (B E:Nat) (w:World) (t:TypeId) (sz:Nat) (ao:Option Addr) (n:Nat):Prop:=n=0∨∃g M,ao=some ⟨g,0,none⟩∧B≤g∧g<E∧Cel w t g (M*sz)∧n≤M
theorem jW {c:Nat} {e:TypeId} {xs:List Value} (h:w.ownsRow B e sz (.slice ao n c) n' xs):dS B w.heap.size w e sz ao c:=by
 rcases h.2 with ⟨h1,_⟩ | ⟨g,cap,cur,h1,h2,h3,_,_,h4,_⟩
 ·cases h1;exact .inl rfl
 ·cases h1;exact .inr ⟨g,c,rfl,h2,lt_of_block h3,⟨cur,h3,h4⟩,yJ _⟩
theorem dS.below (h:dS B E w t sz ao n) (hb:Bw w w'):dS B E w' t sz ao n:=by
 rcases h with h | ⟨g,M,h1,h2,h3,h4,h5⟩
 ·exact .inl h
 ·exact .inr ⟨g,M,h1,h2,h3,h4.below hb,h5⟩
theorem dS.mks (h:dS B E w t sz ao n) (hb:Mks S w w'):dS B E w' t sz ao n:=by
 rcases h with h | ⟨g,M,h1,h2,h3,h4,h5⟩
 ·exact .inl h
 ·exact .inr ⟨g,M,h1,h2,h3,hb.cel _ _ _ h4,h5⟩
theorem dS.sc (h:dS B E w t sz ao n) (k j:Nat) (v:Value):dS B E (w.setCell ⟨k,j,none⟩ v) t sz ao n:=by
 rcases h with h | ⟨g,M,h1,h2,h3,h4,h5⟩
 ·exact .inl h
 ·exact .inr ⟨g,M,h1,h2,h3,h4.set k j v,h5⟩
theorem dS.mono (h:dS B E w t sz ao n) (h1:B'≤B) (h2:E≤E'):dS B' E' w t sz ao n:=by
 rcases h with h | ⟨g,M,a,b,c,d⟩
 ·exact .inl h
 ·exact .inr ⟨g,M,a,by omega,by omega,d⟩
theorem dS.lies (h:dS B E w t sz ao n):∀k,inR ao n k→B≤k∧k<E∧∃N,Cel w t k N:=by
 rintro k ⟨hn,o,e⟩
 rcases h with h | ⟨g,M,h1,h2,h3,h4,h5⟩
 ·exact absurd h hn
 ·rw [h1] at e
  cases e
  exact ⟨h2,h3,_,h4⟩
theorem dS.apart {sz':Nat} {bo:Option Addr} (h:dS B E w t sz ao n) (h':dS B' E' w t' sz' bo n') (ht:t≠t'):∀k,inR ao n k→¬inR bo n' k:=fun k hk hk'=>by
 obtain ⟨_,_,N,h1⟩:=h.lies k hk
 obtain ⟨_,_,N',h2⟩:=h'.lies k hk'
 exact ht (h1.type h2)
theorem dH (h:w.cell? ⟨g,p,none⟩=some u) (hm:Mks S w w') (hg:¬S g):w'.cell? ⟨g,p,none⟩=some u:=
 (World.cell?_of_block (w:=w) (a:=⟨g,p,none⟩) (hm.block g (yG h) hg)).trans h
theorem gJ.mks {len:Nat} {l:List Q} (h:gJ w ao len l) (hm:Mks S w w') (hs:∀k,inR ao len k→¬S k):gJ w' ao len l:=by
 obtain ⟨h1,h2⟩:=h
 refine ⟨h1,?_⟩
 rcases h2 with h2 | ⟨b,off,h3,h4⟩
 ·exact .inl h2
 ·by_cases hz:len=0
  ·exact .inl hz
  ·have hb:=hs b ⟨hz,off,h3⟩
   exact .inr ⟨b,off,h3,fun i h=>let ⟨a,c,d,e⟩:=h4 i h;⟨dH a hm hb,dH c hm hb,dH d hm hb,dH e hm hb⟩⟩
theorem cO.mks {len:Nat} {l:List Mac} (h:cO w ao len l) (hm:Mks S w w') (hs:∀k,inR ao len k→¬S k):cO w' ao len l:=by
 obtain ⟨h1,h2⟩:=h
 refine ⟨h1,?_⟩
 rcases h2 with h2 | ⟨b,off,h3,h4⟩
 ·exact .inl h2
 ·by_cases hz:len=0
  ·exact .inl hz
  ·have hb:=hs b ⟨hz,off,h3⟩
   exact .inr ⟨b,off,h3,fun i h=>let ⟨a,c,d,e⟩:=h4 i h;⟨dH a hm hb,dH c hm hb,dH d hm hb,dH e hm hb⟩⟩
theorem bG.mks {len:Nat} {l:List Con} (h:bG w ao len l) (hm:Mks S w w') (hs:∀k,inR ao len k→¬S k):bG w' ao len l:=by
 obtain ⟨h1,h2⟩:=h
 refine ⟨h1,?_⟩
 rcases h2 with h2 | ⟨b,off,h3,h4⟩
 ·exact .inl h2
 ·by_cases hz:len=0
  ·exact .inl hz
  ·have hb:=hs b ⟨hz,off,h3⟩
   exact .inr ⟨b,off,h3,fun i h=>let ⟨a,c,d,e,f⟩:=h4 i h;⟨dH a hm hb,dH c hm hb,dH d hm hb,dH e hm hb,dH f hm hb⟩⟩
theorem bE.mks {len:Nat} {l:List Ask} (h:bE w ao len l) (hm:Mks S w w') (hs:∀k,inR ao len k→¬S k):bE w' ao len l:=by
 obtain ⟨h1,h2⟩:=h
 refine ⟨h1,?_⟩
 rcases h2 with h2 | ⟨b,off,h3,h4⟩
 ·exact .inl h2
 ·by_cases hz:len=0
  ·exact .inl hz
  ·have hb:=hs b ⟨hz,off,h3⟩
   exact .inr ⟨b,off,h3,fun i h=>let ⟨a,c,d,e,f⟩:=h4 i h;⟨dH a hm hb,dH c hm hb,dH d hm hb,dH e hm hb,dH f hm hb⟩⟩
theorem fK.mks {len:Nat} {l:List AV} (h:fK w ao len l) (hm:Mks S w w') (hs:∀k,inR ao len k→¬S k):fK w' ao len l:=by
 obtain ⟨h1,h2⟩:=h
 refine ⟨h1,?_⟩
 rcases h2 with h2 | ⟨b,off,h3,h4⟩
 ·exact .inl h2
 ·by_cases hz:len=0
  ·exact .inl hz
  ·have hb:=hs b ⟨hz,off,h3⟩
   exact .inr ⟨b,off,h3,fun i h=>let ⟨a,c,d⟩:=h4 i h;⟨dH a hm hb,dH c hm hb,dH d hm hb⟩⟩
theorem zR.mks {S:Nat→Prop} {w w':World} (hm:Mks S w w'):∀(l:List AV) (K:Nat),zR w K l→(∀v ∈ l,∀k,inR v.ao v.len k→¬S k)→zR w' K l
 | [],_,_,_=>trivial
 | v::t,K,h,hs=>⟨h.1.mks hm (hs v (by simp)),zR.mks hm t _ h.2 (fun u hu=>hs u (by simp [hu]))⟩
theorem aHU:∀(l:List AV) (K m:Nat),(∀v ∈ l,v.len≤m)→aHW K l≤K+l.length*(2+5*m)
 | [],K,m,_=>by simp [aHW]
 | v::t,K,m,h=>by
  have h1:=aHU t (K+2+5*v.len) m (fun u hu=>h u (by simp [hu]))
  have h2:=h v (by simp)
  simp only [aHW,List.length_cons,Nat.add_mul]
  omega
def aJG (u v:AV):Prop:=u.len=0∨v.len=0∨u.ao≠v.ao
def nR (w:World) (g M:Nat) (l:List AV):Prop:=Cel w 48 g (M*3)∧l.length≤M∧∀i (h:i<l.length),aGJ w g (i*3) l[i]
theorem nR.below {l:List AV} (h:nR w g M l) (hb:Bw w w'):nR w' g M l:=⟨h.1.below hb,h.2.1,fun i hi=>(h.2.2 i hi).below hb⟩
theorem nR.mks {l:List AV} (h:nR w g M l) (hm:Mks S w w') (hs:¬S g):nR w' g M l:=
 ⟨hm.cel _ _ _ h.1,h.2.1,fun i hi=>let ⟨a,b,c⟩:=h.2.2 i hi;⟨dH a hm hs,dH b hm hs,dH c hm hs⟩⟩
theorem nR.id {i:Nat} {l:List AV} (h:nR w g M l) (hi:i<l.length) (x:Int):nR (w.setCell ⟨g,i*3,none⟩ (.int .i64 x)) g M (l.set i ⟨x,l[i].queue,l[i].ao,l[i].len,l[i].cap⟩):=by
 refine ⟨h.1.set _ _ _,by simpa using h.2.1,fun j hj=>?_⟩
 have hj':j<l.length:=by simpa using hj
 obtain ⟨a,b,c⟩:=h.2.2 j hj'
 by_cases e:i=j
 ·subst e
  simp only [List.getElem_set_self]
  exact ⟨World.cell?_setCell_same _ ⟨g,i*3,none⟩ _ a,aY b (by omega),aY c (by omega)⟩
 ·rw [List.getElem_set_ne e]
  exact ⟨aY a (by omega),aY b (by omega),aY c (by omega)⟩
theorem nR.row {l:List AV} (h:nR w g M l):fK w (some ⟨g,0,none⟩) l.length l:=⟨rfl,.inr ⟨g,0,rfl,fun i hi=>by rw [Nat.zero_add];exact h.2.2 i hi⟩⟩
theorem aBC (w:World) (dT sT ty elem:TypeId) (g o dLen dCap:Nat) (a:Addr) (sLen sCap:Nat) (cur:Array Value) (t:TypeId) (cs:List Value) (sz:Nat)
  (hu:P.underlying dT=some (.slice elem)) (hs:(P.info? elem).map (·.size)=some sz)
  (hg:w.heap[g]? = some (.cells cur t (0,0))) (hn:cs.length=Nat.min sLen dLen*sz)
  (YR:∀j v,cs[j]? = some v→w.cell? (a.add j)=some v) (hfit:o+cs.length≤cur.size) (h1:∀v ∈ cs,v.oneCell'=true) :
  (Builtin.copy_ #[dT,sT] ty #[.slice (some ⟨g,o,none⟩) dLen dCap,.slice (some a) sLen sCap]).run P w =
   .ok (goInt (Nat.min sLen dLen)) (w.setRow g (cur.toList.take o++cs++cur.toList.drop (o+cs.length)).toArray):=by
 have hl:=run_loadCells_list (P:=P) w a cs YR
 have hst:=run_storeCells_at P g o t cs 0 cur w hg (by simpa using hfit) h1
 obtain ⟨m,hm⟩:∃m,Nat.min sLen dLen=m:=⟨_,rfl⟩
 rw [hm] at hn ⊢
 cases hq:P.info? elem with
 | none=>simp [hq] at hs
 | some i=>
  have hi:i.size=sz:=by simpa [hq] using hs
  rw [hn] at hl
  simp [Builtin.copy_,run_underlying hu,Builtin.lenOf,Builtin.firstCells,sizeOf,typeInfo,hq,hi,hm,hl,hst]
theorem aBB (w:World) (dT sT ty elem:TypeId) (d a:Option Addr) (dLen dCap sLen sCap sz:Nat) (hu:P.underlying dT=some (.slice elem)) (hs:(P.info? elem).map (·.size)=some sz) (hn:Nat.min sLen dLen=0) :
  (Builtin.copy_ #[dT,sT] ty #[.slice d dLen dCap,.slice a sLen sCap]).run P w=.ok (goInt 0) w:=by
 cases hq:P.info? elem with
 | none=>simp [hq] at hs
 | some i=>
  have hl:∀(x:Addr),(loadCells x 0).run P w=.ok #[] w:=fun x=>by simpa using run_loadCells_list (P:=P) w x [] (by simp)
  cases d<;>cases a<;>simp [Builtin.copy_,run_underlying hu,Builtin.lenOf,Builtin.firstCells,sizeOf,typeInfo,hq,hn,storeCells,hl]
theorem aF0 (w:World) (g:Nat) (cur:List Value) (new:List Value) (t:TypeId) (hg:w.heap[g]? = some (.cells cur.toArray t (0,0))) (hl:new.length=cur.length):Mks (fun k=>k=g) w (w.setRow g new.toArray):=by
 refine ⟨rfl,rfl,rfl,by simp [World.setRow],fun k _ hk=>setRow_other w g k _ (by omega),fun t' g' N h=>?_⟩
 by_cases e:g'=g
 ·subst e
  obtain ⟨arr,h1,h2⟩:=h
  rw [hg] at h1
  cases h1
  exact ⟨_,setRow_heap w g' _ _ t _ hg,by simpa [hl] using h2⟩
 ·exact h.of_block (setRow_other w g g' _ e)
theorem tF {a:Act} {Q:Exit→Act→World→Prop} (d s:Operand) (dT sT:TypeId)
  (ho:o.op=.call { callee:=.builtin .copy,args:=#[d,s],argTypes:=#[dT,sT] }) (elem:TypeId) (sz:Nat) (hu:P.underlying dT=some (.slice elem)) (hsz:(P.info? elem).map (·.size)=some sz)
  (dp sp:Option Addr) (dLen dCap sLen sCap:Nat) (hd:a.eval d=.slice dp dLen dCap) (hs:a.eval s=.slice sp sLen sCap)
  (g off:Nat) (cur:List Value) (t:TypeId) (hg:w.heap[g]? = some (.cells cur.toArray t (0,0))) (cs:List Value) (m:Nat) (hm:m=Nat.min sLen dLen) (hn:cs.length=m*sz)
  (hpos:m≠0→dp=some ⟨g,off,none⟩∧∃ad,sp=some ad∧∀j v,cs[j]? = some v→w.cell? (ad.add j)=some v)
  (hfit:off+cs.length≤cur.length) (h1:∀v ∈ cs,v.oneCell'=true)
  (h:∀w',Hid (w'.heap[g]? = some (.cells (splice cur off cs).toArray t (0,0)))→Hid (Mks (fun k=>k=g) w w')→w'.heap.size=w.heap.size→K (a.put o.dst (goInt m)) w') :
  Oper.wp P o a w K Q:=by
 by_cases h0:m=0
 ·subst h0
  obtain rfl:cs=[]:=List.eq_nil_of_length_eq_zero (by simpa using hn)
  have gq:=aBB (P:=P) w dT sT o.type elem dp sp dLen dCap sLen sCap sz hu hsz hm.symm
  unfold Oper.wp
  simp [execOp,ho,resolve,invoke,builtin,hd,hs,gq,Result.andThen]
  exact h w (show _=_ by simpa [splice] using hg) (Mks.refl _ _) rfl
 ·obtain ⟨rfl,ad,rfl,YR⟩:=hpos h0
  have gq:=aBC (P:=P) w dT sT o.type elem g off dLen dCap ad sLen sCap cur.toArray t cs sz hu hsz hg (by rw [hn,hm]) YR (by simpa using hfit) h1
  unfold Oper.wp
  rw [←hm] at gq
  simp [execOp,ho,resolve,invoke,builtin,hd,hs,gq,Result.andThen]
  have e:(List.take off cur++(cs++List.drop (off+cs.length) cur))=splice cur off cs:=rfl
  have hh:=h (w.setRow g (splice cur off cs).toArray) (show _=_ from setRow_heap w g _ _ t _ hg) (aF0 w g cur _ t hg (length_splice cur off cs hfit)) (by simp [World.setRow])
  rw [←e] at hh
  exact hh
theorem vI {rest:List Oper} {a:Act} {Q:Exit→Act→World→Prop} (hgd:o.guard=none) (d s:Operand) (dT sT:TypeId)
  (ho:o.op=.call { callee:=.builtin .copy,args:=#[d,s],argTypes:=#[dT,sT] }) (elem:TypeId) (sz:Nat) (hu:P.underlying dT=some (.slice elem)) (hsz:(P.info? elem).map (·.size)=some sz)
  (dp sp:Option Addr) (dLen dCap sLen sCap:Nat) (hd:a.eval d=.slice dp dLen dCap) (hs:a.eval s=.slice sp sLen sCap)
  (g off:Nat) (cur:List Value) (t:TypeId) (hg:w.heap[g]? = some (.cells cur.toArray t (0,0))) (cs:List Value) (m:Nat) (hm:m=Nat.min sLen dLen) (hn:cs.length=m*sz)
  (hpos:m≠0→dp=some ⟨g,off,none⟩∧∃ad,sp=some ad∧∀j v,cs[j]? = some v→w.cell? (ad.add j)=some v)
  (hfit:off+cs.length≤cur.length) (h1:∀v ∈ cs,v.oneCell'=true)
  (h:∀w',Hid (w'.heap[g]? = some (.cells (splice cur off cs).toArray t (0,0)))→Hid (Mks (fun k=>k=g) w w')→w'.heap.size=w.heap.size→wpList P ops Q rest (a.put o.dst (goInt m)) w') :
  wpList P ops Q (o::rest) a w:=
 wpList_plain hgd fun _ hK=>tF d s dT sT ho elem sz hu hsz dp sp dLen dCap sLen sCap hd hs g off cur t hg cs m hm hn hpos hfit h1 fun w' a1 a2 a3=>hK _ _ (h w' a1 a2 a3)
theorem oM {a:Act} {Q:Exit→Act→World→Prop} {E:Prop} (hgd:o.guard=none) (d s:Operand) (dT sT:TypeId)
  (ho:o.op=.call { callee:=.builtin .copy,args:=#[d,s],argTypes:=#[dT,sT] }) (elem:TypeId) (sz:Nat) (hu:P.underlying dT=some (.slice elem)) (hsz:(P.info? elem).map (·.size)=some sz)
  (dp sp:Option Addr) (dLen dCap sLen sCap:Nat) (hd:a.eval d=.slice dp dLen dCap) (hs:a.eval s=.slice sp sLen sCap)
  (g off:Nat) (cur:List Value) (t:TypeId) (hg:w.heap[g]? = some (.cells cur.toArray t (0,0))) (cs:List Value) (m:Nat) (hm:m=Nat.min sLen dLen) (hn:cs.length=m*sz)
  (hpos:m≠0→dp=some ⟨g,off,none⟩∧∃ad,sp=some ad∧∀j v,cs[j]? = some v→w.cell? (ad.add j)=some v)
  (hfit:off+cs.length≤cur.length) (h1:∀v ∈ cs,v.oneCell'=true)
  (h:∀w',Hid (w'.heap[g]? = some (.cells (splice cur off cs).toArray t (0,0)))→Hid (Mks (fun k=>k=g) w w')→w'.heap.size=w.heap.size→K (a.put o.dst (goInt m)) w') :
  if Region.wanted o (yielded ops a.tmps)=true then Oper.wp P o a w K Q else E:=by
 have hw:Region.wanted o (yielded ops a.tmps)=true:=by simp [Region.wanted,hgd]
 rw [if_pos hw]
 exact tF d s dT sT ho elem sz hu hsz dp sp dLen dCap sLen sCap hd hs g off cur t hg cs m hm hn hpos hfit h1 h
def Lay (w:World) (t:TypeId) (g M:Nat) (cs:List Value):Prop:=∃R:List Value,w.heap[g]? = some (.cells (cs++R).toArray t (0,0))∧(cs++R).length=M
theorem Lay.lt (h:Lay w t g M cs):g<w.heap.size:=let ⟨_,h,_⟩:=h;lt_of_block h
theorem Lay.of_block (h:Lay w t g M cs) (e:w'.heap[g]? = w.heap[g]?):Lay w' t g M cs:=let ⟨R,h1,h2⟩:=h;⟨R,e.trans h1,h2⟩
theorem Lay.below (h:Lay w t g M cs) (hb:Bw w w'):Lay w' t g M cs:=h.of_block (hb.block g h.lt)
theorem Lay.other (h:Lay w t g M cs) (k j:Nat) (v:Value) (hk:g≠k):Lay (w.setCell ⟨k,j,none⟩ v) t g M cs:=h.of_block (heap_setCell_other w ⟨k,j,none⟩ g v hk)
theorem Lay.cel (h:Lay w t g M cs):Cel w t g M:=let ⟨R,h1,h2⟩:=h;⟨_,h1,by simpa using h2⟩
theorem Lay.cell (h:Lay w t g M cs) (hj:cs[j]? = some u):w.cell? ⟨g,j,none⟩=some u:=by
 obtain ⟨R,h1,h2⟩:=h
 have hl:j<cs.length:=(List.getElem?_eq_some_iff.1 hj).1
 simp [World.cell?,h1,List.getElem?_append_left hl,hj]
structure aLW (x:Sls):Prop where
 q:x.ql≤x.qc
 a:x.al≤x.ac
 m:x.ml≤x.mc
 c:x.cl≤x.cc
def RmS (B E:Nat) (w:World) (x:Sls) (hs:List AV):Prop:=dS B E w 56 4 x.qa x.qc∧dS B E w 48 3 x.aa x.ac∧dS B E w 102 4 x.ma x.mc∧dS B E w 52 5 x.ca x.cc∧∀v ∈ hs,dS B E w 104 5 v.ao v.cap
theorem RmS.map {hs:List AV} (h:RmS B E w x hs) (f:∀{t:TypeId} {sz n:Nat} {ao:Option Addr},dS B E w t sz ao n→dS B' E' w' t sz ao n):RmS B' E' w' x hs:=⟨f h.1,f h.2.1,f h.2.2.1,f h.2.2.2.1,fun v hv=>f (h.2.2.2.2 v hv)⟩
theorem RmS.below {hs:List AV} (h:RmS B E w x hs) (hb:Bw w w'):RmS B E w' x hs:=h.map (fun k=>k.below hb)
theorem RmS.mono {hs:List AV} (h:RmS B E w x hs) (h1:B'≤B) (h2:E≤E'):RmS B' E' w x hs:=h.map (fun k=>k.mono h1 h2)
theorem RmS.mks {hs:List AV} (h:RmS B E w x hs) (hm:Mks S w w'):RmS B E w' x hs:=h.map (fun k=>k.mks hm)
theorem RmS.sc {hs:List AV} (h:RmS B E w x hs) (k j:Nat) (v:Value):RmS B E (w.setCell ⟨k,j,none⟩ v) x hs:=h.map (fun o=>o.sc k j v)
structure rA (B E:Nat) (w:World) (x:Sls) (s:St) (hs:List AV):Prop where
 row:gU w x s
 q:dS B E w 56 4 x.qa x.ql
 a:dS B E w 48 3 x.aa x.al
 m:dS B E w 102 4 x.ma x.ml
 c:dS B E w 52 5 x.ca x.cl
 av:fK w x.aa x.al hs
 heads:jJ w hs s.apps
 asks:∀v ∈ hs,dS B E w 104 5 v.ao v.len
 apart:hs.Pairwise aJG
 cap:aLW x
 rm:RmS B E w x hs
theorem jJ.below {hs:List AV} {l:List bN} (h:jJ w hs l) (hb:Bw w w'):jJ w' hs l:=⟨h.1,fun i h1 h2=>let ⟨a,b,c,d⟩:=h.2 i h1 h2;⟨a,b,c.below hb,d⟩⟩
theorem rA.below {hs:List AV} (h:rA B E w x s hs) (hb:Bw w w'):rA B E w' x s hs:=
 ⟨h.row.below hb,h.q.below hb,h.a.below hb,h.m.below hb,h.c.below hb,h.av.below hb,h.heads.below hb,fun v hv=>(h.asks v hv).below hb,h.apart,h.cap,h.rm.below hb⟩
theorem rA.mono {hs:List AV} (h:rA B E w x s hs) (h1:B'≤B) (h2:E≤E'):rA B' E' w x s hs:=
 ⟨h.row,h.q.mono h1 h2,h.a.mono h1 h2,h.m.mono h1 h2,h.c.mono h1 h2,h.av,h.heads,fun v hv=>(h.asks v hv).mono h1 h2,h.apart,h.cap,h.rm.mono h1 h2⟩
theorem rA.mks {hs:List AV} (h:rA B E w x s hs) (hm:Mks S w w') (hS:∀k,S k→k<B∨E≤k):rA B E w' x s hs:=by
 have key:∀{t:TypeId} {sz n:Nat} {ao:Option Addr},dS B E w t sz ao n→∀k,inR ao n k→¬S k:=fun ho k hk hs=>by
  obtain ⟨h1,h2,_⟩:=ho.lies k hk
  have:=hS k hs
  omega
 have Hw:jJ w' hs s.apps:=⟨h.heads.1,fun i h1 h2=>by
  obtain ⟨a,b,c,d⟩:=h.heads.2 i h1 h2
  exact ⟨a,b,c.mks hm (key (h.asks _ (yM h1))),d⟩⟩
 have qj:=h.av.mks hm (key h.a)
 refine ⟨⟨h.row.1.mks hm (key h.q),?_,h.row.2.2.1.mks hm (key h.m),h.row.2.2.2.mks hm (key h.c)⟩,h.q.mks hm,h.a.mks hm,h.m.mks hm,h.c.mks hm,qj,Hw,fun v hv=>(h.asks v hv).mks hm,h.apart,h.cap,h.rm.mks hm⟩
 refine ⟨h.row.2.1.1,?_⟩
 rcases qj.2 with e | ⟨b,off,e,hh⟩
 ·exact .inl e
 ·refine .inr ⟨b,off,e,fun i hi=>?_⟩
  have hi':i<hs.length:=by rw [h.heads.1];exact hi
  obtain ⟨a1,a2,a3,a4⟩:=Hw.2 i hi' hi
  obtain ⟨c1,c2,c3⟩:=hh i hi'
  rw [a1] at c1
  rw [a2] at c2
  exact ⟨hs[i].ao,hs[i].len,hs[i].cap,c1,c2,c3,a3,a4⟩
structure SMk (w:World) (x:Sls) (hs:List AV):Prop where
 q:gJ w x.qa x.ql (aJO x.ql)
 a:fK w x.aa x.al (hsM (1+4*x.ql) hs)
 k:zR w (1+4*x.ql) hs
 m:cO w x.ma x.ml (aK3 (aHW (1+4*x.ql) hs) x.ml)
 c:bG w x.ca x.cl (aJP (aHW (1+4*x.ql) hs+4*x.ml) x.cl)
 z:x.ql=0∨∃g,x.qa=some ⟨g,0,none⟩
theorem SMk.below {hs:List AV} (h:SMk w x hs) (hb:Bw w w'):SMk w' x hs:=⟨h.q.below hb,h.a.below hb,zR.below hb _ _ h.k,h.m.below hb,h.c.below hb,h.z⟩
def aLc (x:Sls) (hs:List AV):Nat:=aHW (1+4*x.ql) hs+4*x.ml+5*x.cl
def inS (x:Sls) (hs:List AV) (k:Nat):Prop:=inR x.qa x.ql k∨(inR x.aa x.al k∨∃v ∈ hs,inR v.ao v.len k)∨inR x.ma x.ml k∨inR x.ca x.cl k
theorem rA.ins {hs:List AV} (h:rA B E w x s hs):∀k,inS x hs k→B≤k∧k<E:=by
 rintro k (hk | (hk | ⟨v,hv,hk⟩) | hk | hk)
 ·exact ⟨(h.q.lies k hk).1,(h.q.lies k hk).2.1⟩
 ·exact ⟨(h.a.lies k hk).1,(h.a.lies k hk).2.1⟩
 ·exact ⟨((h.asks v hv).lies k hk).1,((h.asks v hv).lies k hk).2.1⟩
 ·exact ⟨(h.m.lies k hk).1,(h.m.lies k hk).2.1⟩
 ·exact ⟨(h.c.lies k hk).1,(h.c.lies k hk).2.1⟩
structure aL1 (x:Sls) (hs:List AV):Prop where
 q:x.ql≤1048576
 a:x.al≤1048576
 m:x.ml≤1048576
 c:x.cl≤1048576
 k:∀v ∈ hs,v.len≤1048576
 n:hs.length=x.al
theorem aL1.e {hs:List AV} (h:aL1 x hs):1+4*x.ql≤aHW (1+4*x.ql) hs∧aHW (1+4*x.ql) hs≤10000000000000:=by
 have h1:=aHV hs (1+4*x.ql)
 have h2:=aHU hs (1+4*x.ql) 1048576 h.k
 have h3:=h.q
 have h4:hs.length*(2+5*1048576)≤1048576*(2+5*1048576):=Nat.mul_le_mul_right _ (by have:=h.n;have:=h.a;omega)
 omega
abbrev jP (q:AV):List Value:=[.int .i64 q.id,.string (bs q.queue),.slice q.ao q.len q.cap]
def cB:List AV→List Value
 | []=>[]
 | q::t=>jP q++cB t
theorem nV (a:List AV) (q:AV):cB (a++[q])=cB a++jP q:=by
 induction a with
 | nil=>rfl
 | cons x t ih=>rw [List.cons_append,cB,cB,ih,List.append_assoc]
theorem gF:∀l:List AV,(cB l).length=l.length*3
 | []=>rfl
 | q::t=>by rw [cB,List.length_append,gF t];simp;omega
theorem qC:∀(l:List AV) (i:Nat) (h:i<l.length),(cB l)[i*3]? = some (.int .i64 l[i].id)∧(cB l)[i*3+1]? = some (.string (bs l[i].queue))∧(cB l)[i*3+2]? = some (.slice l[i].ao l[i].len l[i].cap)
 | q::t,0,_=>⟨rfl,rfl,rfl⟩
 | q::t,i+1,h=>by
  have e:=qC t i (by simpa using h)
  have k:∀j,(cB (q::t))[(i+1)*3+j]? = (cB t)[i*3+j]?:=fun j=>by
   rw [cB,show (i+1)*3+j=(jP q).length+(i*3+j) by simp;omega,List.getElem?_append_right (by omega)]
   congr 1
   omega
  have k0:=k 0
  simp only [Nat.add_zero] at k0
  rw [k0,k 1,k 2]
  simpa using e
theorem rU {off len:Nat} {l:List AV} (h:fK w (some ⟨b,off,none⟩) len l):∀j u,(cB l)[j]? = some u→w.cell? ⟨b,off+j,none⟩=some u:=fun j u hj=>by
 have hjl:j<l.length*3:=by rw [←gF];exact (List.getElem?_eq_some_iff.1 hj).1
 obtain ⟨h1,h2⟩:=h
 rcases h2 with h2 | ⟨b',off',e,h4⟩
 ·omega
 ·cases e
  have hi:j / 3<l.length:=by omega
  obtain ⟨a0,a1,a2⟩:=qC l (j / 3) hi
  obtain ⟨c0,c1,c2⟩:=h4 (j / 3) hi
  rcases (show j % 3=0∨j % 3=1∨j % 3=2 by omega) with e | e | e
  ·rw [show j=j / 3*3 by omega] at hj ⊢;rw [a0] at hj;cases hj;exact c0
  ·rw [show j=j / 3*3+1 by omega] at hj ⊢;rw [a1] at hj;cases hj;rw [←Nat.add_assoc];exact c1
  ·rw [show j=j / 3*3+2 by omega] at hj ⊢;rw [a2] at hj;cases hj;rw [←Nat.add_assoc];exact c2
theorem aAV:∀(l:List AV),∀u ∈ cB l,u.oneCell'=true
 | [],u,h=>by simp [cB] at h
 | q::t,u,h=>by
  rw [cB,List.mem_append] at h
  rcases h with h | h
  ·simp at h
   rcases h with rfl | rfl | rfl<;>rfl
  ·exact aAV t u h
def aBk (B:Nat) (w:World) (v:Value) (l:List AV):Prop:=w.ownsRow B 48 3 v l.length (cB l)
theorem aIT (B:Nat) (w:World):aBk B w (.slice none 0 0) []:=World.ownsRow_nil _ _ _ _
theorem aAQ (w:World):w.alloc (.cells #[] 48) |>.ownsRow w.heap.size 48 3 (.slice (some ⟨w.heap.size,0,none⟩) 0 0) 0 []:=
 ⟨rfl,.inr ⟨w.heap.size,0,#[],rfl,yJ _,by show (w.heap.push _)[w.heap.size]? = _;simp,yJ _,by unfold maxLen;omega,rfl,rfl⟩⟩
theorem aAR {l:List AV} (h:aBk B w v l) (hb:Bw w w'):aBk B w' v l:=
 World.ownsRow.kept h (aG (aF w none) hb) (by by_cases e:v.ownBlock=none;exact .inl e;exact .inr e)
theorem wZ {l:List AV} (h:aBk B w v l) (hb:B'≤B):aBk B' w v l:=by
 obtain ⟨h1,h2⟩:=h
 refine ⟨h1,?_⟩
 rcases h2 with h2 | ⟨g,cap,cur,a,b,c⟩
 ·exact .inl h2
 ·exact .inr ⟨g,cap,cur,a,Nat.le_trans hb b,c⟩
theorem aIS {l:List AV} (h:aBk B w v l):∃ao cap,v=.slice ao l.length cap∧fK w ao l.length l∧l.length≤cap∧(l≠[]→∃g cur,ao=some ⟨g,0,none⟩∧B≤g∧w.heap[g]? = some (.cells cur 48 (0,0))∧cur.size=cap*3):=by
 rcases h.2 with ⟨rfl,h0⟩ | ⟨g,cap,cur,rfl,h1,h2,h3,h4,h5,h6⟩
 ·exact ⟨none,0,by rw [h0],⟨rfl,.inl h0⟩,by omega,fun hn=>absurd (List.length_eq_zero_iff.1 h0) hn⟩
 ·refine ⟨some ⟨g,0,none⟩,cap,rfl,⟨rfl,.inr ⟨g,0,rfl,fun i hi=>?_⟩⟩,h3,fun _=>⟨g,cur,rfl,h1,h2,h5⟩⟩
  obtain ⟨a,b,c⟩:=qC l i hi
  have k:∀j (v:Value),j<l.length*3→(cB l)[j]? = some v→w.cell? ⟨g,j,none⟩=some v:=fun j v hj hv=>by
   rw [←h6,List.getElem?_take_of_lt hj] at hv
   simp [World.cell?,h2]
   simpa using hv
  unfold aGJ
  rw [Nat.zero_add]
  exact ⟨k _ _ (by omega) a,k _ _ (by omega) b,k _ _ (by omega) c⟩
theorem aAP {l:List AV} (h:aBk B w v l) (k j:Nat) (x:Value) (hk:k<B):aBk B (w.setCell ⟨k,j,none⟩ x) v l:=by
 obtain ⟨h1,h2⟩:=h
 refine ⟨h1,?_⟩
 rcases h2 with h2 | ⟨g,cap,cur,a,b,c,d⟩
 ·exact .inl h2
 ·exact .inr ⟨g,cap,cur,a,b,(heap_setCell_other w ⟨k,j,none⟩ g x (show g≠k by omega)).trans c,d⟩
theorem Tryz.infoApp:(Tryz.prog.info? 48).map (fun i=>(i.zero,i.size,i.bytes))=some (some (.agg #[.int .i64 0,.string ByteArray.empty,.slice none 0 0]),3,48):=by kernel_rfl
theorem aCt (ao:Option Addr) (len cap:Nat) (l:List AV) (w:World) (h:fK w ao len l) (hl:len≤1048576) :
  cP 109 #[.slice ao len cap] w fun e w'=>∃v,e=.returned v∧aBk w.heap.size w' v l∧Bw w w':=by
 obtain ⟨i0,hi,hz0,hz1,hz2⟩:=info_parts Tryz.infoApp
 cases ao with
 | none=>
  have hn:len=0:=by rcases h.2 with h | ⟨b,off,e,_⟩;exact h;cases e
  subst hn
  have hl0:l=[]:=List.length_eq_zero_iff.1 h.1.symm
  subst hl0
  have hnl:∀wx,(binOp .eql 25 (.slice none 0 cap) (.slice none 0 0)).run Tryz.prog wx=.ok (.bool true) wx:=fun wx=>Lib.run_eql_slice_nil wx _ _ none 0 cap 0 0 Tryz.underlying25
  clear h hl
  go_enter Tryz.func109,Tryz.ntmps109
  go_wp2
  go_ret
  exact ⟨_,rfl,aIT _ _,yH _ _⟩
 | some ad=>
  have Gz:∀j u,(cB l)[j]? = some u→(w.alloc (.cells #[] 48)).cell? (ad.add j)=some u:=fun j u hj=>by
   have hjl:j<l.length*3:=by rw [←gF];exact (List.getElem?_eq_some_iff.1 hj).1
   rcases h.2 with h0 | ⟨b,off,e,_⟩
   ·have:=h.1;omega
   ·cases e
    have:=rU (h.below (yA (yH _ w) (.cells #[] 48))) j u hj
    rw [Lib.add_plain]
    exact this
  have QH:=aA Gz
  have Q6:=aA h.1
  have Hq:=aAQ w
  have hll:(cB l).length=len*3:=by rw [gF,h.1]
  have gy:=aAV l
  have hnl:∀wx,(binOp .eql 25 (.slice (some ad) len cap) (.slice none 0 0)).run Tryz.prog wx=.ok (.bool false) wx:=fun wx=>Lib.run_eql_slice_nil wx _ _ (some ad) len cap 0 0 Tryz.underlying25
  clear h Gz
  go_enter Tryz.func109,Tryz.ntmps109
  go_wp2_with (at_builtin;refine wpList_append_own _ rfl _ _ 25 rfl w.heap.size 48 i0 (.agg #[.int .i64 0,.string ByteArray.empty,.slice none 0 0]) 3 48 Tryz.underlying25 hi hz0 hz1 hz2 rfl (by decide) _ _ _ rfl Hq ad len cap (cB l) rfl hll (uH QH) gy ?c3 ?c4 ?c5 ?_)
  case c3=>unfold maxLen;omega
  case c4=>omega
  case c5=>simp
  intro v' w3 Hy Hz _
  have HO:=aA (show aBk w.heap.size w3 v' l by
   unfold aBk
   rw [←uH Q6]
   simpa using Hy)
  have HB:=aA (show Bw w w3 from (yA (yH _ w) (.cells #[] 48)).grown Hz (by simp) (fun k e=>by simp [Value.ownBlock] at e;omega))
  clear Hy Hz Hq gy hll
  go_wp2
  go_ret
  exact ⟨_,rfl,uH HO,uH HB⟩
theorem xL (hc:Cel w t g N) (h:∀j u,cs[j]? = some u→w.cell? ⟨g,j,none⟩=some u) (hl:cs.length≤N):Lay w t g N cs:=by
 obtain ⟨arr,h1,h2⟩:=hc
 refine ⟨arr.toList.drop cs.length,?_,by simp;omega⟩
 have e:cs++arr.toList.drop cs.length=arr.toList:=by
  apply List.ext_getElem?
  intro j
  by_cases hj:j<cs.length
  ·rw [List.getElem?_append_left hj]
   have h3:=h j cs[j] (List.getElem?_eq_getElem hj)
   simp [World.cell?,h1] at h3
   rw [List.getElem?_eq_getElem hj,Array.getElem?_toList]
   exact h3.symm
  ·rw [List.getElem?_append_right (by omega),List.getElem?_drop]
   congr 1
   omega
 rw [e]
 simpa using h1
theorem nG {S:Nat→Prop} {g:Nat} (hg:S g):∀(vs:List Value) (o:Nat) (a w:World),Mks S a w→Mks S a (w.setCells g o vs)
 | [],_,_,_,h=>h
 | v::r,o,a,w,h=>nG hg r (o+1) a _ (h.sc g o v hg)
theorem Cel.isThere (h:Cel w t g N) (hj:j<N):(w.cell? ⟨g,j,none⟩).isSome=true:=by
 obtain ⟨arr,h1,h2⟩:=h
 have h3:j<arr.size:=by omega
 simp [World.cell?,h1,h3]
theorem aFo (h:w.grownBy w' none):Bw w w':=(yH _ w).grown h (yJ _) (fun k e=>by cases e)
structure aFA (B:Nat) (w:World) (e:TypeId) (sz:Nat) (ao:Option Addr) (n:Nat) (all:List Value) (g cap:Nat) (w':World):Prop where
 cells:∀j u,all[j]? = some u→w'.cell? ⟨g,j,none⟩=some u
 own:dS B w'.heap.size w' e sz (some ⟨g,0,none⟩) cap
 cap:n≤cap
 mks:Mks (fun k=>∃N,Cel w e k N∧B≤k) w w'
 pos:ao=some ⟨g,0,none⟩∧Mks (fun k=>k=g) w w'∨w.heap.size≤g∧Bw w w'
end
section
open Go.RowKit Go.Maps
def aAF (s:St):Prop:=(∀a ∈ s.apps,(Lit.int .i64 a.id).wf=true)∧(∀c ∈ s.cs,(Lit.int .i64 c.app).wf=true)
theorem aB3 {w:World} {hs:List AV} {l:List bN} (hh:jJ w hs l) (h:∀a ∈ l,(Lit.int .i64 a.id).wf=true):∀v ∈ hs,(Lit.int .i64 v.id).wf=true:=fun v hv=>by
 obtain ⟨i,hi,rfl⟩:=List.mem_iff_getElem.1 hv
 have hi':i<l.length:=by rw [←hh.1];exact hi
 rw [(hh.2 i hi hi').1]
 exact h _ (yM _)
end
section
open Go.RowKit
variable {r:Int×Int} {l:List (Int×Int)} {B b k p:Nat} {ao:Option Addr} {v:Value} {w w':World}
theorem xP (a b c d s:Int) (w:World) (hs:s=1∨s = -1) :
  cP 89 #[rv a b,rv c d,.int .i64 s] w fun e w'=>e=.returned (.tuple #[kT s a b c d,.bool (aP s a b c d)])∧Bw w w':=by
 cases h1:aM a b
 ·have hb:aP s a b c d=false:=by simp [aP,h1]
  rw [mH hb,hb]
  go_enter Tryz.func89,Tryz.ntmps89
  go_wp2_with (go_at_call 86;refine (aR _ _ _).mono ?_;rintro e w' ⟨rfl,rfl⟩)
  refine bodyPost_ret (v:=.tuple #[rv 0 0,.bool false]) (by simp [results,Tryz.results89,go_sem]) rfl ⟨rfl,?_⟩
  repeat (first | exact yH _ _ | refine yA ?_ _ | refine yC ?_ _ _ _ (by omega))
 ·cases h2:aM c d
  ·have hb:aP s a b c d=false:=by simp [aP,h2]
   rw [mH hb,hb]
   go_enter Tryz.func89,Tryz.ntmps89
   go_wp2_with (go_at_call 86;refine (aR _ _ _).mono ?_;rintro e w' ⟨rfl,rfl⟩)
   refine bodyPost_ret (v:=.tuple #[rv 0 0,.bool false]) (by simp [results,Tryz.results89,go_sem]) rfl ⟨rfl,?_⟩
   repeat (first | exact yH _ _ | refine yA ?_ _ | refine yC ?_ _ _ _ (by omega))
  ·obtain ⟨q1,q2,q3,q4⟩:=aO h1
   obtain ⟨q5,q6,q7,q8⟩:=aO h2
   have m1:IntKind.i64.wrap (s*c)=s*c:=by rw [IntKind.wrap_i64];rcases hs with rfl | rfl<;>omega
   have m2:IntKind.i64.wrap (s*d)=s*d:=by rw [IntKind.wrap_i64];rcases hs with rfl | rfl<;>omega
   have m3:IntKind.i64.wrap (a+s*c)=a+s*c:=by rw [IntKind.wrap_i64];rcases hs with rfl | rfl<;>omega
   have m4:IntKind.i64.wrap (b+s*d)=b+s*d:=by rw [IntKind.wrap_i64];rcases hs with rfl | rfl<;>omega
   cases h3:aM (a+s*c) (b+s*d)
   ·have hb:aP s a b c d=false:=by simp [aP,h3]
    rw [mH hb,hb]
    go_enter Tryz.func89,Tryz.ntmps89
    go_wp2_with (go_at_call 86;refine (aR _ _ _).mono ?_;rintro e w' ⟨rfl,rfl⟩)
    refine bodyPost_ret (v:=.tuple #[rv 0 0,.bool false]) (by simp [results,Tryz.results89,go_sem]) rfl ⟨rfl,?_⟩
    repeat (first | exact yH _ _ | refine yA ?_ _ | refine yC ?_ _ _ _ (by omega))
   ·have hb:aP s a b c d=true:=by simp [aP,h1,h2,h3]
    rw [oF hb,hb]
    go_enter Tryz.func89,Tryz.ntmps89
    go_wp2_with (go_at_call 86;refine (aR _ _ _).mono ?_;rintro e w' ⟨rfl,rfl⟩)
    refine bodyPost_ret (v:=.tuple #[rv (a+s*c) (b+s*d),.bool true]) (by simp [results,Tryz.results89,go_sem]) rfl ⟨rfl,?_⟩
    repeat (first | exact yH _ _ | refine yA ?_ _ | refine yC ?_ _ _ _ (by omega))
def RAt (w:World) (b p:Nat) (r:Int×Int):Prop:=w.cell? ⟨b,p,none⟩=some (.int .i64 r.1)∧w.cell? ⟨b,p+1,none⟩=some (.int .i64 r.2)
def aGD (w:World) (ao:Option Addr) (len:Nat) (l:List (Int×Int)):Prop:=
 len=l.length∧(len=0∨∃b off,ao=some ⟨b,off,none⟩∧∀i (h:i<l.length),RAt w b (off+i*2) l[i])
theorem RAt.lt (h:RAt w b p r):b<w.heap.size:=yG h.1
theorem RAt.below (h:RAt w b p r) (hb:Bw w w'):RAt w' b p r:=⟨(hb.cell h.lt).trans h.1,(hb.cell h.lt).trans h.2⟩
theorem aGD.below {len:Nat} (h:aGD w ao len l) (hb:Bw w w'):aGD w' ao len l:=by
 obtain ⟨h1,h2⟩:=h
 refine ⟨h1,?_⟩
 rcases h2 with h2 | ⟨b,off,h3,h4⟩
 ·exact .inl h2
 ·exact .inr ⟨b,off,h3,fun i h=>(h4 i h).below hb⟩
theorem aGD.at {len:Nat} (h:aGD w ao len l) {i:Nat} (hi:i<len):∃b off,ao=some ⟨b,off,none⟩∧∀(h:i<l.length),RAt w b (off+i*2) l[i]:=by
 obtain ⟨h1,h2⟩:=h
 rcases h2 with h2 | ⟨b,off,h3,h4⟩
 ·omega
 ·exact ⟨b,off,h3,fun hi=>h4 i hi⟩
abbrev aBE (r:Int×Int):List Value:=[.int .i64 r.1,.int .i64 r.2]
def iZ:List (Int×Int)→List Value
 | []=>[]
 | q::t=>aBE q++iZ t
theorem aFO (a:List (Int×Int)) (q:Int×Int):iZ (a++[q])=iZ a++aBE q:=by
 induction a with
 | nil=>rfl
 | cons x t ih=>rw [List.cons_append,iZ,iZ,ih,List.append_assoc]
theorem aCE:∀(l:List (Int×Int)) (i:Nat) (h:i<l.length),(iZ l)[i*2]? = some (.int .i64 l[i].1)∧(iZ l)[i*2+1]? = some (.int .i64 l[i].2)
 | q::t,0,_=>⟨rfl,rfl⟩
 | q::t,i+1,h=>by
  have e:=aCE t i (by simpa using h)
  have k:∀j,(iZ (q::t))[(i+1)*2+j]? = (iZ t)[i*2+j]?:=fun j=>by
   rw [iZ,show (i+1)*2+j=(aBE q).length+(i*2+j) by simp;omega,List.getElem?_append_right (by omega)]
   congr 1
   omega
  have k0:=k 0
  simp only [Nat.add_zero] at k0
  rw [k0,k 1]
  simpa using e
def aAG (B:Nat) (w:World) (v:Value) (l:List (Int×Int)):Prop:=w.ownsRow B 37 2 v l.length (iZ l)
theorem aEY (B:Nat) (w:World):aAG B w (.slice none 0 0) []:=World.ownsRow_nil _ _ _ _
theorem rP (w:World):aAG w.heap.size (w.alloc (.cells #[] 37)) (.slice (some ⟨w.heap.size,0,none⟩) 0 0) []:=
 ⟨rfl,.inr ⟨w.heap.size,0,#[],rfl,yJ _,by show (w.heap.push _)[w.heap.size]? = _;simp,yJ _,by unfold maxLen;omega,rfl,rfl⟩⟩
theorem aAG.base {B':Nat} (h:aAG B w v l) (hb:B'≤B):aAG B' w v l:=by
 obtain ⟨h1,h2⟩:=h
 refine ⟨h1,?_⟩
 rcases h2 with h2 | ⟨g,cap,cur,a,b,c⟩
 ·exact .inl h2
 ·exact .inr ⟨g,cap,cur,a,Nat.le_trans hb b,c⟩
theorem aAG.below (h:aAG B w v l) (hb:Bw w w'):aAG B w' v l:=
 h.kept (aG (aF w none) hb) (by by_cases e:v.ownBlock=none;exact .inl e;exact .inr e)
theorem aAG.row (h:aAG B w v l):∃ao cap,v=.slice ao l.length cap∧aGD w ao l.length l∧l.length≤cap:=by
 rcases h.2 with ⟨rfl,h0⟩ | ⟨g,cap,cur,rfl,h1,h2,h3,h4,h5,h6⟩
 ·exact ⟨none,0,by rw [h0],⟨rfl,.inl h0⟩,by omega⟩
 ·refine ⟨some ⟨g,0,none⟩,cap,rfl,⟨rfl,.inr ⟨g,0,rfl,fun i hi=>?_⟩⟩,h3⟩
  obtain ⟨a,b⟩:=aCE l i hi
  have k:∀j (v:Value),j<l.length*2→(iZ l)[j]? = some v→w.cell? ⟨g,j,none⟩=some v:=fun j v hj hv=>by
   rw [←h6,List.getElem?_take_of_lt hj] at hv
   simp [World.cell?,h2]
   simpa using hv
  unfold RAt
  rw [Nat.zero_add]
  exact ⟨k _ _ (by omega) a,k _ _ (by omega) b⟩
theorem mZ {wr w1:World} {v':Value} {q:Int×Int} {ob:Obj} (hb:Below B w wr) (Hq:aAG B wr v l)
  (h1:w1.ownsRow B 37 2 v' (l.length+1) (iZ l++aBE q)) (hg:(wr.alloc ob).grownBy w1 v.ownBlock) (hB:B≤wr.heap.size) :
  aAG B w1 v' (l++[q])∧Below B w w1:=by
 refine ⟨?_,(hb.alloc hB ob).grown hg (by simp;omega) ?_⟩
 ·unfold aAG
  rw [aFO,List.length_append]
  exact h1
 ·intro k hk
  rcases Hq.2 with ⟨rfl,_⟩ | ⟨g,cap,cur,rfl,hg',_⟩
  ·simp [Value.ownBlock] at hk
  ·simp [Value.ownBlock] at hk;omega
theorem Tryz.infoR:(Tryz.prog.info? 37).map (fun i=>(i.zero,i.size,i.bytes))=some (some (.agg #[.int .i64 0,.int .i64 0]),2,16):=by kernel_rfl
def aS:List (Int×Int)→Int→Int→Int×Int×Bool
 | [],x,y=>(x,y,true)
 | r::t,x,y=>if aP 1 x y r.1 r.2=true then aS t (x+1*r.1) (y+1*r.2) else (0,0,false)
def iL (l:List (Int×Int)):Int×Int×Bool:=aS l 0 0
theorem tV (h:k<l.length) (x y:Int):aS (l.drop k) x y=if aP 1 x y l[k].1 l[k].2=true then aS (l.drop (k+1)) (x+1*l[k].1) (y+1*l[k].2) else (0,0,false):=by
 rw [List.drop_eq_getElem_cons h,aS]
theorem wO (h:l.length≤k) (x y:Int):aS (l.drop k) x y=(x,y,true):=by
 rw [List.drop_of_length_le h];rfl
def aT (l:List Mac):List (Int×Int):=l.map (fun m=>(m.mem,m.cpu))
theorem zA {l:List Mac} (h:k<l.length):aT (l.take (k+1))=aT (l.take k)++[(l[k].mem,l[k].cpu)]:=by
 rw [List.take_succ_eq_append_getElem h,aT,List.map_append];rfl
def aV (p:Con→Bool) (l:List Con):List (Int×Int):=(l.filter p).map (fun c=>(c.mem,c.cpu))
theorem rJ {p:Con→Bool} {l:List Con} (h:k<l.length):aV p (l.take (k+1))=if p l[k]=true then aV p (l.take k)++[(l[k].mem,l[k].cpu)] else aV p (l.take k):=by
 rw [List.take_succ_eq_append_getElem h]
 simp only [aV,List.filter_append,List.map_append]
 by_cases hp:p l[k]=true<;>simp [hp]
def zS (w:World) (c:Array Value):World:=(w.alloc (.cells c 29)).alloc (.cells #[.int .i64 0,.int .i64 0] 37)
theorem nK (w:World) (c:Array Value):(zS w c).heap.size=w.heap.size+1+1:=by simp only [zS,yE]
theorem bZ (w:World) (c:Array Value):Bw w (zS w c):=yA (yA (yH _ w) _) _
theorem gY (w:World) (c:Array Value):Var (zS w c) 37 (w.heap.size+1) 0 0:=by
 have:=bD (w.alloc (.cells c 29)) 37 0 0
 rwa [yE] at this
abbrev aA1 (m:Mac):Obj:=.cells #[.string (bs m.name),.int .i64 m.mem,.int .i64 m.cpu,.int .i64 m.seen] 102
def o5 (w:World) (c:Array Value):World:=w.alloc (.cells c 29)
theorem zB (w:World) (c:Array Value):(o5 w c).heap.size=w.heap.size+1:=by simp only [o5,yE]
theorem gG (w:World) (c:Array Value):Bw w (o5 w c):=yA (yH _ w) _
theorem eB (w:World) (c:Array Value):Blk (o5 w c) w.heap.size c 29:=yD w c _
abbrev aHu (qo:Option Addr) (n c:Nat):Sls:=⟨qo,n,c,none,0,0,none,0,0,none,0,0⟩
abbrev pG (l:List Q) (ep nx se:Int):St:=⟨l,0,ep,nx,se,[],[],[]⟩
theorem aGn {qo:Option Addr} {n c:Nat} {l:List Q} (ep nx se:Int) (h:gJ w qo n l):gU w (aHu qo n c) (pG l ep nx se):=⟨h,⟨rfl,.inl rfl⟩,⟨rfl,.inl rfl⟩,⟨rfl,.inl rfl⟩⟩
theorem aGp {l:List Q} (ep nx se:Int) (h:aKL l):dI (pG l ep nx se):=⟨h,⟨by simp,by simp⟩,⟨by simp,by simp⟩,⟨by simp,by simp⟩⟩
end
section
open Go.RowKit Go.Maps
variable {D:DataW Unit} {l:List Mac} {kl:Lit} {m:Mac} {n:Nat} {w:World}
def md (m:Mac):DataW Unit:=.agg [.lit (.string m.name),.lit (.int .i64 m.mem),.lit (.int .i64 m.cpu),.lit (.int .i64 m.seen)]
def jE:Value→Option (DataW Unit×List MemPlace)
 | .agg cs=>match cs.toList with
  | [.string s,.int .i64 x,.int .i64 y,.int .i64 z]=>some (md ⟨s.data.toList,x,y,z⟩,[])
  | _=>none
 | _=>none
theorem rX (m:Mac):jE (aI8 m)=some (md m,[]):=by
 obtain ⟨nm,x,y,z⟩:=m
 simp [jE,bs]
theorem xK {v:Value} {ps:List MemPlace} (h:jE v=some (md m,ps)):v=aI8 m:=by
 unfold jE at h
 split at h
 ·rename_i cs
  split at h
  ·rename_i s x y z e
   have e2:cs=#[.string s,.int .i64 x,.int .i64 y,.int .i64 z]:=by cases cs;simpa using e
   obtain ⟨nm,a,b,c⟩:=m
   simp [md] at h
   obtain ⟨⟨h1,h2,h3,h4⟩,_⟩:=h
   subst h1 h2 h3 h4
   rw [e2]
   simp [aI8,aDu]
  ·cases h
 ·cases h
def bQ (nm:List UInt8) (l:List Mac):Option Mac:=l.find? (fun m=>decide (m.name=nm))
def lW (l:List Mac) (D:DataW Unit):Prop:=∀nm kl,keyOf Tryz.prog 92 (oW nm 0)=some kl→Maps.has D kl=(bQ nm l).isSome∧∀m,bQ nm l=some m→∀zd,D.atKey kl zd=md m
theorem aC7:lW [] (.map []):=fun nm kl _=>⟨by simp [Maps.has,bQ],fun m h=>by simp [bQ] at h⟩
theorem lW.put (h:lW l D) (hD:IsMap D) (hk:keyOf Tryz.prog 92 (oW m.name 0)=some kl):lW (m::l) (D.put kl (md m)):=fun nm kl' hk'=>by
 by_cases e:kl'=kl
 ·subst e
  have:=jS.inj hk hk'
  simp [oW] at this
  have hn:m.name=nm:=by
   have h1:=congrArg (fun b:ByteArray=>b.data.toList) this
   simpa [bs] using h1
  have hf:bQ nm (m::l)=some m:=by simp [bQ,hn]
  rw [hf]
  refine ⟨?_,fun m' h' zd=>?_⟩
  ·rw [has_put_same hD (jS.key hk)];rfl
  ·cases h'
   exact atKey_put_same hD (jS.key hk) _ _
 ·have hn:¬m.name=nm:=fun hn=>e (by subst hn;rw [hk] at hk';exact (Option.some.inj hk').symm)
  have hf:bQ nm (m::l)=bQ nm l:=by simp [bQ,hn]
  rw [hf,has_put_other e]
  refine ⟨(h nm kl' hk').1,fun m' h' zd=>?_⟩
  rw [atKey_put_other e]
  exact (h nm kl' hk').2 m' h' zd
theorem aJi (w:World):(zeroValue 102).run Tryz.prog w=.ok (aI8 ⟨[],0,0,0⟩) w:=by kernel_rfl
theorem aLL {bm:Nat} (Hq:w.ownsMap Tryz.prog 92 jE bm n D) (hk:lW l D) {nm:List UInt8} (G7:keyOf Tryz.prog 92 (oW nm 0)=some kl) :
  (Instr.lookup 147 (.map (some bm)) (oW nm 0) true).run Tryz.prog w=.ok (.tuple #[aI8 ((bQ nm l).getD ⟨[],0,0,0⟩),.bool (bQ nm l).isSome]) w:=by
 obtain ⟨v,ps,gq,hv⟩:=Hq.look_ok jS Tryz.underlying147 (aJi w) (rX ⟨[],0,0,0⟩) G7
 obtain ⟨h1,h2⟩:=hk nm kl G7
 rw [gq,h1]
 cases hf:bQ nm l with
 | none=>
  rw [hf] at h1
  rw [atKey_of_not_has h1] at hv
  rw [xK hv]
  rfl
 | some m=>
  rw [h2 m hf] at hv
  rw [xK hv]
  rfl
def aHR (hs:List AV) (keep:AV→Bool) (q:Con):Bool:=aKI (fJ q.app hs) keep
theorem xH (q:Con) (w:World) :
  cP 144 #[conv q] w fun e w'=>e=.returned (.agg #[.string (bs []),.int .i64 q.app])∧Bw w w':=by
 obtain ⟨id,ap,nd,me,cp⟩:=q
 go_enter Tryz.func144,Tryz.ntmps144
 go_wp2
 refine bodyPost_ret (v:=.agg #[.string (bs []),.int .i64 ap]) (by simp [results,Tryz.results144,go_sem];rfl) rfl ⟨rfl,?_⟩
 repeat (first | exact yH _ _ | refine yA ?_ _ | refine Below.drew ?_ | refine yC ?_ _ _ _ (by omega))
theorem bL {w':World} {k:TypeId} {R:Value→Option (DataW Unit×List MemPlace)} {b:Nat} (h:w.ownsMap Tryz.prog k R b n D) (hb:Bw w w'):w'.ownsMap Tryz.prog k R b n D:=h.kept (aG (aF w none) hb) (by simp)
theorem aHP (bm n:Nat) (D:DataW Unit) (hs:List AV) (keep:AV→Bool) (q:Con) (w:World) (Hq:w.ownsMap Tryz.prog 92 dE bm n D) (hk:dO hs (fun _ v=>keep v) D) (hwf:(Lit.int .i64 q.app).wf=true) :
  cP 93 #[.map (some bm),conv q] w fun e w'=>e=.returned (.bool (aHR hs keep q))∧Bw w w':=by
 obtain ⟨kl,G7⟩:=aA9 (nm:=[]) (k:=q.app) (by decide) hwf
 have HL:=aA (fun wx (hb:Bw w wx)=>aK9 (bL Hq hb) hk G7)
 obtain ⟨o,ho⟩:∃o,aHR hs keep q=o:=⟨_,rfl⟩
 have HO:=aA (show aKI (fJ q.app hs) keep=o from ho)
 rw [ho]
 clear ho G7 Hq hk hwf
 have CO:=aA (fun wx=>xH q wx)
 obtain ⟨id,ap,nd,me,cp⟩:=q
 simp only at HL HO
 have HB0:=aA (yA (yH _ w) (.cells #[.int .i64 id,.int .i64 ap,.string (bs nd),.int .i64 me,.int .i64 cp] 52))
 go_enter Tryz.func93,Tryz.ntmps93
 go_wp2_with fail
 refine (uH CO _).mono ?_
 rintro e w1 ⟨rfl,hb⟩
 have HB1:=aA (yB (uH HB0) hb)
 obtain ⟨v,hlk,_,_⟩:=uH HL _ (uH HB1)
 rw [show aKI (fJ ap hs) (fun v=>keep v)=o from uH HO] at hlk
 obtain ⟨v1,v2,v3,v4,v5⟩:=v
 clear hb HB0 HL HO
 go_wp2
 go_ret
 refine ⟨rfl,?_⟩
 repeat (first | exact uH HB1 | refine yA ?_ _ | refine Below.drew ?_ | refine yC ?_ _ _ _ (by omega))
end
section
open Go.RowKit
theorem wW (a b c d:Int) (w:World) :
  cP 37 #[rv a b,rv c d] w fun e w'=>e=.returned (.tuple #[kT 1 a b c d,.bool (aP 1 a b c d)])∧Bw w w':=by
 have hv:∃x y,kT 1 a b c d=rv x y:=by unfold kT;split<;>exact ⟨_,_,rfl⟩
 obtain ⟨x,y,hv⟩:=hv
 have hc:=xP a b c d 1 ((w.alloc (.cells #[.int .i64 a,.int .i64 b] 37)).alloc (.cells #[.int .i64 c,.int .i64 d] 37) |>.alloc (.cells #[.int .i64 0,.int .i64 0] 37)) (by decide)
 rw [hv] at hc ⊢
 go_enter Tryz.func37,Tryz.ntmps37
 go_wp2_with fail
 refine hc.mono ?_
 rintro e w1 ⟨rfl,hb⟩
 have hk:Var w1 37 (w.heap.size+1+1) 0 0:=Var.below (by simpa using bD ((w.alloc (.cells #[.int .i64 a,.int .i64 b] 37)).alloc (.cells #[.int .i64 c,.int .i64 d] 37)) 37 0 0) hb
 have k0:=hk.c0
 have k1:=hk.c1
 have k2:=hk.f 0
 have k3:=hk.f 1
 have k4:=hk.s0 (.int .i64 x)
 have k5:=hk.s1 (.int .i64 x) (.int .i64 y)
 have HB:=aA (yB (yA (yA (yA (yH _ _) _) _) _) hb)
 clear hb hc hk
 go_wp2
 refine bodyPost_ret (v:=.tuple #[rv x y,.bool (aP 1 a b c d)]) (by simp [results,Tryz.results37,go_sem,k4,k5]) rfl ⟨rfl,?_⟩
 repeat (first | exact uH HB | refine yA ?_ _ | refine yC ?_ _ _ _ (by omega))
end
section
open Go.RowKit Go.Maps
variable {l:List Mac} {nm:List UInt8} {k:Nat}
def kQ (nm:List UInt8):List Mac→Nat→Int
 | [],_=>-1
 | q::t,k=>if q.name=nm then k else kQ nm t (k+1)
def aBR (l:List Mac) (nm:List UInt8):Int:=kQ nm l 0
theorem aCX (h:k<l.length):kQ nm (l.drop k) k=if l[k].name=nm then (k:Int) else kQ nm (l.drop (k+1)) (k+1):=by
 rw [List.drop_eq_getElem_cons h,kQ]
theorem aD9 (h:l.length≤k):kQ nm (l.drop k) k = -1:=by
 rw [List.drop_of_length_le h];rfl
theorem uJ (nm:List UInt8):∀(l:List Mac) (k:Nat),(bQ nm l=none∧kQ nm l k = -1)∨(∃(j:Nat) (h:j<l.length),bQ nm l=some l[j]∧kQ nm l k=((k+j:Nat):Int))
 | [],k=>.inl ⟨rfl,rfl⟩
 | q::t,k=>by
  by_cases h:q.name=nm
  ·right
   exact ⟨0,by simp,by simp [bQ,h],by rw [kQ,if_pos h];simp⟩
  ·have hf:bQ nm (q::t)=bQ nm t:=by simp [bQ,h]
   rw [hf,kQ,if_neg h]
   rcases uJ nm t (k+1) with ⟨a,b⟩ | ⟨j,hj,a,b⟩
   ·exact .inl ⟨a,b⟩
   ·exact .inr ⟨j+1,by simpa using hj,by simpa using a,by rw [b];congr 1;omega⟩
theorem aA4 (nm:List UInt8) (l:List Mac):(bQ nm l=none∧aBR l nm = -1)∨(∃(j:Nat) (h:j<l.length),bQ nm l=some l[j]∧aBR l nm=(j:Int)):=by
 rcases uJ nm l 0 with h | ⟨j,h,a,b⟩
 ·exact .inl h
 ·exact .inr ⟨j,h,a,by rw [aBR,b];congr 1;omega⟩
theorem oU (x:Sls) (s:St) (nm:List UInt8) (w:World) (h:cO w x.ma x.ml s.ms) (hl:x.ml≤1048576) :
  cP 55 #[sv x s,.string (bs nm)] w fun e w'=>e=.returned (.int .i64 (aBR s.ms nm))∧Bw w w':=by
 have HR:=aA h
 have HL:=aA h.1
 have HB0:=aA (yA (yH _ w) (.cells (svc x s) 29))
 have P0:=aA (yD w (svc x s) 29)
 clear h
 obtain ⟨qa,ql,qc,aa,al,ac,ma,ml,mc,ca,cl,cc⟩:=x
 obtain ⟨qs,cv,ez,nv,sj,aj,ms,cs⟩:=s
 simp only at hl HR HL ⊢
 go_enter Tryz.func55,Tryz.ntmps55
 go_wp2
 go_loopw [5] (fun i wr=>∃(k:Nat),k≤ml∧i=.int .i64 k∧Hid (aBR ms nm=kQ nm (ms.drop k) k)∧Hid (Blk wr w.heap.size (svc ⟨qa,ql,qc,aa,al,ac,ma,ml,mc,ca,cl,cc⟩ ⟨qs,cv,ez,nv,sj,aj,ms,cs⟩) 29)∧Hid (Bw w wr)) (fun i _=>ml - (intOf i).toNat)
 case atStart=>exact ⟨0,Nat.zero_le _,rfl,aA (by simp [aBR]),P0,HB0⟩
 case round=>
  obtain ⟨k,hk,rfl,HQ,HP,HB⟩:=hrel
  have p6:=(uH HP).at 6
  simp at p6
  by_cases hlt:k<ml
  ·obtain ⟨b,off,rfl,hq⟩:=((uH HR).below (uH HB)).at hlt
   have hkl:k<ms.length:=by have:=uH HL;omega
   have hst:=aA (aCX (nm:=nm) hkl)
   have c0:=(hq hkl).1
   clear hq
   obtain ⟨s,hs⟩:∃s,ms[k].name=s:=⟨_,rfl⟩
   rw [hs] at c0 hst
   have hbe:=lL s nm
   clear hs hkl
   by_cases he:s=nm
   ·have HE:=aA he
    rw [decide_eq_true he] at hbe
    clear he
    go_wp2
    go_ret
    exact ⟨eP (by rw [uH HQ,uH hst,if_pos (uH HE)]),uH HB⟩
   ·have HE:=aA he
    rw [decide_eq_false he] at hbe
    clear he
    go_wp2
    go_roundw
    case rel=>exact ⟨k+1,by omega,by go_num,aA (by rw [uH HQ,uH hst,if_neg (uH HE)]),HP,HB⟩
    case measure=>simp [intOf];omega
  ·go_wp2
   go_ret
   exact ⟨eP (by rw [uH HQ,aD9 (by have:=uH HL;omega)]),uH HB⟩
end
section
open Go.RowKit
variable {ops:Array Oper} {a b x y:Int} {B W cc g:Nat} {ca:Option Addr} {P:Program} {α:Type} {u v:Value} {w w1:World}
theorem aDS (a b c d:Int) (w:World) :
  cP 120 #[rv a b,rv c d] w fun e w'=>e=.returned (.tuple #[kT (-1) a b c d,.bool (aP (-1) a b c d)])∧Bw w w':=by
 have hv:∃x y,kT (-1) a b c d=rv x y:=by unfold kT;split<;>exact ⟨_,_,rfl⟩
 obtain ⟨x,y,hv⟩:=hv
 have hc:=xP a b c d (-1) ((w.alloc (.cells #[.int .i64 a,.int .i64 b] 37)).alloc (.cells #[.int .i64 c,.int .i64 d] 37) |>.alloc (.cells #[.int .i64 0,.int .i64 0] 37)) (by decide)
 rw [hv] at hc ⊢
 go_enter Tryz.func120,Tryz.ntmps120
 go_wp2_with fail
 refine hc.mono ?_
 rintro e w1 ⟨rfl,hb⟩
 have hk:Var w1 37 (w.heap.size+1+1) 0 0:=Var.below (by simpa using bD ((w.alloc (.cells #[.int .i64 a,.int .i64 b] 37)).alloc (.cells #[.int .i64 c,.int .i64 d] 37)) 37 0 0) hb
 have k0:=hk.c0
 have k1:=hk.c1
 have k2:=hk.f 0
 have k3:=hk.f 1
 have k4:=hk.s0 (.int .i64 x)
 have k5:=hk.s1 (.int .i64 x) (.int .i64 y)
 have HB:=aA (yB (yA (yA (yA (yH _ _) _) _) _) hb)
 clear hb hc hk
 go_wp2
 refine bodyPost_ret (v:=.tuple #[rv x y,.bool (aP (-1) a b c d)]) (by simp [results,Tryz.results120,go_sem,k4,k5]) rfl ⟨rfl,?_⟩
 repeat (first | exact uH HB | refine yA ?_ _ | refine yC ?_ _ _ _ (by omega))
def VB (w1 w:World) (g:Nat) (x y:Int):Prop:=w1.heap.size≤g∧Var w 37 g x y
theorem VB.below {w':World} (h:VB w1 w g x y) (hb:Bw w w'):VB w1 w' g x y:=⟨h.1,h.2.below hb⟩
theorem VB.al (h:VB w1 w g x y) (o:Obj):VB w1 (w.alloc o) g x y:=⟨h.1,h.2.al o⟩
theorem VB.ne (h:VB w1 w g x y):g≠w.heap.size:=Nat.ne_of_lt h.2.lt
theorem aKN (h:Bw w1 w):VB w1 (w.alloc (.cells #[.int .i64 0,.int .i64 0] 37)) w.heap.size 0 0:=⟨h.size,bD w _ 0 0⟩
theorem VB.set (h:VB w1 w g a b) (x y:Int):VB w1 ((w.setCell ⟨g,0,none⟩ (.int .i64 x)).setCell ⟨g,1,none⟩ (.int .i64 y)) g x y:=⟨h.1,h.2.set x y⟩
theorem VB.off {k:Nat} (h:VB w1 w g a b) (hn:g≠k):VB w1 ((w.setCell ⟨k,0,none⟩ u).setCell ⟨k,1,none⟩ v) g a b:=⟨h.1,(h.2.other k 0 u hn).other k 1 v hn⟩
theorem VB.kp (h:VB w1 w g a b) (hk:Bw w1 w):Bw w1 ((w.setCell ⟨g,0,none⟩ u).setCell ⟨g,1,none⟩ v):=yC (yC hk _ _ _ h.1) _ _ _ h.1
def vP (a b c d e f g h:Int):Bool:=less (fO a b c d).1 (fO a b c d).2 (fO e f g h).1 (fO e f g h).2
theorem lN (a b c d e f g h:Int) (w:World) :
  cP 183 #[rv a b,rv c d,rv e f,rv g h] w fun o w'=>o=.returned (.bool (vP a b c d e f g h))∧Bw w w':=by
 obtain ⟨p1,p2⟩:=kN a b c d
 obtain ⟨p3,p4⟩:=kN e f g h
 have V3:=((bD ((w.alloc (.cells #[.int .i64 a,.int .i64 b] 37)).alloc (.cells #[.int .i64 c,.int .i64 d] 37)) 37 e f).al (.cells #[.int .i64 g,.int .i64 h] 37))
 have V4:=bD (((w.alloc (.cells #[.int .i64 a,.int .i64 b] 37)).alloc (.cells #[.int .i64 c,.int .i64 d] 37)).alloc (.cells #[.int .i64 e,.int .i64 f] 37)) 37 g h
 have QO:=aA V3
 have XD:=aA V4
 clear V3 V4
 go_enter Tryz.func183,Tryz.ntmps183
 go_wp2_with fail
 refine (pX _ _ _ _ _).mono ?_
 rintro o w1 ⟨rfl,hb⟩
 have V3:=(uH QO).below hb
 have V4:=(uH XD).below hb
 simp at V3 V4
 have a1:=V3.c0
 have a2:=V3.c1
 have a3:=V4.c0
 have a4:=V4.c1
 have HB:=aA (yB (yA (yA (yA (yA (yH _ _) _) _) _) _) hb)
 clear hb QO XD V3 V4
 go_wp2_with fail
 refine (pX _ _ _ _ _).mono ?_
 rintro o w2 ⟨rfl,hb⟩
 have HB2:=aA (yB (uH HB) hb)
 clear hb HB a1 a2 a3 a4
 go_wp2_with fail
 refine (mV _ _ _ _ _ p1 p2 p3 p4).mono ?_
 rintro o w3 ⟨rfl,rfl⟩
 go_wp2
 go_ret
 exact ⟨rfl,uH HB2⟩
def aFi:Nat→List (List Bool)
 | 0=>[[]]
 | k+1=>(aFi k).map (false :: ·)++(aFi k).map (true :: ·)
theorem aCU:∀(f:List Bool),f ∈ aFi f.length
 | []=>by simp [aFi]
 | b::t=>by
  have:=aCU t
  cases b<;>simp [aFi,this]
structure Mul where
 n:Nat
 cs:List Nat
 al:List Nat
 st:List Nat
 l0:List Bool
def Mul.lst (M:Mul) (c:Nat) (f:List Bool) (s:Nat):Array Bool:=
 ((List.range M.n).map fun i=>M.l0.getD i false||((M.cs.take c).contains i||(((M.al.zip f).any fun p=>p.1==i&&p.2)||(M.st.take s).contains i))).toArray
def Mul.nxt (M:Mul) (c:Nat) (f:List Bool) (s:Nat):List (Nat×Nat):=
 (List.range M.n).filterMap fun i=>
  if M.cs[c]? = some i then some (i,0)
  else match (List.range M.al.length).find? (fun j=>M.al[j]? == some i&&f[j]? == some false) with
   | some j=>some (i,j+2)
   | none=>if decide (c=M.cs.length)&&(f.all id&&decide (M.st[s]? = some i)) then some (i,1) else none
def Mul.to (c:Nat) (f:List Bool) (s:Nat):Nat→Nat×List Bool×Nat
 | 0=>(c+1,f,s)
 | 1=>(c,f,s+1)
 | j+2=>(c,f.set j true,s)
def Mul.one (M:Mul) (md:Region.Mode) (ops:Array Oper) (c:Nat) (f:List Bool) (s:Nat):Bool:=
 decide (Region.ready md ops (M.lst c f s)=(M.nxt c f s).map (·.1)) &&
 ((M.nxt c f s).isEmpty==(decide (c=M.cs.length)&&(f.all id&&decide (s=M.st.length)))) &&
 (M.nxt c f s).all fun p=>decide ((M.lst c f s).setIfInBounds p.1 true=M.lst (Mul.to c f s p.2).1 (Mul.to c f s p.2).2.1 (Mul.to c f s p.2).2.2) &&
  (match p.2 with | 0=>decide (M.cs[c]? = some p.1) | 1=>decide (c=M.cs.length)&&(f.all id&&decide (M.st[s]? = some p.1)) | j+2=>decide (M.al[j]? = some p.1)&&f[j]? == some false)
def Mul.ok (M:Mul) (md:Region.Mode) (ops:Array Oper):Bool:=
 decide (M.al.length=M.st.length)&&((List.range (M.cs.length+1)).all fun c=>(aFi M.al.length).all fun f=>M.one md ops c f 0)&&(List.range (M.st.length+1)).all fun s=>M.one md ops M.cs.length (List.replicate M.al.length true) s
theorem qZ {f:List Bool} (h:f.all id=true):f=List.replicate f.length true:=by
 induction f with
 | nil=>rfl
 | cons b t ih=>
  simp only [List.all_cons,id,yK] at h
  rw [List.length_cons,List.replicate_succ,←ih h.2,h.1]
theorem Mul.at {M:Mul} {md:Region.Mode} (h:M.ok md ops=true) {c:Nat} {f:List Bool} {s:Nat} (hc:c≤M.cs.length) (hf:f.length=M.al.length) (hs:s≤M.st.length) (h0:0<s→c=M.cs.length∧f.all id=true):M.one md ops c f s=true:=by
 simp only [Mul.ok,yK,List.all_eq_true,List.mem_range] at h
 obtain ⟨⟨_,h1⟩,h2⟩:=h
 by_cases e:s=0
 ·subst e
  exact h1 c (by omega) f (by rw [←hf];exact aCU f)
 ·obtain ⟨rfl,h3⟩:=h0 (by omega)
  have:=qZ h3
  rw [hf] at this
  rw [this]
  exact h2 s (by omega)
def Mul.step (P:Program) (ops:Array Oper) (Q:Exit→Act→World→Prop) (i:Nat) (a:Act) (w:World) (K:Act→World→Prop):Prop:=
 ∃o,ops[i]? = some o∧(if Region.wanted o (yielded ops a.tmps)=true then Oper.wp P o a w K Q else K (a.put o.dst undef) w)
theorem aH4 {f:List Bool} {j:Nat} (h:f[j]? = some false):(f.set j true).count false+1=f.count false:=by
 induction f generalizing j with
 | nil=>simp at h
 | cons b t ih=>
  cases j with
  | zero=>simp at h;subst h;simp
  | succ j=>simp at h;have:=ih h;simp only [sC,List.count_cons];omega
theorem aAi {f:List Bool} (h:f.all id=true):f.count false=0:=by rw [qZ h];simp [List.count_replicate]
theorem mR {md:Region.Mode} {Q:Exit→Act→World→Prop} {S:World→Prop} {n n':Nat} {l l':Array Bool} {a a':Act} (hn:n=n') (hl:l=l') (ha:a=a') (h:wpAnyH P md ops Q S n' l' a' w):wpAnyH P md ops Q S n l a w:=by
 subst hn hl ha
 exact h
def zZ (b:Bool) (g:Nat):Value:=match b with | true=>.pointer (some ⟨g,0,none⟩) | false=>undef
def mkV (b:Bool) (v u:Value):Value:=match b with | true=>v | false=>u
def vM (b:Bool) (v:Value):Value:=match b with | true=>v | false=>undef
theorem aF6 {l:List α} (h:l.length=4):∃a b c d,l=[a,b,c,d]:=by
 match l,h with
 | [a,b,c,d],_=>exact ⟨a,b,c,d,rfl⟩
theorem vO {l:List α} (h:l.length=2):∃a b,l=[a,b]:=by
 match l,h with
 | [a,b],_=>exact ⟨a,b,rfl⟩
theorem vN {l:List α} (h:l.length=3):∃a b c,l=[a,b,c]:=by
 match l,h with
 | [a,b,c],_=>exact ⟨a,b,c,rfl⟩
theorem jO {md:Region.Mode} {Q:Exit→Act→World→Prop} (M:Mul) (Fr:Nat→List Bool→List Nat→Act) (vals:List (Int×Int)) (hv:vals.length=M.al.length)
  (hok:M.ok md ops=true)
  (hcall:∀c f us w K,c<M.cs.length→f.length=M.al.length→us.length=M.al.length→Kp w1 w→(∀w',Bw w w'→K (Fr (c+1) f us) w')→Mul.step P ops Q (M.cs.getD c 0) (Fr c f us) w K)
  (hal:∀j c f us w K,c≤M.cs.length→f.length=M.al.length→us.length=M.al.length→f[j]? = some false→K (Fr c (f.set j true) (us.set j w.heap.size)) (w.alloc (.cells #[.int .i64 0,.int .i64 0] 37))→Mul.step P ops Q (M.al.getD j 0) (Fr c f us) w K)
  (hst:∀s us w K,s<M.al.length→us.length=M.al.length→Var w 37 (us.getD s 0) 0 0→K (Fr M.cs.length (List.replicate M.al.length true) us) ((w.setCell ⟨us.getD s 0,0,none⟩ (.int .i64 (vals.getD s (0,0)).1)).setCell ⟨us.getD s 0,1,none⟩ (.int .i64 (vals.getD s (0,0)).2))→Mul.step P ops Q (M.st.getD s 0) (Fr M.cs.length (List.replicate M.al.length true) us) w K)
  (fin:∀us w,us.length=M.al.length→(∀j,j<M.al.length→VB w1 w (us.getD j 0) (vals.getD j (0,0)).1 (vals.getD j (0,0)).2)→Kp w1 w→Q .normal (Fr M.cs.length (List.replicate M.al.length true) us) w)
  (w:World) (hw:Kp w1 w):wpAnyH P md ops Q (Kp w1) (M.cs.length+M.al.length+M.al.length) (M.lst 0 (List.replicate M.al.length false) 0) (Fr 0 (List.replicate M.al.length false) (List.replicate M.al.length 0)) w:=by
 have hla:M.al.length=M.st.length:=by have:=hok;simp only [Mul.ok,yK,yL] at this;exact this.1.1
 refine nS (fun n lz az wz=>∃c f us s,c≤M.cs.length∧f.length=M.al.length∧us.length=M.al.length∧s≤M.al.length∧(0<s→c=M.cs.length∧f.all id=true)∧n=(M.cs.length - c)+f.count false+(M.al.length - s)∧lz=M.lst c f s∧az=Fr c f us
   ∧(∀j,f[j]? = some true→VB w1 wz (us.getD j 0) (if j<s then (vals.getD j (0,0)).1 else 0) (if j<s then (vals.getD j (0,0)).2 else 0))∧(∀i j,f[i]? = some true→f[j]? = some true→i≠j→us.getD i 0≠us.getD j 0)∧Kp w1 wz) ?_ ?_ _ _ _ _ ⟨0,_,_,0,Nat.zero_le _,by simp,by simp,Nat.zero_le _,fun h=>absurd h (by omega),by simp,rfl,rfl,fun j hj=>by simp [List.getElem?_replicate] at hj,fun i j hi=>by simp [List.getElem?_replicate] at hi,hw⟩
 ·rintro n lz az wz ⟨c,f,us,s,hc,hf,hu,hs,h0,hn,rfl,rfl,hV,hD,hk⟩
  have gy:=Mul.at hok hc hf (by omega) h0
  simp only [Mul.one,yK,yL,List.all_eq_true] at gy
  obtain ⟨⟨hr,he⟩,Qj⟩:=gy
  have hne:(M.nxt c f s).map (·.1)≠[]:=fun e=>by
   have e':M.nxt c f s=[]:=List.map_eq_nil_iff.1 e
   rw [e'] at he
   simp only [List.isEmpty_nil,beq_iff_eq] at he
   have he':=he.symm
   simp only [yK,yL] at he'
   have:=aAi he'.2.1
   omega
  refine bO hr hne (fun i hi=>?_)
  obtain ⟨⟨i',k⟩,hp,rfl⟩:=List.mem_map.1 hi
  obtain ⟨QL,hk'⟩:=Qj _ hp
  simp only at QL hk'
  match k,QL,hk' with
  | 0,QL,hk'=>
   simp only [yL] at hk'
   have hlt:c<M.cs.length:=(List.getElem?_eq_some_iff.1 hk').1
   have hcd:M.cs.getD c 0=i':=by rw [List.getD_eq_getElem?_getD,hk'];rfl
   obtain ⟨o,ho,hh⟩:=hcall c f us wz (fun a' w'=>Kp w1 w'∧∃c' f' us' s',c'≤M.cs.length∧f'.length=M.al.length∧us'.length=M.al.length∧s'≤M.al.length∧(0<s'→c'=M.cs.length∧f'.all id=true)∧n=(M.cs.length - c')+f'.count false+(M.al.length - s')∧(M.lst c f s).setIfInBounds i' true=M.lst c' f' s'∧a'=Fr c' f' us'∧(∀j,f'[j]? = some true→VB w1 w' (us'.getD j 0) (if j<s' then (vals.getD j (0,0)).1 else 0) (if j<s' then (vals.getD j (0,0)).2 else 0))∧(∀i j,f'[i]? = some true→f'[j]? = some true→i≠j→us'.getD i 0≠us'.getD j 0)∧Kp w1 w') hlt hf hu hk
    (fun w' hb=>⟨yB hk hb,c+1,f,us,s,hlt,hf,hu,hs,fun h=>absurd (h0 h).1 (by omega),by omega,QL,rfl,fun j hj=>(hV j hj).below hb,hD,yB hk hb⟩)
   rw [hcd] at ho
   exact wpOp_step ho (fun K' hK=>by
    split
    ·rename_i hw;rw [if_pos hw] at hh;exact Oper.wp_mono (fun _ _ h=>hK _ _ h) hh
    ·rename_i hw;rw [if_neg hw] at hh;exact hK _ _ hh)
  | 1,QL,hk'=>
   simp only [yK,yL] at hk'
   obtain ⟨rfl,hft,JR⟩:=hk'
   have hsl:s<M.al.length:=by rw [hla];exact (List.getElem?_eq_some_iff.1 JR).1
   have ZX:=qZ hft
   rw [hf] at ZX
   have hj:f[s]? = some true:=by rw [ZX,List.getElem?_replicate,if_pos hsl]
   have hcd:M.st.getD s 0=i':=by rw [List.getD_eq_getElem?_getD,JR];rfl
   have hvs:=hV s hj
   rw [if_neg (by omega),if_neg (by omega)] at hvs
   obtain ⟨o,ho,hh⟩:=hst s us wz (fun a' w'=>Kp w1 w'∧∃c' f' us' s',c'≤M.cs.length∧f'.length=M.al.length∧us'.length=M.al.length∧s'≤M.al.length∧(0<s'→c'=M.cs.length∧f'.all id=true)∧n=(M.cs.length - c')+f'.count false+(M.al.length - s')∧(M.lst M.cs.length f s).setIfInBounds i' true=M.lst c' f' s'∧a'=Fr c' f' us'∧(∀j,f'[j]? = some true→VB w1 w' (us'.getD j 0) (if j<s' then (vals.getD j (0,0)).1 else 0) (if j<s' then (vals.getD j (0,0)).2 else 0))∧(∀i j,f'[i]? = some true→f'[j]? = some true→i≠j→us'.getD i 0≠us'.getD j 0)∧Kp w1 w') hsl hu hvs.2
    ⟨hvs.kp hk,M.cs.length,f,us,s+1,yJ _,hf,hu,hsl,fun _=>⟨rfl,hft⟩,by have:=aAi hft;omega,QL,by rw [←ZX],fun j hj'=>by
     by_cases e:j=s
     ·subst e
      rw [if_pos (by omega),if_pos (by omega)]
      exact hvs.set _ _
     ·have h1:=(hV j hj').off (hD j s hj' hj e) (u:=.int .i64 (vals.getD s (0,0)).1) (v:=.int .i64 (vals.getD s (0,0)).2)
      by_cases e2:j<s
      ·rw [if_pos e2,if_pos e2] at h1
       rw [if_pos (by omega),if_pos (by omega)]
       exact h1
      ·rw [if_neg e2,if_neg e2] at h1
       rw [if_neg (by omega),if_neg (by omega)]
       exact h1,hD,hvs.kp hk⟩
   rw [hcd] at ho
   rw [ZX]
   rw [←ZX] at hh ⊢
   exact wpOp_step ho (fun K' hK=>by
    rw [ZX] at hK ⊢
    rw [ZX] at hh
    split
    ·rename_i hw;rw [if_pos hw] at hh;exact Oper.wp_mono (fun _ _ h=>hK _ _ h) hh
    ·rename_i hw;rw [if_neg hw] at hh;exact hK _ _ hh)
  | j+2,QL,hk'=>
   simp only [yK,yL,beq_iff_eq] at hk'
   obtain ⟨ha,hfj⟩:=hk'
   have hjl:j<M.al.length:=(List.getElem?_eq_some_iff.1 ha).1
   have hcd:M.al.getD j 0=i':=by rw [List.getD_eq_getElem?_getD,ha];rfl
   have hs0:s=0:=by
    by_cases e:s=0
    ·exact e
    ·have h1:=qZ (h0 (by omega)).2
     rw [h1,List.getElem?_replicate,if_pos (by omega)] at hfj
     cases hfj
   obtain ⟨o,ho,hh⟩:=hal j c f us wz (fun a' w'=>Kp w1 w'∧∃c' f' us' s',c'≤M.cs.length∧f'.length=M.al.length∧us'.length=M.al.length∧s'≤M.al.length∧(0<s'→c'=M.cs.length∧f'.all id=true)∧n=(M.cs.length - c')+f'.count false+(M.al.length - s')∧(M.lst c f s).setIfInBounds i' true=M.lst c' f' s'∧a'=Fr c' f' us'∧(∀j,f'[j]? = some true→VB w1 w' (us'.getD j 0) (if j<s' then (vals.getD j (0,0)).1 else 0) (if j<s' then (vals.getD j (0,0)).2 else 0))∧(∀i j,f'[i]? = some true→f'[j]? = some true→i≠j→us'.getD i 0≠us'.getD j 0)∧Kp w1 w') hc hf hu hfj
    ⟨yA hk _,c,f.set j true,us.set j wz.heap.size,s,hc,by simpa using hf,by simpa using hu,hs,fun h=>absurd h (by omega),by have:=aH4 hfj;omega,QL,rfl,fun x hx=>by
     subst hs0
     rw [if_neg (by omega),if_neg (by omega)]
     by_cases e:x=j
     ·subst e
      rw [List.getD_eq_getElem?_getD,List.getElem?_set_self (by omega)]
      exact aKN hk
     ·rw [List.getElem?_set_ne (fun h=>e h.symm)] at hx
      rw [List.getD_eq_getElem?_getD,List.getElem?_set_ne (fun h=>e h.symm),←List.getD_eq_getElem?_getD]
      have:=hV x hx
      rw [if_neg (by omega),if_neg (by omega)] at this
      exact this.al _,fun x y hx hy KN=>by
     by_cases e:x=j
     ·subst e
      by_cases e2:y=x
      ·exact absurd e2.symm KN
      ·rw [List.getElem?_set_ne (fun h=>e2 h.symm)] at hy
       rw [List.getD_eq_getElem?_getD,List.getElem?_set_self (by omega),List.getD_eq_getElem?_getD,List.getElem?_set_ne (fun h=>e2 h.symm),←List.getD_eq_getElem?_getD]
       exact (hV y hy).ne.symm
     ·rw [List.getElem?_set_ne (fun h=>e h.symm)] at hx
      rw [List.getD_eq_getElem?_getD (l:=us.set j wz.heap.size) (i:=x),List.getElem?_set_ne (fun h=>e h.symm),←List.getD_eq_getElem?_getD]
      by_cases e2:y=j
      ·subst e2
       rw [List.getD_eq_getElem?_getD (l:=us.set y wz.heap.size),List.getElem?_set_self (by omega)]
       exact (hV x hx).ne
      ·rw [List.getElem?_set_ne (fun h=>e2 h.symm)] at hy
       rw [List.getD_eq_getElem?_getD (l:=us.set j wz.heap.size),List.getElem?_set_ne (fun h=>e2 h.symm),←List.getD_eq_getElem?_getD]
       exact hD x y hx hy KN,yA hk _⟩
   rw [hcd] at ho
   exact wpOp_step ho (fun K' hK=>by
    split
    ·rename_i hw;rw [if_pos hw] at hh;exact Oper.wp_mono (fun _ _ h=>hK _ _ h) hh
    ·rename_i hw;rw [if_neg hw] at hh;exact hK _ _ hh)
 ·rintro lz az wz ⟨c,f,us,s,hc,hf,hu,hs,h0,hn,rfl,rfl,hV,hD,hk⟩
  have gy:=Mul.at hok hc hf (by omega) h0
  simp only [Mul.one,yK,yL,List.all_eq_true] at gy
  obtain ⟨⟨hr,he⟩,_⟩:=gy
  have hcc:c=M.cs.length:=by omega
  have hfa:f.all id=true:=by
   rw [List.all_eq_true]
   intro b hb
   cases b with
   | true=>rfl
   | false=>have:=List.count_pos_iff.2 hb;omega
  have hss:s=M.al.length:=by omega
  subst hcc hss
  have hf':=qZ hfa
  rw [hf] at hf'
  refine ⟨?_,?_⟩
  ·rw [hr]
   have:(M.nxt M.cs.length f M.al.length).isEmpty=true:=by
    simp only [beq_iff_eq] at he
    rw [he,hfa,hla]
    simp
   rw [List.isEmpty_iff.1 this]
   rfl
  ·rw [hf']
   refine fin us wz hu (fun j hj=>?_) hk
   have:=hV j (by rw [hf',List.getElem?_replicate,if_pos hj])
   rw [if_pos hj,if_pos hj] at this
   exact this
structure Kc (B W:Nat) (ca:Option Addr) (cc:Nat) (w w':World):Prop where
 below:Below B w w'
 con:∀g arr,g<W→Blk w g arr 52→(cc≠0→∀o,ca≠some ⟨g,o,none⟩)→Blk w' g arr 52
theorem Kc.trans {a b c:World} (h:Kc B W ca cc a b) (k:Kc B W ca cc b c):Kc B W ca cc a c:=
 ⟨h.below.trans k.below,fun g arr hg hb ho=>k.con g arr hg (h.con g arr hg hb ho) ho⟩
theorem Kc.of {a b:World} (h:Bw a b) (hB:B≤a.heap.size):Kc B W ca cc a b:=⟨h.mono hB,fun g arr _ hb _=>hb.below h⟩
theorem Kc.mks {S:Nat→Prop} {a b:World} (h:Mks S a b) (hB:∀k,S k→B≤k) (hz:B≤a.heap.size) (hc:∀k arr,k<W→Blk a k arr 52→S k→cc≠0∧∃o,ca=some ⟨k,o,none⟩):Kc B W ca cc a b:=
 ⟨h.below hB hz,fun g arr hg hb ho=>h.blk hb (fun hs=>let ⟨h1,o,h2⟩:=hc g arr hg hb hs;ho h1 o h2)⟩
end
end Go.Proofs.YtngkddhcmfbjnaaGreat
