/-
  Texts in one: KKey, AKey, FindAp, UsedByM, BackA, HasI, WfS, MKey, MacAt, BackM, MachI, MarkP, MarkO, MarkV, OwnP, ARow, Hav, CopyN, AppR, GrK.
-/
import Derived.Test.YtfndhndlkcijoaaGreatTackA
import Derived.Maps.OwnSet
import Derived.Maps.Views
import Derived.DeepKeys4
import Derived.Laws.CopyOwn
import Derived.Deep.RegionLaw
import Derived.Deep.AppendLies
import Derived.ArgAppend
set_option maxRecDepth 100000
set_option maxHeartbeats 16000000
set_option linter.unusedVariables false
set_option linter.unusedSimpArgs false
open Go.Proofs.Tryz
namespace Go.Proofs.YtfndhndlkcijoaaGreat
section
open Go.RowKit Go.Maps
variable {D:DataW Unit} {a:Int} {kl:Lit} {left:Lit→Bool} {b k p:Nat} {ao:Option Addr} {v:Value} {w w':World}
abbrev qE (nm:List UInt8) (k:Int):Value:=.agg #[.string (bs nm),.int .i64 k]
theorem aEz:laidOutB Tryz.prog=true:=by kernel_rfl
theorem aKX:(124:TypeId)<Tryz.prog.types.size:=of_decide_eq_true (by kernel_rfl)
theorem aJ5:(match Tryz.prog.underlying 124 with | some (.array _ _) | some (.struct _)=>true | _=>false)=true:=by kernel_rfl
theorem jU:Keyed Tryz.prog 124:=Keyed.of_law (deep_law_laid aEz (m:=3) (by omega) aKX (by kernel_rfl) aJ5)
theorem aFA:Tryz.prog.keyType 124=true:=by kernel_rfl
theorem aAq:Tryz.prog.cellsOf 124=2:=by kernel_rfl
theorem xD:Tryz.prog.cellsOf 3=1:=by kernel_rfl
theorem wZ:Tryz.prog.cellsOf 9=1:=by kernel_rfl
theorem uJ:∃m,Tryz.prog.types.size+1=m+2:=⟨Tryz.prog.types.size - 1,by have:3≤Tryz.prog.types.size:=of_decide_eq_true (by kernel_rfl);omega⟩
theorem aG5 (n:Nat) (h:(Lit.int .i64 a).wf=true):Tryz.prog.keyLits (n+1) 3 [.int .i64 a]=some [.int .i64 a]:=by
 simp [Program.keyLits,underlying3,h]
theorem aG4 (n:Nat) {s:ByteArray} (h:s.size≤maxLen):Tryz.prog.keyLits (n+1) 9 [.string s]=some [.string s.data.toList]:=by
 simp [Program.keyLits,underlying9,h]
theorem xC {nm:List UInt8} {k:Int} (hn:nm.length≤9223372036854775807) (hk:(Lit.int .i64 k).wf=true):∃kl,keyOf Tryz.prog 124 (qE nm k)=some kl:=by
 obtain ⟨m,hm⟩:=uJ;have hs:(bs nm).size≤maxLen:=by rw [cK];exact hn
 have h:Tryz.prog.keyLits (m+2) 124 [.string (bs nm),.int .i64 k]=some [.string (bs nm).data.toList,.int .i64 k]:=by have h:=underlying124;unfold Program.keyLits;simp [h,aAq,xD,wZ,aG5 m hk,aG4 m hs]
 have hu:=underlying124;have hk:keyOf Tryz.prog 124 (qE nm k)=if Tryz.prog.keyType 124&&(qE nm k).formed Tryz.prog 124 then (Tryz.prog.keyLits (Tryz.prog.types.size+1) 124 (qE nm k).cells.toList).map (fun ls=>.string (keyBytes ls)) else none:=by unfold keyOf;rw [hu]
 rw [hk,if_pos (by simp [aFA,Value.formed,hu,aAq]),hm,show (qE nm k).cells.toList=[.string (bs nm),.int .i64 k] from rfl,h];exact ⟨_,rfl⟩
theorem aDW (s:ByteArray):bs s.data.toList=s:=by simp [bs]
structure AV where
 id:Int
 queue:List UInt8
 ao:Option Addr
 len:Nat
 cap:Nat
abbrev avv (v:AV):Value:=.agg #[.int .i64 v.id,.string (bs v.queue),.slice v.ao v.len v.cap]
def aFa (w:World) (b p:Nat) (v:AV):Prop:=
 w.cell? ⟨b,p,none⟩=some (.int .i64 v.id)∧w.cell? ⟨b,p+1,none⟩=some (.string (bs v.queue))∧w.cell? ⟨b,p+2,none⟩=some (.slice v.ao v.len v.cap)
theorem aFa.lt {v:AV} (h:aFa w b p v):b<w.heap.size:=yG h.1
theorem aFa.below {v:AV} (h:aFa w b p v) (hb:Bw w w'):aFa w' b p v:=
 ⟨(hb.cell h.lt).trans h.1,(hb.cell h.lt).trans h.2.1,(hb.cell h.lt).trans h.2.2⟩
def gG (w:World) (ao:Option Addr) (len:Nat) (l:List AV):Prop:=
 len=l.length∧(len=0∨∃b off,ao=some ⟨b,off,none⟩∧∀i (h:i<l.length),aFa w b (off+i*3) l[i])
theorem gG.below {len:Nat} {l:List AV} (h:gG w ao len l) (hb:Bw w w'):gG w' ao len l:=by
 obtain ⟨h1,h2⟩:=h;refine ⟨h1,?_⟩;rcases h2 with h2 | ⟨b,off,h3,h4⟩
 ·exact .inl h2
 ·exact .inr ⟨b,off,h3,fun i h=>(h4 i h).below hb⟩
theorem gG.at {len:Nat} {l:List AV} (h:gG w ao len l) {i:Nat} (hi:i<len):∃b off,ao=some ⟨b,off,none⟩∧∀(h:i<l.length),aFa w b (off+i*3) l[i]:=by
 obtain ⟨h1,h2⟩:=h;rcases h2 with h2 | ⟨b,off,h3,h4⟩
 ·omega
 ·exact ⟨b,off,h3,fun hi=>h4 i hi⟩
def kD (w:World) (hs:List AV) (l:List dA):Prop:=
 hs.length=l.length∧∀i (h:i<hs.length) (h':i<l.length),hs[i].id=l[i].id∧hs[i].queue=l[i].queue∧bE w hs[i].ao hs[i].len l[i].asks∧hs[i].len≤hs[i].cap
theorem iG.heads {len:Nat} {l:List dA} (h:iG w ao len l):∃hs,gG w ao len hs∧kD w hs l:=by
 obtain ⟨h1,h2⟩:=h;by_cases h0:len=0
 ·have hl:l=[]:=List.length_eq_zero_iff.1 (by omega);subst hl;exact ⟨[],⟨by simpa using h0,.inl h0⟩,rfl,fun i h=>by simp at h⟩
 ·rcases h2 with h2 | ⟨b,off,h3,h4⟩
  ·exact absurd h2 h0
  ·have inh:Inhabited AV:=⟨⟨0,[],none,0,0⟩⟩;obtain ⟨F,hF⟩:=Go.Deep.choose_lt (α:=AV) (n:=l.length) (p:=fun i v=>∀hi:i<l.length,aFa w b (off+i*3) v∧v.id=l[i].id∧v.queue=l[i].queue∧bE w v.ao v.len l[i].asks∧v.len≤v.cap) (fun i hi=>by
    obtain ⟨x,y,z,a,c,d,e,f⟩:=h4 i hi;exact ⟨⟨l[i].id,l[i].queue,x,y,z⟩,fun _=>⟨⟨a,c,d⟩,rfl,rfl,e,f⟩⟩)
   refine ⟨(List.range l.length).map F,⟨by simpa using h1,.inr ⟨b,off,h3,fun i hi=>?_⟩⟩,by simp,fun i hi hi'=>?_⟩
   ·(have hi':i<l.length:=by simpa using hi);simpa using (hF i hi' hi').1
   ·simpa using (hF i hi' hi').2
def xW:Option Addr→DataW Unit
 | none=>.agg []
 | some ⟨b,o,none⟩=>.agg [.lit (.int .i64 b),.lit (.int .i64 o)]
 | some ⟨b,o,some k⟩=>.agg [.lit (.int .i64 b),.lit (.int .i64 o),.lit (.int .i64 k)]
theorem aHQ {a b:Option Addr} (h:xW a=xW b):a=b:=by
 match a,b with
 | none,none=>rfl
 | none,some ⟨x,y,none⟩=>simp [xW] at h
 | none,some ⟨x,y,some z⟩=>simp [xW] at h
 | some ⟨x,y,none⟩,none=>simp [xW] at h
 | some ⟨x,y,some z⟩,none=>simp [xW] at h
 | some ⟨x,y,none⟩,some ⟨x',y',none⟩=>simp [xW] at h;obtain ⟨h1,h2⟩:=h;(have e1:x=x':=(by omega));(have e2:y=y':=(by omega));subst e1 e2;rfl
 | some ⟨x,y,none⟩,some ⟨x',y',some z'⟩=>simp [xW] at h
 | some ⟨x,y,some z⟩,some ⟨x',y',none⟩=>simp [xW] at h
 | some ⟨x,y,some z⟩,some ⟨x',y',some z'⟩=>simp [xW] at h;obtain ⟨h1,h2,h3⟩:=h;(have e1:x=x':=(by omega));(have e2:y=y':=(by omega));(have e3:z=z':=(by omega));subst e1 e2 e3;rfl
def ad (v:AV):DataW Unit:=.agg [.lit (.int .i64 v.id),.lit (.string v.queue),xW v.ao,.lit (.int .i64 v.len),.lit (.int .i64 v.cap)]
theorem aHR {a b:AV} (h:ad a=ad b):a=b:=by
 obtain ⟨a1,a2,a3,a4,a5⟩:=a;obtain ⟨b1,b2,b3,b4,b5⟩:=b;simp [ad] at h;obtain ⟨h1,h2,h3,h4,h5⟩:=h;have e3:=aHQ h3;have e4:a4=b4:=by omega
 have e5:a5=b5:=by omega
 subst h1 h2 e3 e4 e5;rfl
def fJ:Value→Option (DataW Unit×List MemPlace)
 | .agg cs=>match cs.toList with
  | [.int .i64 x,.string s,.slice ao len cap]=>some (ad ⟨x,s.data.toList,ao,len,cap⟩,[])
  | _=>none
 | _=>none
theorem l7 (v:AV):fJ (avv v)=some (ad v,[]):=by
 obtain ⟨x,qu,ao,len,cap⟩:=v;simp [fJ,bs]
theorem mW {y:DataW Unit×List MemPlace} (h:fJ v=some y):∃c,v=avv c:=by
 unfold fJ at h;split at h
 ·rename_i cs;split at h
  ·rename_i x s ao len cap e;(have e2:cs=#[.int .i64 x,.string s,.slice ao len cap]:=by cases cs;simpa using e);exact ⟨⟨x,s.data.toList,ao,len,cap⟩,by rw [e2];simp [avv,aDW]⟩
  ·cases h
 ·cases h
theorem aD3 {m:AV} {ps:List MemPlace} (h:fJ v=some (ad m,ps)):v=avv m:=by
 obtain ⟨c,rfl⟩:=mW h;rw [l7] at h;have:=aHR (congrArg Prod.fst (Option.some.inj h));rw [show c=m from this]
def iV (id:Int) (l:List AV):Option AV:=l.find? (fun v=>decide (v.id=id))
theorem aIS {id:Int} {l:List AV} {v:AV} (h:iV id l=some v):v.id=id:=by simpa using List.find?_some h
def fT (l:List AV) (keep:Lit→AV→Bool) (D:DataW Unit):Prop:=
 (∀kl,Maps.has D kl=true→∃v,iV v.id l=some v∧keyOf Tryz.prog 124 (qE [] v.id)=some kl∧∀zd,D.atKey kl zd=ad v)∧
 (∀v kl,iV v.id l=some v→keyOf Tryz.prog 124 (qE [] v.id)=some kl→Maps.has D kl=keep kl v)
abbrev aIb:Lit→AV→Bool:=fun _ _=>true
theorem aBy:fT [] aIb (.map []):=⟨fun kl h=>by simp [Maps.has] at h,fun v kl h=>by simp [iV] at h⟩
theorem fT.put {l:List AV} (h:fT l aIb D) (hD:IsMap D) {m:AV} (hk:keyOf Tryz.prog 124 (qE [] m.id)=some kl):fT (m::l) aIb (D.put kl (ad m)):=by
 have hne:∀(kl':Lit) (v:AV),kl'≠kl→keyOf Tryz.prog 124 (qE [] v.id)=some kl'→¬m.id=v.id:=fun kl' v e hv e'=>e (by rw [←e'] at hv;rw [hk] at hv;exact (Option.some.inj hv).symm)
 refine ⟨fun kl' hh=>?_,fun v kl' h1 h2=>?_⟩
 ·by_cases e:kl'=kl
  ·subst e;exact ⟨m,by simp [iV],hk,fun zd=>atKey_put_same hD (jU.key hk) _ _⟩
  ·rw [has_put_other e] at hh;obtain ⟨v,h1,h2,h3⟩:=h.1 kl' hh;exact ⟨v,by have:=hne kl' v e h2;simpa [iV,this] using h1,h2,fun zd=>by rw [atKey_put_other e];exact h3 zd⟩
 ·by_cases e:kl'=kl
  ·subst e;exact has_put_same hD (jU.key hk) _
  ·rw [has_put_other e];exact h.2 v kl' (by have:=hne kl' v e h2;simpa [iV,this] using h1) h2
theorem vL {b:Int} (h1:keyOf Tryz.prog 124 (qE [] a)=some kl) (h2:keyOf Tryz.prog 124 (qE [] b)=some kl):a=b:=by
 have:=jU.inj h1 h2;simpa [qE] using this
theorem fT.look {l:List AV} {keep:Lit→AV→Bool} (h:fT l keep D) {id:Int} (hk:keyOf Tryz.prog 124 (qE [] id)=some kl) :
  (iV id l=none→Maps.has D kl=false)∧∀v,iV id l=some v→Maps.has D kl=keep kl v∧(Maps.has D kl=true→∀zd,D.atKey kl zd=ad v):=by
 refine ⟨fun hf=>?_,fun v hf=>?_⟩
 ·cases hh:Maps.has D kl with
  | false=>rfl
  | true=>obtain ⟨v,h1,h2,_⟩:=h.1 kl hh;rw [←vL hk h2] at h1;rw [hf] at h1;cases h1
 ·have hv:=aIS hf;rw [←hv] at hf hk;refine ⟨h.2 v kl hf hk,fun hh=>?_⟩;obtain ⟨u,h1,h2,h3⟩:=h.1 kl hh;have e:=vL hk h2;rw [←e,hf] at h1;cases h1;exact h3
theorem fT.strike {l:List AV} {keep:AV→Bool} (h:fT l (fun kl v=>left kl||keep v) D) {v:AV} (hf:iV v.id l=some v) (hk:keyOf Tryz.prog 124 (qE [] v.id)=some kl) (hn:keep v=false) :
  fT l (fun z u=>(left z&&!z.sameKey kl)||keep u) (D.del kl):=by
 refine ⟨fun kl' hh=>?_,fun u kl' h1 h2=>?_⟩
 ·by_cases e:kl'=kl
  ·subst e;rw [has_del_same] at hh;cases hh
  ·rw [has_del_other e] at hh;obtain ⟨u,h1,h2,h3⟩:=h.1 kl' hh;exact ⟨u,h1,h2,fun zd=>by rw [atKey_del_other e];exact h3 zd⟩
 ·by_cases e:kl'=kl
  ·subst e;have e2:=vL hk h2;rw [←e2,hf] at h1;cases h1;rw [has_del_same];simp [hn,WideAt.sameKey_self (jU.key hk)]
  ·rw [has_del_other e,h.2 u kl' h1 h2];simp [sameKey_ne e]
theorem fT.stay {l:List AV} {keep:AV→Bool} (h:fT l (fun kl v=>left kl||keep v) D) {v:AV} (hf:iV v.id l=some v) (hk:keyOf Tryz.prog 124 (qE [] v.id)=some kl) (hn:keep v=true) :
  fT l (fun z u=>(left z&&!z.sameKey kl)||keep u) D:=by
 refine ⟨h.1,fun u kl' h1 h2=>?_⟩;by_cases e:kl'=kl
 ·subst e;have e2:=vL hk h2;rw [←e2,hf] at h1;cases h1;rw [h.2 v kl' hf hk];simp [hn]
 ·rw [h.2 u kl' h1 h2];simp [sameKey_ne e]
def aJr (o:Option AV) (f:AV→Bool):Bool:=match o with
 | none=>false
 | some v=>f v
theorem aJm (w:World):(zeroValue 56).run Tryz.prog w=.ok (avv ⟨0,[],none,0,0⟩) w:=by kernel_rfl
theorem aKQ {bm n:Nat} {l:List AV} {keep:Lit→AV→Bool} (Hq:w.ownsMap Tryz.prog 124 fJ bm n D) (hk:fT l keep D) {id:Int} (gy:keyOf Tryz.prog 124 (qE [] id)=some kl) :
  ∃v:AV,(Instr.lookup 121 (.map (some bm)) (qE [] id) true).run Tryz.prog w=.ok (.tuple #[avv v,.bool (aJr (iV id l) (keep kl))]) w∧(∀u,iV id l=some u→keep kl u=true→v=u)∧(iV id l=none→v=⟨0,[],none,0,0⟩):=by
 obtain ⟨v,ps,gq,hv⟩:=Hq.look_ok jU underlying121 (aJm w) (l7 ⟨0,[],none,0,0⟩) gy;obtain ⟨h1,h2⟩:=hk.look gy;cases hf:iV id l with
 | none=>have hh:=h1 hf;rw [atKey_of_not_has hh] at hv;rw [aD3 hv,hh] at gq;exact ⟨_,gq,(fun u e=>by cases e),fun _=>rfl⟩
 | some u=>obtain ⟨ha,hb⟩:=h2 u hf;obtain ⟨c,rfl⟩:=mW hv;rw [ha] at gq;refine ⟨c,gq,fun u' e hu=>?_,(fun e=>by cases e)⟩;cases e;rw [hb (ha.trans hu)] at hv;rw [l7] at hv;exact aHR (congrArg Prod.fst (Option.some.inj hv))
def bB (id:Int) (l:List dA):Option dA:=l.find? (fun a=>decide (a.id=id))
def nW (id:Int):List dA→Nat→Int
 | [],_=>-1
 | q::t,k=>if q.id=id then k else nW id t (k+1)
def aI9 (l:List dA) (id:Int):Int:=nW id l 0
theorem aD4 {id:Int} {l:List dA} (h:k<l.length):nW id (l.drop k) k=if l[k].id=id then (k:Int) else nW id (l.drop (k+1)) (k+1):=by
 rw [List.drop_eq_getElem_cons h,nW]
theorem aF0 {id:Int} {l:List dA} (h:l.length≤k):nW id (l.drop k) k = -1:=by
 rw [List.drop_of_length_le h];rfl
theorem xV (id:Int):∀(l:List dA) (k:Nat),(bB id l=none∧nW id l k = -1)∨(∃(j:Nat) (h:j<l.length),bB id l=some l[j]∧nW id l k=((k+j:Nat):Int))
 | [],k=>.inl ⟨rfl,rfl⟩
 | q::t,k=>by
  by_cases h:q.id=id
  ·(right);exact ⟨0,by simp,by simp [bB,h],by rw [nW,if_pos h];simp⟩
  ·(have hf:bB id (q::t)=bB id t:=by simp [bB,h]);rw [hf,nW,if_neg h];rcases xV id t (k+1) with ⟨a,b⟩ | ⟨j,hj,a,b⟩
   ·exact .inl ⟨a,b⟩
   ·exact .inr ⟨j+1,by simpa using hj,by simpa using a,by rw [b];congr 1;omega⟩
theorem aC2 (id:Int) (l:List dA):(bB id l=none∧aI9 l id = -1)∨(∃(j:Nat) (h:j<l.length),bB id l=some l[j]∧aI9 l id=(j:Int)):=by
 rcases xV id l 0 with h | ⟨j,h,a,b⟩
 ·exact .inl h
 ·exact .inr ⟨j,h,a,by rw [aI9,b];congr 1;omega⟩
theorem aAR {hs:List AV} {l:List dA} {id:Int}:hs.length=l.length→(∀i (h:i<hs.length) (h':i<l.length),hs[i].id=l[i].id∧hs[i].queue=l[i].queue)→(iV id hs).map AV.queue=(bB id l).map dA.queue:=by
 induction hs generalizing l with
 | nil=>intro h _;have:l=[]:=List.length_eq_zero_iff.1 h.symm;subst this;rfl
 | cons v t ih=>
  intro h1 h2;cases l with
  | nil=>simp at h1
  | cons a r=>
   have h0:=h2 0 (by simp) (by simp);simp only [List.getElem_cons_zero] at h0;by_cases e:a.id=id
   ·have e':v.id=id:=h0.1.trans e;simp [iV,bB,e,e',h0.2]
   ·(have e':¬v.id=id:=fun x=>e (h0.1.symm.trans x));have:=ih (l:=r) (by simpa using h1) (fun i a b=>by have:=h2 (i+1) (by simpa using a) (by simpa using b);simpa using this);simpa [iV,bB,e,e'] using this
theorem aAP (x:Sls) (s:St) (id:Int) (w:World) (h:iG w x.aa x.al s.apps) (hl:x.al≤1048576) :
  cP 67 #[sv x s,.int .i64 id] w fun e w'=>e=.returned (.int .i64 (aI9 s.apps id))∧Bw w w':=by
 have HR:=aA h;have HL:=aA h.1;have HB0:=aA (yA (yH _ w) (.cells (svc x s) 29));have P0:=aA (yD w (svc x s) 29);clear h;obtain ⟨qa,ql,qc,aa,al,ac,ma,ml,mc,ca,cl,cc⟩:=x;obtain ⟨qs,cv,ez,ny,sj,aj,ms,cs⟩:=s;simp only at hl HR HL ⊢;go_enter func67,ntmps67;go_wp2;go_loopw [5] (fun i wr=>∃(k:Nat),k≤al∧i=.int .i64 k∧Hid (aI9 aj id=nW id (aj.drop k) k)∧Hid (Blk wr w.heap.size (svc ⟨qa,ql,qc,aa,al,ac,ma,ml,mc,ca,cl,cc⟩ ⟨qs,cv,ez,ny,sj,aj,ms,cs⟩) 29)∧Hid (Bw w wr)) (fun i _=>al - (intOf i).toNat);case atStart=>exact ⟨0,Nat.zero_le _,rfl,aA (by simp [aI9]),P0,HB0⟩
 case round=>
  obtain ⟨k,hk,rfl,HQ,HP,HB⟩:=hrel;have p5:=(uH HP).at 5;simp at p5;by_cases hlt:k<al
  ·obtain ⟨b,off,rfl,hq⟩:=((uH HR).below (uH HB)).at hlt;(have hkl:k<aj.length:=by have:=uH HL;omega);have hst:=aA (aD4 (id:=id) hkl);obtain ⟨xo,xl,xc,Vq⟩:=hq hkl;have c0:=Vq.1;clear hq Vq;obtain ⟨s,hs⟩:∃s,aj[k].id=s:=⟨_,rfl⟩;rw [hs] at c0 hst;clear hs hkl;by_cases he:s=id
   ·have HE:=aA he;(have hbe:(s==id)=true:=by simp [he]);clear he;go_wp2;go_ret;exact ⟨jA (by rw [uH HQ,uH hst,if_pos (uH HE)]),uH HB⟩
   ·have HE:=aA he;(have hbe:(s==id)=false:=by simp [he]);clear he;go_wp2;go_roundw;(case rel=>exact ⟨k+1,by omega,by go_num,aA (by rw [uH HQ,uH hst,if_neg (uH HE)]),HP,HB⟩);case measure=>simp [intOf];omega
  ·go_wp2;go_ret;exact ⟨jA (by rw [uH HQ,aF0 (by have:=uH HL;omega)]),uH HB⟩
def byQ (s:St) (nm:List UInt8) (q:Con):Bool:=match bB q.app s.apps with
 | none=>false
 | some a=>(path s.qs a.queue).any (fun x=>decide (x=nm))
def aJ (s:St) (nm:List UInt8):Int×Int:=((iC (aO (byQ s nm) s.cs)).1,(iC (aO (byQ s nm) s.cs)).2.1)
theorem aEw (v:Value) (ps:List (List UInt8)) (nm:List UInt8) (B:Nat) (w:World) (h:bZ B w v ps) (hl:ps.length≤1048576) :
  cP 73 #[v,.string (bs nm)] w fun e w'=>e=.returned (.bool (ps.any (fun x=>decide (x=nm))))∧w=w':=by
 obtain ⟨o,ho⟩:∃o,ps.any (fun x=>decide (x=nm))=o:=⟨_,rfl⟩;have HO:=aA (show (ps.drop 0).any (fun x=>decide (x=nm))=o from ho);rw [ho];clear ho;obtain ⟨ao,cap,rfl,HC⟩:∃ao cap,v=.slice ao ps.length cap∧Hid (∀j (hj:j<ps.length),∃g,ao=some ⟨g,0,none⟩∧w.cell? ⟨g,j,none⟩=some (.string (bs ps[j]))):=by
  by_cases hp:ps=[]
  ·subst hp;obtain ⟨a,cap,rfl⟩:=kF h;exact ⟨a,cap,rfl,aA (fun j hj=>by simp at hj)⟩
  ·obtain ⟨g,cap,rfl,hs,_⟩:=kE h hp;exact ⟨_,cap,rfl,aA (fun j hj=>⟨g,rfl,hs.text hj⟩)⟩
 clear h;obtain ⟨n,hn⟩:∃n,ps.length=n:=⟨_,rfl⟩;rw [hn] at hl ⊢;have HN:=aA hn;clear hn;go_enter func73,ntmps73;go_wp2;go_loopw [5] (fun i wr=>∃(k:Nat),k≤n∧i=.int .i64 k∧Hid ((ps.drop k).any (fun x=>decide (x=nm))=o)∧wr=w) (fun i _=>n - (intOf i).toNat);case atStart=>exact ⟨0,Nat.zero_le _,rfl,HO,rfl⟩
 case round=>
  obtain ⟨k,hk,rfl,HQ,rfl⟩:=hrel;by_cases hlt:k<n
  ·(have hkl:k<ps.length:=by have:=uH HN;omega);obtain ⟨g,rfl,c0⟩:=uH HC k hkl;(have hst:(ps.drop k).any (fun x=>decide (x=nm))=(decide (ps[k]=nm)||(ps.drop (k+1)).any (fun x=>decide (x=nm))):=by rw [List.drop_eq_getElem_cons hkl,List.any_cons]);rw [uH HQ] at hst;obtain ⟨s,hs⟩:∃s,ps[k]=s:=⟨_,rfl⟩;rw [hs] at c0 hst;have hbe:=l6 s nm;clear hs hkl;by_cases he:s=nm
   ·rw [decide_eq_true he] at hbe hst;(have hot:o=true:=by rw [hst];rfl);subst hot;clear he hst;go_wp2;go_ret;exact ⟨rfl,rfl⟩
   ·rw [decide_eq_false he] at hbe hst;have ZK:=aA (show (ps.drop (k+1)).any (fun x=>decide (x=nm))=o by simpa using hst.symm);clear he hst;go_wp2;go_roundw;(case rel=>exact ⟨k+1,by omega,by go_num,ZK,trivial⟩);case measure=>simp [intOf];omega
  ·(have hof:o=false:=by rw [←uH HQ,List.drop_of_length_le (by have:=uH HN;omega)];rfl);subst hof;go_wp2;go_ret;exact ⟨rfl,rfl⟩
end
section
open Go.RowKit Go.Shelf
attribute [local go_sem] Oper.semAt_some
abbrev NAV:={ m:AV // (Lit.int .i64 m.id).wf=true }
theorem gG.kpa {W W':World} {ao:Option Addr} {len:Nat} {l:List AV} (h:gG W ao len l) (k:KpA W W'):gG W' ao len l:=by
 obtain ⟨h1,h2⟩:=h;refine ⟨h1,?_⟩;rcases h2 with h2 | ⟨b,off,h3,h4⟩
 ·exact .inl h2
 ·exact .inr ⟨b,off,h3,fun i hi=>let ⟨a,b,c⟩:=h4 i hi;⟨k.cell a,k.cell b,k.cell c⟩⟩
theorem aFR (n l Bs len cap:Nat) (ao:Option Addr) (ms:List AV) (J Jx:List (Int×NAV)→World→Prop)
  (hY:∀pre x W1,J pre W1→pre.length<ms.length→YieldAt Fence.wide (n - 1) Tryz.prog l #[.int .i64 x.1,avv x.2.1] W1 fun e W'=>
   (e=.returned (.bool true)∧J (pre++[x]) W'∧KpA W1 W')∨(e=.returned (.bool false)∧Jx (pre++[x]) W'))
  (W:World) (QH:W.cell? ⟨Bs,0,none⟩=some (.slice ao len cap)) (hg:gG W ao len ms) (hl:len≤1048576) (hN:∀m ∈ ms,(Lit.int .i64 m.id).wf=true) (h0:J [] W) :
  CallsIn Fence.wide n Tryz.prog 180 #[.func (.yield l) #[] #[],.pointer (some ⟨Bs,0,none⟩)] W fun e W'=>(∃v,e=.returned v)∧
   ((∃ys:List (Int×NAV),Hid (ys.map (fun x:Int×NAV=>x.2.1)=ms.reverse)∧J ys W')∨(∃pre,Jx pre W')):=by
 have HY:=aA hY;have DV:=aA QH;have HG:=aA hg;have ZX:=aA hg.1;have H0:=aA h0;have NQ:=aA hN;clear hY hg h0 hN;refine callsIn_of_wp func180 rfl trivial ?_ rfl;simp only [ntmps180,List.size_toArray,List.length_cons,List.length_nil,Nat.reduceAdd,Nat.reduceSub,Array.replicate_succ,Array.replicate_zero,List.push_toArray,List.append_toArray,List.nil_append,List.cons_append]
 gi_wp2
 clear QH
 gi_loopw [3] (fun i wr=>∃(k:Nat) (pre:List (Int×NAV)),k≤len∧i=.int .i64 ((k:Int) - 1)∧Hid (pre.length+k=ms.length)∧Hid (pre.map (fun x:Int×NAV=>x.2.1)=(ms.drop k).reverse)∧Hid (J pre wr)∧Hid (wr.cell? ⟨Bs,0,none⟩=some (.slice ao len cap))∧Hid (gG wr ao len ms)) (fun i _=>(intOf i+1).toNat)
 case atStart=>exact ⟨len,[],yJ _,by go_num,aA (by have:=uH ZX;simp;omega),aA (by rw [List.drop_of_length_le (by have:=uH ZX;omega)];rfl),H0,DV,HG⟩
 case round=>
  obtain ⟨k,pre,hk,rfl,HL,HM,HJ,HB,YB⟩:=hrel;cases k with
  | zero=>
   gi_wp2
   (go_end0);exact ⟨⟨_,rfl⟩,.inl ⟨pre,aA (by rw [uH HM];rfl),uH HJ⟩⟩
  | succ j=>
   (have hj:j<len:=by omega);obtain ⟨b,off,rfl,hq⟩:=(uH YB).at hj;(have hjm:j<ms.length:=by have:=uH ZX;omega);obtain ⟨c0,c1,c2⟩:=hq hjm;have KL:=uH HB;have hel:=uH NQ ms[j] (yM _);obtain ⟨fn,tmps,assign,body,hy,hR⟩:=uH HY pre ((j:Int),⟨ms[j],hel⟩) wr (uH HJ) (by have:=uH HL;omega);have HRR:=aA hR;have XW:=aA (show (pre++[((j:Int),(⟨ms[j],hel⟩:NAV))]).map (fun x:Int×NAV=>x.2.1)=(ms.drop j).reverse by rw [List.map_append,uH HM,List.drop_eq_getElem_cons hjm,List.reverse_cons];rfl);(have hij:((j+1:Nat):Int) - 1=(j:Int):=by omega);obtain ⟨y,Kk⟩:∃y:NAV,(⟨ms[j],hel⟩:NAV)=y:=⟨_,rfl⟩;(have hy1:ms[j]=y.1:=by rw [←Kk]);rw [Kk] at hy HRR XW;rw [hy1] at c0 c1 c2;obtain ⟨⟨id,qu,zo,zl,zc⟩,hyn⟩:=y;simp only at hy c0 c1 c2;rw [hij];(have j0:(0:Int)≤j:=by omega);(have j1:(j:Int)<len:=by omega);clear hR Kk hy1 hij HM hq hjm hel
   gi_wp2
   refine ⟨(by intro e;cases e),?_⟩;refine (uH HRR).mono ?_;rintro e W3 (⟨rfl,hJ3,hk3⟩ | ⟨rfl,ZW⟩)
   ·have HB3:=aA (hk3.cell (uH HB));have VA:=aA ((uH YB).kpa hk3);have Yw:=aA hJ3;clear hk3 hJ3 KL hy HRR c0 c1 c2
    gi_wp2
    go_roundw;(case rel=>exact ⟨j,pre++[((j:Int),⟨⟨id,qu,zo,zl,zc⟩,hyn⟩)],by omega,by go_num,aA (by have:=uH HL;simp;omega),XW,Yw,HB3,VA⟩);case measure=>simp [intOf]
   ·gi_wp2
    refine bodyPost_ret (results_none rfl _ _ _) rfl ?_;exact ⟨⟨_,rfl⟩,.inr ⟨_,ZW⟩⟩
theorem aDZ (n Bs len cap:Nat) (ao:Option Addr) (ms:List AV) (w:World) (QH:w.cell? ⟨Bs,0,none⟩=some (.slice ao len cap)) (Hz:gG w ao len ms) (hl:len≤1048576) (hN:∀m ∈ ms,(Lit.int .i64 m.id).wf=true) :
  SeqStopsK Fence.wide n Tryz.prog 180 #[.pointer (some ⟨Bs,0,none⟩)] (fun x:Int×NAV=>#[.int .i64 x.1,avv x.2.1]) KpA (fun ys=>Hid (ys.map (fun x:Int×NAV=>x.2.1)=ms.reverse)) (fun _=>True) ms.length w:=by
 intro l J Jx W hW hJ hJx hY h0;refine (aFR n l Bs len cap ao ms J Jx hY W ((hW.cell (yG QH)).trans QH) (Hz.below hW) hl hN h0).mono ?_;rintro e W' ⟨he,⟨ys,h1,h2⟩ | ⟨pre,h2⟩⟩
 ·exact ⟨he,.inl ⟨ys,h1,h2⟩⟩
 ·exact ⟨he,.inr ⟨pre,trivial,h2⟩⟩
theorem aHH (v:Value) (w:World) (hv:v.oneCell'=true) :
  cP 132 #[v] w fun e w'=>e=.returned (.func (.func 180) #[] #[.pointer (some ⟨w.heap.size,0,none⟩)])∧w.alloc (.cells #[v] 25)=w':=by
 have ZE:∀(fn:Fn) (first cap:Array Value) (w:World),(Instr.makeFunc fn first cap).run Tryz.prog w=.ok (.func fn first cap) w:=fun _ _ _ _=>rfl
 go_enter func132,ntmps132
 go_wp2;go_ret;exact ⟨rfl,rfl⟩
theorem aFY (m:AV) (w:World) :
  cP 133 #[avv m] w fun e w'=>e=.returned (.agg #[.string (bs []),.int .i64 m.id])∧Bw w w':=by
 obtain ⟨id,qu,zo,zl,zc⟩:=m;go_enter func133,ntmps133;go_wp2;refine bodyPost_ret (v:=.agg #[.string (bs []),.int .i64 id]) (by simp [results,results133,go_sem];rfl) rfl ⟨rfl,?_⟩;repeat (first | exact yH _ _ | refine yA ?_ _ | refine Below.drew ?_ | refine yC ?_ _ _ _ (by omega))
end
section
open Go.RowKit Go.Maps
variable {D:DataW Unit} {l:List Mac} {nm:List UInt8} {kl:Lit} {m:Mac} {k n:Nat} {w:World}
def aGj (hs:List AV) (keep:AV→Bool) (q:Con):Bool:=aJr (iV q.app hs) keep
theorem aGR (q:Con) (w:World) :
  cP 152 #[conv q] w fun e w'=>e=.returned (.agg #[.string (bs []),.int .i64 q.app])∧Bw w w':=by
 obtain ⟨id,ap,nd,me,cp⟩:=q;go_enter func152,ntmps152;go_wp2;refine bodyPost_ret (v:=.agg #[.string (bs []),.int .i64 ap]) (by simp [results,results152,go_sem];rfl) rfl ⟨rfl,?_⟩;repeat (first | exact yH _ _ | refine yA ?_ _ | refine Below.drew ?_ | refine yC ?_ _ _ _ (by omega))
theorem dM {w':World} {k:TypeId} {R:Value→Option (DataW Unit×List MemPlace)} {b:Nat} (h:w.ownsMap Tryz.prog k R b n D) (hb:Bw w w'):w'.ownsMap Tryz.prog k R b n D:=h.kept (aH (aD w none) hb) (by simp)
theorem aGg (bm n:Nat) (D:DataW Unit) (hs:List AV) (keep:AV→Bool) (q:Con) (w:World) (Hq:w.ownsMap Tryz.prog 124 fJ bm n D) (hk:fT hs (fun _ v=>keep v) D) (hwf:(Lit.int .i64 q.app).wf=true) :
  cP 91 #[.map (some bm),conv q] w fun e w'=>e=.returned (.bool (aGj hs keep q))∧Bw w w':=by
 obtain ⟨kl,gy⟩:=xC (nm:=[]) (k:=q.app) (by decide) hwf;have HL:=aA (fun wx (hb:Bw w wx)=>aKQ (dM Hq hb) hk gy);obtain ⟨o,ho⟩:∃o,aGj hs keep q=o:=⟨_,rfl⟩;have HO:=aA (show aJr (iV q.app hs) keep=o from ho);rw [ho];clear ho gy Hq hk hwf;have CO:=aA (fun wx=>aGR q wx);obtain ⟨id,ap,nd,me,cp⟩:=q;simp only at HL HO;have HB0:=aA (yA (yH _ w) (.cells #[.int .i64 id,.int .i64 ap,.string (bs nd),.int .i64 me,.int .i64 cp] 35));go_enter func91,ntmps91;go_wp2_with fail;refine (uH CO _).mono ?_;rintro e w1 ⟨rfl,hb⟩;have HB1:=aA (yB (uH HB0) hb);obtain ⟨v,hlk,_,_⟩:=uH HL _ (uH HB1);rw [show aJr (iV ap hs) (fun v=>keep v)=o from uH HO] at hlk;obtain ⟨v1,v2,v3,v4,v5⟩:=v;clear hb HB0 HL HO;go_wp2;go_ret;refine ⟨rfl,?_⟩;repeat (first | exact uH HB1 | refine yA ?_ _ | refine Below.drew ?_ | refine yC ?_ _ _ _ (by omega))
def yQ (s:St):Prop:=(∀a ∈ s.apps,(Lit.int .i64 a.id).wf=true)∧(∀c ∈ s.cs,(Lit.int .i64 c.app).wf=true)
theorem aEJ {hs:List AV} {l:List dA} (hh:kD w hs l) (h:∀a ∈ l,(Lit.int .i64 a.id).wf=true):∀v ∈ hs,(Lit.int .i64 v.id).wf=true:=fun v hv=>by
 obtain ⟨i,hi,rfl⟩:=List.mem_iff_getElem.1 hv;have hi':i<l.length:=by rw [←hh.1];exact hi
 rw [(hh.2 i hi hi').1];exact h _ (yM _)
def md (m:Mac):DataW Unit:=.agg [.lit (.string m.name),.lit (.int .i64 m.mem),.lit (.int .i64 m.cpu),.lit (.int .i64 m.seen)]
def jC:Value→Option (DataW Unit×List MemPlace)
 | .agg cs=>match cs.toList with
  | [.string s,.int .i64 x,.int .i64 y,.int .i64 z]=>some (md ⟨s.data.toList,x,y,z⟩,[])
  | _=>none
 | _=>none
theorem sM (m:Mac):jC (aIE m)=some (md m,[]):=by
 obtain ⟨nm,x,y,z⟩:=m;simp [jC,bs]
theorem wR {v:Value} {ps:List MemPlace} (h:jC v=some (md m,ps)):v=aIE m:=by
 unfold jC at h;split at h
 ·rename_i cs;split at h
  ·rename_i s x y z e;(have e2:cs=#[.string s,.int .i64 x,.int .i64 y,.int .i64 z]:=by cases cs;simpa using e);obtain ⟨nm,a,b,c⟩:=m;simp [md] at h;obtain ⟨⟨h1,h2,h3,h4⟩,_⟩:=h;subst h1 h2 h3 h4;rw [e2];simp [aIE,aDW]
  ·cases h
 ·cases h
def bL (nm:List UInt8) (l:List Mac):Option Mac:=l.find? (fun m=>decide (m.name=nm))
def mD (l:List Mac) (D:DataW Unit):Prop:=∀nm kl,keyOf Tryz.prog 124 (qE nm 0)=some kl→Maps.has D kl=(bL nm l).isSome∧∀m,bL nm l=some m→∀zd,D.atKey kl zd=md m
theorem aBx:mD [] (.map []):=fun nm kl _=>⟨by simp [Maps.has,bL],fun m h=>by simp [bL] at h⟩
theorem mD.put (h:mD l D) (hD:IsMap D) (hk:keyOf Tryz.prog 124 (qE m.name 0)=some kl):mD (m::l) (D.put kl (md m)):=fun nm kl' hk'=>by
 by_cases e:kl'=kl
 ·subst e;have:=jU.inj hk hk';simp [qE] at this;have hn:m.name=nm:=by have h1:=congrArg (fun b:ByteArray=>b.data.toList) this;simpa [bs] using h1
  have hf:bL nm (m::l)=some m:=by simp [bL,hn]
  rw [hf];refine ⟨?_,fun m' h' zd=>?_⟩
  ·rw [has_put_same hD (jU.key hk)];rfl
  ·cases h';exact atKey_put_same hD (jU.key hk) _ _
 ·have hn:¬m.name=nm:=fun hn=>e (by subst hn;rw [hk] at hk';exact (Option.some.inj hk').symm)
  have hf:bL nm (m::l)=bL nm l:=by simp [bL,hn]
  rw [hf,has_put_other e];refine ⟨(h nm kl' hk').1,fun m' h' zd=>?_⟩;rw [atKey_put_other e];exact (h nm kl' hk').2 m' h' zd
theorem aJV (w:World):(zeroValue 103).run Tryz.prog w=.ok (aIE ⟨[],0,0,0⟩) w:=by kernel_rfl
theorem aJW {bm:Nat} (Hq:w.ownsMap Tryz.prog 124 jC bm n D) (hk:mD l D) (gy:keyOf Tryz.prog 124 (qE nm 0)=some kl) :
  (Instr.lookup 183 (.map (some bm)) (qE nm 0) true).run Tryz.prog w=.ok (.tuple #[aIE ((bL nm l).getD ⟨[],0,0,0⟩),.bool (bL nm l).isSome]) w:=by
 obtain ⟨v,ps,gq,hv⟩:=Hq.look_ok jU underlying183 (aJV w) (sM ⟨[],0,0,0⟩) gy;obtain ⟨h1,h2⟩:=hk nm kl gy;rw [gq,h1];cases hf:bL nm l with
 | none=>rw [hf] at h1;rw [atKey_of_not_has h1] at hv;rw [wR hv];rfl
 | some m=>rw [h2 m hf] at hv;rw [wR hv];rfl
def kL (nm:List UInt8):List Mac→Nat→Int
 | [],_=>-1
 | q::t,k=>if q.name=nm then k else kL nm t (k+1)
def zG (l:List Mac) (nm:List UInt8):Int:=kL nm l 0
theorem aBm (h:k<l.length):kL nm (l.drop k) k=if l[k].name=nm then (k:Int) else kL nm (l.drop (k+1)) (k+1):=by
 rw [List.drop_eq_getElem_cons h,kL]
theorem aCy (h:l.length≤k):kL nm (l.drop k) k = -1:=by
 rw [List.drop_of_length_le h];rfl
theorem uE (nm:List UInt8):∀(l:List Mac) (k:Nat),(bL nm l=none∧kL nm l k = -1)∨(∃(j:Nat) (h:j<l.length),bL nm l=some l[j]∧kL nm l k=((k+j:Nat):Int))
 | [],k=>.inl ⟨rfl,rfl⟩
 | q::t,k=>by
  by_cases h:q.name=nm
  ·(right);exact ⟨0,by simp,by simp [bL,h],by rw [kL,if_pos h];simp⟩
  ·(have hf:bL nm (q::t)=bL nm t:=by simp [bL,h]);rw [hf,kL,if_neg h];rcases uE nm t (k+1) with ⟨a,b⟩ | ⟨j,hj,a,b⟩
   ·exact .inl ⟨a,b⟩
   ·exact .inr ⟨j+1,by simpa using hj,by simpa using a,by rw [b];congr 1;omega⟩
theorem sN (nm:List UInt8) (l:List Mac):(bL nm l=none∧zG l nm = -1)∨(∃(j:Nat) (h:j<l.length),bL nm l=some l[j]∧zG l nm=(j:Int)):=by
 rcases uE nm l 0 with h | ⟨j,h,a,b⟩
 ·exact .inl h
 ·exact .inr ⟨j,h,a,by rw [zG,b];congr 1;omega⟩
theorem lF (x:Sls) (s:St) (nm:List UInt8) (w:World) (h:cB w x.ma x.ml s.ms) (hl:x.ml≤1048576) :
  cP 68 #[sv x s,.string (bs nm)] w fun e w'=>e=.returned (.int .i64 (zG s.ms nm))∧Bw w w':=by
 have HR:=aA h;have HL:=aA h.1;have HB0:=aA (yA (yH _ w) (.cells (svc x s) 29));have P0:=aA (yD w (svc x s) 29);clear h;obtain ⟨qa,ql,qc,aa,al,ac,ma,ml,mc,ca,cl,cc⟩:=x;obtain ⟨qs,cv,ez,ny,sj,aj,ms,cs⟩:=s;simp only at hl HR HL ⊢;go_enter func68,ntmps68;go_wp2;go_loopw [5] (fun i wr=>∃(k:Nat),k≤ml∧i=.int .i64 k∧Hid (zG ms nm=kL nm (ms.drop k) k)∧Hid (Blk wr w.heap.size (svc ⟨qa,ql,qc,aa,al,ac,ma,ml,mc,ca,cl,cc⟩ ⟨qs,cv,ez,ny,sj,aj,ms,cs⟩) 29)∧Hid (Bw w wr)) (fun i _=>ml - (intOf i).toNat);case atStart=>exact ⟨0,Nat.zero_le _,rfl,aA (by simp [zG]),P0,HB0⟩
 case round=>
  obtain ⟨k,hk,rfl,HQ,HP,HB⟩:=hrel;have p6:=(uH HP).at 6;simp at p6;by_cases hlt:k<ml
  ·obtain ⟨b,off,rfl,hq⟩:=((uH HR).below (uH HB)).at hlt;(have hkl:k<ms.length:=by have:=uH HL;omega);have hst:=aA (aBm (nm:=nm) hkl);have c0:=(hq hkl).1;clear hq;obtain ⟨s,hs⟩:∃s,ms[k].name=s:=⟨_,rfl⟩;rw [hs] at c0 hst;have hbe:=l6 s nm;clear hs hkl;by_cases he:s=nm
   ·have HE:=aA he;rw [decide_eq_true he] at hbe;clear he;go_wp2;go_ret;exact ⟨jA (by rw [uH HQ,uH hst,if_pos (uH HE)]),uH HB⟩
   ·have HE:=aA he;rw [decide_eq_false he] at hbe;clear he;go_wp2;go_roundw;(case rel=>exact ⟨k+1,by omega,by go_num,aA (by rw [uH HQ,uH hst,if_neg (uH HE)]),HP,HB⟩);case measure=>simp [intOf];omega
  ·go_wp2;go_ret;exact ⟨jA (by rw [uH HQ,aCy (by have:=uH HL;omega)]),uH HB⟩
end
section
open Go.RowKit Go.Shelf
attribute [local go_sem] Oper.semAt_some
abbrev aF3:={ m:Mac // m.name.length≤1048576 }
theorem cB.kpa {W W':World} {ao:Option Addr} {len:Nat} {l:List Mac} (h:cB W ao len l) (k:KpA W W'):cB W' ao len l:=by
 obtain ⟨h1,h2⟩:=h;refine ⟨h1,?_⟩;rcases h2 with h2 | ⟨b,off,h3,h4⟩
 ·exact .inl h2
 ·exact .inr ⟨b,off,h3,fun i hi=>let ⟨a,b,c,d⟩:=h4 i hi;⟨k.cell a,k.cell b,k.cell c,k.cell d⟩⟩
theorem aFQ (n l Bs len cap:Nat) (ao:Option Addr) (ms:List Mac) (J Jx:List (Int×aF3)→World→Prop)
  (hY:∀pre x W1,J pre W1→pre.length<ms.length→YieldAt Fence.wide (n - 1) Tryz.prog l #[.int .i64 x.1,aIE x.2.1] W1 fun e W'=>
   (e=.returned (.bool true)∧J (pre++[x]) W'∧KpA W1 W')∨(e=.returned (.bool false)∧Jx (pre++[x]) W'))
  (W:World) (QH:W.cell? ⟨Bs,0,none⟩=some (.slice ao len cap)) (hg:cB W ao len ms) (hl:len≤1048576) (hN:∀m ∈ ms,m.name.length≤1048576) (h0:J [] W) :
  CallsIn Fence.wide n Tryz.prog 216 #[.func (.yield l) #[] #[],.pointer (some ⟨Bs,0,none⟩)] W fun e W'=>(∃v,e=.returned v)∧
   ((∃ys:List (Int×aF3),Hid (ys.map (fun x:Int×aF3=>x.2.1)=ms.reverse)∧J ys W')∨(∃pre,Jx pre W')):=by
 have HY:=aA hY;have DV:=aA QH;have HG:=aA hg;have ZX:=aA hg.1;have H0:=aA h0;have NQ:=aA hN;clear hY hg h0 hN;refine callsIn_of_wp func216 rfl trivial ?_ rfl;simp only [ntmps216,List.size_toArray,List.length_cons,List.length_nil,Nat.reduceAdd,Nat.reduceSub,Array.replicate_succ,Array.replicate_zero,List.push_toArray,List.append_toArray,List.nil_append,List.cons_append]
 gi_wp2
 clear QH
 gi_loopw [3] (fun i wr=>∃(k:Nat) (pre:List (Int×aF3)),k≤len∧i=.int .i64 ((k:Int) - 1)∧Hid (pre.length+k=ms.length)∧Hid (pre.map (fun x:Int×aF3=>x.2.1)=(ms.drop k).reverse)∧Hid (J pre wr)∧Hid (wr.cell? ⟨Bs,0,none⟩=some (.slice ao len cap))∧Hid (cB wr ao len ms)) (fun i _=>(intOf i+1).toNat)
 case atStart=>exact ⟨len,[],yJ _,by go_num,aA (by have:=uH ZX;simp;omega),aA (by rw [List.drop_of_length_le (by have:=uH ZX;omega)];rfl),H0,DV,HG⟩
 case round=>
  obtain ⟨k,pre,hk,rfl,HL,HM,HJ,HB,YB⟩:=hrel;cases k with
  | zero=>
   gi_wp2
   (go_end0);exact ⟨⟨_,rfl⟩,.inl ⟨pre,aA (by rw [uH HM];rfl),uH HJ⟩⟩
  | succ j=>
   (have hj:j<len:=by omega);obtain ⟨b,off,rfl,hq⟩:=(uH YB).at hj;(have hjm:j<ms.length:=by have:=uH ZX;omega);obtain ⟨c0,c1,c2,c3⟩:=hq hjm;have KL:=uH HB;have hel:=uH NQ ms[j] (yM _);obtain ⟨fn,tmps,assign,body,hy,hR⟩:=uH HY pre ((j:Int),⟨ms[j],hel⟩) wr (uH HJ) (by have:=uH HL;omega);have HRR:=aA hR;have XW:=aA (show (pre++[((j:Int),(⟨ms[j],hel⟩:aF3))]).map (fun x:Int×aF3=>x.2.1)=(ms.drop j).reverse by rw [List.map_append,uH HM,List.drop_eq_getElem_cons hjm,List.reverse_cons];rfl);(have hij:((j+1:Nat):Int) - 1=(j:Int):=by omega);obtain ⟨y,Kk⟩:∃y:aF3,(⟨ms[j],hel⟩:aF3)=y:=⟨_,rfl⟩;(have hy1:ms[j]=y.1:=by rw [←Kk]);rw [Kk] at hy HRR XW;rw [hy1] at c0 c1 c2 c3;obtain ⟨⟨nm,me,cp,se⟩,hyn⟩:=y;simp only at hy c0 c1 c2 c3;rw [hij];(have j0:(0:Int)≤j:=by omega);(have j1:(j:Int)<len:=by omega);clear hR Kk hy1 hij HM hq hjm hel
   gi_wp2
   refine ⟨(by intro e;cases e),?_⟩;refine (uH HRR).mono ?_;rintro e W3 (⟨rfl,hJ3,hk3⟩ | ⟨rfl,ZW⟩)
   ·have HB3:=aA (hk3.cell (uH HB));have VA:=aA ((uH YB).kpa hk3);have Yw:=aA hJ3;clear hk3 hJ3 KL hy HRR c0 c1 c2 c3
    gi_wp2
    go_roundw;(case rel=>exact ⟨j,pre++[((j:Int),⟨⟨nm,me,cp,se⟩,hyn⟩)],by omega,by go_num,aA (by have:=uH HL;simp;omega),XW,Yw,HB3,VA⟩);case measure=>simp [intOf]
   ·gi_wp2
    refine bodyPost_ret (results_none rfl _ _ _) rfl ?_;exact ⟨⟨_,rfl⟩,.inr ⟨_,ZW⟩⟩
theorem aDY (n Bs len cap:Nat) (ao:Option Addr) (ms:List Mac) (w:World) (QH:w.cell? ⟨Bs,0,none⟩=some (.slice ao len cap)) (Hz:cB w ao len ms) (hl:len≤1048576) (hN:∀m ∈ ms,m.name.length≤1048576) :
  SeqStopsK Fence.wide n Tryz.prog 216 #[.pointer (some ⟨Bs,0,none⟩)] (fun x:Int×aF3=>#[.int .i64 x.1,aIE x.2.1]) KpA (fun ys=>Hid (ys.map (fun x:Int×aF3=>x.2.1)=ms.reverse)) (fun _=>True) ms.length w:=by
 intro l J Jx W hW hJ hJx hY h0;refine (aFQ n l Bs len cap ao ms J Jx hY W ((hW.cell (yG QH)).trans QH) (Hz.below hW) hl hN h0).mono ?_;rintro e W' ⟨he,⟨ys,h1,h2⟩ | ⟨pre,h2⟩⟩
 ·exact ⟨he,.inl ⟨ys,h1,h2⟩⟩
 ·exact ⟨he,.inr ⟨pre,trivial,h2⟩⟩
theorem aHG (v:Value) (w:World) (hv:v.oneCell'=true) :
  cP 187 #[v] w fun e w'=>e=.returned (.func (.func 216) #[] #[.pointer (some ⟨w.heap.size,0,none⟩)])∧w.alloc (.cells #[v] 26)=w':=by
 have ZE:∀(fn:Fn) (first cap:Array Value) (w:World),(Instr.makeFunc fn first cap).run Tryz.prog w=.ok (.func fn first cap) w:=fun _ _ _ _=>rfl
 go_enter func187,ntmps187
 go_wp2;go_ret;exact ⟨rfl,rfl⟩
theorem aEq (m:Mac) (w:World) :
  cP 188 #[aIE m] w fun e w'=>e=.returned (.agg #[.string (bs m.name),.int .i64 0])∧Bw w w':=by
 obtain ⟨nm,me,cp,se⟩:=m;go_enter func188,ntmps188;go_wp2;refine bodyPost_ret (v:=.agg #[.string (bs nm),.int .i64 0]) (by simp [results,results188,go_sem]) rfl ⟨rfl,?_⟩;repeat (first | exact yH _ _ | refine yA ?_ _ | refine Below.drew ?_ | refine yC ?_ _ _ _ (by omega))
end
section
open Go.RowKit Go.Shelf Go.Maps
variable {l:List Mac} {W W' w:World}
attribute [local go_sem] Oper.semAt_some
def aID (w:World) (c:Array Value):World:=((w.alloc (.cells c 29)).alloc (.map #[] 0)).alloc (.cells #[.map (some (w.heap.size+1))] 183)
theorem aBk (w:World) (c:Array Value):(aID w c).heap.size=w.heap.size+1+1+1:=by simp only [aID,yE]
theorem aEn (w:World) (c:Array Value):Bw w (aID w c):=yA (yA (yA (yH _ w) _) _) _
theorem aIC (w:World) (c:Array Value):(aID w c).ownsMap Tryz.prog 124 jC (w.heap.size+1) 0 (.map []):=by
 have:=(World.ownsMap_made (w.alloc (.cells c 29)) Tryz.prog 124 jC).alloc (.cells #[.map (some (w.heap.size+1))] 183);rw [yE] at this;exact this
theorem aIB (w:World) (c:Array Value):Blk (aID w c) (w.heap.size+1+1) #[.map (some (w.heap.size+1))] 183:=by
 have:=yD ((w.alloc (.cells c 29)).alloc (.map #[] 0)) #[.map (some (w.heap.size+1))] 183;rw [yE,yE] at this;exact this
def nX (w:World) (l:List Mac) (W:World):Prop:=(∃D,W.ownsMap Tryz.prog 124 jC (w.heap.size+1) l.length D∧mD l D)∧Blk W (w.heap.size+1+1) #[.map (some (w.heap.size+1))] 183
theorem nX.grown {row:Option Nat} (h:nX w l W) (hg:W.grownBy W' row) (hr:∀r,row=some r→w.heap.size+1+1<r):nX w l W':=by
 obtain ⟨⟨D,h1,h2⟩,h3⟩:=h;exact ⟨⟨D,h1.kept hg (fun e=>by have:=hr _ e.symm;omega),h2⟩,(hg.block _ h3.lt (fun e=>by have:=hr _ e.symm;omega)).trans h3⟩
theorem nX.below (h:nX w l W) (hb:Bw W W'):nX w l W':=h.grown (aH (aD W none) hb) (fun r e=>by cases e)
theorem aBl (x:Sls) (s:St) (w:World) (h:cB w x.ma x.ml s.ms) (hl:x.ml≤1048576) (hn:∀m ∈ s.ms,m.name.length≤1048576) :
  cP 140 #[sv x s] w fun e w'=>e=.returned (.map (some (w.heap.size+1)))∧nX w s.ms w'∧Bw w w':=by
 obtain ⟨qa,ql,qc,aa,al,ac,ma,ml,mc,ca,cl,cc⟩:=x;obtain ⟨qs,cv,ez,ny,sj,aj,ms,cs⟩:=s;simp only at h hl hn ⊢;have HR:=aA h;have HL:=aA h.1;have HN:=aA hn;have hmx:Tryz.prog.follows .mixedOrders=true:=by kernel_rfl
 have hmm:=fun (t:TypeId) (wx:World)=>run_makeMap (P:=Tryz.prog) t wx
 clear h hn;refine (callsIn_wide (n:=3)).1 ?_;refine callsIn_of_wp_marks func140 rfl trivial ?_ rfl;simp only [ntmps140,List.size_toArray,List.length_cons,List.length_nil,Nat.reduceAdd,Nat.reduceSub,Array.replicate_succ,Array.replicate_zero,List.push_toArray,List.append_toArray,List.nil_append,List.cons_append]
 gi_wp2_with fail
 first | refine ⟨trivial,?_⟩ | skip
 first | refine ⟨(by intro e;cases e),?_⟩ | skip
 refine (callsIn_wide.2 (aHG (.slice ma ml mc) _ rfl)).mono ?_;rintro e w4 ⟨rfl,rfl⟩
 gi_wp2
 have Qy:=yE (aID w (svc ⟨qa,ql,qc,aa,al,ac,ma,ml,mc,ca,cl,cc⟩ ⟨qs,cv,ez,ny,sj,aj,ms,cs⟩)) (.cells #[.slice ma ml mc] 26);rw [aBk] at Qy;have hB0:=yA (aEn w (svc ⟨qa,ql,qc,aa,al,ac,ma,ml,mc,ca,cl,cc⟩ ⟨qs,cv,ez,ny,sj,aj,ms,cs⟩)) (.cells #[.slice ma ml mc] 26);have hI0:=nX.below (w:=w) (l:=[]) ⟨⟨_,aIC w (svc ⟨qa,ql,qc,aa,al,ac,ma,ml,mc,ca,cl,cc⟩ ⟨qs,cv,ez,ny,sj,aj,ms,cs⟩),aBx⟩,aIB w _⟩ (yA (yH _ _) (.cells #[.slice ma ml mc] 26));have QH:=(yD (aID w (svc ⟨qa,ql,qc,aa,al,ac,ma,ml,mc,ca,cl,cc⟩ ⟨qs,cv,ez,ny,sj,aj,ms,cs⟩)) #[.slice ma ml mc] 26).at 0;rw [aBk] at QH;obtain ⟨W0,hW0⟩:∃W0,(aID w (svc ⟨qa,ql,qc,aa,al,ac,ma,ml,mc,ca,cl,cc⟩ ⟨qs,cv,ez,ny,sj,aj,ms,cs⟩)).alloc (.cells #[.slice ma ml mc] 26)=W0:=⟨_,rfl⟩;rw [hW0] at Qy hB0 hI0 QH;have HC:=aA (aDY (3 - 1) (w.heap.size+1+1+1) ml mc ma ms W0 QH ((uH HR).below hB0) hl (uH HN));show Code.wpIn _ _ _ _ _ _ ((aID w (svc ⟨qa,ql,qc,aa,al,ac,ma,ml,mc,ca,cl,cc⟩ ⟨qs,cv,ez,ny,sj,aj,ms,cs⟩)).alloc (.cells #[.slice ma ml mc] 26));rw [hW0];clear hW0 QH;refine wpIn_rangeFunc_ownH rfl (by omega) (gf:=216) (lb:=#[.pointer (some ⟨w.heap.size+1+1+1,0,none⟩)]) rfl trivial (enters_of func216 (by kernel_rfl) rfl)
  (uH HC) aIH aKW (yH _ _) (fun _=>rfl)
  (fun pre W=>nX w ((pre.map (fun x:Int×aF3=>x.2.1)).reverse) W∧Bw w W)
  (fun _ _ _=>False)
  (OwnFrom.and (fun s X Y row hs hg hr=>nX.grown hs hg (fun r e=>by have:=(hr r e).1;omega)) (ownFrom_below (yJ _) (by omega)))
  (fun _ _ _ _ _ hs _ _=>hs)
  ⟨hI0,hB0⟩
  (fun x a' W=>∃Bx,w.heap.size+1+1<Bx∧Blk W Bx #[.string (bs x.2.1.name),.int .i64 x.2.1.mem,.int .i64 x.2.1.cpu,.int .i64 x.2.1.seen] 103∧a' = { tmps:=#[sv ⟨qa,ql,qc,aa,al,ac,ma,ml,mc,ca,cl,cc⟩ ⟨qs,cv,ez,ny,sj,aj,ms,cs⟩,.pointer (some ⟨w.heap.size,0,none⟩),.map none,.pointer (some ⟨w.heap.size+1+1,0,none⟩),undef,.pointer (some ⟨Bx,0,none⟩),.map (some (w.heap.size+1)),.pointer (some ⟨w.heap.size,6,none⟩),.slice ma ml mc,.func (.func 216) #[] #[.pointer (some ⟨w.heap.size+1+1+1,0,none⟩)],.int .i64 x.1,aIE x.2.1,undef,undef,undef,undef,undef],defers:=[] })
  (fun x a' _ X Y row hs hg hr=>by
   obtain ⟨Bx,h1,h2,h3⟩:=hs;refine ⟨Bx,h1,(hg.block Bx h2.lt (fun e=>?_)).trans h2,h3⟩;obtain ⟨_,o,ho,hc⟩:=hr Bx e.symm;rw [show X.heap[Bx]? = _ from h2] at ho;cases ho;cases hc)
  ?assign ?body ?done ?stop
 case assign=>
  rintro lp pre ⟨i,⟨⟨nm,me,cp,se⟩,hnm⟩⟩ W K ⟨hI,hB⟩ hK;have hlt:=hI.2.lt
  gi_wp2
  exact hK _ _ ((KeepsOthers.alloc _ _).from _) (qY (yA (yH _ W) _)) ⟨hI.below (yA (yH _ W) _),yA hB _⟩ ⟨W.heap.size,hlt,yD W _ _,rfl⟩
 case body=>
  rintro lp pre ⟨i,⟨⟨nm,me,cp,se⟩,hnm⟩⟩ a' W hlp _ ⟨hI,hB⟩ ⟨Bx,hBx,hX,rfl⟩ hlt;have HI:=aA hI;have HX:=aA hX;have HB:=aA hB;have x0:=hX.at 0;have x1:=hX.at 1;have x2:=hX.at 2;have x3:=hX.at 3;have v0:=hI.2.at 0;simp at x0 x1 x2 x3 v0;have hpl:pre.length<1048576:=by have:=uH HL;omega
  clear hI hX hB;have hnm':nm.length≤1048576:=hnm;obtain ⟨kl,gy⟩:=xC (nm:=nm) (k:=0) (by omega) (by decide);have Gv:=aA gy;clear gy
  gi_wp2_with fail
  gi_region_with_o (first | (first | refine ⟨trivial,?_⟩ | skip);(first | refine ⟨(by intro e;cases e),?_⟩ | skip);refine (CallsIn.inRound lp (callsIn_wide.2 (aEq ⟨nm,me,cp,se⟩ _))).mono ?_;rintro e wc ⟨rfl,hbc⟩;have HW3:=aA (yB (yH _ W).drew hbc);have y0:=((uH HX).below (uH HW3)).at 0;have y1:=((uH HX).below (uH HW3)).at 1;have y2:=((uH HX).below (uH HW3)).at 2;have y3:=((uH HX).below (uH HW3)).at 3;have u0:=((uH HI).below (uH HW3)).2.at 0;simp at y0 y1 y2 y3 u0;obtain ⟨D,Hq,hk⟩:=((uH HI).below (uH HW3)).1;obtain ⟨w4,gq,GX,GK⟩:=Hq.update jU underlying183 (by unfold maxLen;simp;omega) (uH Gv) (sM ⟨nm,me,cp,se⟩);have QW:=aA (And.intro GX (And.intro GK (mD.put (m:=⟨nm,me,cp,se⟩) hk Hq.isMap (uH Gv))));clear GX GK hk Hq hbc)
  all_goals gi_wp2
  all_goals
   obtain ⟨f1,f2,f3⟩:=uH QW;have GG:=(uH HW3);have hv4:=(f2.block _ ((uH HI).below GG).2.lt (by simp)).trans ((uH HI).below GG).2;have F6:nX w (⟨nm,me,cp,se⟩::(pre.map (fun x:Int×aF3=>x.2.1)).reverse) w4:=⟨⟨_,f1,f3⟩,hv4⟩;refine ⟨((uK GG).from _).trans (KeepsFrom.of_grownBy f2 (fun j e=>by cases e;omega)),aIH (qY GG) (fun k o ho hc=>(f2.block k (lt_of_block ho) (fun e=>?_)).trans ho),by simpa using F6,?_⟩
   ·obtain ⟨D',hD',_⟩:=((uH HI).below GG).1;obtain ⟨es,ck,hm',_⟩:=hD';(obtain rfl:k=w.heap.size+1:=by simpa using e);rw [hm'] at ho;cases ho;cases hc
   ·exact ((uH HB).trans (GG.mono (uH HB).size)).grown f2 (by have:=(uH HB).size;have:=GG.size;omega) (fun k e=>by cases e;omega)
 case done=>
  rintro D ys W hD hys ⟨hI,hB⟩ hK;rw [uH hys,List.reverse_reverse] at hI;have v0:=hI.2.at 0;simp at v0;have HI:=aA hI;have HB:=aA hB;clear hI hB
  gi_wp2
  refine ⟨by simp,.inl ⟨_,_,rfl,run_takeDeferred hK,?_⟩⟩;exact ⟨_,results_tmp rfl _ _ _,rfl,(uH HI).grown (grownBy_putObj' W D _) (fun r e=>by cases e;omega),(uH HB).trans (belowK_b (w:=w) (yJ _) W D _ _ (by omega) hK rfl rfl)⟩
 case stop=>rintro D c pre W _ _ h _;exact h.elim
theorem pV (x:Sls) (s:St) (w:World) (h:cB w x.ma x.ml s.ms) (hl:x.ml≤1048576) (hn:∀m ∈ s.ms,m.name.length≤1048576) :
  cP 140 #[sv x s] w fun e w'=>∃bm,e=.returned (.map (some bm))∧(w.heap.size≤bm∧∃D,w'.ownsMap Tryz.prog 124 jC bm s.ms.length D∧mD s.ms D)∧Bw w w':=
 (aBl x s w h hl hn).mono fun e w' ⟨h1,h2,h3⟩=>⟨_,h1,⟨by omega,h2.1⟩,h3⟩
end
section
open Go.RowKit
variable {arr:Array Value} {l:List Ask} {cs:List Value} {B B' E E' M N W cc g j k n n' p sz:Nat} {S:Nat→Prop} {ao ca:Option Addr} {x:Sls} {s:St} {t t':TypeId} {u v:Value} {a b c w w' w0:World}
def aGp:Nat→List AV→Nat
 | K,[]=>K
 | K,v::t=>aGp (K+2+5*v.len) t
def hsM:Nat→List AV→List AV
 | _,[]=>[]
 | K,v::t=>⟨(K:Int),109::dgs (K+1),v.ao,v.len,v.cap⟩::hsM (K+2+5*v.len) t
def yN (w:World):Nat→List AV→Prop
 | _,[]=>True
 | K,v::t=>bE w v.ao v.len (aKM (K+2) v.len)∧yN w (K+2+5*v.len) t
theorem yN.below {w w':World} (hb:Bw w w'):∀(l:List AV) (K:Nat),yN w K l→yN w' K l
 | [],_,_=>trivial
 | v::t,K,h=>⟨h.1.below hb,yN.below hb t _ h.2⟩
theorem aGo:∀(l:List AV) (K:Nat),K≤aGp K l
 | [],K=>yJ _
 | v::t,K=>by have:=aGo t (K+2+5*v.len);rw [aGp];omega
def aC7 (w0:World) (b p:Nat) (q:AV) (w:World):Prop:=aFa w b p q∧Bw w0 w
theorem aC7.call {b:Nat} {q:AV} (h:aC7 w0 b p q w) (hb:Bw w w'):aC7 w0 b p q w':=⟨h.1.below hb,yB h.2 hb⟩
theorem aC7.drew {b:Nat} {q:AV} (h:aC7 w0 b p q w):aC7 w0 b p q w.drew:=h.call (yH _ _).drew
theorem aC7.read (w0:World) (b p:Nat) (q:AV):∀wx,aC7 w0 b p q wx→wx.cell? ⟨b,p,none⟩=some (.int .i64 q.id)∧wx.cell? ⟨b,p+1,none⟩=some (.string (bs q.queue))∧wx.cell? ⟨b,p+2,none⟩=some (.slice q.ao q.len q.cap):=fun wx h=>h.1
theorem Cel.type {N':Nat} (h:Cel w t g N) (h':Cel w t' g N'):t=t':=by
 obtain ⟨a,h1,_⟩:=h;obtain ⟨b,h2,_⟩:=h';rw [h1] at h2;cases h2;rfl
structure Mks (S:Nat→Prop) (w w':World):Prop where
 os:w'.os=w.os
 tape:w'.tape=w.tape
 output:w'.output=w.output
 size:w.heap.size≤w'.heap.size
 block:∀k,k<w.heap.size→¬S k→w'.heap[k]? = w.heap[k]?
 cel:∀t g N,Cel w t g N→Cel w' t g N
theorem Mks.refl (S:Nat→Prop) (w:World):Mks S w w:=⟨rfl,rfl,rfl,yJ _,fun _ _ _=>rfl,fun _ _ _ h=>h⟩
theorem Mks.trans (h:Mks S a b) (k:Mks S b c):Mks S a c:=
 ⟨k.os.trans h.os,k.tape.trans h.tape,k.output.trans h.output,Nat.le_trans h.size k.size,fun i hi ho=>(k.block i (Nat.lt_of_lt_of_le hi h.size) ho).trans (h.block i hi ho),fun t g N x=>k.cel t g N (h.cel t g N x)⟩
theorem Mks.mono {S':Nat→Prop} (h:Mks S a b) (hs:∀k,S k→S' k):Mks S' a b:=
 ⟨h.os,h.tape,h.output,h.size,fun i hi ho=>h.block i hi (fun hk=>ho (hs i hk)),h.cel⟩
theorem Mks.of_below (hb:Bw w w'):Mks S w w':=⟨hb.os,hb.tape,hb.output,hb.size,fun i hi _=>hb.block i hi,fun t g N x=>x.below hb⟩
theorem Mks.on (h:Mks S a w) (hb:Bw w w'):Mks S a w':=h.trans (.of_below hb)
theorem Mks.one (S:Nat→Prop) (w:World) (g j:Nat) (v:Value) (hg:S g):Mks S w (w.setCell ⟨g,j,none⟩ v):=
 ⟨rfl,rfl,rfl,by simp [World.setCell],fun k _ ho=>Below.heap_setCell _ _ _ _ (by show k≠g;intro e;exact ho (e ▸ hg)),fun t g' N x=>x.set g j v⟩
theorem Mks.sc (h:Mks S a w) (g j:Nat) (v:Value) (hg:S g):Mks S a (w.setCell ⟨g,j,none⟩ v):=h.trans (.one S w g j v hg)
theorem Mkd.mks (h:Mkd g (g+1) w w'):Mks (fun k=>k=g) w w':=⟨h.os,h.tape,h.output,h.size,fun i hi ho=>h.block i hi (by omega),h.cel⟩
theorem Mks.below (h:Mks S a w) (hS:∀k,S k→B≤k) (hB:B≤a.heap.size):Below B a w:=
 ⟨h.os,h.tape,h.output,h.size,fun k hk=>h.block k (by omega) (fun hs=>by have:=hS k hs;omega)⟩
theorem Mks.blk (h:Mks S a w) (hb:Blk a g arr t) (ho:¬S g):Blk w g arr t:=(h.block g hb.lt ho).trans hb
def inR (ao:Option Addr) (n:Nat) (k:Nat):Prop:=n≠0∧∃o,ao=some ⟨k,o,none⟩
def dW (B E:Nat) (w:World) (t:TypeId) (sz:Nat) (ao:Option Addr) (n:Nat):Prop:=n=0∨∃g M,ao=some ⟨g,0,none⟩∧B≤g∧g<E∧Cel w t g (M*sz)∧n≤M
theorem iT {c:Nat} {e:TypeId} {xs:List Value} (h:w.ownsRow B e sz (.slice ao n c) n' xs):dW B w.heap.size w e sz ao c:=by
 rcases h.2 with ⟨h1,_⟩ | ⟨g,cap,cur,h1,h2,h3,_,_,h4,_⟩
 ·cases h1;exact .inl rfl
 ·cases h1;exact .inr ⟨g,c,rfl,h2,lt_of_block h3,⟨cur,h3,h4⟩,yJ _⟩
theorem dW.below (h:dW B E w t sz ao n) (hb:Bw w w'):dW B E w' t sz ao n:=by
 rcases h with h | ⟨g,M,h1,h2,h3,h4,h5⟩
 ·exact .inl h
 ·exact .inr ⟨g,M,h1,h2,h3,h4.below hb,h5⟩
theorem dW.mks (h:dW B E w t sz ao n) (hb:Mks S w w'):dW B E w' t sz ao n:=by
 rcases h with h | ⟨g,M,h1,h2,h3,h4,h5⟩
 ·exact .inl h
 ·exact .inr ⟨g,M,h1,h2,h3,hb.cel _ _ _ h4,h5⟩
theorem dW.sc (h:dW B E w t sz ao n) (k j:Nat) (v:Value):dW B E (w.setCell ⟨k,j,none⟩ v) t sz ao n:=by
 rcases h with h | ⟨g,M,h1,h2,h3,h4,h5⟩
 ·exact .inl h
 ·exact .inr ⟨g,M,h1,h2,h3,h4.set k j v,h5⟩
theorem dW.mono (h:dW B E w t sz ao n) (h1:B'≤B) (h2:E≤E'):dW B' E' w t sz ao n:=by
 rcases h with h | ⟨g,M,a,b,c,d⟩
 ·exact .inl h
 ·exact .inr ⟨g,M,a,by omega,by omega,d⟩
theorem dW.lies (h:dW B E w t sz ao n):∀k,inR ao n k→B≤k∧k<E∧∃N,Cel w t k N:=by
 rintro k ⟨hn,o,e⟩;rcases h with h | ⟨g,M,h1,h2,h3,h4,h5⟩
 ·exact absurd h hn
 ·rw [h1] at e;cases e;exact ⟨h2,h3,_,h4⟩
theorem dW.apart {sz':Nat} {bo:Option Addr} (h:dW B E w t sz ao n) (h':dW B' E' w t' sz' bo n') (ht:t≠t'):∀k,inR ao n k→¬inR bo n' k:=fun k hk hk'=>by
 obtain ⟨_,_,N,h1⟩:=h.lies k hk;obtain ⟨_,_,N',h2⟩:=h'.lies k hk';exact ht (h1.type h2)
theorem dN (h:w.cell? ⟨g,p,none⟩=some u) (hm:Mks S w w') (hg:¬S g):w'.cell? ⟨g,p,none⟩=some u:=
 (World.cell?_of_block (w:=w) (a:=⟨g,p,none⟩) (hm.block g (yG h) hg)).trans h
theorem gH.mks {len:Nat} {l:List Q} (h:gH w ao len l) (hm:Mks S w w') (hs:∀k,inR ao len k→¬S k):gH w' ao len l:=by
 obtain ⟨h1,h2⟩:=h;refine ⟨h1,?_⟩;rcases h2 with h2 | ⟨b,off,h3,h4⟩
 ·exact .inl h2
 ·by_cases hz:len=0
  ·exact .inl hz
  ·have hb:=hs b ⟨hz,off,h3⟩;exact .inr ⟨b,off,h3,fun i h=>let ⟨a,c,d,e⟩:=h4 i h;⟨dN a hm hb,dN c hm hb,dN d hm hb,dN e hm hb⟩⟩
theorem cB.mks {len:Nat} {l:List Mac} (h:cB w ao len l) (hm:Mks S w w') (hs:∀k,inR ao len k→¬S k):cB w' ao len l:=by
 obtain ⟨h1,h2⟩:=h;refine ⟨h1,?_⟩;rcases h2 with h2 | ⟨b,off,h3,h4⟩
 ·exact .inl h2
 ·by_cases hz:len=0
  ·exact .inl hz
  ·have hb:=hs b ⟨hz,off,h3⟩;exact .inr ⟨b,off,h3,fun i h=>let ⟨a,c,d,e⟩:=h4 i h;⟨dN a hm hb,dN c hm hb,dN d hm hb,dN e hm hb⟩⟩
theorem bR.mks {len:Nat} {l:List Con} (h:bR w ao len l) (hm:Mks S w w') (hs:∀k,inR ao len k→¬S k):bR w' ao len l:=by
 obtain ⟨h1,h2⟩:=h;refine ⟨h1,?_⟩;rcases h2 with h2 | ⟨b,off,h3,h4⟩
 ·exact .inl h2
 ·by_cases hz:len=0
  ·exact .inl hz
  ·have hb:=hs b ⟨hz,off,h3⟩;exact .inr ⟨b,off,h3,fun i h=>let ⟨a,c,d,e,f⟩:=h4 i h;⟨dN a hm hb,dN c hm hb,dN d hm hb,dN e hm hb,dN f hm hb⟩⟩
theorem bE.mks {len:Nat} (h:bE w ao len l) (hm:Mks S w w') (hs:∀k,inR ao len k→¬S k):bE w' ao len l:=by
 obtain ⟨h1,h2⟩:=h;refine ⟨h1,?_⟩;rcases h2 with h2 | ⟨b,off,h3,h4⟩
 ·exact .inl h2
 ·by_cases hz:len=0
  ·exact .inl hz
  ·have hb:=hs b ⟨hz,off,h3⟩;exact .inr ⟨b,off,h3,fun i h=>let ⟨a,c,d,e,f⟩:=h4 i h;⟨dN a hm hb,dN c hm hb,dN d hm hb,dN e hm hb,dN f hm hb⟩⟩
theorem gG.mks {len:Nat} {l:List AV} (h:gG w ao len l) (hm:Mks S w w') (hs:∀k,inR ao len k→¬S k):gG w' ao len l:=by
 obtain ⟨h1,h2⟩:=h;refine ⟨h1,?_⟩;rcases h2 with h2 | ⟨b,off,h3,h4⟩
 ·exact .inl h2
 ·by_cases hz:len=0
  ·exact .inl hz
  ·have hb:=hs b ⟨hz,off,h3⟩;exact .inr ⟨b,off,h3,fun i h=>let ⟨a,c,d⟩:=h4 i h;⟨dN a hm hb,dN c hm hb,dN d hm hb⟩⟩
theorem yN.mks {S:Nat→Prop} {w w':World} (hm:Mks S w w'):∀(l:List AV) (K:Nat),yN w K l→(∀v ∈ l,∀k,inR v.ao v.len k→¬S k)→yN w' K l
 | [],_,_,_=>trivial
 | v::t,K,h,hs=>⟨h.1.mks hm (hs v (by simp)),yN.mks hm t _ h.2 (fun u hu=>hs u (by simp [hu]))⟩
theorem aGn:∀(l:List AV) (K m:Nat),(∀v ∈ l,v.len≤m)→aGp K l≤K+l.length*(2+5*m)
 | [],K,m,_=>by simp [aGp]
 | v::t,K,m,h=>by
  have h1:=aGn t (K+2+5*v.len) m (fun u hu=>h u (by simp [hu]));have h2:=h v (by simp);simp only [aGp,List.length_cons,Nat.add_mul];omega
def aIh (u v:AV):Prop:=u.len=0∨v.len=0∨u.ao≠v.ao
def oC (w:World) (g M:Nat) (l:List AV):Prop:=Cel w 56 g (M*3)∧l.length≤M∧∀i (h:i<l.length),aFa w g (i*3) l[i]
theorem oC.below {l:List AV} (h:oC w g M l) (hb:Bw w w'):oC w' g M l:=⟨h.1.below hb,h.2.1,fun i hi=>(h.2.2 i hi).below hb⟩
theorem oC.mks {l:List AV} (h:oC w g M l) (hm:Mks S w w') (hs:¬S g):oC w' g M l:=
 ⟨hm.cel _ _ _ h.1,h.2.1,fun i hi=>let ⟨a,b,c⟩:=h.2.2 i hi;⟨dN a hm hs,dN b hm hs,dN c hm hs⟩⟩
theorem oC.id {i:Nat} {l:List AV} (h:oC w g M l) (hi:i<l.length) (x:Int):oC (w.setCell ⟨g,i*3,none⟩ (.int .i64 x)) g M (l.set i ⟨x,l[i].queue,l[i].ao,l[i].len,l[i].cap⟩):=by
 refine ⟨h.1.set _ _ _,by simpa using h.2.1,fun j hj=>?_⟩;have hj':j<l.length:=by simpa using hj
 obtain ⟨a,b,c⟩:=h.2.2 j hj';by_cases e:i=j
 ·subst e;simp only [List.getElem_set_self];exact ⟨World.cell?_setCell_same _ ⟨g,i*3,none⟩ _ a,bC b (by omega),bC c (by omega)⟩
 ·rw [List.getElem_set_ne e];exact ⟨bC a (by omega),bC b (by omega),bC c (by omega)⟩
theorem oC.row {l:List AV} (h:oC w g M l):gG w (some ⟨g,0,none⟩) l.length l:=⟨rfl,.inr ⟨g,0,rfl,fun i hi=>by rw [Nat.zero_add];exact h.2.2 i hi⟩⟩
structure aKz (x:Sls):Prop where
 q:x.ql≤x.qc
 a:x.al≤x.ac
 m:x.ml≤x.mc
 c:x.cl≤x.cc
def RmS (B E:Nat) (w:World) (x:Sls) (hs:List AV):Prop:=dW B E w 105 4 x.qa x.qc∧dW B E w 56 3 x.aa x.ac∧dW B E w 103 4 x.ma x.mc∧dW B E w 35 5 x.ca x.cc∧∀v ∈ hs,dW B E w 43 5 v.ao v.cap
theorem RmS.map {hs:List AV} (h:RmS B E w x hs) (f:∀{t:TypeId} {sz n:Nat} {ao:Option Addr},dW B E w t sz ao n→dW B' E' w' t sz ao n):RmS B' E' w' x hs:=⟨f h.1,f h.2.1,f h.2.2.1,f h.2.2.2.1,fun v hv=>f (h.2.2.2.2 v hv)⟩
theorem RmS.below {hs:List AV} (h:RmS B E w x hs) (hb:Bw w w'):RmS B E w' x hs:=h.map (fun k=>k.below hb)
theorem RmS.mono {hs:List AV} (h:RmS B E w x hs) (h1:B'≤B) (h2:E≤E'):RmS B' E' w x hs:=h.map (fun k=>k.mono h1 h2)
theorem RmS.mks {hs:List AV} (h:RmS B E w x hs) (hm:Mks S w w'):RmS B E w' x hs:=h.map (fun k=>k.mks hm)
theorem RmS.sc {hs:List AV} (h:RmS B E w x hs) (k j:Nat) (v:Value):RmS B E (w.setCell ⟨k,j,none⟩ v) x hs:=h.map (fun o=>o.sc k j v)
structure rO (B E:Nat) (w:World) (x:Sls) (s:St) (hs:List AV):Prop where
 row:gW w x s
 q:dW B E w 105 4 x.qa x.ql
 a:dW B E w 56 3 x.aa x.al
 m:dW B E w 103 4 x.ma x.ml
 c:dW B E w 35 5 x.ca x.cl
 av:gG w x.aa x.al hs
 heads:kD w hs s.apps
 asks:∀v ∈ hs,dW B E w 43 5 v.ao v.len
 apart:hs.Pairwise aIh
 cap:aKz x
 rm:RmS B E w x hs
theorem kD.below {hs:List AV} {l:List dA} (h:kD w hs l) (hb:Bw w w'):kD w' hs l:=⟨h.1,fun i h1 h2=>let ⟨a,b,c,d⟩:=h.2 i h1 h2;⟨a,b,c.below hb,d⟩⟩
theorem rO.below {hs:List AV} (h:rO B E w x s hs) (hb:Bw w w'):rO B E w' x s hs:=
 ⟨h.row.below hb,h.q.below hb,h.a.below hb,h.m.below hb,h.c.below hb,h.av.below hb,h.heads.below hb,fun v hv=>(h.asks v hv).below hb,h.apart,h.cap,h.rm.below hb⟩
theorem rO.mono {hs:List AV} (h:rO B E w x s hs) (h1:B'≤B) (h2:E≤E'):rO B' E' w x s hs:=
 ⟨h.row,h.q.mono h1 h2,h.a.mono h1 h2,h.m.mono h1 h2,h.c.mono h1 h2,h.av,h.heads,fun v hv=>(h.asks v hv).mono h1 h2,h.apart,h.cap,h.rm.mono h1 h2⟩
theorem rO.mks {hs:List AV} (h:rO B E w x s hs) (hm:Mks S w w') (hS:∀k,S k→k<B∨E≤k):rO B E w' x s hs:=by
 have key:∀{t:TypeId} {sz n:Nat} {ao:Option Addr},dW B E w t sz ao n→∀k,inR ao n k→¬S k:=fun ho k hk hs=>by
  obtain ⟨h1,h2,_⟩:=ho.lies k hk;have:=hS k hs;omega
 have Hz:kD w' hs s.apps:=⟨h.heads.1,fun i h1 h2=>by
  obtain ⟨a,b,c,d⟩:=h.heads.2 i h1 h2;exact ⟨a,b,c.mks hm (key (h.asks _ (yM h1))),d⟩⟩
 have QN:=h.av.mks hm (key h.a);refine ⟨⟨h.row.1.mks hm (key h.q),?_,h.row.2.2.1.mks hm (key h.m),h.row.2.2.2.mks hm (key h.c)⟩,h.q.mks hm,h.a.mks hm,h.m.mks hm,h.c.mks hm,QN,Hz,fun v hv=>(h.asks v hv).mks hm,h.apart,h.cap,h.rm.mks hm⟩;refine ⟨h.row.2.1.1,?_⟩;rcases QN.2 with e | ⟨b,off,e,hh⟩
 ·exact .inl e
 ·refine .inr ⟨b,off,e,fun i hi=>?_⟩;have hi':i<hs.length:=by rw [h.heads.1];exact hi
  obtain ⟨a1,a2,a3,a4⟩:=Hz.2 i hi' hi;obtain ⟨c1,c2,c3⟩:=hh i hi';rw [a1] at c1;rw [a2] at c2;exact ⟨hs[i].ao,hs[i].len,hs[i].cap,c1,c2,c3,a3,a4⟩
structure SMk (w:World) (x:Sls) (hs:List AV):Prop where
 q:gH w x.qa x.ql (aIo x.ql)
 a:gG w x.aa x.al (hsM (1+4*x.ql) hs)
 k:yN w (1+4*x.ql) hs
 m:cB w x.ma x.ml (aKL (aGp (1+4*x.ql) hs) x.ml)
 c:bR w x.ca x.cl (aIp (aGp (1+4*x.ql) hs+4*x.ml) x.cl)
 z:x.ql=0∨∃g,x.qa=some ⟨g,0,none⟩
theorem SMk.below {hs:List AV} (h:SMk w x hs) (hb:Bw w w'):SMk w' x hs:=⟨h.q.below hb,h.a.below hb,yN.below hb _ _ h.k,h.m.below hb,h.c.below hb,h.z⟩
def aLM (x:Sls) (hs:List AV):Nat:=aGp (1+4*x.ql) hs+4*x.ml+5*x.cl
def inS (x:Sls) (hs:List AV) (k:Nat):Prop:=inR x.qa x.ql k∨(inR x.aa x.al k∨∃v ∈ hs,inR v.ao v.len k)∨inR x.ma x.ml k∨inR x.ca x.cl k
theorem rO.ins {hs:List AV} (h:rO B E w x s hs):∀k,inS x hs k→B≤k∧k<E:=by
 rintro k (hk | (hk | ⟨v,hv,hk⟩) | hk | hk)
 ·exact ⟨(h.q.lies k hk).1,(h.q.lies k hk).2.1⟩
 ·exact ⟨(h.a.lies k hk).1,(h.a.lies k hk).2.1⟩
 ·exact ⟨((h.asks v hv).lies k hk).1,((h.asks v hv).lies k hk).2.1⟩
 ·exact ⟨(h.m.lies k hk).1,(h.m.lies k hk).2.1⟩
 ·exact ⟨(h.c.lies k hk).1,(h.c.lies k hk).2.1⟩
structure aLD (x:Sls) (hs:List AV):Prop where
 q:x.ql≤1048576
 a:x.al≤1048576
 m:x.ml≤1048576
 c:x.cl≤1048576
 k:∀v ∈ hs,v.len≤1048576
 n:hs.length=x.al
theorem aLD.e {hs:List AV} (h:aLD x hs):1+4*x.ql≤aGp (1+4*x.ql) hs∧aGp (1+4*x.ql) hs≤10000000000000:=by
 have h1:=aGo hs (1+4*x.ql);have h2:=aGn hs (1+4*x.ql) 1048576 h.k;have h3:=h.q;have h4:hs.length*(2+5*1048576)≤1048576*(2+5*1048576):=Nat.mul_le_mul_right _ (by have:=h.n;have:=h.a;omega);omega
abbrev y9 (q:AV):List Value:=[.int .i64 q.id,.string (bs q.queue),.slice q.ao q.len q.cap]
def dC:List AV→List Value
 | []=>[]
 | q::t=>y9 q++dC t
theorem oJ (a:List AV) (q:AV):dC (a++[q])=dC a++y9 q:=by
 induction a with
 | nil=>rfl
 | cons x t ih=>rw [List.cons_append,dC,dC,ih,List.append_assoc]
theorem gK:∀l:List AV,(dC l).length=l.length*3
 | []=>rfl
 | q::t=>by rw [dC,List.length_append,gK t];simp;omega
theorem lV:∀(l:List AV) (i:Nat) (h:i<l.length),(dC l)[i*3]? = some (.int .i64 l[i].id)∧(dC l)[i*3+1]? = some (.string (bs l[i].queue))∧(dC l)[i*3+2]? = some (.slice l[i].ao l[i].len l[i].cap)
 | q::t,0,_=>⟨rfl,rfl,rfl⟩
 | q::t,i+1,h=>by
  have e:=lV t i (by simpa using h);have k:∀j,(dC (q::t))[(i+1)*3+j]? = (dC t)[i*3+j]?:=fun j=>by
   rw [dC,show (i+1)*3+j=(y9 q).length+(i*3+j) by simp;omega,List.getElem?_append_right (by omega)];(congr 1);omega
  have k0:=k 0;simp only [Nat.add_zero] at k0;rw [k0,k 1,k 2];simpa using e
theorem r9 {b off len:Nat} {l:List AV} (h:gG w (some ⟨b,off,none⟩) len l):∀j u,(dC l)[j]? = some u→w.cell? ⟨b,off+j,none⟩=some u:=fun j u hj=>by
 have hjl:j<l.length*3:=by rw [←gK];exact (List.getElem?_eq_some_iff.1 hj).1
 obtain ⟨h1,h2⟩:=h;rcases h2 with h2 | ⟨b',off',e,h4⟩
 ·omega
 ·cases e;have hi:j / 3<l.length:=by omega
  obtain ⟨a0,a1,a2⟩:=lV l (j / 3) hi;obtain ⟨c0,c1,c2⟩:=h4 (j / 3) hi;rcases (show j % 3=0∨j % 3=1∨j % 3=2 by omega) with e | e | e
  ·rw [show j=j / 3*3 by omega] at hj ⊢;rw [a0] at hj;cases hj;exact c0
  ·rw [show j=j / 3*3+1 by omega] at hj ⊢;rw [a1] at hj;cases hj;rw [←Nat.add_assoc];exact c1
  ·rw [show j=j / 3*3+2 by omega] at hj ⊢;rw [a2] at hj;cases hj;rw [←Nat.add_assoc];exact c2
theorem aAF:∀(l:List AV),∀u ∈ dC l,u.oneCell'=true
 | [],u,h=>by simp [dC] at h
 | q::t,u,h=>by
  rw [dC,List.mem_append] at h;rcases h with h | h
  ·simp at h;rcases h with rfl | rfl | rfl<;>rfl
  ·exact aAF t u h
def aBP (B:Nat) (w:World) (v:Value) (l:List AV):Prop:=w.ownsRow B 56 3 v l.length (dC l)
theorem aHm (B:Nat) (w:World):aBP B w (.slice none 0 0) []:=World.ownsRow_nil _ _ _ _
theorem aAC (w:World):w.alloc (.cells #[] 56) |>.ownsRow w.heap.size 56 3 (.slice (some ⟨w.heap.size,0,none⟩) 0 0) 0 []:=
 ⟨rfl,.inr ⟨w.heap.size,0,#[],rfl,yJ _,by show (w.heap.push _)[w.heap.size]? = _;simp,yJ _,by unfold maxLen;omega,rfl,rfl⟩⟩
theorem aAD {l:List AV} (h:aBP B w v l) (hb:Bw w w'):aBP B w' v l:=
 World.ownsRow.kept h (aH (aD w none) hb) (by by_cases e:v.ownBlock=none;exact .inl e;exact .inr e)
theorem wH {l:List AV} (h:aBP B w v l) (hb:B'≤B):aBP B' w v l:=by
 obtain ⟨h1,h2⟩:=h;refine ⟨h1,?_⟩;rcases h2 with h2 | ⟨g,cap,cur,a,b,c⟩
 ·exact .inl h2
 ·exact .inr ⟨g,cap,cur,a,Nat.le_trans hb b,c⟩
theorem aHl {l:List AV} (h:aBP B w v l):∃ao cap,v=.slice ao l.length cap∧gG w ao l.length l∧l.length≤cap∧(l≠[]→∃g cur,ao=some ⟨g,0,none⟩∧B≤g∧w.heap[g]? = some (.cells cur 56 (0,0))∧cur.size=cap*3):=by
 rcases h.2 with ⟨rfl,h0⟩ | ⟨g,cap,cur,rfl,h1,h2,h3,h4,h5,h6⟩
 ·exact ⟨none,0,by rw [h0],⟨rfl,.inl h0⟩,by omega,fun hn=>absurd (List.length_eq_zero_iff.1 h0) hn⟩
 ·refine ⟨some ⟨g,0,none⟩,cap,rfl,⟨rfl,.inr ⟨g,0,rfl,fun i hi=>?_⟩⟩,h3,fun _=>⟨g,cur,rfl,h1,h2,h5⟩⟩;obtain ⟨a,b,c⟩:=lV l i hi;have k:∀j (v:Value),j<l.length*3→(dC l)[j]? = some v→w.cell? ⟨g,j,none⟩=some v:=fun j v hj hv=>by
   rw [←h6,List.getElem?_take_of_lt hj] at hv;simp [World.cell?,h2];simpa using hv
  unfold aFa;rw [Nat.zero_add];exact ⟨k _ _ (by omega) a,k _ _ (by omega) b,k _ _ (by omega) c⟩
theorem aAB {l:List AV} (h:aBP B w v l) (k j:Nat) (x:Value) (hk:k<B):aBP B (w.setCell ⟨k,j,none⟩ x) v l:=by
 obtain ⟨h1,h2⟩:=h;refine ⟨h1,?_⟩;rcases h2 with h2 | ⟨g,cap,cur,a,b,c,d⟩
 ·exact .inl h2
 ·exact .inr ⟨g,cap,cur,a,b,(heap_setCell_other w ⟨k,j,none⟩ g x (show g≠k by omega)).trans c,d⟩
theorem Tryz.infoApp:(Tryz.prog.info? 56).map (fun i=>(i.zero,i.size,i.bytes))=some (some (.agg #[.int .i64 0,.string .empty,.slice none 0 0]),3,48):=by kernel_rfl
theorem aCU (ao:Option Addr) (len cap:Nat) (l:List AV) (w:World) (h:gG w ao len l) (hl:len≤1048576) :
  cP 108 #[.slice ao len cap] w fun e w'=>∃v,e=.returned v∧aBP w.heap.size w' v l∧Bw w w':=by
 obtain ⟨i0,hi,hz0,hz1,hz2⟩:=info_parts Tryz.infoApp;cases ao with
 | none=>
  have hn:len=0:=by rcases h.2 with h | ⟨b,off,e,_⟩;exact h;cases e
  subst hn;have hl0:l=[]:=List.length_eq_zero_iff.1 h.1.symm;subst hl0;have hnl:∀wx,(binOp .eql 25 (.slice none 0 cap) (.slice none 0 0)).run Tryz.prog wx=.ok (.bool true) wx:=fun wx=>Lib.run_eql_slice_nil wx _ _ none 0 cap 0 0 underlying25
  clear h hl;go_enter func108,ntmps108;go_wp2;go_ret;exact ⟨_,rfl,aHm _ _,yH _ _⟩
 | some ad=>
  have qz:∀j u,(dC l)[j]? = some u→(w.alloc (.cells #[] 56)).cell? (ad.add j)=some u:=fun j u hj=>by
   (have hjl:j<l.length*3:=by rw [←gK];exact (List.getElem?_eq_some_iff.1 hj).1);rcases h.2 with h0 | ⟨b,off,e,_⟩
   ·have:=h.1;omega
   ·cases e;have:=r9 (h.below (yA (yH _ w) (.cells #[] 56))) j u hj;rw [Lib.add_plain];exact this
  have QI:=aA qz;have GZ:=aA h.1;have Hq:=aAC w;have hll:(dC l).length=len*3:=by rw [gK,h.1]
  have gz:=aAF l;have hnl:∀wx,(binOp .eql 25 (.slice (some ad) len cap) (.slice none 0 0)).run Tryz.prog wx=.ok (.bool false) wx:=fun wx=>Lib.run_eql_slice_nil wx _ _ (some ad) len cap 0 0 underlying25
  clear h qz;go_enter func108,ntmps108;go_wp2_with (at_builtin;refine wpList_append_own _ rfl _ _ 25 rfl w.heap.size 56 i0 (.agg #[.int .i64 0,.string .empty,.slice none 0 0]) 3 48 underlying25 hi hz0 hz1 hz2 rfl (by decide) _ _ _ rfl Hq ad len cap (dC l) rfl hll (uH QI) gz ?c3 ?c4 ?c5 ?_);case c3=>unfold maxLen;omega
  case c4=>omega
  case c5=>simp
  intro v' w3 Hy Hw _;have HO:=aA (show aBP w.heap.size w3 v' l by
   unfold aBP;rw [←uH GZ];simpa using Hy)
  have HB:=aA (show Bw w w3 from (yA (yH _ w) (.cells #[] 56)).grown Hw (by simp) (fun k e=>by simp [Value.ownBlock] at e;omega));clear Hy Hw Hq gz hll;go_wp2;go_ret;exact ⟨_,rfl,uH HO,uH HB⟩
abbrev aBM (q:Ask):List Value:=[.int .i64 q.mem,.int .i64 q.cpu,.int .i64 q.count,.string (bs q.node),.int .i64 q.missed]
def aR:List Ask→List Value
 | []=>[]
 | q::t=>aBM q++aR t
theorem bG:∀l:List Ask,(aR l).length=l.length*5
 | []=>rfl
 | q::t=>by rw [aR,List.length_append,bG t];simp;omega
theorem l9:∀(l:List Ask) (i:Nat) (h:i<l.length),(aR l)[i*5]? = some (.int .i64 l[i].mem)∧(aR l)[i*5+1]? = some (.int .i64 l[i].cpu)∧(aR l)[i*5+2]? = some (.int .i64 l[i].count)∧(aR l)[i*5+3]? = some (.string (bs l[i].node))∧(aR l)[i*5+4]? = some (.int .i64 l[i].missed)
 | q::t,0,_=>⟨rfl,rfl,rfl,rfl,rfl⟩
 | q::t,i+1,h=>by
  have e:=l9 t i (by simpa using h);have k:∀j,(aR (q::t))[(i+1)*5+j]? = (aR t)[i*5+j]?:=fun j=>by
   rw [aR,show (i+1)*5+j=(aBM q).length+(i*5+j) by simp;omega,List.getElem?_append_right (by omega)];(congr 1);omega
  have k0:=k 0;simp only [Nat.add_zero] at k0;rw [k0,k 1,k 2,k 3,k 4];simpa using e
theorem l8 {b off len:Nat} (h:bE w (some ⟨b,off,none⟩) len l):∀j u,(aR l)[j]? = some u→w.cell? ⟨b,off+j,none⟩=some u:=fun j u hj=>by
 have hjl:j<l.length*5:=by rw [←bG];exact (List.getElem?_eq_some_iff.1 hj).1
 obtain ⟨h1,h2⟩:=h;rcases h2 with h2 | ⟨b',off',e,h4⟩
 ·omega
 ·cases e;have hi:j / 5<l.length:=by omega
  obtain ⟨a0,a1,a2,a3,a4⟩:=l9 l (j / 5) hi;obtain ⟨c0,c1,c2,c3,c4⟩:=h4 (j / 5) hi;rcases (show j % 5=0∨j % 5=1∨j % 5=2∨j % 5=3∨j % 5=4 by omega) with e | e | e | e | e
  ·rw [show j=j / 5*5 by omega] at hj ⊢;rw [a0] at hj;cases hj;exact c0
  ·rw [show j=j / 5*5+1 by omega] at hj ⊢;rw [a1] at hj;cases hj;rw [←Nat.add_assoc];exact c1
  ·rw [show j=j / 5*5+2 by omega] at hj ⊢;rw [a2] at hj;cases hj;rw [←Nat.add_assoc];exact c2
  ·rw [show j=j / 5*5+3 by omega] at hj ⊢;rw [a3] at hj;cases hj;rw [←Nat.add_assoc];exact c3
  ·rw [show j=j / 5*5+4 by omega] at hj ⊢;rw [a4] at hj;cases hj;rw [←Nat.add_assoc];exact c4
theorem jE:∀(l:List Ask),∀u ∈ aR l,u.oneCell'=true
 | [],u,h=>by simp [aR] at h
 | q::t,u,h=>by
  rw [aR,List.mem_append] at h;rcases h with h | h
  ·simp at h;rcases h with rfl | rfl | rfl | rfl | rfl<;>rfl
  ·exact jE t u h
def rQ (B:Nat) (w:World) (v:Value) (l:List Ask):Prop:=w.ownsRow B 43 5 v l.length (aR l)
theorem aEP (B:Nat) (w:World):rQ B w (.slice none 0 0) []:=World.ownsRow_nil _ _ _ _
theorem tJ (w:World):w.alloc (.cells #[] 43) |>.ownsRow w.heap.size 43 5 (.slice (some ⟨w.heap.size,0,none⟩) 0 0) 0 []:=
 ⟨rfl,.inr ⟨w.heap.size,0,#[],rfl,yJ _,by show (w.heap.push _)[w.heap.size]? = _;simp,yJ _,by unfold maxLen;omega,rfl,rfl⟩⟩
theorem rQ.below (h:rQ B w v l) (hb:Bw w w'):rQ B w' v l:=
 h.kept (aH (aD w none) hb) (by by_cases e:v.ownBlock=none;exact .inl e;exact .inr e)
theorem rQ.base (h:rQ B w v l) (hb:B'≤B):rQ B' w v l:=by
 obtain ⟨h1,h2⟩:=h;refine ⟨h1,?_⟩;rcases h2 with h2 | ⟨g,cap,cur,a,b,c⟩
 ·exact .inl h2
 ·exact .inr ⟨g,cap,cur,a,Nat.le_trans hb b,c⟩
theorem rQ.row (h:rQ B w v l):∃ao cap,v=.slice ao l.length cap∧bE w ao l.length l∧l.length≤cap∧(l≠[]→∃g cur,ao=some ⟨g,0,none⟩∧B≤g∧w.heap[g]? = some (.cells cur 43 (0,0))∧cur.size=cap*5):=by
 rcases h.2 with ⟨rfl,h0⟩ | ⟨g,cap,cur,rfl,h1,h2,h3,h4,h5,h6⟩
 ·exact ⟨none,0,by rw [h0],⟨rfl,.inl h0⟩,by omega,fun hn=>absurd (List.length_eq_zero_iff.1 h0) hn⟩
 ·refine ⟨some ⟨g,0,none⟩,cap,rfl,⟨rfl,.inr ⟨g,0,rfl,fun i hi=>?_⟩⟩,h3,fun _=>⟨g,cur,rfl,h1,h2,h5⟩⟩;obtain ⟨a,b,c,d,e⟩:=l9 l i hi;have k:∀j (v:Value),j<l.length*5→(aR l)[j]? = some v→w.cell? ⟨g,j,none⟩=some v:=fun j v hj hv=>by
   rw [←h6,List.getElem?_take_of_lt hj] at hv;simp [World.cell?,h2];simpa using hv
  unfold tN;rw [Nat.zero_add];exact ⟨k _ _ (by omega) a,k _ _ (by omega) b,k _ _ (by omega) c,k _ _ (by omega) d,k _ _ (by omega) e⟩
theorem Tryz.infoA:(Tryz.prog.info? 43).map (fun i=>(i.zero,i.size,i.bytes))=some (some (.agg #[.int .i64 0,.int .i64 0,.int .i64 0,.string .empty,.int .i64 0]),5,48):=by kernel_rfl
theorem aCT (ao:Option Addr) (len cap:Nat) (l:List Ask) (w:World) (h:bE w ao len l) (hl:len≤1048576) :
  cP 134 #[.slice ao len cap] w fun e w'=>∃v,e=.returned v∧rQ w.heap.size w' v l∧Bw w w':=by
 obtain ⟨i0,hi,hz0,hz1,hz2⟩:=info_parts Tryz.infoA;cases ao with
 | none=>
  have hn:len=0:=by rcases h.2 with h | ⟨b,off,e,_⟩;exact h;cases e
  subst hn;have hl0:l=[]:=List.length_eq_zero_iff.1 h.1.symm;subst hl0;have hnl:∀wx,(binOp .eql 54 (.slice none 0 cap) (.slice none 0 0)).run Tryz.prog wx=.ok (.bool true) wx:=fun wx=>Lib.run_eql_slice_nil wx _ _ none 0 cap 0 0 underlying54
  clear h hl;go_enter func134,ntmps134;go_wp2;go_ret;exact ⟨_,rfl,aEP _ _,yH _ _⟩
 | some ad=>
  have qz:∀j u,(aR l)[j]? = some u→(w.alloc (.cells #[] 43)).cell? (ad.add j)=some u:=fun j u hj=>by
   (have hjl:j<l.length*5:=by rw [←bG];exact (List.getElem?_eq_some_iff.1 hj).1);rcases h.2 with h0 | ⟨b,off,e,_⟩
   ·have:=h.1;omega
   ·cases e;have:=l8 (h.below (yA (yH _ w) (.cells #[] 43))) j u hj;rw [Lib.add_plain];exact this
  have QI:=aA qz;have GZ:=aA h.1;have Hq:=tJ w;have hll:(aR l).length=len*5:=by rw [bG,h.1]
  have gz:=jE l;have hnl:∀wx,(binOp .eql 54 (.slice (some ad) len cap) (.slice none 0 0)).run Tryz.prog wx=.ok (.bool false) wx:=fun wx=>Lib.run_eql_slice_nil wx _ _ (some ad) len cap 0 0 underlying54
  clear h qz;go_enter func134,ntmps134;go_wp2_with (at_builtin;refine wpList_append_own _ rfl _ _ 54 rfl w.heap.size 43 i0 (.agg #[.int .i64 0,.int .i64 0,.int .i64 0,.string .empty,.int .i64 0]) 5 48 underlying54 hi hz0 hz1 hz2 rfl (by decide) _ _ _ rfl Hq ad len cap (aR l) rfl hll (uH QI) gz ?c3 ?c4 ?c5 ?_);case c3=>unfold maxLen;omega
  case c4=>omega
  case c5=>simp
  intro v' w3 Hy Hw _;have HO:=aA (show rQ w.heap.size w3 v' l by
   unfold rQ;rw [←uH GZ];exact Hy)
  have HB:=aA (show Bw w w3 from (yA (yH _ w) (.cells #[] 43)).grown Hw (by simp) (fun k e=>by simp [Value.ownBlock] at e;omega));clear Hy Hw Hq gz hll;go_wp2;go_ret;exact ⟨_,rfl,uH HO,uH HB⟩
theorem aHf {x:Value} (h:arr[j]? = some x):arr.setIfInBounds j x=arr:=by
 apply Array.ext
 ·simp
 ·intro i h1 h2;rw [Array.getElem_setIfInBounds];split
  ·rename_i e;subst e;rw [Array.getElem?_eq_getElem h2] at h;exact (Option.some.inj h).symm
  ·rfl
theorem rQ.same {cap:Nat} {x:Value} (h:rQ B w (.slice (some ⟨g,0,none⟩) n cap) l) (hc:w.cell? ⟨g,j,none⟩=some x):rQ B (w.setCell ⟨g,j,none⟩ x) (.slice (some ⟨g,0,none⟩) n cap) l∧B≤g:=by
 obtain ⟨h1,h2⟩:=h;rcases h2 with ⟨e,_⟩ | ⟨g',cap',cur,e,h3,h4,h5⟩
 ·cases e
 ·cases e;have hx:cur[j]? = some x:=by simpa [World.cell?,h4] using hc
  refine ⟨⟨h1,.inr ⟨g,cap,cur,rfl,h3,?_,h5⟩⟩,h3⟩;have:=heap_setCell_same w g j _ _ x h4;rw [aHf hx] at this;exact this
theorem rQ.other3 (h:rQ B w v l) (k j:Nat) (x:Value) (hk:k<B):rQ B (w.setCell ⟨k,j,none⟩ x) v l:=by
 obtain ⟨h1,h2⟩:=h;refine ⟨h1,?_⟩;rcases h2 with h2 | ⟨g,cap,cur,a,b,c,d⟩
 ·exact .inl h2
 ·exact .inr ⟨g,cap,cur,a,b,(heap_setCell_other w ⟨k,j,none⟩ g x (show g≠k by omega)).trans c,d⟩
theorem rE (id:Int) (qu:List UInt8) (ao:Option Addr) (len cap:Nat) (l:List Ask) (w:World) (h:bE w ao len l) (hl:len≤1048576) (hq:qu.length≤1048576) (hn:∀q ∈ l,q.node.length≤1048576) :
  cP 77 #[aI3 id qu ao len cap] w fun e w'=>∃v,e=.returned (.agg #[.int .i64 id,.string (bs qu),v])∧rQ w.heap.size w' v l∧Bw w w':=by
 have HN:=aA hn;have hB:=yA (yA (yH _ w) (.cells #[.int .i64 id,.string (bs qu),.slice ao len cap] 56)) (.cells #[.int .i64 0,.string .empty,.slice none 0 0] 56);have CC:=aA (aCT ao len cap l _ (h.below hB) hl);have HB0:=aA hB;have K0:=aA ((yD w #[.int .i64 id,.string (bs qu),.slice ao len cap] 56).al (.cells #[.int .i64 0,.string .empty,.slice none 0 0] 56));have K1:=aA (show Blk _ (w.heap.size+1) #[.int .i64 0,.string .empty,.slice none 0 0] 56 by have:=yD (w.alloc (.cells #[.int .i64 id,.string (bs qu),.slice ao len cap] 56)) #[.int .i64 0,.string .empty,.slice none 0 0] 56;rwa [yE] at this);have hll:=aA h.1;have QK:(bs qu).size≤281474976710656:=by rw [cK];omega
 clear h hn hB;go_enter func77,ntmps77;go_wp2_with fail;refine (uH CC).mono ?_;rintro e w1 ⟨v,rfl,ho,hb⟩;have HB1:=aA (yB (uH HB0) hb);have P0:=aA ((uH K0).below hb);have P1:=aA ((uH K1).below hb);have YH:w.heap.size+2≤w1.heap.size:=by have:=hb.size;rw [yE,yE] at this;omega
 have HO:=aA (ho.base (B':=w.heap.size+2) (by rw [yE,yE];omega));obtain ⟨xo,xc,rfl,_,Fj,hxg⟩:=ho.row;obtain ⟨n,hnn⟩:∃n,l.length=n:=⟨_,rfl⟩;have GZ:=aA hnn;have hn2:n≤1048576:=by have:=uH hll;omega
 rw [hnn] at HO Fj ⊢;clear ho hb CC HB0 K0 K1 hnn hxg;go_wp2;go_loopw [10] (fun i wr=>∃(k:Nat),k≤n∧i=.int .i64 k∧Hid (rQ (w.heap.size+2) wr (.slice xo n xc) l)∧Hid (Below (w.heap.size+2) w1 wr)) (fun i _=>n - (intOf i).toNat);case atStart=>exact ⟨0,Nat.zero_le _,rfl,HO,aA (yH _ _)⟩
 case round=>
  obtain ⟨k,hk,rfl,VS,QG⟩:=hrel;by_cases hlt:k<n
  ·(have hkl:k<l.length:=by have:=uH GZ;omega);obtain ⟨xo',xc',e,Hz,_,hg⟩:=(uH VS).row;obtain ⟨g,cur,rfl,hg1,hg2,hg3⟩:=hg (by intro e;rw [e] at hkl;simp at hkl);rw [uH GZ] at e Hz;cases e;obtain ⟨b',off',e',hat⟩:=Hz.at hlt;cases e';have c3:=(hat hkl).2.2.2.1;simp only [Nat.zero_add] at c3;have hnd:=uH HN l[k] (yM _);obtain ⟨nd,hs⟩:∃s,l[k].node=s:=⟨_,rfl⟩;rw [hs] at c3 hnd;(have hsn:(bs nd).size≤281474976710656:=by rw [cK];omega);(have k0:(0:Int)≤k:=by omega);(have k1:(k:Int)<n:=by omega);have hgs:g<wr.heap.size:=lt_of_block hg2;clear hat Hz hg2 hg3 hs hkl;(go_wp2_with fail);refine (iW (bs nd) _ hsn).mono ?_;rintro e w2 ⟨rfl,hb⟩;have GJ:=aA ((uH VS).below hb);have c3':=(hb.cell (p:=⟨g,k*5+3,none⟩) hgs).trans c3;have GA:=(uH GJ).same c3';have f3:w2.frozen? ⟨g,k*5+3,none⟩=false:=by
    rcases (uH GJ).2 with ⟨e,_⟩ | ⟨g',cap',cur',e,_,h4,_⟩
    ·cases e
    ·cases e;simp [World.frozen?,h4]
   have HS:=aA GA;have HB2:=aA (show Below (w.heap.size+2) w1 (w2.setCell ⟨g,k*5+3,none⟩ (.string (bs nd))) from ((uH QG).trans (hb.mono (by have:=(uH QG).size;omega))).setCell (by exact GA.2) _);clear hb GA VS QG GJ c3;go_wp2;go_roundw;(case rel=>exact ⟨k+1,by omega,by go_num,aA (uH HS).1,HB2⟩);case measure=>simp [intOf];omega
  ·have q0:=(show Blk wr w.heap.size _ 56 from ((uH QG).block _ (by omega)).trans (uH P0));have q1:=(show Blk wr (w.heap.size+1) _ 56 from ((uH QG).block _ (by omega)).trans (uH P1));have HQ1:=aA q1;have WZ:=aA (show Bw w wr from (uH HB1).trans ((uH QG).mono (by omega)));(have hwr:w.heap.size+2≤wr.heap.size:=by have:=(uH QG).size;omega);have BI:=aA q0;have a0:=q0.at 0;have a1:=q0.at 1;simp at a0 a1;have CL:=aA (fun wx=>iW (bs qu) wx QK);clear q0 q1;(go_wp2_with fail);(go_region_with (go_at_call 87;refine (uH CL _).mono ?_;rintro e w2 ⟨rfl,hb⟩;have HW2:=aA (yB (yH _ wr).drew hb);have b0:=((uH BI).below (uH HW2)).at 0;have b1:=((uH BI).below (uH HW2)).at 1;have T2:=(uH HQ1).below (uH HW2);have t0:=T2.at 0;have t1:=T2.at 1;have t2:=T2.at 2;have tf0:=T2.f 0;have tf1:=T2.f 1;have tf2:=T2.f 2;simp at b0 b1 t0 t1 t2;have HT2:=aA T2;clear T2 hb));all_goals go_wp2
   all_goals
    have X1:=(((uH HT2).set 0 (.int .i64 id)).set 1 (.string (bs qu))).set 2 (.slice xo n xc);have x0:=X1.at 0;have x1:=X1.at 1;have x2:=X1.at 2;simp at x0 x1 x2;refine bodyPost_ret (v:=.agg #[.int .i64 id,.string (bs qu),.slice xo n xc]) (by simp [results,results77,go_sem,x0,x1,x2]) rfl ⟨_,rfl,?_,?_⟩
    ·exact ((((((uH VS).below (uH HW2)).other3 (w.heap.size+1) 0 (.int .i64 id) (by omega)).other3 (w.heap.size+1) 1 (.string (bs qu)) (by omega)).other3 (w.heap.size+1) 2 (.slice xo n xc) (by omega))).base (by omega)
    ·exact yC (yC (yC (yB (uH WZ) (uH HW2)) _ _ _ (by omega)) _ _ _ (by omega)) _ _ _ (by omega)
theorem dW.grow (h:dW B E w t sz ao n) (hb:Bw w w') (hE:E≤w.heap.size):dW B w'.heap.size w' t sz ao n:=(h.below hb).mono (yJ _) (Nat.le_trans hE hb.size)
theorem qV (h:dW B E w t sz ao n) (hk:k<B∨E≤k):∀i,inR ao n i→¬(i=k):=fun i hi e=>by
 obtain ⟨h1,h2,_⟩:=h.lies i hi;omega
def rP (B:Nat) (w:World) (ao:Option Addr) (n:Nat) (l:List Q):Prop:=gH w ao n l∧dW B w.heap.size w 105 4 ao n
theorem rP.below {l:List Q} (h:rP B w ao n l) (hb:Bw w w'):rP B w' ao n l:=⟨h.1.below hb,h.2.grow hb (yJ _)⟩
theorem rP.sc {l:List Q} (h:rP B w ao n l) (hk:k<B):rP B (w.setCell ⟨k,j,none⟩ v) ao n l:=
 ⟨h.1.mks (Mks.one (fun x=>x=k) w k j v rfl) (qV h.2 (.inl hk)),by rw [bV];exact h.2.mks (Mks.one (fun x=>x=k) w k j v rfl)⟩
theorem oZ.has {l:List Q} (h:oZ B w v l):∃ao cap,v=.slice ao l.length cap∧l.length≤cap∧rP B w ao l.length l:=by
 obtain ⟨ao,cap,e,hr,hc,hg⟩:=nO h;refine ⟨ao,cap,e,hc,hr,?_⟩;by_cases hz:l=[]
 ·exact .inl (by rw [hz];rfl)
 ·obtain ⟨g,cur,e,h1,h2,h3⟩:=hg hz;exact .inr ⟨g,cap,e,h1,lt_of_block h2,⟨cur,h2,h3⟩,hc⟩
def o6 (B:Nat) (w:World) (ao:Option Addr) (n:Nat) (l:List Mac):Prop:=cB w ao n l∧dW B w.heap.size w 103 4 ao n
theorem o6.below {l:List Mac} (h:o6 B w ao n l) (hb:Bw w w'):o6 B w' ao n l:=⟨h.1.below hb,h.2.grow hb (yJ _)⟩
theorem o6.sc {l:List Mac} (h:o6 B w ao n l) (hk:k<B):o6 B (w.setCell ⟨k,j,none⟩ v) ao n l:=
 ⟨h.1.mks (Mks.one (fun x=>x=k) w k j v rfl) (qV h.2 (.inl hk)),by rw [bV];exact h.2.mks (Mks.one (fun x=>x=k) w k j v rfl)⟩
theorem aDy {l:List Mac} (h:aH3 B w v l):∃ao cap,v=.slice ao l.length cap∧l.length≤cap∧o6 B w ao l.length l:=by
 obtain ⟨ao,cap,e,hr,hc,hg⟩:=aHx h;refine ⟨ao,cap,e,hc,hr,?_⟩;by_cases hz:l=[]
 ·exact .inl (by rw [hz];rfl)
 ·obtain ⟨g,cur,e,h1,h2,h3⟩:=hg hz;exact .inr ⟨g,cap,e,h1,lt_of_block h2,⟨cur,h2,h3⟩,hc⟩
def nH (B:Nat) (w:World) (ao:Option Addr) (n:Nat) (l:List Con):Prop:=bR w ao n l∧dW B w.heap.size w 35 5 ao n
theorem nH.below {l:List Con} (h:nH B w ao n l) (hb:Bw w w'):nH B w' ao n l:=⟨h.1.below hb,h.2.grow hb (yJ _)⟩
theorem nH.sc {l:List Con} (h:nH B w ao n l) (hk:k<B):nH B (w.setCell ⟨k,j,none⟩ v) ao n l:=
 ⟨h.1.mks (Mks.one (fun x=>x=k) w k j v rfl) (qV h.2 (.inl hk)),by rw [bV];exact h.2.mks (Mks.one (fun x=>x=k) w k j v rfl)⟩
theorem nH.base {l:List Con} (h:nH B w ao n l) (hb:B'≤B):nH B' w ao n l:=⟨h.1,h.2.mono hb (yJ _)⟩
theorem aBF {l:List Con} (h:aF5 B w v l):∃ao cap,v=.slice ao l.length cap∧l.length≤cap∧nH B w ao l.length l:=by
 obtain ⟨ao,cap,e,hr,hc,hg⟩:=aIV h;refine ⟨ao,cap,e,hc,hr,?_⟩;by_cases hz:l=[]
 ·exact .inl (by rw [hz];rfl)
 ·obtain ⟨g,cur,e,h1,h2,h3⟩:=hg hz;exact .inr ⟨g,cap,e,h1,lt_of_block h2,⟨cur,h2,h3⟩,hc⟩
def nG (B:Nat) (w:World) (ao:Option Addr) (n:Nat) (hs:List AV):Prop:=gG w ao n hs∧dW B w.heap.size w 56 3 ao n
theorem nG.below {l:List AV} (h:nG B w ao n l) (hb:Bw w w'):nG B w' ao n l:=⟨h.1.below hb,h.2.grow hb (yJ _)⟩
theorem nG.sc {l:List AV} (h:nG B w ao n l) (hk:k<B):nG B (w.setCell ⟨k,j,none⟩ v) ao n l:=
 ⟨h.1.mks (Mks.one (fun x=>x=k) w k j v rfl) (qV h.2 (.inl hk)),by rw [bV];exact h.2.mks (Mks.one (fun x=>x=k) w k j v rfl)⟩
theorem aDp {l:List AV} (h:aBP B w v l):∃ao cap,v=.slice ao l.length cap∧l.length≤cap∧nG B w ao l.length l:=by
 obtain ⟨ao,cap,e,hr,hc,hg⟩:=aHl h;refine ⟨ao,cap,e,hc,hr,?_⟩;by_cases hz:l=[]
 ·exact .inl (by rw [hz];rfl)
 ·obtain ⟨g,cur,e,h1,h2,h3⟩:=hg hz;exact .inr ⟨g,cap,e,h1,lt_of_block h2,⟨cur,h2,h3⟩,hc⟩
structure jG (B:Nat) (w:World) (ns:List AV) (l:List dA):Prop where
 heads:kD w ns l
 own:∀v ∈ ns,dW B w.heap.size w 43 5 v.ao v.len
 apart:ns.Pairwise aIh
theorem jG.below {ns:List AV} {l:List dA} (h:jG B w ns l) (hb:Bw w w'):jG B w' ns l:=⟨h.heads.below hb,fun v hv=>(h.own v hv).grow hb (yJ _),h.apart⟩
theorem jG.sc {ns:List AV} {l:List dA} (h:jG B w ns l) (hk:k<B∨∃t N,Cel w t k N∧t≠43):jG B (w.setCell ⟨k,j,none⟩ v) ns l:=by
 have key:∀u ∈ ns,∀i,inR u.ao u.len i→¬(i=k):=fun u hu i hi e=>by
  obtain ⟨h1,h2,N,hc⟩:=(h.own u hu).lies i hi;subst e;rcases hk with hk | ⟨t,N',hc',ht⟩
  ·omega
  ·exact ht (hc'.type hc)
 refine ⟨⟨h.heads.1,fun i h1 h2=>?_⟩,fun u hu=>?_,h.apart⟩
 ·obtain ⟨a,b,c,d⟩:=h.heads.2 i h1 h2;exact ⟨a,b,c.mks (Mks.one (fun x=>x=k) w k j v rfl) (key _ (yM h1)),d⟩
 ·rw [bV];exact (h.own u hu).mks (Mks.one (fun x=>x=k) w k j v rfl)
theorem jG.nil (B:Nat) (w:World):jG B w [] []:=⟨⟨rfl,fun i h=>absurd h (by simp)⟩,fun v hv=>absurd hv (by simp),.nil⟩
theorem vO (h:rQ B w v l):∃ao cap,v=.slice ao l.length cap∧l.length≤cap∧bE w ao l.length l∧dW B w.heap.size w 43 5 ao l.length:=by
 obtain ⟨ao,cap,e,hr,hc,hg⟩:=h.row;refine ⟨ao,cap,e,hc,hr,?_⟩;by_cases hz:l=[]
 ·exact .inl (by rw [hz];rfl)
 ·obtain ⟨g,cur,e,h1,h2,h3⟩:=hg hz;exact .inr ⟨g,cap,e,h1,lt_of_block h2,⟨cur,h2,h3⟩,hc⟩
theorem jG.snoc {ns:List AV} {l:List dA} (h:jG B w ns l) (hb:Bw w w') (hB:B≤w.heap.size) (id:Int) (qu:List UInt8) (ao:Option Addr) (cap:Nat) (k:List Ask) (hc:k.length≤cap)
  (hr:bE w' ao k.length k) (ho:dW w.heap.size w'.heap.size w' 43 5 ao k.length):jG B w' (ns++[⟨id,qu,ao,k.length,cap⟩]) (l++[⟨id,qu,k⟩]):=by
 have h':=h.below hb;refine ⟨⟨by simp [h.heads.1],fun i h1 h2=>?_⟩,fun v hv=>?_,?_⟩
 ·by_cases hi:i<ns.length
  ·(have hi':i<l.length:=by rw [←h.heads.1];exact hi);rw [List.getElem_append_left hi,List.getElem_append_left hi'];exact h'.heads.2 i hi hi'
  ·(have hi1:i=ns.length:=by simp at h1;omega);subst hi1;have hl:ns.length=l.length:=h.heads.1;simp only [List.getElem_append_right (yJ _),Nat.sub_self,List.getElem_cons_zero];rw [List.getElem_append_right (by omega)];simp only [hl,Nat.sub_self,List.getElem_cons_zero];exact ⟨trivial,trivial,hr,hc⟩
 ·rcases List.mem_append.1 hv with hv | hv
  ·exact h'.own v hv
  ·simp at hv;subst hv;exact ho.mono hB (yJ _)
 ·refine List.pairwise_append.2 ⟨h.apart,by simp,fun u hu v hv=>?_⟩;simp at hv;subst hv;rcases h.own u hu with e | ⟨g1,M1,e1,_,h3,_⟩
  ·exact .inl e
  ·rcases ho with e | ⟨g2,M2,e2,h4,_⟩
   ·exact .inr (.inl e)
   ·refine .inr (.inr (fun e=>?_));simp only at e;rw [e1,e2] at e;cases e;omega
theorem aD2 {hs:List AV} {l:List dA} (h:gG w ao n hs) (hh:kD w hs l):iG w ao n l:=by
 refine ⟨h.1.trans hh.1,?_⟩;rcases h.2 with e | ⟨b,off,e,hc⟩
 ·exact .inl e
 ·refine .inr ⟨b,off,e,fun i hi=>?_⟩;have hi':i<hs.length:=by rw [hh.1];exact hi
  obtain ⟨a1,a2,a3,a4⟩:=hh.2 i hi' hi;obtain ⟨c1,c2,c3⟩:=hc i hi';rw [a1] at c1;rw [a2] at c2;exact ⟨hs[i].ao,hs[i].len,hs[i].cap,c1,c2,c3,a3,a4⟩
theorem aCj {hs:List AV} (q:rP B w x.qa x.ql s.qs) (a:nG B w x.aa x.al hs) (k:jG B w hs s.apps) (m:o6 B w x.ma x.ml s.ms) (c:nH B w x.ca x.cl s.cs) (cap:aKz x) (rm:RmS B w.heap.size w x hs):rO B w.heap.size w x s hs:=
 ⟨⟨q.1,aD2 a.1 k.heads,m.1,c.1⟩,q.2,a.2,m.2,c.2,a.1,k.heads,k.own,k.apart,cap,rm⟩
def Lay (w:World) (t:TypeId) (g M:Nat) (cs:List Value):Prop:=∃R:List Value,w.heap[g]? = some (.cells (cs++R).toArray t (0,0))∧(cs++R).length=M
theorem Lay.lt (h:Lay w t g M cs):g<w.heap.size:=let ⟨_,h,_⟩:=h;lt_of_block h
theorem Lay.of_block (h:Lay w t g M cs) (e:w'.heap[g]? = w.heap[g]?):Lay w' t g M cs:=let ⟨R,h1,h2⟩:=h;⟨R,e.trans h1,h2⟩
theorem Lay.below (h:Lay w t g M cs) (hb:Bw w w'):Lay w' t g M cs:=h.of_block (hb.block g h.lt)
theorem Lay.other (h:Lay w t g M cs) (k j:Nat) (v:Value) (hk:g≠k):Lay (w.setCell ⟨k,j,none⟩ v) t g M cs:=h.of_block (heap_setCell_other w ⟨k,j,none⟩ g v hk)
theorem Lay.cel (h:Lay w t g M cs):Cel w t g M:=let ⟨R,h1,h2⟩:=h;⟨_,h1,by simpa using h2⟩
theorem Lay.cell (h:Lay w t g M cs) (hj:cs[j]? = some u):w.cell? ⟨g,j,none⟩=some u:=by
 obtain ⟨R,h1,h2⟩:=h;have hl:j<cs.length:=(List.getElem?_eq_some_iff.1 hj).1;simp [World.cell?,h1,List.getElem?_append_left hl,hj]
theorem wU (hc:Cel w t g N) (h:∀j u,cs[j]? = some u→w.cell? ⟨g,j,none⟩=some u) (hl:cs.length≤N):Lay w t g N cs:=by
 obtain ⟨arr,h1,h2⟩:=hc;refine ⟨arr.toList.drop cs.length,?_,by simp;omega⟩;have e:cs++arr.toList.drop cs.length=arr.toList:=by
  apply List.ext_getElem?;intro j;by_cases hj:j<cs.length
  ·rw [List.getElem?_append_left hj];have h3:=h j cs[j] (List.getElem?_eq_getElem hj);simp [World.cell?,h1] at h3;rw [List.getElem?_eq_getElem hj,Array.getElem?_toList];exact h3.symm
  ·rw [List.getElem?_append_right (by omega),List.getElem?_drop];(congr 1);omega
 rw [e];simpa using h1
theorem fB {S:Nat→Prop} {g:Nat} (hg:S g):∀(vs:List Value) (o:Nat) (a w:World),Mks S a w→Mks S a (w.setCells g o vs)
 | [],_,_,_,h=>h
 | v::r,o,a,w,h=>fB hg r (o+1) a _ (h.sc g o v hg)
theorem Cel.isThere (h:Cel w t g N) (hj:j<N):(w.cell? ⟨g,j,none⟩).isSome=true:=by
 obtain ⟨arr,h1,h2⟩:=h;have h3:j<arr.size:=by omega
 simp [World.cell?,h1,h3]
theorem aFN (h:w.grownBy w' none):Bw w w':=(yH _ w).grown h (yJ _) (fun k e=>by cases e)
structure aES (B:Nat) (w:World) (e:TypeId) (sz:Nat) (ao:Option Addr) (n:Nat) (all:List Value) (g cap:Nat) (w':World):Prop where
 cells:∀j u,all[j]? = some u→w'.cell? ⟨g,j,none⟩=some u
 own:dW B w'.heap.size w' e sz (some ⟨g,0,none⟩) cap
 cap:n≤cap
 mks:Mks (fun k=>∃N,Cel w e k N∧B≤k) w w'
 pos:ao=some ⟨g,0,none⟩∧Mks (fun k=>k=g) w w'∨w.heap.size≤g∧Bw w w'
structure Kc (B W:Nat) (ca:Option Addr) (cc:Nat) (w w':World):Prop where
 below:Below B w w'
 con:∀g arr,g<W→Blk w g arr 35→(cc≠0→∀o,ca≠some ⟨g,o,none⟩)→Blk w' g arr 35
theorem Kc.trans (h:Kc B W ca cc a b) (k:Kc B W ca cc b c):Kc B W ca cc a c:=
 ⟨h.below.trans k.below,fun g arr hg hb ho=>k.con g arr hg (h.con g arr hg hb ho) ho⟩
theorem Kc.of (h:Bw a b) (hB:B≤a.heap.size):Kc B W ca cc a b:=⟨h.mono hB,fun g arr _ hb _=>hb.below h⟩
theorem Kc.mks (h:Mks S a b) (hB:∀k,S k→B≤k) (hz:B≤a.heap.size) (hc:∀k arr,k<W→Blk a k arr 35→S k→cc≠0∧∃o,ca=some ⟨k,o,none⟩):Kc B W ca cc a b:=
 ⟨h.below hB hz,fun g arr hg hb ho=>h.blk hb (fun hs=>let ⟨h1,o,h2⟩:=hc g arr hg hb hs;ho h1 o h2)⟩
theorem aEN {arr':Array Value} (h:Blk w g arr t) (h':Blk w g arr' t'):t=t':=Cel.type ⟨_,h,rfl⟩ ⟨_,h',rfl⟩
end
end Go.Proofs.YtfndhndlkcijoaaGreat
