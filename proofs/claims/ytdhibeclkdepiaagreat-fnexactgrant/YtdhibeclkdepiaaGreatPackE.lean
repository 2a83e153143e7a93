/-
  Several texts of this claim in one, made short by program: KKey, AKey, FindAp, BothM, Both, ROwn, Caps, PlaceM, Place, QSum, All, NameS, QueuesOkM, PathM, TextsR.
-/
import Derived.Test.YtdhibeclkdepiaaGreatStAll
set_option maxRecDepth 100000
set_option maxHeartbeats 16000000
set_option linter.unusedVariables false
set_option linter.unusedSimpArgs false
namespace Go.Proofs.YtdhibeclkdepiaaGreat
section
open Go.RowKit Go.Maps
abbrev keyv (nm:List UInt8) (k:Int):Value:=.agg #[.string (bs nm),.int .i64 k]
theorem keyLaidOut:laidOutB Tryz.prog=true:=by kernel_rfl
theorem keyRow:(133:TypeId)<Tryz.prog.types.size:=of_decide_eq_true (by kernel_rfl)
theorem keyWide:(match Tryz.prog.underlying 133 with | some (.array _ _) | some (.struct _)=>true | _=>false)=true:=by kernel_rfl
theorem keyLaw:Keyed Tryz.prog 133:=Keyed.of_law (deep_law_laid keyLaidOut (m:=3) (by omega) keyRow (by kernel_rfl) keyWide)
theorem keyKeyType:Tryz.prog.keyType 133=true:=by kernel_rfl
theorem keyCells:Tryz.prog.cellsOf 133=2:=by kernel_rfl
theorem keyIntCells:Tryz.prog.cellsOf 3=1:=by kernel_rfl
theorem keyStrCells:Tryz.prog.cellsOf 9=1:=by kernel_rfl
theorem keyTypesMany:∃m,Tryz.prog.types.size+1=m+2:=⟨Tryz.prog.types.size - 1,by have:3≤Tryz.prog.types.size:=of_decide_eq_true (by kernel_rfl);omega⟩
theorem klits_int (n:Nat) {a:Int} (h:(Lit.int .i64 a).wf=true):Tryz.prog.keyLits (n+1) 3 [.int .i64 a]=some [.int .i64 a]:=by
 simp [Program.keyLits,Tryz.underlying3,h]
theorem klits_str (n:Nat) {s:ByteArray} (h:s.size≤maxLen):Tryz.prog.keyLits (n+1) 9 [.string s]=some [.string s.data.toList]:=by
 simp [Program.keyLits,Tryz.underlying9,h]
theorem keyKey {nm:List UInt8} {k:Int} (hn:nm.length≤9223372036854775807) (hk:(Lit.int .i64 k).wf=true):∃kl,keyOf Tryz.prog 133 (keyv nm k)=some kl:=by
 obtain ⟨m,hm⟩:=keyTypesMany
 have hs:(bs nm).size≤maxLen:=by rw [bs_size];exact hn
 have h:Tryz.prog.keyLits (m+2) 133 [.string (bs nm),.int .i64 k]=some [.string (bs nm).data.toList,.int .i64 k]:=by
  have h:=Tryz.underlying133
  unfold Program.keyLits
  simp [h,keyCells,keyIntCells,keyStrCells,klits_int m hk,klits_str m hs]
 have hu:=Tryz.underlying133
 have hk:keyOf Tryz.prog 133 (keyv nm k)=if Tryz.prog.keyType 133&&(keyv nm k).formed Tryz.prog 133 then (Tryz.prog.keyLits (Tryz.prog.types.size+1) 133 (keyv nm k).cells.toList).map (fun ls=>.string (keyBytes ls)) else none:=by
  unfold keyOf
  rw [hu]
 rw [hk,if_pos (by simp [keyKeyType,Value.formed,hu,keyCells]),hm,show (keyv nm k).cells.toList=[.string (bs nm),.int .i64 k] from rfl,h]
 exact ⟨_,rfl⟩
theorem bs_data (s:ByteArray):bs s.data.toList=s:=by simp [bs]
structure AV where
 id:Int
 queue:List UInt8
 ao:Option Addr
 len:Nat
 cap:Nat
abbrev avv (v:AV):Value:=.agg #[.int .i64 v.id,.string (bs v.queue),.slice v.ao v.len v.cap]
def AVAt (w:World) (b p:Nat) (v:AV):Prop:=
 w.cell? ⟨b,p,none⟩=some (.int .i64 v.id)∧w.cell? ⟨b,p+1,none⟩=some (.string (bs v.queue))∧w.cell? ⟨b,p+2,none⟩=some (.slice v.ao v.len v.cap)
theorem AVAt.lt {w:World} {b p:Nat} {v:AV} (h:AVAt w b p v):b<w.heap.size:=yG h.1
theorem AVAt.below {w w':World} {b p:Nat} {v:AV} (h:AVAt w b p v) (hb:Below w.heap.size w w'):AVAt w' b p v:=
 ⟨(hb.cell h.lt).trans h.1,(hb.cell h.lt).trans h.2.1,(hb.cell h.lt).trans h.2.2⟩
def AVRow (w:World) (ao:Option Addr) (len:Nat) (l:List AV):Prop:=
 len=l.length∧(len=0∨∃b off,ao=some ⟨b,off,none⟩∧∀i (h:i<l.length),AVAt w b (off+i*3) l[i])
theorem AVRow.below {w w':World} {ao:Option Addr} {len:Nat} {l:List AV} (h:AVRow w ao len l) (hb:Below w.heap.size w w'):AVRow w' ao len l:=by
 obtain ⟨h1,h2⟩:=h
 refine ⟨h1,?_⟩
 rcases h2 with h2 | ⟨b,off,h3,h4⟩
 ·exact .inl h2
 ·exact .inr ⟨b,off,h3,fun i h=>(h4 i h).below hb⟩
theorem AVRow.at {w:World} {ao:Option Addr} {len:Nat} {l:List AV} (h:AVRow w ao len l) {i:Nat} (hi:i<len):∃b off,ao=some ⟨b,off,none⟩∧∀(h:i<l.length),AVAt w b (off+i*3) l[i]:=by
 obtain ⟨h1,h2⟩:=h
 rcases h2 with h2 | ⟨b,off,h3,h4⟩
 ·omega
 ·exact ⟨b,off,h3,fun hi=>h4 i hi⟩
def Heads (w:World) (hs:List AV) (l:List Appl):Prop:=
 hs.length=l.length∧∀i (h:i<hs.length) (h':i<l.length),hs[i].id=l[i].id∧hs[i].queue=l[i].queue∧AskRow w hs[i].ao hs[i].len l[i].asks∧hs[i].len≤hs[i].cap
theorem ApplRow.heads {w:World} {ao:Option Addr} {len:Nat} {l:List Appl} (h:ApplRow w ao len l):∃hs,AVRow w ao len hs∧Heads w hs l:=by
 obtain ⟨h1,h2⟩:=h
 by_cases h0:len=0
 ·have hl:l=[]:=List.length_eq_zero_iff.1 (by omega)
  subst hl
  exact ⟨[],⟨by simpa using h0,.inl h0⟩,rfl,fun i h=>by simp at h⟩
 ·rcases h2 with h2 | ⟨b,off,h3,h4⟩
  ·exact absurd h2 h0
  ·have inh:Inhabited AV:=⟨⟨0,[],none,0,0⟩⟩
   obtain ⟨F,hF⟩:=Go.Deep.choose_lt (α:=AV) (n:=l.length) (p:=fun i v=>∀hi:i<l.length,AVAt w b (off+i*3) v∧v.id=l[i].id∧v.queue=l[i].queue∧AskRow w v.ao v.len l[i].asks∧v.len≤v.cap) (fun i hi=>by
    obtain ⟨x,y,z,a,c,d,e,f⟩:=h4 i hi
    exact ⟨⟨l[i].id,l[i].queue,x,y,z⟩,fun _=>⟨⟨a,c,d⟩,rfl,rfl,e,f⟩⟩)
   refine ⟨(List.range l.length).map F,⟨by simpa using h1,.inr ⟨b,off,h3,fun i hi=>?_⟩⟩,by simp,fun i hi hi'=>?_⟩
   ·have hi':i<l.length:=by simpa using hi
    simpa using (hF i hi' hi').1
   ·simpa using (hF i hi' hi').2
def addrD:Option Addr→DataW Unit
 | none=>.agg []
 | some ⟨b,o,none⟩=>.agg [.lit (.int .i64 b),.lit (.int .i64 o)]
 | some ⟨b,o,some k⟩=>.agg [.lit (.int .i64 b),.lit (.int .i64 o),.lit (.int .i64 k)]
theorem addrD_inj {a b:Option Addr} (h:addrD a=addrD b):a=b:=by
 match a,b with
 | none,none=>rfl
 | none,some ⟨x,y,none⟩=>simp [addrD] at h
 | none,some ⟨x,y,some z⟩=>simp [addrD] at h
 | some ⟨x,y,none⟩,none=>simp [addrD] at h
 | some ⟨x,y,some z⟩,none=>simp [addrD] at h
 | some ⟨x,y,none⟩,some ⟨x',y',none⟩=>simp [addrD] at h;obtain ⟨h1,h2⟩:=h;(have e1:x=x':=(by omega));(have e2:y=y':=(by omega));subst e1 e2;rfl
 | some ⟨x,y,none⟩,some ⟨x',y',some z'⟩=>simp [addrD] at h
 | some ⟨x,y,some z⟩,some ⟨x',y',none⟩=>simp [addrD] at h
 | some ⟨x,y,some z⟩,some ⟨x',y',some z'⟩=>simp [addrD] at h;obtain ⟨h1,h2,h3⟩:=h;(have e1:x=x':=(by omega));(have e2:y=y':=(by omega));(have e3:z=z':=(by omega));subst e1 e2 e3;rfl
def ad (v:AV):DataW Unit:=.agg [.lit (.int .i64 v.id),.lit (.string v.queue),addrD v.ao,.lit (.int .i64 v.len),.lit (.int .i64 v.cap)]
theorem ad_inj {a b:AV} (h:ad a=ad b):a=b:=by
 obtain ⟨a1,a2,a3,a4,a5⟩:=a
 obtain ⟨b1,b2,b3,b4,b5⟩:=b
 simp [ad] at h
 obtain ⟨h1,h2,h3,h4,h5⟩:=h
 have e3:=addrD_inj h3
 have e4:a4=b4:=by omega
 have e5:a5=b5:=by omega
 subst h1 h2 e3 e4 e5
 rfl
def appElem:Value→Option (DataW Unit×List MemPlace)
 | .agg cs=>match cs.toList with
  | [.int .i64 x,.string s,.slice ao len cap]=>some (ad ⟨x,s.data.toList,ao,len,cap⟩,[])
  | _=>none
 | _=>none
theorem appElem_mk (v:AV):appElem (avv v)=some (ad v,[]):=by
 obtain ⟨x,qu,ao,len,cap⟩:=v
 simp [appElem,bs]
theorem appElem_shape {v:Value} {y:DataW Unit×List MemPlace} (h:appElem v=some y):∃c,v=avv c:=by
 unfold appElem at h
 split at h
 ·rename_i cs
  split at h
  ·rename_i x s ao len cap e
   have e2:cs=#[.int .i64 x,.string s,.slice ao len cap]:=by cases cs;simpa using e
   exact ⟨⟨x,s.data.toList,ao,len,cap⟩,by rw [e2];simp [avv,bs_data]⟩
  ·cases h
 ·cases h
theorem appElem_inv {v:Value} {m:AV} {ps:List MemPlace} (h:appElem v=some (ad m,ps)):v=avv m:=by
 obtain ⟨c,rfl⟩:=appElem_shape h
 rw [appElem_mk] at h
 have:=ad_inj (congrArg Prod.fst (Option.some.inj h))
 rw [show c=m from this]
def findA (id:Int) (l:List AV):Option AV:=l.find? (fun v=>decide (v.id=id))
theorem findA_id {id:Int} {l:List AV} {v:AV} (h:findA id l=some v):v.id=id:=by simpa using List.find?_some h
def KnownA (l:List AV) (keep:Lit→AV→Bool) (D:DataW Unit):Prop:=
 (∀kl,Maps.has D kl=true→∃v,findA v.id l=some v∧keyOf Tryz.prog 133 (keyv [] v.id)=some kl∧∀zd,D.atKey kl zd=ad v)∧
 (∀v kl,findA v.id l=some v→keyOf Tryz.prog 133 (keyv [] v.id)=some kl→Maps.has D kl=keep kl v)
abbrev allA:Lit→AV→Bool:=fun _ _=>true
theorem knownA_empty:KnownA [] allA (.map []):=⟨fun kl h=>by simp [Maps.has] at h,fun v kl h=>by simp [findA] at h⟩
theorem KnownA.put {l:List AV} {D:DataW Unit} (h:KnownA l allA D) (hD:IsMap D) {m:AV} {kl:Lit} (hk:keyOf Tryz.prog 133 (keyv [] m.id)=some kl):KnownA (m::l) allA (D.put kl (ad m)):=by
 have hne:∀(kl':Lit) (v:AV),kl'≠kl→keyOf Tryz.prog 133 (keyv [] v.id)=some kl'→¬m.id=v.id:=fun kl' v e hv e'=>e (by rw [←e'] at hv;rw [hk] at hv;exact (Option.some.inj hv).symm)
 refine ⟨fun kl' hh=>?_,fun v kl' h1 h2=>?_⟩
 ·by_cases e:kl'=kl
  ·subst e
   exact ⟨m,by simp [findA],hk,fun zd=>atKey_put_same hD (keyLaw.key hk) _ _⟩
  ·rw [has_put_other e] at hh
   obtain ⟨v,h1,h2,h3⟩:=h.1 kl' hh
   exact ⟨v,by have:=hne kl' v e h2;simpa [findA,this] using h1,h2,fun zd=>by rw [atKey_put_other e];exact h3 zd⟩
 ·by_cases e:kl'=kl
  ·subst e
   exact has_put_same hD (keyLaw.key hk) _
  ·rw [has_put_other e]
   exact h.2 v kl' (by have:=hne kl' v e h2;simpa [findA,this] using h1) h2
theorem keyv_inj {a b:Int} {kl:Lit} (h1:keyOf Tryz.prog 133 (keyv [] a)=some kl) (h2:keyOf Tryz.prog 133 (keyv [] b)=some kl):a=b:=by
 have:=keyLaw.inj h1 h2
 simpa [keyv] using this
theorem KnownA.look {l:List AV} {keep:Lit→AV→Bool} {D:DataW Unit} (h:KnownA l keep D) {id:Int} {kl:Lit} (hk:keyOf Tryz.prog 133 (keyv [] id)=some kl) :
  (findA id l=none→Maps.has D kl=false)∧∀v,findA id l=some v→Maps.has D kl=keep kl v∧(Maps.has D kl=true→∀zd,D.atKey kl zd=ad v):=by
 refine ⟨fun hf=>?_,fun v hf=>?_⟩
 ·cases hh:Maps.has D kl with
  | false=>rfl
  | true=>
   obtain ⟨v,h1,h2,_⟩:=h.1 kl hh
   rw [←keyv_inj hk h2] at h1
   rw [hf] at h1
   cases h1
 ·have hv:=findA_id hf
  rw [←hv] at hf hk
  refine ⟨h.2 v kl hf hk,fun hh=>?_⟩
  obtain ⟨u,h1,h2,h3⟩:=h.1 kl hh
  have e:=keyv_inj hk h2
  rw [←e,hf] at h1
  cases h1
  exact h3
theorem KnownA.strike {l:List AV} {left:Lit→Bool} {keep:AV→Bool} {D:DataW Unit} (h:KnownA l (fun kl v=>left kl||keep v) D) {v:AV} {kl:Lit} (hf:findA v.id l=some v) (hk:keyOf Tryz.prog 133 (keyv [] v.id)=some kl) (hn:keep v=false) :
  KnownA l (fun z u=>(left z&&!z.sameKey kl)||keep u) (D.del kl):=by
 refine ⟨fun kl' hh=>?_,fun u kl' h1 h2=>?_⟩
 ·by_cases e:kl'=kl
  ·subst e
   rw [has_del_same] at hh
   cases hh
  ·rw [has_del_other e] at hh
   obtain ⟨u,h1,h2,h3⟩:=h.1 kl' hh
   exact ⟨u,h1,h2,fun zd=>by rw [atKey_del_other e];exact h3 zd⟩
 ·by_cases e:kl'=kl
  ·subst e
   have e2:=keyv_inj hk h2
   rw [←e2,hf] at h1
   cases h1
   rw [has_del_same]
   simp [hn,WideAt.sameKey_self (keyLaw.key hk)]
  ·rw [has_del_other e,h.2 u kl' h1 h2]
   simp [sameKey_ne e]
theorem KnownA.stay {l:List AV} {left:Lit→Bool} {keep:AV→Bool} {D:DataW Unit} (h:KnownA l (fun kl v=>left kl||keep v) D) {v:AV} {kl:Lit} (hf:findA v.id l=some v) (hk:keyOf Tryz.prog 133 (keyv [] v.id)=some kl) (hn:keep v=true) :
  KnownA l (fun z u=>(left z&&!z.sameKey kl)||keep u) D:=by
 refine ⟨h.1,fun u kl' h1 h2=>?_⟩
 by_cases e:kl'=kl
 ·subst e
  have e2:=keyv_inj hk h2
  rw [←e2,hf] at h1
  cases h1
  rw [h.2 v kl' hf hk]
  simp [hn]
 ·rw [h.2 u kl' h1 h2]
  simp [sameKey_ne e]
def optB (o:Option AV) (f:AV→Bool):Bool:=match o with
 | none=>false
 | some v=>f v
theorem appZero (w:World):(zeroValue 74).run Tryz.prog w=.ok (avv ⟨0,[],none,0,0⟩) w:=by kernel_rfl
theorem lookA {w:World} {bm n:Nat} {l:List AV} {keep:Lit→AV→Bool} {D:DataW Unit} (hown:w.ownsMap Tryz.prog 133 appElem bm n D) (hk:KnownA l keep D) {id:Int} {kl:Lit} (hkey:keyOf Tryz.prog 133 (keyv [] id)=some kl) :
  ∃v:AV,(Instr.lookup 164 (.map (some bm)) (keyv [] id) true).run Tryz.prog w=.ok (.tuple #[avv v,.bool (optB (findA id l) (keep kl))]) w∧(∀u,findA id l=some u→keep kl u=true→v=u)∧(findA id l=none→v=⟨0,[],none,0,0⟩):=by
 obtain ⟨v,ps,hrun,hv⟩:=hown.look_ok keyLaw Tryz.underlying164 (appZero w) (appElem_mk ⟨0,[],none,0,0⟩) hkey
 obtain ⟨h1,h2⟩:=hk.look hkey
 cases hf:findA id l with
 | none=>
  have hh:=h1 hf
  rw [atKey_of_not_has hh] at hv
  rw [appElem_inv hv,hh] at hrun
  exact ⟨_,hrun,(fun u e=>by cases e),fun _=>rfl⟩
 | some u=>
  obtain ⟨ha,hb⟩:=h2 u hf
  obtain ⟨c,rfl⟩:=appElem_shape hv
  rw [ha] at hrun
  refine ⟨c,hrun,fun u' e hu=>?_,(fun e=>by cases e)⟩
  cases e
  rw [hb (ha.trans hu)] at hv
  rw [appElem_mk] at hv
  exact ad_inj (congrArg Prod.fst (Option.some.inj hv))
def findAp (id:Int) (l:List Appl):Option Appl:=l.find? (fun a=>decide (a.id=id))
def apFrom (id:Int):List Appl→Nat→Int
 | [],_=>-1
 | q::t,k=>if q.id=id then k else apFrom id t (k+1)
def apAt (l:List Appl) (id:Int):Int:=apFrom id l 0
theorem apFrom_step {id:Int} {l:List Appl} {k:Nat} (h:k<l.length):apFrom id (l.drop k) k=if l[k].id=id then (k:Int) else apFrom id (l.drop (k+1)) (k+1):=by
 rw [List.drop_eq_getElem_cons h,apFrom]
theorem apFrom_end {id:Int} {l:List Appl} {k:Nat} (h:l.length≤k):apFrom id (l.drop k) k = -1:=by
 rw [List.drop_of_length_le h];rfl
theorem apFrom_find (id:Int):∀(l:List Appl) (k:Nat),(findAp id l=none∧apFrom id l k = -1)∨(∃(j:Nat) (h:j<l.length),findAp id l=some l[j]∧apFrom id l k=((k+j:Nat):Int))
 | [],k=>.inl ⟨rfl,rfl⟩
 | q::t,k=>by
  by_cases h:q.id=id
  ·right
   exact ⟨0,by simp,by simp [findAp,h],by rw [apFrom,if_pos h];simp⟩
  ·have hf:findAp id (q::t)=findAp id t:=by simp [findAp,h]
   rw [hf,apFrom,if_neg h]
   rcases apFrom_find id t (k+1) with ⟨a,b⟩ | ⟨j,hj,a,b⟩
   ·exact .inl ⟨a,b⟩
   ·exact .inr ⟨j+1,by simpa using hj,by simpa using a,by rw [b];congr 1;omega⟩
theorem apAt_find (id:Int) (l:List Appl):(findAp id l=none∧apAt l id = -1)∨(∃(j:Nat) (h:j<l.length),findAp id l=some l[j]∧apAt l id=(j:Int)):=by
 rcases apFrom_find id l 0 with h | ⟨j,h,a,b⟩
 ·exact .inl h
 ·exact .inr ⟨j,h,a,by rw [apAt,b];congr 1;omega⟩
theorem heads_find {hs:List AV} {l:List Appl} {id:Int}:hs.length=l.length→(∀i (h:i<hs.length) (h':i<l.length),hs[i].id=l[i].id∧hs[i].queue=l[i].queue)→(findA id hs).map AV.queue=(findAp id l).map Appl.queue:=by
 induction hs generalizing l with
 | nil=>
  intro h _
  have:l=[]:=List.length_eq_zero_iff.1 h.symm
  subst this
  rfl
 | cons v t ih=>
  intro h1 h2
  cases l with
  | nil=>simp at h1
  | cons a r=>
   have h0:=h2 0 (by simp) (by simp)
   simp only [List.getElem_cons_zero] at h0
   by_cases e:a.id=id
   ·have e':v.id=id:=h0.1.trans e
    simp [findA,findAp,e,e',h0.2]
   ·have e':¬v.id=id:=fun x=>e (h0.1.symm.trans x)
    have:=ih (l:=r) (by simpa using h1) (fun i a b=>by have:=h2 (i+1) (by simpa using a) (by simpa using b);simpa using this)
    simpa [findA,findAp,e,e'] using this
theorem l04App_any (x:Sls) (s:St) (id:Int) (w:World) (h:ApplRow w x.aa x.al s.apps) (hl:x.al≤1048576) :
  Calls Tryz.prog 55 #[sv x s,.int .i64 id] w fun e w'=>e=.returned (.int .i64 (apAt s.apps id))∧Below w.heap.size w w':=by
 have HR:=hide h
 have HL:=hide h.1
 have HB0:=hide (yA (Below.refl _ w) (.cells (svc x s) 34))
 have P0:=hide (yD w (svc x s) 34)
 clear h
 obtain ⟨qa,ql,qc,aa,al,ac,ma,ml,mc,ca,cl,cc⟩:=x
 obtain ⟨qs,clock,epoch,next,serial,apps,ms,cs⟩:=s
 simp only at hl HR HL ⊢
 go_enter Tryz.func55,Tryz.ntmps55
 go_wp2
 go_loopw [5] (fun i wr=>∃(k:Nat),k≤al∧i=.int .i64 k∧Hid (apAt apps id=apFrom id (apps.drop k) k)∧Hid (Blk wr w.heap.size (svc ⟨qa,ql,qc,aa,al,ac,ma,ml,mc,ca,cl,cc⟩ ⟨qs,clock,epoch,next,serial,apps,ms,cs⟩) 34)∧Hid (Below w.heap.size w wr)) (fun i _=>al - (intOf i).toNat)
 case atStart=>exact ⟨0,Nat.zero_le _,rfl,hide (by simp [apAt]),P0,HB0⟩
 case round=>
  obtain ⟨k,hk,rfl,HQ,HP,HB⟩:=hrel
  have p5:=(uH HP).at 5
  simp at p5
  by_cases hlt:k<al
  ·obtain ⟨b,off,rfl,hq⟩:=((uH HR).below (uH HB)).at hlt
   have hkl:k<apps.length:=by have:=uH HL;omega
   have hst:=hide (apFrom_step (id:=id) hkl)
   obtain ⟨xo,xl,xc,hxx⟩:=hq hkl
   have c0:=hxx.1
   clear hq hxx
   obtain ⟨s,hs⟩:∃s,apps[k].id=s:=⟨_,rfl⟩
   rw [hs] at c0 hst
   clear hs hkl
   by_cases he:s=id
   ·have HE:=hide he
    have hbe:(s==id)=true:=by simp [he]
    clear he
    go_wp2
    go_ret
    exact ⟨ret_int (by rw [uH HQ,uH hst,if_pos (uH HE)]),uH HB⟩
   ·have HE:=hide he
    have hbe:(s==id)=false:=by simp [he]
    clear he
    go_wp2
    go_roundw
    case rel=>exact ⟨k+1,by omega,by go_num,hide (by rw [uH HQ,uH hst,if_neg (uH HE)]),HP,HB⟩
    case measure=>simp [intOf];omega
  ·go_wp2
   go_ret
   exact ⟨ret_int (by rw [uH HQ,apFrom_end (by have:=uH HL;omega)]),uH HB⟩
end
section
open Go.RowKit
def bothOk (s a b c d:Int):Bool:=resOk a b&&resOk c d&&resOk (a+s*c) (b+s*d)
def bothV (s a b c d:Int):Value:=if bothOk s a b c d then rv (a+s*c) (b+s*d) else rv 0 0
theorem both_no {s a b c d:Int} (h:bothOk s a b c d=false):bothV s a b c d=rv 0 0:=by simp [bothV,h]
theorem both_yes {s a b c d:Int} (h:bothOk s a b c d=true):bothV s a b c d=rv (a+s*c) (b+s*d):=by simp [bothV,h]
theorem l02Both_any (a b c d s:Int) (w:World) (hs:s=1∨s = -1) :
  Calls Tryz.prog 158 #[rv a b,rv c d,.int .i64 s] w fun e w'=>e=.returned (.tuple #[bothV s a b c d,.bool (bothOk s a b c d)])∧Below w.heap.size w w':=by
 cases h1:resOk a b
 ·have hb:bothOk s a b c d=false:=by simp [bothOk,h1]
  rw [both_no hb,hb]
  go_enter Tryz.func158,Tryz.ntmps158
  go_wp2_with (go_at_call 94;refine (specResOk_any _ _ _).mono ?_;rintro e w' ⟨rfl,rfl⟩)
  refine bodyPost_ret (v:=.tuple #[rv 0 0,.bool false]) (by simp [results,Tryz.results158,go_sem]) rfl ⟨rfl,?_⟩
  repeat (first | exact Below.refl _ _ | refine yA ?_ _ | refine yC ?_ _ _ _ (by omega))
 ·cases h2:resOk c d
  ·have hb:bothOk s a b c d=false:=by simp [bothOk,h2]
   rw [both_no hb,hb]
   go_enter Tryz.func158,Tryz.ntmps158
   go_wp2_with (go_at_call 94;refine (specResOk_any _ _ _).mono ?_;rintro e w' ⟨rfl,rfl⟩)
   refine bodyPost_ret (v:=.tuple #[rv 0 0,.bool false]) (by simp [results,Tryz.results158,go_sem]) rfl ⟨rfl,?_⟩
   repeat (first | exact Below.refl _ _ | refine yA ?_ _ | refine yC ?_ _ _ _ (by omega))
  ·obtain ⟨q1,q2,q3,q4⟩:=resOk_bd h1
   obtain ⟨q5,q6,q7,q8⟩:=resOk_bd h2
   have m1:IntKind.i64.wrap (s*c)=s*c:=by rw [IntKind.wrap_i64];rcases hs with rfl | rfl<;>omega
   have m2:IntKind.i64.wrap (s*d)=s*d:=by rw [IntKind.wrap_i64];rcases hs with rfl | rfl<;>omega
   have m3:IntKind.i64.wrap (a+s*c)=a+s*c:=by rw [IntKind.wrap_i64];rcases hs with rfl | rfl<;>omega
   have m4:IntKind.i64.wrap (b+s*d)=b+s*d:=by rw [IntKind.wrap_i64];rcases hs with rfl | rfl<;>omega
   cases h3:resOk (a+s*c) (b+s*d)
   ·have hb:bothOk s a b c d=false:=by simp [bothOk,h3]
    rw [both_no hb,hb]
    go_enter Tryz.func158,Tryz.ntmps158
    go_wp2_with (go_at_call 94;refine (specResOk_any _ _ _).mono ?_;rintro e w' ⟨rfl,rfl⟩)
    refine bodyPost_ret (v:=.tuple #[rv 0 0,.bool false]) (by simp [results,Tryz.results158,go_sem]) rfl ⟨rfl,?_⟩
    repeat (first | exact Below.refl _ _ | refine yA ?_ _ | refine yC ?_ _ _ _ (by omega))
   ·have hb:bothOk s a b c d=true:=by simp [bothOk,h1,h2,h3]
    rw [both_yes hb,hb]
    go_enter Tryz.func158,Tryz.ntmps158
    go_wp2_with (go_at_call 94;refine (specResOk_any _ _ _).mono ?_;rintro e w' ⟨rfl,rfl⟩)
    refine bodyPost_ret (v:=.tuple #[rv (a+s*c) (b+s*d),.bool true]) (by simp [results,Tryz.results158,go_sem]) rfl ⟨rfl,?_⟩
    repeat (first | exact Below.refl _ _ | refine yA ?_ _ | refine yC ?_ _ _ _ (by omega))
def RAt (w:World) (b p:Nat) (r:Int×Int):Prop:=w.cell? ⟨b,p,none⟩=some (.int .i64 r.1)∧w.cell? ⟨b,p+1,none⟩=some (.int .i64 r.2)
def RRow (w:World) (ao:Option Addr) (len:Nat) (l:List (Int×Int)):Prop:=
 len=l.length∧(len=0∨∃b off,ao=some ⟨b,off,none⟩∧∀i (h:i<l.length),RAt w b (off+i*2) l[i])
theorem RAt.lt {w:World} {b p:Nat} {r:Int×Int} (h:RAt w b p r):b<w.heap.size:=yG h.1
theorem RAt.below {w w':World} {b p:Nat} {r:Int×Int} (h:RAt w b p r) (hb:Below w.heap.size w w'):RAt w' b p r:=⟨(hb.cell h.lt).trans h.1,(hb.cell h.lt).trans h.2⟩
theorem RRow.below {w w':World} {ao:Option Addr} {len:Nat} {l:List (Int×Int)} (h:RRow w ao len l) (hb:Below w.heap.size w w'):RRow w' ao len l:=by
 obtain ⟨h1,h2⟩:=h
 refine ⟨h1,?_⟩
 rcases h2 with h2 | ⟨b,off,h3,h4⟩
 ·exact .inl h2
 ·exact .inr ⟨b,off,h3,fun i h=>(h4 i h).below hb⟩
theorem RRow.at {w:World} {ao:Option Addr} {len:Nat} {l:List (Int×Int)} (h:RRow w ao len l) {i:Nat} (hi:i<len):∃b off,ao=some ⟨b,off,none⟩∧∀(h:i<l.length),RAt w b (off+i*2) l[i]:=by
 obtain ⟨h1,h2⟩:=h
 rcases h2 with h2 | ⟨b,off,h3,h4⟩
 ·omega
 ·exact ⟨b,off,h3,fun hi=>h4 i hi⟩
abbrev rcell (r:Int×Int):List Value:=[.int .i64 r.1,.int .i64 r.2]
def rcells:List (Int×Int)→List Value
 | []=>[]
 | q::t=>rcell q++rcells t
theorem rcells_app (a:List (Int×Int)) (q:Int×Int):rcells (a++[q])=rcells a++rcell q:=by
 induction a with
 | nil=>rfl
 | cons x t ih=>rw [List.cons_append,rcells,rcells,ih,List.append_assoc]
theorem rcells_at:∀(l:List (Int×Int)) (i:Nat) (h:i<l.length),(rcells l)[i*2]? = some (.int .i64 l[i].1)∧(rcells l)[i*2+1]? = some (.int .i64 l[i].2)
 | q::t,0,_=>⟨rfl,rfl⟩
 | q::t,i+1,h=>by
  have e:=rcells_at t i (by simpa using h)
  have k:∀j,(rcells (q::t))[(i+1)*2+j]? = (rcells t)[i*2+j]?:=fun j=>by
   rw [rcells,show (i+1)*2+j=(rcell q).length+(i*2+j) by simp;omega,List.getElem?_append_right (by omega)]
   congr 1
   omega
  have k0:=k 0
  simp only [Nat.add_zero] at k0
  rw [k0,k 1]
  simpa using e
def ROwn (B:Nat) (w:World) (v:Value) (l:List (Int×Int)):Prop:=w.ownsRow B 36 2 v l.length (rcells l)
theorem rown_nil (B:Nat) (w:World):ROwn B w (.slice none 0 0) []:=World.ownsRow_nil _ _ _ _
theorem rown_empty (w:World):ROwn w.heap.size (w.alloc (.cells #[] 36)) (.slice (some ⟨w.heap.size,0,none⟩) 0 0) []:=
 ⟨rfl,.inr ⟨w.heap.size,0,#[],rfl,Nat.le_refl _,by show (w.heap.push _)[w.heap.size]? = _;simp,Nat.le_refl _,by unfold maxLen;omega,rfl,rfl⟩⟩
theorem ROwn.base {w:World} {B B':Nat} {v:Value} {l:List (Int×Int)} (h:ROwn B w v l) (hb:B'≤B):ROwn B' w v l:=by
 obtain ⟨h1,h2⟩:=h
 refine ⟨h1,?_⟩
 rcases h2 with h2 | ⟨g,cap,cur,a,b,c⟩
 ·exact .inl h2
 ·exact .inr ⟨g,cap,cur,a,Nat.le_trans hb b,c⟩
theorem ROwn.below {w w':World} {B:Nat} {v:Value} {l:List (Int×Int)} (h:ROwn B w v l) (hb:Below w.heap.size w w'):ROwn B w' v l:=
 h.kept (grownBy_below (grownBy_refl w none) hb) (by by_cases e:v.ownBlock=none;exact .inl e;exact .inr e)
theorem ROwn.row {w:World} {B:Nat} {v:Value} {l:List (Int×Int)} (h:ROwn B w v l):∃ao cap,v=.slice ao l.length cap∧RRow w ao l.length l∧l.length≤cap:=by
 rcases h.2 with ⟨rfl,h0⟩ | ⟨g,cap,cur,rfl,h1,h2,h3,h4,h5,h6⟩
 ·exact ⟨none,0,by rw [h0],⟨rfl,.inl h0⟩,by omega⟩
 ·refine ⟨some ⟨g,0,none⟩,cap,rfl,⟨rfl,.inr ⟨g,0,rfl,fun i hi=>?_⟩⟩,h3⟩
  obtain ⟨a,b⟩:=rcells_at l i hi
  have k:∀j (v:Value),j<l.length*2→(rcells l)[j]? = some v→w.cell? ⟨g,j,none⟩=some v:=fun j v hj hv=>by
   rw [←h6,List.getElem?_take_of_lt hj] at hv
   simp [World.cell?,h2]
   simpa using hv
  unfold RAt
  rw [Nat.zero_add]
  exact ⟨k _ _ (by omega) a,k _ _ (by omega) b⟩
theorem rown_step {w wr w1:World} {B:Nat} {v v':Value} {l:List (Int×Int)} {q:Int×Int} {ob:Obj} (hb:Below B w wr) (hown:ROwn B wr v l)
  (h1:w1.ownsRow B 36 2 v' (l.length+1) (rcells l++rcell q)) (hg:(wr.alloc ob).grownBy w1 v.ownBlock) (hB:B≤wr.heap.size) :
  ROwn B w1 v' (l++[q])∧Below B w w1:=by
 refine ⟨?_,(hb.alloc hB ob).grown hg (by simp;omega) ?_⟩
 ·unfold ROwn
  rw [rcells_app,List.length_append]
  exact h1
 ·intro k hk
  rcases hown.2 with ⟨rfl,_⟩ | ⟨g,cap,cur,rfl,hg',_⟩
  ·simp [Value.ownBlock] at hk
  ·simp [Value.ownBlock] at hk;omega
theorem Tryz.infoR:(Tryz.prog.info? 36).map (fun i=>(i.zero,i.size,i.bytes))=some (some (.agg #[.int .i64 0,.int .i64 0]),2,16):=by kernel_rfl
def sumFrom:List (Int×Int)→Int→Int→Int×Int×Bool
 | [],x,y=>(x,y,true)
 | r::t,x,y=>if bothOk 1 x y r.1 r.2=true then sumFrom t (x+1*r.1) (y+1*r.2) else (0,0,false)
def sumR (l:List (Int×Int)):Int×Int×Bool:=sumFrom l 0 0
theorem sumFrom_step {l:List (Int×Int)} {k:Nat} (h:k<l.length) (x y:Int):sumFrom (l.drop k) x y=if bothOk 1 x y l[k].1 l[k].2=true then sumFrom (l.drop (k+1)) (x+1*l[k].1) (y+1*l[k].2) else (0,0,false):=by
 rw [List.drop_eq_getElem_cons h,sumFrom]
theorem sumFrom_end {l:List (Int×Int)} {k:Nat} (h:l.length≤k) (x y:Int):sumFrom (l.drop k) x y=(x,y,true):=by
 rw [List.drop_of_length_le h];rfl
def capsOf (l:List Mac):List (Int×Int):=l.map (fun m=>(m.mem,m.cpu))
theorem capsOf_step {l:List Mac} {k:Nat} (h:k<l.length):capsOf (l.take (k+1))=capsOf (l.take k)++[(l[k].mem,l[k].cpu)]:=by
 rw [List.take_succ_eq_append_getElem h,capsOf,List.map_append];rfl
def usedL (p:Con→Bool) (l:List Con):List (Int×Int):=(l.filter p).map (fun c=>(c.mem,c.cpu))
theorem usedL_step {p:Con→Bool} {l:List Con} {k:Nat} (h:k<l.length):usedL p (l.take (k+1))=if p l[k]=true then usedL p (l.take k)++[(l[k].mem,l[k].cpu)] else usedL p (l.take k):=by
 rw [List.take_succ_eq_append_getElem h]
 simp only [usedL,List.filter_append,List.map_append]
 by_cases hp:p l[k]=true<;>simp [hp]
def capW (w:World) (c:Array Value):World:=(w.alloc (.cells c 34)).alloc (.cells #[.int .i64 0,.int .i64 0] 36)
theorem capW_size (w:World) (c:Array Value):(capW w c).heap.size=w.heap.size+1+1:=by simp only [capW,yE]
theorem capW_below (w:World) (c:Array Value):Below w.heap.size w (capW w c):=yA (yA (Below.refl _ w) _) _
theorem capW_var (w:World) (c:Array Value):Var (capW w c) 36 (w.heap.size+1) 0 0:=by
 have:=var_new (w.alloc (.cells c 34)) 36 0 0
 rwa [yE] at this
abbrev macobj (m:Mac):Obj:=.cells #[.string (bs m.name),.int .i64 m.mem,.int .i64 m.cpu,.int .i64 m.seen] 104
def boxW (w:World) (c:Array Value):World:=w.alloc (.cells c 34)
theorem boxW_size (w:World) (c:Array Value):(boxW w c).heap.size=w.heap.size+1:=by simp only [boxW,yE]
theorem boxW_below (w:World) (c:Array Value):Below w.heap.size w (boxW w c):=yA (Below.refl _ w) _
theorem boxW_blk (w:World) (c:Array Value):Blk (boxW w c) w.heap.size c 34:=yD w c _
def placeFrom (nm:List UInt8):List Q→Nat→Int
 | [],_=>-1
 | q::t,k=>if q.name=nm then k else placeFrom nm t (k+1)
def place (l:List Q) (nm:List UInt8):Int:=placeFrom nm l 0
theorem placeFrom_step {nm:List UInt8} {l:List Q} {k:Nat} (h:k<l.length):placeFrom nm (l.drop k) k=if l[k].name=nm then (k:Int) else placeFrom nm (l.drop (k+1)) (k+1):=by
 rw [List.drop_eq_getElem_cons h,placeFrom]
theorem placeFrom_end {nm:List UInt8} {l:List Q} {k:Nat} (h:l.length≤k):placeFrom nm (l.drop k) k = -1:=by
 rw [List.drop_of_length_le h];rfl
theorem l03Place_any (ao:Option Addr) (len cap:Nat) (l:List Q) (nm:List UInt8) (w:World) (h:QRow w ao len l) (hl:len≤1048576) :
  Calls Tryz.prog 88 #[.slice ao len cap,.string (bs nm)] w fun e w'=>e=.returned (.int .i64 (place l nm))∧w=w':=by
 have HR:=hide h
 have HL:=hide h.1
 clear h
 go_enter Tryz.func88,Tryz.ntmps88
 go_wp2
 go_loopw [5] (fun i wr=>∃k:Nat,k≤len∧i=.int .i64 k∧Hid (place l nm=placeFrom nm (l.drop k) k)∧wr=w) (fun i _=>len - (intOf i).toNat)
 case atStart=>exact ⟨0,Nat.zero_le _,rfl,hide (by simp [place]),rfl⟩
 case round=>
  obtain ⟨k,hk,rfl,hp,rfl⟩:=hrel
  by_cases hlt:k<len
  ·obtain ⟨b,off,rfl,hq⟩:=(uH HR).at hlt
   have hkl:k<l.length:=by have:=uH HL;omega
   have hst:=hide (placeFrom_step (nm:=nm) (l:=l) (k:=k) hkl)
   have hq0:=(hq hkl).1
   clear hq
   obtain ⟨s,hs⟩:∃s,l[k].name=s:=⟨_,rfl⟩
   rw [hs] at hq0 hst
   have hbe:=bs_eq s nm
   clear hs hkl
   by_cases he:s=nm
   ·have HE:=hide he
    rw [decide_eq_true he] at hbe
    clear he
    go_wp2
    go_ret
    exact ⟨ret_int (by rw [uH hp,uH hst,if_pos (uH HE)]),rfl⟩
   ·have HE:=hide he
    rw [decide_eq_false he] at hbe
    clear he
    go_wp2
    go_roundw
    case rel=>exact ⟨k+1,by omega,by go_num,hide (by rw [uH hp,uH hst,if_neg (uH HE)]),trivial⟩
    case measure=>simp [intOf];omega
  ·go_wp2
   go_ret
   exact ⟨ret_int (by rw [uH hp,placeFrom_end (by have:=uH HL;omega)]),rfl⟩
def dueSum (nm:List UInt8):List Q→Int
 | []=>0
 | q::t=>(if q.parent=nm then q.due else 0)+dueSum nm t
def kidsSum (l:List Q) (nm:List UInt8):Int:=dueSum nm (l.drop 1)
theorem dueSum_step {nm:List UInt8} {l:List Q} {k:Nat} (h:k<l.length):dueSum nm (l.drop k)=(if l[k].parent=nm then l[k].due else 0)+dueSum nm (l.drop (k+1)):=by
 rw [List.drop_eq_getElem_cons h,dueSum]
theorem dueSum_end {nm:List UInt8} {l:List Q} {k:Nat} (h:l.length≤k):dueSum nm (l.drop k)=0:=by
 rw [List.drop_of_length_le h];rfl
theorem l03Sum_any (ao:Option Addr) (len cap:Nat) (l:List Q) (nm:List UInt8) (w:World) (h:QRow w ao len l) (hl:len≤1048576) (hd:∀q ∈ l,0≤q.due∧q.due≤10000) :
  Calls Tryz.prog 89 #[.slice ao len cap,.string (bs nm)] w fun e w'=>e=.returned (.int .i64 (kidsSum l nm))∧w=w':=by
 have HR:=hide h
 have HL:=hide h.1
 have HD:=hide hd
 clear h hd
 go_enter Tryz.func89,Tryz.ntmps89
 go_wp2
 go_loopw [5,6] (fun s i wr=>∃(k:Nat) (a:Int),1≤k∧k≤len+1∧i=.int .i64 k∧s=.int .i64 a∧0≤a∧a≤10000*k∧Hid (kidsSum l nm=a+dueSum nm (l.drop k))∧wr=w) (fun _ i _=>len+1 - (intOf i).toNat)
 case atStart=>exact ⟨1,0,by omega,by omega,rfl,rfl,by omega,by omega,hide (by simp [kidsSum]),rfl⟩
 case round=>
  obtain ⟨k,a,hk1,hk,rfl,rfl,ha0,ha1,hp,rfl⟩:=hrel
  by_cases hlt:k<len
  ·obtain ⟨b,off,rfl,hq⟩:=(uH HR).at hlt
   have hkl:k<l.length:=by have:=uH HL;omega
   have hst:=hide (dueSum_step (nm:=nm) (l:=l) (k:=k) hkl)
   have hq1:=(hq hkl).2.1
   have hq2:=(hq hkl).2.2.1
   obtain ⟨d0,d1⟩:=uH HD l[k] (List.getElem_mem _)
   clear hq
   obtain ⟨s,hs⟩:∃s,l[k].parent=s:=⟨_,rfl⟩
   obtain ⟨d,hdd⟩:∃d,l[k].due=d:=⟨_,rfl⟩
   rw [hs] at hq1 hst
   rw [hdd] at hq2 hst d0 d1
   have hbe:=bs_eq s nm
   clear hs hdd hkl
   by_cases he:s=nm
   ·have HE:=hide he
    rw [decide_eq_true he] at hbe
    clear he
    go_wp2
    go_roundw
    case rel=>exact ⟨k+1,a+d,by omega,by omega,by go_num,by go_num,by omega,by omega,hide (by rw [uH hp,uH hst,if_pos (uH HE)];omega),trivial⟩
    case measure=>simp [intOf];omega
   ·have HE:=hide he
    rw [decide_eq_false he] at hbe
    clear he
    go_wp2
    go_roundw
    case rel=>exact ⟨k+1,a,by omega,by omega,by go_num,rfl,by omega,by omega,hide (by rw [uH hp,uH hst,if_neg (uH HE)];omega),trivial⟩
    case measure=>simp [intOf];omega
  ·go_wp2
   go_ret
   exact ⟨ret_int (by rw [uH hp,dueSum_end (by have:=uH HL;omega)];omega),rfl⟩
theorem all_snoc (s:ByteArray) (k:Nat) (h:k<s.size) (p:UInt8→Bool) (h1:(s.data.toList.take k).all p=true) (h2:p s[k]=true):(s.data.toList.take (k+1)).all p=true:=by
 rw [take_snoc s k h,List.all_append,h1];simpa using h2
theorem not_all (s:ByteArray) (k:Nat) (h:k<s.size) (p:UInt8→Bool) (h2:p s[k]=false):s.data.toList.all p=false:=by
 rw [List.all_eq_false]
 exact ⟨s[k],by simp [ByteArray.getElem_eq_getElem_data],by simp [h2]⟩
def nameB (c:UInt8):Bool:=inB c.toNat 97 122||inB c.toNat 48 57
def nameOk (l:List UInt8):Bool:=inB l.length 1 10&&l.all nameB
theorem specNameOk_any (s:ByteArray) (w:World) (hs:s.size≤1048576) :
  Calls Tryz.prog 87 #[.string s] w fun e w'=>e=.returned (.bool (nameOk s.data.toList))∧w'=w:=by
 go_enter Tryz.func87,Tryz.ntmps87
 go_wp2
 go_loop [3] (fun i=>∃k:Nat,k≤s.size∧i=.int .i64 k∧(s.data.toList.take k).all nameB=true) (fun i=>s.size - (intOf i).toNat)
 case atStart=>exact ⟨0,Nat.zero_le _,rfl,by simp⟩
 case round=>
  obtain ⟨k,hk,rfl,hall⟩:=hrel
  have HA:=hide hall
  clear hall
  by_cases hlt:k<s.size
  ·have hb:(s[k].toNat:Int)≤255:=byte_le _
   by_cases h1:97≤(s[k].toNat:Int)∧(s[k].toNat:Int)≤122
   ·have e1:inB (s[k].toNat:Int) 97 122=true:=inB_true h1.1 h1.2
    clear h1
    go_wp2_with (go_at_call 42;refine (l01In_any _ _ _ _).mono ?_;rintro e w' ⟨rfl,rfl⟩)
    go_round
    case rel=>exact ⟨k+1,by omega,by go_num,all_snoc s k hlt _ (uH HA) (by simp [nameB,e1])⟩
    case measure=>simp [intOf];omega
   ·have e1:inB (s[k].toNat:Int) 97 122=false:=inB_false h1
    clear h1
    by_cases h2:48≤(s[k].toNat:Int)∧(s[k].toNat:Int)≤57
    ·have e2:inB (s[k].toNat:Int) 48 57=true:=inB_true h2.1 h2.2
     clear h2
     go_wp2_with (go_at_call 42;refine (l01In_any _ _ _ _).mono ?_;rintro e w' ⟨rfl,rfl⟩)
     go_round
     case rel=>exact ⟨k+1,by omega,by go_num,all_snoc s k hlt _ (uH HA) (by simp [nameB,e1,e2])⟩
     case measure=>simp [intOf];omega
    ·have e2:inB (s[k].toNat:Int) 48 57=false:=inB_false h2
     clear h2
     have hf:Hid (nameOk s.data.toList=false):=hide (by rw [nameOk,not_all s k hlt nameB (by simp [nameB,e1,e2])];simp)
     go_wp2_with (go_at_call 42;refine (l01In_any _ _ _ _).mono ?_;rintro e w' ⟨rfl,rfl⟩)
     go_ret
     exact ⟨yF (uH hf).symm,rfl⟩
  ·have hf:Hid (nameOk s.data.toList=inB (s.size:Int) 1 10):=hide (by rw [nameOk,←take_all s k (by omega),uH HA,take_all s k (by omega),len_eq];simp)
   go_wp2_with (go_at_call 42;refine (l01In_any _ _ _ _).mono ?_;rintro e w' ⟨rfl,rfl⟩)
   go_ret
   exact ⟨yF (uH hf).symm,rfl⟩
def qOk (l:List Q) (k:Nat) (q:Q):Bool:=
 nameOk q.name&&decide (place l q.name=k)&&inB q.most 0 10000&&inB q.due 0 q.most
  && (if k=0 then decide (q.parent=[])&&decide (q.due=10000) else inB (place l q.parent) 0 ((k:Int) - 1))
def okFrom (l:List Q):List Q→Nat→Bool
 | [],_=>true
 | q::t,k=>qOk l k q&&okFrom l t (k+1)
def sumsOk (l:List Q):List Q→Bool
 | []=>true
 | q::t=>decide (kidsSum l q.name≤10000)&&sumsOk l t
def queuesOk (l:List Q):Bool:=okFrom l l 0&&sumsOk l l&&inB l.length 1 20
theorem okFrom_step {l:List Q} {k:Nat} (h:k<l.length):okFrom l (l.drop k) k=(qOk l k l[k]&&okFrom l (l.drop (k+1)) (k+1)):=by
 rw [List.drop_eq_getElem_cons h,okFrom]
theorem okFrom_end {l:List Q} {k:Nat} (h:l.length≤k):okFrom l (l.drop k) k=true:=by
 rw [List.drop_of_length_le h];rfl
theorem sumsOk_step {l:List Q} {k:Nat} (h:k<l.length):sumsOk l (l.drop k)=(decide (kidsSum l l[k].name≤10000)&&sumsOk l (l.drop (k+1))):=by
 rw [List.drop_eq_getElem_cons h,sumsOk]
theorem sumsOk_end {l:List Q} {k:Nat} (h:l.length≤k):sumsOk l (l.drop k)=true:=by
 rw [List.drop_of_length_le h];rfl
theorem okFrom_due {l:List Q}:∀(m:List Q) (k:Nat),okFrom l m k=true→∀q ∈ m,0≤q.due∧q.due≤10000
 | [],_,_,q,h=>by simp at h
 | x::t,k,h,q,hq=>by
  rw [okFrom,Bool.and_eq_true] at h
  rcases List.mem_cons.1 hq with rfl | hq
  ·have:=h.1
   simp only [qOk,inB,Bool.and_eq_true,decide_eq_true_eq] at this
   omega
  ·exact okFrom_due t (k+1) h.2 q hq
theorem ok_no1 {l:List Q} (h:okFrom l l 0=false):queuesOk l=false:=by simp [queuesOk,h]
theorem ok_no2 {l:List Q} (h:sumsOk l l=false):queuesOk l=false:=by simp [queuesOk,h]
theorem ok_yes {l:List Q} (h1:okFrom l l 0=true) (h2:sumsOk l l=true):queuesOk l=inB l.length 1 20:=by simp [queuesOk,h1,h2]
theorem placeFrom_range (nm:List UInt8):∀(l:List Q) (k:Nat),placeFrom nm l k = -1∨((k:Int)≤placeFrom nm l k∧placeFrom nm l k<k+l.length)
 | [],_=>.inl rfl
 | q::t,k=>by
  rw [placeFrom]
  split
  ·right;simp;omega
  ·rcases placeFrom_range nm t (k+1) with h | h
   ·exact .inl h
   ·right;simp;omega
theorem place_range (l:List Q) (nm:List UInt8):place l nm = -1∨(0≤place l nm∧place l nm<l.length):=by
 rcases placeFrom_range nm l 0 with h | h
 ·exact .inl h
 ·right;unfold place;simp at h;omega
theorem placeFrom_none {nm:List UInt8}:∀{l:List Q} {k:Nat},(∀q ∈ l,q.name≠nm)→placeFrom nm l k = -1
 | [],_,_=>rfl
 | q::t,k,h=>by
  rw [placeFrom,if_neg (h q (by simp))]
  exact placeFrom_none (fun x hx=>h x (by simp [hx]))
theorem okFrom_at {l:List Q}:∀(m:List Q) (k:Nat),okFrom l m k=true→∀i (h:i<m.length),qOk l (k+i) m[i]=true
 | [],_,_,i,h=>by simp at h
 | x::t,k,ho,i,h=>by
  rw [okFrom,Bool.and_eq_true] at ho
  cases i with
  | zero=>simpa using ho.1
  | succ j=>
   have:=okFrom_at t (k+1) ho.2 j (by simpa using h)
   rw [show k+1+j=k+(j+1) by omega] at this
   simpa using this
theorem ok_at {l:List Q} (h:queuesOk l=true) (i:Nat) (hi:i<l.length):qOk l i l[i]=true:=by
 have h1:okFrom l l 0=true:=by simp only [queuesOk,Bool.and_eq_true] at h;exact h.1.1
 have:=okFrom_at l 0 h1 i hi
 simpa using this
theorem ok_named {l:List Q} (h:queuesOk l=true):∀q ∈ l,q.name≠[]:=fun q hq e=>by
 obtain ⟨i,hi,rfl⟩:=List.mem_iff_getElem.1 hq
 have:=ok_at h i hi
 simp [qOk,nameOk,e,inB] at this
theorem parent_ahead {l:List Q} (h:queuesOk l=true) {i:Nat} (hi:i<l.length):place l l[i].parent<i:=by
 have h1:=ok_at h i hi
 simp only [qOk,Bool.and_eq_true] at h1
 have h2:=h1.2
 by_cases h0:i=0
 ·rw [if_pos h0] at h2
  simp only [Bool.and_eq_true,decide_eq_true_eq] at h2
  rw [h2.1]
  have:place l [] = -1:=placeFrom_none (ok_named h)
  omega
 ·rw [if_neg h0] at h2
  simp only [inB,decide_eq_true_eq] at h2
  omega
def pathAt (l:List Q):Nat→Int→List (List UInt8)
 | 0,_=>[]
 | n+1,p=>if h:0≤p∧p.toNat<l.length then l[p.toNat].name::pathAt l n (place l l[p.toNat].parent) else []
def path (l:List Q) (nm:List UInt8):List (List UInt8):=if queuesOk l then pathAt l (l.length+1) (place l nm) else []
theorem pathAt_more {l:List Q} (h:queuesOk l=true):∀(n m:Nat) (p:Int),p<n→p<m→pathAt l n p=pathAt l m p
 | 0,0,_,_,_=>rfl
 | 0,m+1,p,h1,h2=>by rw [pathAt,pathAt,dif_neg (by omega)]
 | n+1,0,p,h1,h2=>by rw [pathAt,pathAt,dif_neg (by omega)]
 | n+1,m+1,p,h1,h2=>by
  rw [pathAt,pathAt]
  split
  ·rename_i hp
   have:=parent_ahead h hp.2
   rw [pathAt_more h n m _ (by omega) (by omega)]
  ·rfl
theorem path_step {l:List Q} (h:queuesOk l=true) {k n:Nat} (hk:k<l.length) (hn:k<n):pathAt l n k=l[k].name::pathAt l n (place l l[k].parent):=by
 cases n with
 | zero=>omega
 | succ n=>
  have hp:=parent_ahead h hk
  rw [pathAt,dif_pos (by simp;exact hk)]
  simp only [Int.toNat_natCast]
  rw [pathAt_more h n (n+1) _ (by omega) (by omega)]
theorem path_end {l:List Q} {n:Nat} {p:Int} (hp:p<0):pathAt l n p=[]:=by
 cases n with
 | zero=>rfl
 | succ n=>rw [pathAt,dif_neg (by omega)]
theorem texts_none {B:Nat} {w:World} {v:Value} (h:Texts B w v []):∃a cap,v=.slice a 0 cap:=by
 rcases h.2 with ⟨rfl,_⟩ | ⟨g,cap,cur,rfl,_⟩
 ·exact ⟨_,_,rfl⟩
 ·exact ⟨_,_,rfl⟩
theorem texts_some {B:Nat} {w:World} {v:Value} {ps:List (List UInt8)} (h:Texts B w v ps) (hp:ps≠[]):∃g cap,v=.slice (some ⟨g,0,none⟩) ps.length cap∧SS w g cap (ps.map bs)∧B≤g:=by
 have hl:0<ps.length:=List.length_pos_iff.2 hp
 obtain ⟨g,cap,h1,h2,h3⟩:=ss_of_owns h (by simp;omega)
 exact ⟨g,cap,by rw [h1];simp,h2,h3⟩
theorem SS.text {w:World} {g cap:Nat} {ps:List (List UInt8)} (h:SS w g cap (ps.map bs)) {j:Nat} (hj:j<ps.length):w.cell? ⟨g,j,none⟩=some (.string (bs ps[j])):=by
 have:=h.cell j (by simpa using hj)
 simpa using this
end
end Go.Proofs.YtdhibeclkdepiaaGreat
