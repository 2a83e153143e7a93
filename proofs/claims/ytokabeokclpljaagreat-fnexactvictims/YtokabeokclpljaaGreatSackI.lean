/-
  Texts in one: AKey, FindAp, UsedByM, CapsI, SumS4, CapS, CapsS, TotalB, OverM, OkA, LackM, BackA, HasI, WfS, OkB, OnS, MarkP, MarkO, MarkV, OwnP, Hav, VicJ, CopyN, CpC, RmL, CopySt, GrowS, AppR, RowE, GrK, UsedOnB, IntL, MarkX, AnsW.
-/
import Derived.Test.YtokabeokclpljaaGreatSackH
import Derived.Test.YtokabeokclpljaaGreatSackG
import Derived.Deep.AppendLies
import Derived.Laws.CopyOwn
import Derived.Deep.RegionLaw
import Derived.ArgAppend
import Derived.ChangeSlices
set_option maxRecDepth 100000
set_option maxHeartbeats 16000000
set_option linter.unusedVariables false
set_option linter.unusedSimpArgs false
namespace Go.Proofs.YtokabeokclpljaaGreat
section
open Go.RowKit Go.Maps
structure AV where
 id:Int
 queue:List UInt8
 ao:Option Addr
 len:Nat
 cap:Nat
abbrev avv (v:AV):Value:=.agg #[.int .i64 v.id,.string (bs v.queue),.slice v.ao v.len v.cap]
def AVAt (w:World) (b p:Nat) (v:AV):Prop:=
 w.cell? ⟨b,p,none⟩=some (.int .i64 v.id)∧w.cell? ⟨b,p+1,none⟩=some (.string (bs v.queue))∧w.cell? ⟨b,p+2,none⟩=some (.slice v.ao v.len v.cap)
theorem AVAt.lt {w:World} {b p:Nat} {v:AV} (h:AVAt w b p v):b<w.heap.size:=yG h.1
theorem AVAt.below {w w':World} {b p:Nat} {v:AV} (h:AVAt w b p v) (hb:Below w.heap.size w w'):AVAt w' b p v:=
 ⟨(hb.cell h.lt).trans h.1,(hb.cell h.lt).trans h.2.1,(hb.cell h.lt).trans h.2.2⟩
def AVRow (w:World) (ao:Option Addr) (len:Nat) (l:List AV):Prop:=
 len=l.length∧(len=0∨∃b off,ao=some ⟨b,off,none⟩∧∀i (h:i<l.length),AVAt w b (off+i*3) l[i])
theorem AVRow.below {w w':World} {ao:Option Addr} {len:Nat} {l:List AV} (h:AVRow w ao len l) (hb:Below w.heap.size w w'):AVRow w' ao len l:=by
 obtain ⟨h1,h2⟩:=h
 refine ⟨h1,?_⟩
 rcases h2 with h2 | ⟨b,off,h3,h4⟩
 ·exact .inl h2
 ·exact .inr ⟨b,off,h3,fun i h=>(h4 i h).below hb⟩
theorem AVRow.at {w:World} {ao:Option Addr} {len:Nat} {l:List AV} (h:AVRow w ao len l) {i:Nat} (hi:i<len):∃b off,ao=some ⟨b,off,none⟩∧∀(h:i<l.length),AVAt w b (off+i*3) l[i]:=by
 obtain ⟨h1,h2⟩:=h
 rcases h2 with h2 | ⟨b,off,h3,h4⟩
 ·omega
 ·exact ⟨b,off,h3,fun hi=>h4 i hi⟩
def Heads (w:World) (hs:List AV) (l:List Appl):Prop:=
 hs.length=l.length∧∀i (h:i<hs.length) (h':i<l.length),hs[i].id=l[i].id∧hs[i].queue=l[i].queue∧AskRow w hs[i].ao hs[i].len l[i].asks∧hs[i].len≤hs[i].cap
theorem ApplRow.heads {w:World} {ao:Option Addr} {len:Nat} {l:List Appl} (h:ApplRow w ao len l):∃hs,AVRow w ao len hs∧Heads w hs l:=by
 obtain ⟨h1,h2⟩:=h
 by_cases h0:len=0
 ·have hl:l=[]:=List.length_eq_zero_iff.1 (by omega)
  subst hl
  exact ⟨[],⟨by simpa using h0,.inl h0⟩,rfl,fun i h=>by simp at h⟩
 ·rcases h2 with h2 | ⟨b,off,h3,h4⟩
  ·exact absurd h2 h0
  ·have inh:Inhabited AV:=⟨⟨0,[],none,0,0⟩⟩
   obtain ⟨F,hF⟩:=Go.Deep.choose_lt (α:=AV) (n:=l.length) (p:=fun i v=>∀hi:i<l.length,AVAt w b (off+i*3) v∧v.id=l[i].id∧v.queue=l[i].queue∧AskRow w v.ao v.len l[i].asks∧v.len≤v.cap) (fun i hi=>by
    obtain ⟨x,y,z,a,c,d,e,f⟩:=h4 i hi
    exact ⟨⟨l[i].id,l[i].queue,x,y,z⟩,fun _=>⟨⟨a,c,d⟩,rfl,rfl,e,f⟩⟩)
   refine ⟨(List.range l.length).map F,⟨by simpa using h1,.inr ⟨b,off,h3,fun i hi=>?_⟩⟩,by simp,fun i hi hi'=>?_⟩
   ·have hi':i<l.length:=by simpa using hi
    simpa using (hF i hi' hi').1
   ·simpa using (hF i hi' hi').2
def addrD:Option Addr→DataW Unit
 | none=>.agg []
 | some ⟨b,o,none⟩=>.agg [.lit (.int .i64 b),.lit (.int .i64 o)]
 | some ⟨b,o,some k⟩=>.agg [.lit (.int .i64 b),.lit (.int .i64 o),.lit (.int .i64 k)]
theorem addrD_inj {a b:Option Addr} (h:addrD a=addrD b):a=b:=by
 match a,b with
 | none,none=>rfl
 | none,some ⟨x,y,none⟩=>simp [addrD] at h
 | none,some ⟨x,y,some z⟩=>simp [addrD] at h
 | some ⟨x,y,none⟩,none=>simp [addrD] at h
 | some ⟨x,y,some z⟩,none=>simp [addrD] at h
 | some ⟨x,y,none⟩,some ⟨x',y',none⟩=>simp [addrD] at h;obtain ⟨h1,h2⟩:=h;(have e1:x=x':=(by omega));(have e2:y=y':=(by omega));subst e1 e2;rfl
 | some ⟨x,y,none⟩,some ⟨x',y',some z'⟩=>simp [addrD] at h
 | some ⟨x,y,some z⟩,some ⟨x',y',none⟩=>simp [addrD] at h
 | some ⟨x,y,some z⟩,some ⟨x',y',some z'⟩=>simp [addrD] at h;obtain ⟨h1,h2,h3⟩:=h;(have e1:x=x':=(by omega));(have e2:y=y':=(by omega));(have e3:z=z':=(by omega));subst e1 e2 e3;rfl
def ad (v:AV):DataW Unit:=.agg [.lit (.int .i64 v.id),.lit (.string v.queue),addrD v.ao,.lit (.int .i64 v.len),.lit (.int .i64 v.cap)]
theorem ad_inj {a b:AV} (h:ad a=ad b):a=b:=by
 obtain ⟨a1,a2,a3,a4,a5⟩:=a
 obtain ⟨b1,b2,b3,b4,b5⟩:=b
 simp [ad] at h
 obtain ⟨h1,h2,h3,h4,h5⟩:=h
 have e3:=addrD_inj h3
 have e4:a4=b4:=by omega
 have e5:a5=b5:=by omega
 subst h1 h2 e3 e4 e5
 rfl
def appElem:Value→Option (DataW Unit×List MemPlace)
 | .agg cs=>match cs.toList with
  | [.int .i64 x,.string s,.slice ao len cap]=>some (ad ⟨x,s.data.toList,ao,len,cap⟩,[])
  | _=>none
 | _=>none
theorem appElem_mk (v:AV):appElem (avv v)=some (ad v,[]):=by
 obtain ⟨x,qu,ao,len,cap⟩:=v
 simp [appElem,bs]
theorem appElem_shape {v:Value} {y:DataW Unit×List MemPlace} (h:appElem v=some y):∃c,v=avv c:=by
 unfold appElem at h
 split at h
 ·rename_i cs
  split at h
  ·rename_i x s ao len cap e
   have e2:cs=#[.int .i64 x,.string s,.slice ao len cap]:=by cases cs;simpa using e
   exact ⟨⟨x,s.data.toList,ao,len,cap⟩,by rw [e2];simp [avv,bs_data]⟩
  ·cases h
 ·cases h
theorem appElem_inv {v:Value} {m:AV} {ps:List MemPlace} (h:appElem v=some (ad m,ps)):v=avv m:=by
 obtain ⟨c,rfl⟩:=appElem_shape h
 rw [appElem_mk] at h
 have:=ad_inj (congrArg Prod.fst (Option.some.inj h))
 rw [show c=m from this]
def findA (id:Int) (l:List AV):Option AV:=l.find? (fun v=>decide (v.id=id))
theorem findA_id {id:Int} {l:List AV} {v:AV} (h:findA id l=some v):v.id=id:=by simpa using List.find?_some h
def KnownA (l:List AV) (keep:Lit→AV→Bool) (D:DataW Unit):Prop:=
 (∀kl,Maps.has D kl=true→∃v,findA v.id l=some v∧keyOf Tryz.prog 160 (keyv [] v.id)=some kl∧∀zd,D.atKey kl zd=ad v)∧
 (∀v kl,findA v.id l=some v→keyOf Tryz.prog 160 (keyv [] v.id)=some kl→Maps.has D kl=keep kl v)
abbrev allA:Lit→AV→Bool:=fun _ _=>true
theorem knownA_empty:KnownA [] allA (.map []):=⟨fun kl h=>by simp [Maps.has] at h,fun v kl h=>by simp [findA] at h⟩
theorem KnownA.put {l:List AV} {D:DataW Unit} (h:KnownA l allA D) (hD:IsMap D) {m:AV} {kl:Lit} (hk:keyOf Tryz.prog 160 (keyv [] m.id)=some kl):KnownA (m::l) allA (D.put kl (ad m)):=by
 have hne:∀(kl':Lit) (v:AV),kl'≠kl→keyOf Tryz.prog 160 (keyv [] v.id)=some kl'→¬m.id=v.id:=fun kl' v e hv e'=>e (by rw [←e'] at hv;rw [hk] at hv;exact (Option.some.inj hv).symm)
 refine ⟨fun kl' hh=>?_,fun v kl' h1 h2=>?_⟩
 ·by_cases e:kl'=kl
  ·subst e
   exact ⟨m,by simp [findA],hk,fun zd=>atKey_put_same hD (keyLaw.key hk) _ _⟩
  ·rw [has_put_other e] at hh
   obtain ⟨v,h1,h2,h3⟩:=h.1 kl' hh
   exact ⟨v,by have:=hne kl' v e h2;simpa [findA,this] using h1,h2,fun zd=>by rw [atKey_put_other e];exact h3 zd⟩
 ·by_cases e:kl'=kl
  ·subst e
   exact has_put_same hD (keyLaw.key hk) _
  ·rw [has_put_other e]
   exact h.2 v kl' (by have:=hne kl' v e h2;simpa [findA,this] using h1) h2
theorem keyv_inj {a b:Int} {kl:Lit} (h1:keyOf Tryz.prog 160 (keyv [] a)=some kl) (h2:keyOf Tryz.prog 160 (keyv [] b)=some kl):a=b:=by
 have:=keyLaw.inj h1 h2
 simpa [keyv] using this
theorem KnownA.look {l:List AV} {keep:Lit→AV→Bool} {D:DataW Unit} (h:KnownA l keep D) {id:Int} {kl:Lit} (hk:keyOf Tryz.prog 160 (keyv [] id)=some kl) :
  (findA id l=none→Maps.has D kl=false)∧∀v,findA id l=some v→Maps.has D kl=keep kl v∧(Maps.has D kl=true→∀zd,D.atKey kl zd=ad v):=by
 refine ⟨fun hf=>?_,fun v hf=>?_⟩
 ·cases hh:Maps.has D kl with
  | false=>rfl
  | true=>
   obtain ⟨v,h1,h2,_⟩:=h.1 kl hh
   rw [←keyv_inj hk h2] at h1
   rw [hf] at h1
   cases h1
 ·have hv:=findA_id hf
  rw [←hv] at hf hk
  refine ⟨h.2 v kl hf hk,fun hh=>?_⟩
  obtain ⟨u,h1,h2,h3⟩:=h.1 kl hh
  have e:=keyv_inj hk h2
  rw [←e,hf] at h1
  cases h1
  exact h3
theorem KnownA.strike {l:List AV} {left:Lit→Bool} {keep:AV→Bool} {D:DataW Unit} (h:KnownA l (fun kl v=>left kl||keep v) D) {v:AV} {kl:Lit} (hf:findA v.id l=some v) (hk:keyOf Tryz.prog 160 (keyv [] v.id)=some kl) (hn:keep v=false) :
  KnownA l (fun z u=>(left z&&!z.sameKey kl)||keep u) (D.del kl):=by
 refine ⟨fun kl' hh=>?_,fun u kl' h1 h2=>?_⟩
 ·by_cases e:kl'=kl
  ·subst e
   rw [has_del_same] at hh
   cases hh
  ·rw [has_del_other e] at hh
   obtain ⟨u,h1,h2,h3⟩:=h.1 kl' hh
   exact ⟨u,h1,h2,fun zd=>by rw [atKey_del_other e];exact h3 zd⟩
 ·by_cases e:kl'=kl
  ·subst e
   have e2:=keyv_inj hk h2
   rw [←e2,hf] at h1
   cases h1
   rw [has_del_same]
   simp [hn,WideAt.sameKey_self (keyLaw.key hk)]
  ·rw [has_del_other e,h.2 u kl' h1 h2]
   simp [sameKey_ne e]
theorem KnownA.stay {l:List AV} {left:Lit→Bool} {keep:AV→Bool} {D:DataW Unit} (h:KnownA l (fun kl v=>left kl||keep v) D) {v:AV} {kl:Lit} (hf:findA v.id l=some v) (hk:keyOf Tryz.prog 160 (keyv [] v.id)=some kl) (hn:keep v=true) :
  KnownA l (fun z u=>(left z&&!z.sameKey kl)||keep u) D:=by
 refine ⟨h.1,fun u kl' h1 h2=>?_⟩
 by_cases e:kl'=kl
 ·subst e
  have e2:=keyv_inj hk h2
  rw [←e2,hf] at h1
  cases h1
  rw [h.2 v kl' hf hk]
  simp [hn]
 ·rw [h.2 u kl' h1 h2]
  simp [sameKey_ne e]
def optB (o:Option AV) (f:AV→Bool):Bool:=match o with
 | none=>false
 | some v=>f v
theorem appZero (w:World):(zeroValue 106).run Tryz.prog w=.ok (avv ⟨0,[],none,0,0⟩) w:=by kernel_rfl
theorem lookA {w:World} {bm n:Nat} {l:List AV} {keep:Lit→AV→Bool} {D:DataW Unit} (hown:w.ownsMap Tryz.prog 160 appElem bm n D) (hk:KnownA l keep D) {id:Int} {kl:Lit} (hkey:keyOf Tryz.prog 160 (keyv [] id)=some kl) :
  ∃v:AV,(Instr.lookup 153 (.map (some bm)) (keyv [] id) true).run Tryz.prog w=.ok (.tuple #[avv v,.bool (optB (findA id l) (keep kl))]) w∧(∀u,findA id l=some u→keep kl u=true→v=u)∧(findA id l=none→v=⟨0,[],none,0,0⟩):=by
 obtain ⟨v,ps,hrun,hv⟩:=hown.look_ok keyLaw Tryz.underlying153 (appZero w) (appElem_mk ⟨0,[],none,0,0⟩) hkey
 obtain ⟨h1,h2⟩:=hk.look hkey
 cases hf:findA id l with
 | none=>
  have hh:=h1 hf
  rw [atKey_of_not_has hh] at hv
  rw [appElem_inv hv,hh] at hrun
  exact ⟨_,hrun,(fun u e=>by cases e),fun _=>rfl⟩
 | some u=>
  obtain ⟨ha,hb⟩:=h2 u hf
  obtain ⟨c,rfl⟩:=appElem_shape hv
  rw [ha] at hrun
  refine ⟨c,hrun,fun u' e hu=>?_,(fun e=>by cases e)⟩
  cases e
  rw [hb (ha.trans hu)] at hv
  rw [appElem_mk] at hv
  exact ad_inj (congrArg Prod.fst (Option.some.inj hv))
def findAp (id:Int) (l:List Appl):Option Appl:=l.find? (fun a=>decide (a.id=id))
def apFrom (id:Int):List Appl→Nat→Int
 | [],_=>-1
 | q::t,k=>if q.id=id then k else apFrom id t (k+1)
def apAt (l:List Appl) (id:Int):Int:=apFrom id l 0
theorem apFrom_step {id:Int} {l:List Appl} {k:Nat} (h:k<l.length):apFrom id (l.drop k) k=if l[k].id=id then (k:Int) else apFrom id (l.drop (k+1)) (k+1):=by
 rw [List.drop_eq_getElem_cons h,apFrom]
theorem apFrom_end {id:Int} {l:List Appl} {k:Nat} (h:l.length≤k):apFrom id (l.drop k) k = -1:=by
 rw [List.drop_of_length_le h];rfl
theorem apFrom_find (id:Int):∀(l:List Appl) (k:Nat),(findAp id l=none∧apFrom id l k = -1)∨(∃(j:Nat) (h:j<l.length),findAp id l=some l[j]∧apFrom id l k=((k+j:Nat):Int))
 | [],k=>.inl ⟨rfl,rfl⟩
 | q::t,k=>by
  by_cases h:q.id=id
  ·right
   exact ⟨0,by simp,by simp [findAp,h],by rw [apFrom,if_pos h];simp⟩
  ·have hf:findAp id (q::t)=findAp id t:=by simp [findAp,h]
   rw [hf,apFrom,if_neg h]
   rcases apFrom_find id t (k+1) with ⟨a,b⟩ | ⟨j,hj,a,b⟩
   ·exact .inl ⟨a,b⟩
   ·exact .inr ⟨j+1,by simpa using hj,by simpa using a,by rw [b];congr 1;omega⟩
theorem apAt_find (id:Int) (l:List Appl):(findAp id l=none∧apAt l id = -1)∨(∃(j:Nat) (h:j<l.length),findAp id l=some l[j]∧apAt l id=(j:Int)):=by
 rcases apFrom_find id l 0 with h | ⟨j,h,a,b⟩
 ·exact .inl h
 ·exact .inr ⟨j,h,a,by rw [apAt,b];congr 1;omega⟩
theorem heads_find {hs:List AV} {l:List Appl} {id:Int}:hs.length=l.length→(∀i (h:i<hs.length) (h':i<l.length),hs[i].id=l[i].id∧hs[i].queue=l[i].queue)→(findA id hs).map AV.queue=(findAp id l).map Appl.queue:=by
 induction hs generalizing l with
 | nil=>
  intro h _
  have:l=[]:=List.length_eq_zero_iff.1 h.symm
  subst this
  rfl
 | cons v t ih=>
  intro h1 h2
  cases l with
  | nil=>simp at h1
  | cons a r=>
   have h0:=h2 0 (by simp) (by simp)
   simp only [List.getElem_cons_zero] at h0
   by_cases e:a.id=id
   ·have e':v.id=id:=h0.1.trans e
    simp [findA,findAp,e,e',h0.2]
   ·have e':¬v.id=id:=fun x=>e (h0.1.symm.trans x)
    have:=ih (l:=r) (by simpa using h1) (fun i a b=>by have:=h2 (i+1) (by simpa using a) (by simpa using b);simpa using this)
    simpa [findA,findAp,e,e'] using this
theorem l04App_any (x:Sls) (s:St) (id:Int) (w:World) (h:ApplRow w x.aa x.al s.apps) (hl:x.al≤1048576) :
  Calls Tryz.prog 55 #[sv x s,.int .i64 id] w fun e w'=>e=.returned (.int .i64 (apAt s.apps id))∧Below w.heap.size w w':=by
 have HR:=hide h
 have HL:=hide h.1
 have HB0:=hide (yA (yH _ w) (.cells (svc x s) 36))
 have P0:=hide (yD w (svc x s) 36)
 clear h
 obtain ⟨qa,ql,qc,aa,al,ac,ma,ml,mc,ca,cl,cc⟩:=x
 obtain ⟨qs,clock,epoch,next,serial,apps,ms,cs⟩:=s
 simp only at hl HR HL ⊢
 go_enter Tryz.func55,Tryz.ntmps55
 go_wp2
 go_loopw [5] (fun i wr=>∃(k:Nat),k≤al∧i=.int .i64 k∧Hid (apAt apps id=apFrom id (apps.drop k) k)∧Hid (Blk wr w.heap.size (svc ⟨qa,ql,qc,aa,al,ac,ma,ml,mc,ca,cl,cc⟩ ⟨qs,clock,epoch,next,serial,apps,ms,cs⟩) 36)∧Hid (Below w.heap.size w wr)) (fun i _=>al - (intOf i).toNat)
 case atStart=>exact ⟨0,Nat.zero_le _,rfl,hide (by simp [apAt]),P0,HB0⟩
 case round=>
  obtain ⟨k,hk,rfl,HQ,HP,HB⟩:=hrel
  have p5:=(uH HP).at 5
  simp at p5
  by_cases hlt:k<al
  ·obtain ⟨b,off,rfl,hq⟩:=((uH HR).below (uH HB)).at hlt
   have hkl:k<apps.length:=by have:=uH HL;omega
   have hst:=hide (apFrom_step (id:=id) hkl)
   obtain ⟨xo,xl,xc,hxx⟩:=hq hkl
   have c0:=hxx.1
   clear hq hxx
   obtain ⟨s,hs⟩:∃s,apps[k].id=s:=⟨_,rfl⟩
   rw [hs] at c0 hst
   clear hs hkl
   by_cases he:s=id
   ·have HE:=hide he
    have hbe:(s==id)=true:=by simp [he]
    clear he
    go_wp2
    go_ret
    exact ⟨ret_int (by rw [uH HQ,uH hst,if_pos (uH HE)]),uH HB⟩
   ·have HE:=hide he
    have hbe:(s==id)=false:=by simp [he]
    clear he
    go_wp2
    go_roundw
    case rel=>exact ⟨k+1,by omega,by go_num,hide (by rw [uH HQ,uH hst,if_neg (uH HE)]),HP,HB⟩
    case measure=>simp [intOf];omega
  ·go_wp2
   go_ret
   exact ⟨ret_int (by rw [uH HQ,apFrom_end (by have:=uH HL;omega)]),uH HB⟩
def byQ (s:St) (nm:List UInt8) (q:Con):Bool:=match findAp q.app s.apps with
 | none=>false
 | some a=>(path s.qs a.queue).any (fun x=>decide (x=nm))
def usedByV (s:St) (nm:List UInt8):Int×Int:=((sumR (usedL (byQ s nm) s.cs)).1,(sumR (usedL (byQ s nm) s.cs)).2.1)
theorem l04Has_any (v:Value) (ps:List (List UInt8)) (nm:List UInt8) (B:Nat) (w:World) (h:Texts B w v ps) (hl:ps.length≤1048576) :
  Calls Tryz.prog 18 #[v,.string (bs nm)] w fun e w'=>e=.returned (.bool (ps.any (fun x=>decide (x=nm))))∧w=w':=by
 obtain ⟨o,ho⟩:∃o,ps.any (fun x=>decide (x=nm))=o:=⟨_,rfl⟩
 have HO:=hide (show (ps.drop 0).any (fun x=>decide (x=nm))=o from ho)
 rw [ho]
 clear ho
 obtain ⟨ao,cap,rfl,HC⟩:∃ao cap,v=.slice ao ps.length cap∧Hid (∀j (hj:j<ps.length),∃g,ao=some ⟨g,0,none⟩∧w.cell? ⟨g,j,none⟩=some (.string (bs ps[j]))):=by
  by_cases hp:ps=[]
  ·subst hp
   obtain ⟨a,cap,rfl⟩:=texts_none h
   exact ⟨a,cap,rfl,hide (fun j hj=>by simp at hj)⟩
  ·obtain ⟨g,cap,rfl,hs,_⟩:=texts_some h hp
   exact ⟨_,cap,rfl,hide (fun j hj=>⟨g,rfl,hs.text hj⟩)⟩
 clear h
 obtain ⟨n,hn⟩:∃n,ps.length=n:=⟨_,rfl⟩
 rw [hn] at hl ⊢
 have HN:=hide hn
 clear hn
 go_enter Tryz.func18,Tryz.ntmps18
 go_wp2
 go_loopw [5] (fun i wr=>∃(k:Nat),k≤n∧i=.int .i64 k∧Hid ((ps.drop k).any (fun x=>decide (x=nm))=o)∧wr=w) (fun i _=>n - (intOf i).toNat)
 case atStart=>exact ⟨0,Nat.zero_le _,rfl,HO,rfl⟩
 case round=>
  obtain ⟨k,hk,rfl,HQ,rfl⟩:=hrel
  by_cases hlt:k<n
  ·have hkl:k<ps.length:=by have:=uH HN;omega
   obtain ⟨g,rfl,c0⟩:=uH HC k hkl
   have hst:(ps.drop k).any (fun x=>decide (x=nm))=(decide (ps[k]=nm)||(ps.drop (k+1)).any (fun x=>decide (x=nm))):=by rw [List.drop_eq_getElem_cons hkl,List.any_cons]
   rw [uH HQ] at hst
   obtain ⟨s,hs⟩:∃s,ps[k]=s:=⟨_,rfl⟩
   rw [hs] at c0 hst
   have hbe:=bs_eq s nm
   clear hs hkl
   by_cases he:s=nm
   ·rw [decide_eq_true he] at hbe hst
    have hot:o=true:=by rw [hst];rfl
    subst hot
    clear he hst
    go_wp2
    go_ret
    exact ⟨rfl,rfl⟩
   ·rw [decide_eq_false he] at hbe hst
    have HN2:=hide (show (ps.drop (k+1)).any (fun x=>decide (x=nm))=o by simpa using hst.symm)
    clear he hst
    go_wp2
    go_roundw
    case rel=>exact ⟨k+1,by omega,by go_num,HN2,trivial⟩
    case measure=>simp [intOf];omega
  ·have hof:o=false:=by rw [←uH HQ,List.drop_of_length_le (by have:=uH HN;omega)];rfl
   subst hof
   go_wp2
   go_ret
   exact ⟨rfl,rfl⟩
end
section
open Go.RowKit
theorem implTotal_any (x:Sls) (s:St) (w:World) (h:MacRow w x.ma x.ml s.ms) (hl:x.ml≤1048576) :
  Calls Tryz.prog 83 #[sv x s] w fun e w'=>e=.returned (rv (sumR (capsOf s.ms)).1 (sumR (capsOf s.ms)).2.1)∧Below w.heap.size w w':=by
 have HR:=hide h
 clear h
 obtain ⟨⟨sx,sy,so⟩,hs⟩:∃y,sumR (capsOf s.ms)=y:=⟨_,rfl⟩
 have CC:=hide (fun wx (hb:Below w.heap.size w wx)=>by have:=caps_any x s wx ((uH HR).below hb) hl;rw [hs] at this;exact this)
 rw [hs]
 clear hs
 obtain ⟨qa,ql,qc,aa,al,ac,ma,ml,mc,ca,cl,cc⟩:=x
 obtain ⟨qs,clock,epoch,next,serial,apps,ms,cs⟩:=s
 go_enter Tryz.func83,Tryz.ntmps83
 go_wp2_with fail
 refine (uH CC _ (capW_below w _)).mono ?_
 rintro e w1 ⟨rfl,hb⟩
 have V1:=(capW_var w _).below hb
 have HB1:=hide (yB (capW_below w _) hb)
 have V2:=V1.al (.cells #[.int .i64 sx,.int .i64 sy] 52)
 have t0:=V2.c0
 have t1:=V2.c1
 have f0:=V2.f 0
 have f1:=V2.f 1
 have u0:=V1.c0
 have u1:=V1.c1
 have e0:=V1.f 0
 have e1:=V1.f 1
 have VG:=V2.set sx sy
 have k6:=VG.c0
 have k7:=VG.c1
 clear hb V1 V2 VG CC
 go_wp2
 refine bodyPost_ret (v:=rv sx sy) (by simp [results,Tryz.results83,go_sem,k6,k7]) rfl ⟨rfl,?_⟩
 repeat (first | exact uH HB1 | refine yA ?_ _ | refine yC ?_ _ _ _ (by omega))
def SumHeld (w0:World) (b p:Nat) (r:Int×Int) (x y:Int) (w:World):Prop:=RAt w b p r∧Var w 52 (w0.heap.size+1) x y∧Var w 52 w0.heap.size 0 0∧Below w0.heap.size w0 w
theorem SumHeld.call {w0 w w':World} {b p:Nat} {r:Int×Int} {x y:Int} (h:SumHeld w0 b p r x y w) (hb:Below w.heap.size w w'):SumHeld w0 b p r x y w':=⟨h.1.below hb,h.2.1.below hb,h.2.2.1.below hb,yB h.2.2.2 hb⟩
theorem SumHeld.drew {w0 w:World} {b p:Nat} {r:Int×Int} {x y:Int} (h:SumHeld w0 b p r x y w):SumHeld w0 b p r x y w.drew:=h.call (yH _ _).drew
theorem SumHeld.al {w0 w:World} {b p:Nat} {r:Int×Int} {x y:Int} (h:SumHeld w0 b p r x y w) (o:Obj):SumHeld w0 b p r x y (w.alloc o):=h.call (yA (yH _ _) o)
theorem SumHeld.set {w0 w:World} {b p:Nat} {r:Int×Int} {x y:Int} (h:SumHeld w0 b p r x y w) (k j:Nat) (v:Value) (h1:w0.heap.size+1<k) (h2:b≠k):SumHeld w0 b p r x y (w.setCell ⟨k,j,none⟩ v):=by
  have hc:∀q,(w.setCell ⟨k,j,none⟩ v).cell? ⟨b,q,none⟩=w.cell? ⟨b,q,none⟩:=fun q=>by unfold World.cell?;rw [heap_setCell_other w ⟨k,j,none⟩ b v h2]
  exact ⟨⟨(hc _).trans h.1.1,(hc _).trans h.1.2⟩,h.2.1.other _ _ _ (by omega),h.2.2.1.other _ _ _ (by omega),yC h.2.2.2 _ _ _ (by omega)⟩
theorem SumHeld.read (w0:World) (b p:Nat) (r:Int×Int) (x y:Int):∀wx,SumHeld w0 b p r x y wx→wx.cell? ⟨b,p,none⟩=some (.int .i64 r.1)∧wx.cell? ⟨b,p+1,none⟩=some (.int .i64 r.2)∧wx.cell? ⟨w0.heap.size+1,0,none⟩=some (.int .i64 x)∧wx.cell? ⟨w0.heap.size+1,1,none⟩=some (.int .i64 y):=
  fun wx h=>⟨h.1.1,h.1.2,h.2.1.c0,h.2.1.c1⟩
theorem l04Sum_any (ao:Option Addr) (len cap:Nat) (l:List (Int×Int)) (w:World) (h:RRow w ao len l) (hl:len≤1048576) :
    Calls Tryz.prog 106 #[.slice ao len cap] w fun e w'=>e=.returned (.tuple #[rv (sumR l).1 (sumR l).2.1,.bool (sumR l).2.2])∧Below w.heap.size w w':=by
  have HR:=hide h
  have HL:=hide h.1
  obtain ⟨⟨sx,sy,so⟩,hs⟩:∃s,sumR l=s:=⟨_,rfl⟩
  have HS:=hide (show sumFrom l 0 0=(sx,sy,so) from hs)
  rw [hs]
  clear h hs
  go_enter Tryz.func106,Tryz.ntmps106
  go_wp2
  go_loopw [5] (fun i wr=>∃(k:Nat) (x y:Int),k≤len∧i=.int .i64 k∧Hid (sumFrom (l.drop k) x y=(sx,sy,so))∧Hid (Var wr 52 w.heap.size 0 0)∧Hid (Var wr 52 (w.heap.size+1) x y)∧Hid (Below w.heap.size w wr)) (fun i _=>len - (intOf i).toNat)
  case atStart=>exact ⟨0,0,0,Nat.zero_le _,rfl,hide (by simpa using uH HS),hide ((var_new w _ _ _).al _),hide (var_new2 w _ _ 0 0 0 0),hide (yA (yA (yH _ _) _) _)⟩
  case round=>
    obtain ⟨k,x,y,hk,rfl,HQ,HV0,HV1,HB⟩:=hrel
    by_cases hlt:k<len
    · obtain ⟨b,off,rfl,hq⟩:=((uH HR).below (uH HB)).at hlt
      have hkl:k<l.length:=by have:=uH HL;omega
      have hst:=sumFrom_step hkl x y
      have A0:=hide (show SumHeld w b (off+k*2) l[k] x y wr from ⟨hq hkl,uH HV1,uH HV0,uH HB⟩)
      obtain ⟨⟨a,d⟩,hs⟩:∃q,l[k]=q:=⟨_,rfl⟩
      rw [hs] at A0 hst
      simp only at hst
      have HST:=hide hst
      have R:=SumHeld.read w b (off+k*2) (a,d) x y
      simp only at R
      have k0:(0:Int)≤k:=by omega
      have k1:(k:Int)<len:=by omega
      clear hq hs hkl hst HV0 HV1 HB
      have CA:=hide (fun wx=>specAdd_any x y a d wx)
      obtain ⟨x',y',ok,hv⟩:∃x' y' ok,bothV 1 x y a d=rv x' y'∧bothOk 1 x y a d=ok:=by
        cases ho:bothOk 1 x y a d
        · exact ⟨0,0,_,both_no ho,rfl⟩
        · exact ⟨_,_,_,both_yes ho,rfl⟩
      have HVV:=hide hv
      rw [hv.1,hv.2] at CA
      clear hv
      have sz1:=(uH A0).2.1.lt
      have sb1:=(uH A0).1.lt
      go_wp2_with fail
      go_cut [6,7] from 15 to 24 (fun v6 v7 wx=>∃g,v6=.pointer (some ⟨g,0,none⟩)∧v7=.bool ok∧SumHeld w b (off+k*2) (a,d) x y wx∧Var wx 52 g x' y'∧w.heap.size+1<g)
      case first=>
        go_region_held3 (fun wx=>SumHeld w b (off+k*2) (a,d) x y wx)
          (first | (with_reducible assumption) | exact uH SA | exact (uH A0).drew | exact SumHeld.al (uH SA) _ | exact SumHeld.al (by assumption) _ | exact SumHeld.al (uH A0).drew _ | exact SumHeld.call (by assumption) (by assumption) | exact SumHeld.set (SumHeld.set (uH SA) _ _ _ (by first | omega | (simp<;>omega)) (by first | omega | (simp<;>omega))) _ _ _ (by first | omega | (simp<;>omega)) (by first | omega | (simp<;>omega)) | exact SumHeld.set (SumHeld.set (by assumption) _ _ _ (by first | omega | (simp<;>omega)) (by first | omega | (simp<;>omega))) _ _ _ (by first | omega | (simp<;>omega)) (by first | omega | (simp<;>omega)))
          (first
          | (go_at_call 24;refine (uH CA _).mono ?_;rintro e wt ⟨rfl,hb⟩;have SA:=hide (SumHeld.call (w0:=w) (b:=b) (p:=off+k*2) (r:=(a,d)) (x:=x) (y:=y) (by assumption) hb);have sz:=(uH SA).2.1.lt;have sb:=(uH SA).1.lt
             first
               | (have V5:=(var_new _ 52 0 0).below hb;(try simp at V5);have c50:=V5.c0;have c51:=V5.c1;have f50:=V5.f 0;have f51:=V5.f 1;have V5:=hide V5)
               | (have V5:=(var_new _ 52 0 0).drew.below hb;(try simp at V5);have c50:=V5.c0;have c51:=V5.c1;have f50:=V5.f 0;have f51:=V5.f 1;have V5:=hide V5)
               | skip))
        all_goals
          go_wp2_with fail
          go_meet
          exact ⟨_,rfl,rfl,by first | assumption | exact uH SA | exact SumHeld.al (uH SA) _,by first | exact var_new _ _ _ _ | exact (uH V5).set _ _,by first | omega | (simp<;>omega)⟩
      case rest=>
        obtain ⟨g,rfl,rfl,hA,hV,hg⟩:=hcut
        have A1:=hide hA
        have W1:=hide hV
        clear hA hV A0 CA R
        have v0:=(uH W1).c0
        have v1:=(uH W1).c1
        have s0:=(uH A1).2.1.c0
        have s1:=(uH A1).2.1.c1
        have sf0:=(uH A1).2.1.f 0
        have sf1:=(uH A1).2.1.f 1
        have t0:=(uH A1).2.2.1.c0
        have t1:=(uH A1).2.2.1.c1
        have tf0:=(uH A1).2.2.1.f 0
        have tf1:=(uH A1).2.2.1.f 1
        cases ok with
        | true=>
          have hxy:=both_yes (uH HVV).2
          rw [(uH HVV).1] at hxy
          simp only [rv,Value.agg.injEq,Array.mk.injEq,List.cons.injEq,Value.int.injEq,and_true,true_and] at hxy
          rw [if_pos (uH HVV).2,←hxy.1,←hxy.2] at HST
          clear hxy HVV
          go_wp2
          go_roundw
          case rel=>exact ⟨k+1,x',y',by omega,by go_num,hide (by rw [←uH HST];exact uH HQ),hide (((uH A1).2.2.1.other _ _ _ (show w.heap.size≠w.heap.size+1 by omega)).other _ _ _ (show w.heap.size≠w.heap.size+1 by omega)),hide ((uH A1).2.1.set _ _),hide (yC (yC (uH A1).2.2.2 _ _ _ (show w.heap.size≤w.heap.size+1 by omega)) _ _ _ (show w.heap.size≤w.heap.size+1 by omega))⟩
          case measure=>simp [intOf];omega
        | false=>
          rw [if_neg (by rw [(uH HVV).2];simp)] at HST
          have hres:=(uH HST).symm.trans (uH HQ)
          simp only [Prod.mk.injEq] at hres
          obtain ⟨rfl,rfl,rfl⟩:=hres
          have k4:=(uH A1).2.2.1.s0 (.int .i64 0)
          have k5:=(uH A1).2.2.1.s1 (.int .i64 0) (.int .i64 0)
          have HB1:=hide (uH A1).2.2.2
          clear HST HS HVV
          go_wp2
          refine bodyPost_ret (v:=.tuple #[rv 0 0,.bool false]) (by simp [results,Tryz.results106,go_sem,k4,k5]) rfl ⟨rfl,?_⟩
          repeat (first | exact uH HB1 | refine yC ?_ _ _ _ (by omega))
    · have hres:(x,y,true)=(sx,sy,so):=by rw [←uH HQ,sumFrom_end (by have:=uH HL;omega)]
      simp only [Prod.mk.injEq] at hres
      obtain ⟨rfl,rfl,rfl⟩:=hres
      have s0:=(uH HV1).c0
      have s1:=(uH HV1).c1
      have t0:=(uH HV0).c0
      have t1:=(uH HV0).c1
      have f0:=(uH HV0).f 0
      have f1:=(uH HV0).f 1
      have k4:=(uH HV0).s0 (.int .i64 x)
      have k5:=(uH HV0).s1 (.int .i64 x) (.int .i64 y)
      go_wp2
      refine bodyPost_ret (v:=.tuple #[rv x y,.bool true]) (by simp [results,Tryz.results106,go_sem,k4,k5]) rfl ⟨rfl,?_⟩
      repeat (first | exact uH HB | refine yC ?_ _ _ _ (by omega))
theorem l04Caps_any (x:Sls) (s:St) (w:World) (h:MacRow w x.ma x.ml s.ms) (hl:x.ml≤1048576) :
  Calls Tryz.prog 108 #[sv x s] w fun e w'=>∃v,e=.returned v∧ROwn w.heap.size w' v (capsOf s.ms)∧Below w.heap.size w w':=by
 obtain ⟨i0,hi,hz0,hz1,hz2⟩:=info_parts Tryz.infoR
 obtain ⟨qa,ql,qc,aa,al,ac,ma,ml,mc,ca,cl,cc⟩:=x
 obtain ⟨qs,clock,epoch,next,serial,apps,ms,cs⟩:=s
 simp only at h hl ⊢
 have HR:=hide h
 have HL:=hide h.1
 have HB0:=hide (boxW_below w #[.slice qa ql qc,.int .i64 clock,.int .i64 epoch,.int .i64 next,.int .i64 serial,.slice aa al ac,.slice ma ml mc,.slice ca cl cc])
 have P0:=hide (boxW_blk w #[.slice qa ql qc,.int .i64 clock,.int .i64 epoch,.int .i64 next,.int .i64 serial,.slice aa al ac,.slice ma ml mc,.slice ca cl cc])
 have HW:=hide (boxW_size w #[.slice qa ql qc,.int .i64 clock,.int .i64 epoch,.int .i64 next,.int .i64 serial,.slice aa al ac,.slice ma ml mc,.slice ca cl cc])
 have HO0:=hide (rown_empty (boxW w #[.slice qa ql qc,.int .i64 clock,.int .i64 epoch,.int .i64 next,.int .i64 serial,.slice aa al ac,.slice ma ml mc,.slice ca cl cc]))
 obtain ⟨c,hc⟩:∃c:Array Value,#[.slice qa ql qc,.int .i64 clock,.int .i64 epoch,.int .i64 next,.int .i64 serial,.slice aa al ac,.slice ma ml mc,.slice ca cl cc]=c:=⟨_,rfl⟩
 rw [hc] at HB0 HW HO0
 have P0:=hide (show Blk (boxW w c) w.heap.size #[.slice qa ql qc,.int .i64 clock,.int .i64 epoch,.int .i64 next,.int .i64 serial,.slice aa al ac,.slice ma ml mc,.slice ca cl cc] 36 by rw [hc];exact boxW_blk w c)
 have HC:=hide hc
 clear h hc
 go_enter Tryz.func108,Tryz.ntmps108
 go_wp2
 go_loopw [3,4] (fun v i wr=>∃(k:Nat),k≤ml∧i=.int .i64 k∧Hid (ROwn (boxW w c).heap.size wr v (capsOf (ms.take k)))∧Hid (Below (boxW w c).heap.size (boxW w c) wr)) (fun _ i _=>ml - (intOf i).toNat)
 case atStart=>
  obtain rfl:=uH HC
  have h1:=uH HW
  refine ⟨0,Nat.zero_le _,rfl,hide ?_,hide (yA (yH _ _) _)⟩
  have:=uH HO0
  rw [h1] at this
  rw [h1]
  exact this
 case round=>
  obtain ⟨k,hk,rfl,HO,HB⟩:=hrel
  have hn1:w.heap.size<(boxW w c).heap.size:=by have:=uH HW;omega
  have p6:=Blk.at (show Blk wr w.heap.size _ 36 from ((uH HB).block _ hn1).trans (uH P0)) 6
  simp at p6
  by_cases hlt:k<ml
  ·obtain ⟨b,off,rfl,hq⟩:=(((uH HR).below (uH HB0)).below (uH HB)).at hlt
   have hkl:k<ms.length:=by have:=uH HL;omega
   have hst:=hide (capsOf_step hkl)
   obtain ⟨c0,c1,c2,c3⟩:=hq hkl
   obtain ⟨m,hs⟩:∃q,ms[k]=q:=⟨_,rfl⟩
   rw [hs] at c0 c1 c2 c3 hst
   have hal:(capsOf (ms.take k)).length≤1048576:=by simp [capsOf];omega
   obtain ⟨acc,hacc⟩:∃a,capsOf (ms.take k)=a:=⟨_,rfl⟩
   rw [hacc] at hst hal HO
   obtain ⟨nm,me,cp,se⟩:=m
   simp only at c0 c1 c2 c3 hst
   have hs2:(boxW w c).heap.size≤wr.heap.size:=(uH HB).size
   have hown:wr.ownsRow (boxW w c).heap.size 52 2 _ acc.length (rcells acc):=uH HO
   clear hq hs hkl hacc
   go_wp2_with (at_builtin;refine wpList_append_own _ rfl _ _ 142 rfl (boxW w c).heap.size 52 i0 (.agg #[.int .i64 0,.int .i64 0]) 2 16 Tryz.underlying142 hi hz0 hz1 hz2 rfl (by decide) _ _ _ rfl (hown.alloc _) ⟨wr.heap.size,0,none⟩ 1 1 (rcell (me,cp)) rfl rfl ?c1 ?c2 ?c3 ?c4 ?c5 ?_)
   case c1=>
    intro j x hj
    match j,hj with
    | 0,hj=>simp at hj;subst hj;simp [Addr.add]
    | 1,hj=>simp at hj;subst hj;simp [Addr.add]
    | _+2,hj=>simp at hj
   case c2=>intro x hx;simp at hx;rcases hx with rfl | rfl<;>rfl
   case c3=>unfold maxLen;omega
   case c4=>omega
   case c5=>simp at hs2 ⊢;omega
   intro v' w3 hown' hgrow _
   have R:=rown_step (q:=(me,cp)) (uH HB) (uH HO) hown' hgrow hs2
   have HR3:=hide R
   clear hown' hgrow hown c0 c1 c2 c3 R p6
   go_wp2
   go_roundw
   case rel=>exact ⟨k+1,by omega,by go_num,hide (by rw [uH hst];exact (uH HR3).1),hide (uH HR3).2⟩
   case measure=>simp [intOf];omega
  ·have htk:ms.take k=ms:=List.take_of_length_le (by have:=uH HL;omega)
   rw [htk] at HO
   go_wp2
   go_ret
   exact ⟨_,rfl,(uH HO).base (by omega),yB (uH HB0) (uH HB)⟩
theorem specTotal_any (x:Sls) (s:St) (w:World) (h:MacRow w x.ma x.ml s.ms) (hl:x.ml≤1048576) :
  Calls Tryz.prog 58 #[sv x s] w fun e w'=>e=.returned (rv (sumR (capsOf s.ms)).1 (sumR (capsOf s.ms)).2.1)∧Below w.heap.size w w':=by
 have hlc:(capsOf s.ms).length≤1048576:=by have:=h.1;simp [capsOf];omega
 have HR:=hide h
 clear h
 obtain ⟨⟨sx,sy,so⟩,hs⟩:∃y,sumR (capsOf s.ms)=y:=⟨_,rfl⟩
 have CC:=hide (fun wx (hb:Below w.heap.size w wx)=>l04Caps_any x s wx ((uH HR).below hb) hl)
 have CS:=hide (fun ao cap wx (h:RRow wx ao (capsOf s.ms).length (capsOf s.ms))=>by have:=l04Sum_any ao _ cap (capsOf s.ms) wx h hlc;rw [hs] at this;exact this)
 rw [hs]
 clear hs
 obtain ⟨qa,ql,qc,aa,al,ac,ma,ml,mc,ca,cl,cc⟩:=x
 obtain ⟨qs,clock,epoch,next,serial,apps,ms,cs⟩:=s
 simp only at CC CS hlc
 go_enter Tryz.func58,Tryz.ntmps58
 go_wp2_with fail
 refine (uH CC _ (capW_below w _)).mono ?_
 rintro e w1 ⟨v,rfl,ho,hb⟩
 obtain ⟨ao,cp,rfl,hrow,_⟩:=ho.row
 have V1:=(capW_var w _).below hb
 have HV1:=hide V1
 have HB1:=hide (yB (capW_below w _) hb)
 have HROW:=hide hrow
 obtain ⟨n,hn⟩:∃n,(capsOf ms).length=n:=⟨_,rfl⟩
 rw [hn] at CS HROW ⊢
 clear hb V1 CC ho hrow hn hlc
 go_wp2_with fail
 refine (uH CS _ _ _ (uH HROW)).mono ?_
 rintro e w2 ⟨rfl,hb⟩
 have V1:=(uH HV1).below hb
 have HB2:=hide (yB (uH HB1) hb)
 have V2:=V1.al (.cells #[.int .i64 sx,.int .i64 sy] 52)
 have t0:=V2.c0
 have t1:=V2.c1
 have f0:=V2.f 0
 have f1:=V2.f 1
 have VG:=V2.set sx sy
 have k6:=VG.c0
 have k7:=VG.c1
 clear hb V1 V2 VG CS HV1 HB1 HROW
 go_wp2
 refine bodyPost_ret (v:=rv sx sy) (by simp [results,Tryz.results58,go_sem,k6,k7]) rfl ⟨rfl,?_⟩
 repeat (first | exact uH HB2 | refine yA ?_ _ | refine yC ?_ _ _ _ (by omega))
def totalV (s:St):Int×Int:=((sumR (capsOf s.ms)).1,(sumR (capsOf s.ms)).2.1)
theorem SRow.ml {w:World} {x:Sls} {s:St} (h:SRow w x s) (hf:FitSt s):x.ml≤1048576:=by have:=h.len.2.2.1;have:=hf.2.2.1.1;omega
theorem SRow.al {w:World} {x:Sls} {s:St} (h:SRow w x s) (hf:FitSt s):x.al≤1048576:=by have:=h.len.2.1;have:=hf.2.1.1;omega
theorem SRow.ql {w:World} {x:Sls} {s:St} (h:SRow w x s) (hf:FitSt s):x.ql≤1048576:=by have:=h.len.1;have:=hf.1.1;omega
def dueV (s:St) (x:List UInt8):Int×Int:=ofR s.qs x (totalV s).1 (totalV s).2 false
def overV (s:St) (nm:List UInt8):Bool:=leaf s.qs nm&&!within (usedByV s nm).1 (usedByV s nm).2 (dueV s nm).1 (dueV s nm).2
theorem resOk_zero:resOk 0 0=true:=by decide
theorem sumFrom_ok:∀(l:List (Int×Int)) (x y:Int),resOk x y=true→resOk (sumFrom l x y).1 (sumFrom l x y).2.1=true
 | [],x,y,h=>h
 | r::t,x,y,h=>by
  rw [sumFrom]
  by_cases hb:bothOk 1 x y r.1 r.2=true
  ·rw [if_pos hb]
   refine sumFrom_ok t _ _ ?_
   simp only [bothOk,yK] at hb
   exact hb.2
  ·rw [if_neg hb];exact resOk_zero
theorem sumR_ok (l:List (Int×Int)):resOk (sumR l).1 (sumR l).2.1=true:=sumFrom_ok l 0 0 resOk_zero
theorem used_ok (s:St) (nm:List UInt8):resOk (usedByV s nm).1 (usedByV s nm).2=true:=sumR_ok _
theorem shares_ok (a b n:Int):resOk (shareM a b n) (shareC a b n)=true:=by
 by_cases h:shareOk a b n=true
 ·have e1:shareM a b n=a*n / 10000:=by rw [shareM,if_pos h]
  have e2:shareC a b n=b*n / 10000:=by rw [shareC,if_pos h]
  rw [e1,e2]
  simp only [shareOk,resOk,inB,yK,yL] at h ⊢
  obtain ⟨⟨⟨h1,h2⟩,h3,h4⟩,h5,h6⟩:=h
  have:=mul_bd h1 h2 h5 h6
  have:=mul_bd h3 h4 h5 h6
  omega
 ·have e1:shareM a b n=0:=by rw [shareM,if_neg h]
  have e2:shareC a b n=0:=by rw [shareC,if_neg h]
  rw [e1,e2];exact resOk_zero
theorem ofP_ok (l:List Q) (most:Bool) {t:Int×Int} (h:resOk t.1 t.2=true):∀p:List (List UInt8),resOk (ofP l most t p).1 (ofP l most t p).2=true
 | []=>h
 | [_]=>h
 | n::m::r=>shares_ok _ _ _
theorem ofR_ok (l:List Q) (nm:List UInt8) (a b:Int) (most:Bool):resOk (ofR l nm a b most).1 (ofR l nm a b most).2=true:=by
 rw [ofR]
 split
 ·exact resOk_zero
 ·rename_i h
  refine ofP_ok l most ?_ _
  cases hr:resOk a b
  ·exact absurd (.inr hr) h
  ·rfl
theorem due_ok (s:St) (nm:List UInt8):resOk (dueV s nm).1 (dueV s nm).2=true:=ofR_ok _ _ _ _ _
def someR (a b:Int):Bool:=resOk a b&&!(decide (a=0)&&decide (b=0))
theorem something_any (a b:Int) (w:World) :
  Calls Tryz.prog 125 #[rv a b] w fun e w'=>e=.returned (.bool (someR a b))∧Below w.heap.size w w':=by
 have HB0:=hide (yA (yH _ w) (.cells #[.int .i64 a,.int .i64 b] 52))
 have P0:=hide (yD w #[.int .i64 a,.int .i64 b] 52)
 obtain ⟨r,hr⟩:∃r,resOk a b=r:=⟨_,rfl⟩
 have C:=hide (fun wx=>by have:=ok_bel a b wx;rw [hr] at this;exact this)
 have HS:=hide (show someR a b=(r&&!(decide (a=0)&&decide (b=0))) by rw [someR,hr])
 obtain ⟨o,ho⟩:∃o,someR a b=o:=⟨_,rfl⟩
 rw [ho] at HS ⊢
 clear hr ho
 go_enter Tryz.func125,Tryz.ntmps125
 go_wp2_with fail
 refine (uH C _).mono ?_
 rintro e w1 ⟨rfl,hb⟩
 have HB1:=hide (yB (uH HB0) hb)
 have P1:=(uH P0).below hb
 have p0:=P1.at 0
 have p1:=P1.at 1
 simp at p0 p1
 clear hb P1 P0 HB0 C
 cases r with
 | false=>
  go_wp2
  go_ret
  exact ⟨yF (by rw [uH HS];simp),uH HB1⟩
 | true=>
  by_cases ha:a=0
  ·by_cases hbz:b=0
   ·subst ha hbz
    go_wp2
    go_ret
    exact ⟨yF (by rw [uH HS];simp),uH HB1⟩
   ·subst ha
    go_wp2
    go_ret
    exact ⟨yF (by rw [uH HS];simp [hbz]),uH HB1⟩
  ·go_wp2
   go_ret
   exact ⟨yF (by rw [uH HS];simp [ha]),uH HB1⟩
theorem specOk_bel (a b:Int) (w:World) :
  Calls Tryz.prog 65 #[rv a b] w fun e w'=>e=.returned (.bool (resOk a b))∧Below w.heap.size w w':=
 (specResOk_any a b w).mono fun e w' h=>⟨h.1,by rw [h.2];exact yA (yH _ _) _⟩
theorem l04Some_any (a b:Int) (w:World) :
  Calls Tryz.prog 57 #[rv a b] w fun e w'=>e=.returned (.bool (someR a b))∧Below w.heap.size w w':=by
 have HB0:=hide (yA (yH _ w) (.cells #[.int .i64 a,.int .i64 b] 52))
 have P0:=hide (yD w #[.int .i64 a,.int .i64 b] 52)
 obtain ⟨r,hr⟩:∃r,resOk a b=r:=⟨_,rfl⟩
 have C:=hide (fun wx=>by have:=specOk_bel a b wx;rw [hr] at this;exact this)
 have HS:=hide (show someR a b=(r&&!(decide (a=0)&&decide (b=0))) by rw [someR,hr])
 obtain ⟨o,ho⟩:∃o,someR a b=o:=⟨_,rfl⟩
 rw [ho] at HS ⊢
 clear hr ho
 go_enter Tryz.func57,Tryz.ntmps57
 go_wp2_with fail
 refine (uH C _).mono ?_
 rintro e w1 ⟨rfl,hb⟩
 have HB1:=hide (yB (uH HB0) hb)
 have P1:=(uH P0).below hb
 have p0:=P1.at 0
 have p1:=P1.at 1
 simp at p0 p1
 clear hb P1 P0 HB0 C
 cases r with
 | false=>
  go_wp2
  go_ret
  exact ⟨yF (by rw [uH HS];simp),uH HB1⟩
 | true=>
  by_cases ha:a=0
  ·by_cases hbz:b=0
   ·subst ha hbz
    go_wp2
    go_ret
    exact ⟨yF (by rw [uH HS];simp),uH HB1⟩
   ·subst ha
    go_wp2
    go_ret
    exact ⟨yF (by rw [uH HS];simp [hbz]),uH HB1⟩
  ·go_wp2
   go_ret
   exact ⟨yF (by rw [uH HS];simp [ha]),uH HB1⟩
def askOk (q:Ask):Bool:=someR q.mem q.cpu&&(inB q.count 1 1000&&((decide (q.node=[])||nameOk q.node)&&inB q.missed 0 1000))
theorem askOk_any (q:Ask) (w:World) (hn:q.node.length≤1048576) :
  Calls Tryz.prog 136 #[askv q] w fun e w'=>e=.returned (.bool (askOk q))∧Below w.heap.size w w':=by
 obtain ⟨x0,x1,ct,nd,ms⟩:=q
 simp only at hn
 have HB0:=hide (yA (yH _ w) (.cells #[.int .i64 x0,.int .i64 x1,.int .i64 ct,.string (bs nd),.int .i64 ms] 140))
 have P0:=hide (yD w #[.int .i64 x0,.int .i64 x1,.int .i64 ct,.string (bs nd),.int .i64 ms] 140)
 obtain ⟨sm,hsm⟩:∃r,someR x0 x1=r:=⟨_,rfl⟩
 obtain ⟨nk,hnk⟩:∃r,nameOk nd=r:=⟨_,rfl⟩
 have C:=hide (fun wx=>by have:=something_any x0 x1 wx;rw [hsm] at this;exact this)
 have CN:=hide (fun wx=>by have:=implNameOk_any (bs nd) wx (by rw [bs_size];exact hn);rw [show nameOk (bs nd).data.toList=nk by rw [←hnk];simp [bs]] at this;exact this)
 have HS:=hide (show askOk ⟨x0,x1,ct,nd,ms⟩=(sm&&(inB ct 1 1000&&((decide (nd=[])||nk)&&inB ms 0 1000))) by rw [askOk];simp only [hsm,hnk])
 obtain ⟨o,ho⟩:∃o,askOk ⟨x0,x1,ct,nd,ms⟩=o:=⟨_,rfl⟩
 have hbz:=bs_empty nd
 rw [ho] at HS ⊢
 clear hsm hnk ho hn
 go_enter Tryz.func136,Tryz.ntmps136
 go_wp2_with fail
 refine (uH C _).mono ?_
 rintro e w1 ⟨rfl,hb⟩
 have HB1:=hide (yB (uH HB0) hb)
 have P1:=(uH P0).below hb
 have p2:=P1.at 2
 have p3:=P1.at 3
 have p4:=P1.at 4
 simp at p2 p3 p4
 clear hb P1 P0 HB0 C
 cases sm with
 | false=>
  go_wp2
  go_ret
  exact ⟨yF (by rw [uH HS];simp),uH HB1⟩
 | true=>
 by_cases h1:1≤ct
 case neg=>
  go_wp2
  go_ret
  exact ⟨yF (by rw [uH HS,inB_false (by omega)];simp),uH HB1⟩
 by_cases h2:ct≤1000
 case neg=>
  go_wp2
  go_ret
  exact ⟨yF (by rw [uH HS,inB_false (by omega)];simp),uH HB1⟩
 by_cases hz:nd=[]
 ·rw [decide_eq_true hz] at hbz HS
  clear hz
  by_cases m1:0≤ms
  case neg=>
   go_wp2
   go_ret
   exact ⟨yF (by rw [uH HS,inB_true h1 h2,inB_false (by omega)];simp),uH HB1⟩
  by_cases m2:ms≤1000
  case neg=>
   go_wp2
   go_ret
   exact ⟨yF (by rw [uH HS,inB_true h1 h2,inB_false (x:=ms) (by omega)];simp;omega),uH HB1⟩
  go_wp2
  go_ret
  exact ⟨yF (by rw [uH HS,inB_true h1 h2,inB_true m1 m2];simp),uH HB1⟩
 ·rw [decide_eq_false hz] at hbz HS
  clear hz
  go_wp2_with fail
  refine (uH CN _).mono ?_
  rintro e w2 ⟨rfl,rfl⟩
  clear CN
  cases nk with
  | false=>
   go_wp2
   go_ret
   exact ⟨yF (by rw [uH HS];simp),uH HB1⟩
  | true=>
  by_cases m1:0≤ms
  case neg=>
   go_wp2
   go_ret
   exact ⟨yF (by rw [uH HS,inB_true h1 h2,inB_false (by omega)];simp),uH HB1⟩
  by_cases m2:ms≤1000
  case neg=>
   go_wp2
   go_ret
   exact ⟨yF (by rw [uH HS,inB_true h1 h2,inB_false (by omega)];simp;omega),uH HB1⟩
  go_wp2
  go_ret
  exact ⟨yF (by rw [uH HS,inB_true h1 h2,inB_true m1 m2];simp),uH HB1⟩
theorem l04Ask_any (q:Ask) (w:World) (hn:q.node.length≤1048576) :
  Calls Tryz.prog 105 #[askv q] w fun e w'=>e=.returned (.bool (askOk q))∧Below w.heap.size w w':=by
 obtain ⟨x0,x1,ct,nd,ms⟩:=q
 simp only at hn
 have HB0:=hide (yA (yH _ w) (.cells #[.int .i64 x0,.int .i64 x1,.int .i64 ct,.string (bs nd),.int .i64 ms] 140))
 have P0:=hide (yD w #[.int .i64 x0,.int .i64 x1,.int .i64 ct,.string (bs nd),.int .i64 ms] 140)
 obtain ⟨sm,hsm⟩:∃r,someR x0 x1=r:=⟨_,rfl⟩
 obtain ⟨nk,hnk⟩:∃r,nameOk nd=r:=⟨_,rfl⟩
 obtain ⟨ic,hic⟩:∃r,inB ct 1 1000=r:=⟨_,rfl⟩
 obtain ⟨im,him⟩:∃r,inB ms 0 1000=r:=⟨_,rfl⟩
 have C:=hide (fun wx=>by have:=l04Some_any x0 x1 wx;rw [hsm] at this;exact this)
 have CN:=hide (fun wx=>by have:=specNameOk_any (bs nd) wx (by rw [bs_size];exact hn);rw [show nameOk (bs nd).data.toList=nk by rw [←hnk];simp [bs]] at this;exact this)
 have CC:=hide (fun wx=>by have:=l01In_any ct 1 1000 wx;rw [hic] at this;exact this)
 have CD:=hide (fun wx=>by have:=l01In_any ms 0 1000 wx;rw [him] at this;exact this)
 have HS:=hide (show askOk ⟨x0,x1,ct,nd,ms⟩=(sm&&(ic&&((decide (nd=[])||nk)&&im))) by rw [askOk];simp only [hsm,hnk,hic,him])
 obtain ⟨o,ho⟩:∃o,askOk ⟨x0,x1,ct,nd,ms⟩=o:=⟨_,rfl⟩
 have hbz:=bs_empty nd
 rw [ho] at HS ⊢
 clear hsm hnk ho hn hic him
 go_enter Tryz.func105,Tryz.ntmps105
 go_wp2_with fail
 refine (uH C _).mono ?_
 rintro e w1 ⟨rfl,hb⟩
 have HB1:=hide (yB (uH HB0) hb)
 have P1:=(uH P0).below hb
 have p2:=P1.at 2
 have p3:=P1.at 3
 have p4:=P1.at 4
 simp at p2 p3 p4
 clear hb P1 P0 HB0 C
 cases sm with
 | false=>
  go_wp2
  go_ret
  exact ⟨yF (by rw [uH HS];simp),uH HB1⟩
 | true=>
 go_wp2_with fail
 refine (uH CC _).mono ?_
 rintro e w2 ⟨rfl,rfl⟩
 clear CC
 cases ic with
 | false=>
  go_wp2
  go_ret
  exact ⟨yF (by rw [uH HS];simp),uH HB1⟩
 | true=>
 by_cases hz:nd=[]
 ·rw [decide_eq_true hz] at hbz HS
  clear hz CN
  go_wp2_with fail
  refine (uH CD _).mono ?_
  rintro e w3 ⟨rfl,rfl⟩
  clear CD
  go_wp2
  go_ret
  exact ⟨yF (by rw [uH HS];simp),uH HB1⟩
 ·rw [decide_eq_false hz] at hbz HS
  clear hz
  go_wp2_with fail
  refine (uH CN _).mono ?_
  rintro e w3 ⟨rfl,rfl⟩
  clear CN
  cases nk with
  | false=>
   go_wp2
   go_ret
   exact ⟨yF (by rw [uH HS];simp),uH HB1⟩
  | true=>
  go_wp2_with fail
  refine (uH CD _).mono ?_
  rintro e w4 ⟨rfl,rfl⟩
  clear CD
  go_wp2
  go_ret
  exact ⟨yF (by rw [uH HS];simp),uH HB1⟩
def wantOne (p:Int×Int) (a:Ask):Int×Int:=if askOk a=true then (min 1000000000 (p.1+a.mem*a.count),min 1000000000 (p.2+a.cpu*a.count)) else p
def wantAsks:List Ask→Int×Int→Int×Int
 | [],p=>p
 | a::t,p=>wantAsks t (wantOne p a)
def wantApps (nm:List UInt8):List Appl→Int×Int→Int×Int
 | [],p=>p
 | a::t,p=>wantApps nm t (if a.queue=nm then wantAsks a.asks p else p)
def wantV (s:St) (nm:List UInt8):Int×Int:=wantApps nm s.apps (0,0)
theorem wantAsks_step {l:List Ask} {k:Nat} (h:k<l.length) (p:Int×Int):wantAsks (l.drop k) p=wantAsks (l.drop (k+1)) (wantOne p l[k]):=by
 rw [List.drop_eq_getElem_cons h,wantAsks]
theorem wantAsks_end {l:List Ask} {k:Nat} (h:l.length≤k) (p:Int×Int):wantAsks (l.drop k) p=p:=by
 rw [List.drop_of_length_le h];rfl
theorem wantApps_step {nm:List UInt8} {l:List Appl} {k:Nat} (h:k<l.length) (p:Int×Int):wantApps nm (l.drop k) p=wantApps nm (l.drop (k+1)) (if l[k].queue=nm then wantAsks l[k].asks p else p):=by
 rw [List.drop_eq_getElem_cons h,wantApps]
theorem wantApps_end {nm:List UInt8} {l:List Appl} {k:Nat} (h:l.length≤k) (p:Int×Int):wantApps nm (l.drop k) p=p:=by
 rw [List.drop_of_length_le h];rfl
theorem askOk_bd {a:Ask} (h:askOk a=true):0≤a.mem∧a.mem≤1000000000∧0≤a.cpu∧a.cpu≤1000000000∧1≤a.count∧a.count≤1000:=by
 simp only [askOk,someR,resOk,inB,yK,yL] at h
 omega
theorem wantOne_yes {x y:Int} {a:Ask} (h:askOk a=true):wantOne (x,y) a=(min 1000000000 (x+a.mem*a.count),min 1000000000 (y+a.cpu*a.count)):=by rw [wantOne,if_pos h]
theorem wantOne_no {p:Int×Int} {a:Ask} (h:askOk a=false):wantOne p a=p:=by rw [wantOne,if_neg (by simp [h])]
theorem ask_bd {a:Ask} {x y:Int} (h:askOk a=true) (hr:resOk x y=true):0≤a.mem*a.count∧a.mem*a.count≤1000000000000∧0≤a.cpu*a.count∧a.cpu*a.count≤1000000000000∧0≤x∧x≤1000000000∧0≤y∧y≤1000000000:=by
 obtain ⟨a0,a1,b0,b1,c0,c1⟩:=askOk_bd h
 have e1:=mul_bd a0 a1 (show 0≤a.count by omega) c1
 have e2:=mul_bd b0 b1 (show 0≤a.count by omega) c1
 have e3:=resOk_bd hr
 omega
theorem wantOne_ok {p:Int×Int} (a:Ask) (h:resOk p.1 p.2=true):resOk (wantOne p a).1 (wantOne p a).2=true:=by
 obtain ⟨x,y⟩:=p
 cases ha:askOk a
 ·rw [wantOne_no ha];exact h
 ·rw [wantOne_yes ha]
  have:=ask_bd ha h
  simp only [resOk,inB,yK,yL]
  omega
theorem wantAsks_ok:∀(l:List Ask) (p:Int×Int),resOk p.1 p.2=true→resOk (wantAsks l p).1 (wantAsks l p).2=true
 | [],p,h=>h
 | a::t,p,h=>wantAsks_ok t _ (wantOne_ok a h)
theorem wantApps_ok (nm:List UInt8):∀(l:List Appl) (p:Int×Int),resOk p.1 p.2=true→resOk (wantApps nm l p).1 (wantApps nm l p).2=true
 | [],p,h=>h
 | a::t,p,h=>by
  rw [wantApps]
  refine wantApps_ok nm t _ ?_
  split
  ·exact wantAsks_ok _ _ h
  ·exact h
theorem want_ok (s:St) (nm:List UInt8):resOk (wantV s nm).1 (wantV s nm).2=true:=wantApps_ok _ _ _ resOk_zero
def lack1 (d u w:Int):Int:=min (max (d - u) 0) w
def lackV (s:St) (nm:List UInt8):Int×Int:=if leaf s.qs nm=true then (lack1 (dueV s nm).1 (usedByV s nm).1 (wantV s nm).1,lack1 (dueV s nm).2 (usedByV s nm).2 (wantV s nm).2) else (0,0)
theorem lack_more {d u w:Int} (h:u<d):lack1 d u w=min (d - u) w:=by simp only [lack1];omega
theorem lack_less {d u w:Int} (h:¬u<d) (hw:0≤w):lack1 d u w=0:=by simp only [lack1];omega
def LS (w:World) (g5 g6 g7:Nat) (ux uy dx dy nx ny:Int) (wx:World):Prop:=Var wx 52 g5 ux uy∧Var wx 52 g6 dx dy∧Var wx 52 g7 nx ny∧Below w.heap.size w wx
end
section
open Go.RowKit Go.Shelf
attribute [local go_sem] Oper.semAt_some
abbrev NAV:={ m:AV // (Lit.int .i64 m.id).wf=true }
theorem AVRow.kpa {W W':World} {ao:Option Addr} {len:Nat} {l:List AV} (h:AVRow W ao len l) (k:KpA W W'):AVRow W' ao len l:=by
 obtain ⟨h1,h2⟩:=h
 refine ⟨h1,?_⟩
 rcases h2 with h2 | ⟨b,off,h3,h4⟩
 ·exact .inl h2
 ·exact .inr ⟨b,off,h3,fun i hi=>let ⟨a,b,c⟩:=h4 i hi;⟨k.cell a,k.cell b,k.cell c⟩⟩
theorem backA_some (n l Bs len cap:Nat) (ao:Option Addr) (ms:List AV) (J Jx:List (Int×NAV)→World→Prop)
  (hY:∀pre x W1,J pre W1→pre.length<ms.length→YieldAt Fence.wide (n - 1) Tryz.prog l #[.int .i64 x.1,avv x.2.1] W1 fun e W'=>
   (e=.returned (.bool true)∧J (pre++[x]) W'∧KpA W1 W')∨(e=.returned (.bool false)∧Jx (pre++[x]) W'))
  (W:World) (hBs:W.cell? ⟨Bs,0,none⟩=some (.slice ao len cap)) (hg:AVRow W ao len ms) (hl:len≤1048576) (hN:∀m ∈ ms,(Lit.int .i64 m.id).wf=true) (h0:J [] W) :
  CallsIn Fence.wide n Tryz.prog 193 #[.func (.yield l) #[] #[],.pointer (some ⟨Bs,0,none⟩)] W fun e W'=>(∃v,e=.returned v)∧
   ((∃ys:List (Int×NAV),Hid (ys.map (fun x:Int×NAV=>x.2.1)=ms.reverse)∧J ys W')∨(∃pre,Jx pre W')):=by
 have HY:=hide hY
 have HBs:=hide hBs
 have HG:=hide hg
 have HLEN:=hide hg.1
 have H0:=hide h0
 have HNN:=hide hN
 clear hY hg h0 hN
 refine callsIn_of_wp Tryz.func193 rfl trivial ?_ rfl
 simp only [Tryz.ntmps193,List.size_toArray,List.length_cons,List.length_nil,Nat.reduceAdd,Nat.reduceSub,Array.replicate_succ,Array.replicate_zero,List.push_toArray,List.append_toArray,List.nil_append,List.cons_append]
 gi_wp2
 clear hBs
 gi_loopw [3] (fun i wr=>∃(k:Nat) (pre:List (Int×NAV)),k≤len∧i=.int .i64 ((k:Int) - 1)∧Hid (pre.length+k=ms.length)∧Hid (pre.map (fun x:Int×NAV=>x.2.1)=(ms.drop k).reverse)∧Hid (J pre wr)∧Hid (wr.cell? ⟨Bs,0,none⟩=some (.slice ao len cap))∧Hid (AVRow wr ao len ms)) (fun i _=>(intOf i+1).toNat)
 case atStart=>exact ⟨len,[],yJ _,by go_num,hide (by have:=uH HLEN;simp;omega),hide (by rw [List.drop_of_length_le (by have:=uH HLEN;omega)];rfl),H0,HBs,HG⟩
 case round=>
  obtain ⟨k,pre,hk,rfl,HL,HM,HJ,HB,HGr⟩:=hrel
  cases k with
  | zero=>
   gi_wp2
   go_end0
   exact ⟨⟨_,rfl⟩,.inl ⟨pre,hide (by rw [uH HM];rfl),uH HJ⟩⟩
  | succ j=>
   have hj:j<len:=by omega
   obtain ⟨b,off,rfl,hq⟩:=(uH HGr).at hj
   have hjm:j<ms.length:=by have:=uH HLEN;omega
   obtain ⟨c0,c1,c2⟩:=hq hjm
   have hbox:=uH HB
   have hel:=uH HNN ms[j] (yM _)
   obtain ⟨fn,tmps,assign,body,hy,hR⟩:=uH HY pre ((j:Int),⟨ms[j],hel⟩) wr (uH HJ) (by have:=uH HL;omega)
   have HRR:=hide hR
   have HM2:=hide (show (pre++[((j:Int),(⟨ms[j],hel⟩:NAV))]).map (fun x:Int×NAV=>x.2.1)=(ms.drop j).reverse by rw [List.map_append,uH HM,List.drop_eq_getElem_cons hjm,List.reverse_cons];rfl)
   have hij:((j+1:Nat):Int) - 1=(j:Int):=by omega
   obtain ⟨y,hyy⟩:∃y:NAV,(⟨ms[j],hel⟩:NAV)=y:=⟨_,rfl⟩
   have hy1:ms[j]=y.1:=by rw [←hyy]
   rw [hyy] at hy HRR HM2
   rw [hy1] at c0 c1 c2
   obtain ⟨⟨id,qu,zo,zl,zc⟩,hyn⟩:=y
   simp only at hy c0 c1 c2
   rw [hij]
   have j0:(0:Int)≤j:=by omega
   have j1:(j:Int)<len:=by omega
   clear hR hyy hy1 hij HM hq hjm hel
   gi_wp2
   refine ⟨(by intro e;cases e),?_⟩
   refine (uH HRR).mono ?_
   rintro e W3 (⟨rfl,hJ3,hk3⟩ | ⟨rfl,hJx3⟩)
   ·have HB3:=hide (hk3.cell (uH HB))
    have HG3:=hide ((uH HGr).kpa hk3)
    have HJ3:=hide hJ3
    clear hk3 hJ3 hbox hy HRR c0 c1 c2
    gi_wp2
    go_roundw
    case rel=>exact ⟨j,pre++[((j:Int),⟨⟨id,qu,zo,zl,zc⟩,hyn⟩)],by omega,by go_num,hide (by have:=uH HL;simp;omega),HM2,HJ3,HB3,HG3⟩
    case measure=>simp [intOf]
   ·gi_wp2
    refine bodyPost_ret (results_none rfl _ _ _) rfl ?_
    exact ⟨⟨_,rfl⟩,.inr ⟨_,hJx3⟩⟩
theorem backA_stops (n Bs len cap:Nat) (ao:Option Addr) (ms:List AV) (w:World) (hBs:w.cell? ⟨Bs,0,none⟩=some (.slice ao len cap)) (hrow:AVRow w ao len ms) (hl:len≤1048576) (hN:∀m ∈ ms,(Lit.int .i64 m.id).wf=true) :
  SeqStopsK Fence.wide n Tryz.prog 193 #[.pointer (some ⟨Bs,0,none⟩)] (fun x:Int×NAV=>#[.int .i64 x.1,avv x.2.1]) KpA (fun ys=>Hid (ys.map (fun x:Int×NAV=>x.2.1)=ms.reverse)) (fun _=>True) ms.length w:=by
 intro l J Jx W hW hJ hJx hY h0
 refine (backA_some n l Bs len cap ao ms J Jx hY W ((hW.cell (yG hBs)).trans hBs) (hrow.below hW) hl hN h0).mono ?_
 rintro e W' ⟨he,⟨ys,h1,h2⟩ | ⟨pre,h2⟩⟩
 ·exact ⟨he,.inl ⟨ys,h1,h2⟩⟩
 ·exact ⟨he,.inr ⟨pre,trivial,h2⟩⟩
theorem backA_any (v:Value) (w:World) (hv:v.oneCell'=true) :
  Calls Tryz.prog 162 #[v] w fun e w'=>e=.returned (.func (.func 193) #[] #[.pointer (some ⟨w.heap.size,0,none⟩)])∧w.alloc (.cells #[v] 32)=w':=by
 have hmf:∀(fn:Fn) (first cap:Array Value) (w:World),(Instr.makeFunc fn first cap).run Tryz.prog w=.ok (.func fn first cap) w:=fun _ _ _ _=>rfl
 go_enter Tryz.func162,Tryz.ntmps162
 go_wp2
 go_ret
 exact ⟨rfl,rfl⟩
theorem appKey_any (m:AV) (w:World) :
  Calls Tryz.prog 163 #[avv m] w fun e w'=>e=.returned (.agg #[.string (bs []),.int .i64 m.id])∧Below w.heap.size w w':=by
 obtain ⟨id,qu,zo,zl,zc⟩:=m
 go_enter Tryz.func163,Tryz.ntmps163
 go_wp2
 refine bodyPost_ret (v:=.agg #[.string (bs []),.int .i64 id]) (by simp [results,Tryz.results163,go_sem];rfl) rfl ⟨rfl,?_⟩
 repeat (first | exact yH _ _ | refine yA ?_ _ | refine Below.drew ?_ | refine yC ?_ _ _ _ (by omega))
end
section
open Go.RowKit Go.Maps
def hasB (hs:List AV) (keep:AV→Bool) (q:Con):Bool:=optB (findA q.app hs) keep
theorem ofApp_any (q:Con) (w:World) :
  Calls Tryz.prog 146 #[conv q] w fun e w'=>e=.returned (.agg #[.string (bs []),.int .i64 q.app])∧Below w.heap.size w w':=by
 obtain ⟨id,ap,nd,me,cp⟩:=q
 go_enter Tryz.func146,Tryz.ntmps146
 go_wp2
 refine bodyPost_ret (v:=.agg #[.string (bs []),.int .i64 ap]) (by simp [results,Tryz.results146,go_sem];rfl) rfl ⟨rfl,?_⟩
 repeat (first | exact yH _ _ | refine yA ?_ _ | refine Below.drew ?_ | refine yC ?_ _ _ _ (by omega))
theorem ownsMap_below {w w':World} {k:TypeId} {R:Value→Option (DataW Unit×List MemPlace)} {b n:Nat} {D:DataW Unit} (h:w.ownsMap Tryz.prog k R b n D) (hb:Below w.heap.size w w'):w'.ownsMap Tryz.prog k R b n D:=h.kept (grownBy_below (grownBy_refl w none) hb) (by simp)
theorem has_any (bm n:Nat) (D:DataW Unit) (hs:List AV) (keep:AV→Bool) (q:Con) (w:World) (hown:w.ownsMap Tryz.prog 160 appElem bm n D) (hk:KnownA hs (fun _ v=>keep v) D) (hwf:(Lit.int .i64 q.app).wf=true) :
  Calls Tryz.prog 126 #[.map (some bm),conv q] w fun e w'=>e=.returned (.bool (hasB hs keep q))∧Below w.heap.size w w':=by
 obtain ⟨kl,hkey⟩:=keyKey (nm:=[]) (k:=q.app) (by decide) hwf
 have HL:=hide (fun wx (hb:Below w.heap.size w wx)=>lookA (ownsMap_below hown hb) hk hkey)
 obtain ⟨o,ho⟩:∃o,hasB hs keep q=o:=⟨_,rfl⟩
 have HO:=hide (show optB (findA q.app hs) keep=o from ho)
 rw [ho]
 clear ho hkey hown hk hwf
 have CO:=hide (fun wx=>ofApp_any q wx)
 obtain ⟨id,ap,nd,me,cp⟩:=q
 simp only at HL HO
 have HB0:=hide (yA (yH _ w) (.cells #[.int .i64 id,.int .i64 ap,.string (bs nd),.int .i64 me,.int .i64 cp] 58))
 go_enter Tryz.func126,Tryz.ntmps126
 go_wp2_with fail
 refine (uH CO _).mono ?_
 rintro e w1 ⟨rfl,hb⟩
 have HB1:=hide (yB (uH HB0) hb)
 obtain ⟨v,hlk,_,_⟩:=uH HL _ (uH HB1)
 rw [show optB (findA ap hs) (fun v=>keep v)=o from uH HO] at hlk
 obtain ⟨v1,v2,v3,v4,v5⟩:=v
 clear hb HB0 HL HO
 go_wp2
 go_ret
 refine ⟨rfl,?_⟩
 repeat (first | exact uH HB1 | refine yA ?_ _ | refine Below.drew ?_ | refine yC ?_ _ _ _ (by omega))
def WfSt (s:St):Prop:=(∀a ∈ s.apps,(Lit.int .i64 a.id).wf=true)∧(∀c ∈ s.cs,(Lit.int .i64 c.app).wf=true)
theorem StFit.wfs {x:Sls} {s:St} (h:StFit x s):WfSt s:=⟨fun a ha=>(h.2.1.2 a ha).2.1,fun c hc=>(h.2.2.2.1.2 c hc).2.2.1⟩
theorem heads_wf {w:World} {hs:List AV} {l:List Appl} (hh:Heads w hs l) (h:∀a ∈ l,(Lit.int .i64 a.id).wf=true):∀v ∈ hs,(Lit.int .i64 v.id).wf=true:=fun v hv=>by
 obtain ⟨i,hi,rfl⟩:=List.mem_iff_getElem.1 hv
 have hi':i<l.length:=by rw [←hh.1];exact hi
 rw [(hh.2 i hi hi').1]
 exact h _ (yM _)
end
section
open Go.RowKit
def idxK (p:Ask→Bool):List Ask→Nat→Int
 | [],_=>-1
 | q::t,k=>if p q=true then (k:Int) else idxK p t (k+1)
theorem idxK_step {p:Ask→Bool} {l:List Ask} {k:Nat} (h:k<l.length):idxK p (l.drop k) k=if p l[k]=true then (k:Int) else idxK p (l.drop (k+1)) (k+1):=by
 rw [List.drop_eq_getElem_cons h,idxK]
theorem idxK_end {p:Ask→Bool} {l:List Ask} {k:Nat} (h:l.length≤k):idxK p (l.drop k) k = -1:=by
 rw [List.drop_of_length_le h];rfl
theorem idxK_has (p:Ask→Bool):∀(l:List Ask) (k:Nat),decide (0≤idxK p l k)=l.any p
 | [],_=>by simp [idxK]
 | q::t,k=>by
  rw [idxK,List.any_cons]
  by_cases h:p q=true
  ·rw [if_pos h,h];simp
  ·rw [if_neg h,idxK_has p t (k+1)];simp [h]
theorem indexFuncK_any (g:Nat) (lb:Array Value) (eg:∀args w,(callFunc g args).run Tryz.prog w=.ok (.enter g args) w) (p:Ask→Bool) (ao:Option Addr) (len cap:Nat) (l:List Ask) (w:World) (h:AskRow w ao len l) (hl:len≤1048576)
  (hp:∀wx (q:Ask),q ∈ l→Below w.heap.size w wx→Calls Tryz.prog g (#[askv q]++lb) wx fun e w'=>e=.returned (.bool (p q))∧Below wx.heap.size wx w') :
  Calls Tryz.prog 192 #[.slice ao len cap,.func (.func g) #[] lb] w fun e w'=>e=.returned (.int .i64 (idxK p l 0))∧Below w.heap.size w w':=by
 have HR:=hide h
 have HL:=hide h.1
 have HP:=hide hp
 clear h hp
 go_enter Tryz.func192,Tryz.ntmps192
 go_wp2
 go_loopw [5,8] (fun _ i wr=>∃k:Nat,k≤len∧i=.int .i64 k∧Hid (idxK p l 0=idxK p (l.drop k) k)∧Hid (Below w.heap.size w wr)) (fun _ i _=>len - (intOf i).toNat)
 case atStart=>exact ⟨0,Nat.zero_le _,rfl,hide (by simp),hide (yH _ _)⟩
 case round=>
  obtain ⟨k,hk,rfl,hq,HB⟩:=hrel
  by_cases hlt:k<len
  ·obtain ⟨b,off,rfl,hx⟩:=((uH HR).below (uH HB)).at hlt
   have hkl:k<l.length:=by have:=uH HL;omega
   have hst:=hide (idxK_step (p:=p) (l:=l) (k:=k) hkl)
   obtain ⟨c0,c1,c2,c3,c4⟩:=hx hkl
   clear hx
   have HC:=hide (uH HP wr l[k] (yM _) (uH HB))
   obtain ⟨⟨y0,y1,y2,nd,y4⟩,hs⟩:∃s,l[k]=s:=⟨_,rfl⟩
   rw [hs] at c0 c1 c2 c3 c4 hst HC
   simp only at c0 c1 c2 c3 c4
   clear hs hkl HP
   cases hpq:p ⟨y0,y1,y2,nd,y4⟩ with
   | true=>
    rw [hpq] at HC
    have HQ:=hide hpq
    clear hpq
    go_wp2_with (go_at_fn g;refine (uH HC).mono ?_;rintro e w' ⟨rfl,hb⟩)
    go_ret
    exact ⟨ret_int (by rw [uH hq,uH hst,if_pos (uH HQ)]),yB (uH HB) hb⟩
   | false=>
    rw [hpq] at HC
    have HQ:=hide hpq
    clear hpq
    go_wp2_with (go_at_fn g;refine (uH HC).mono ?_;rintro e w' ⟨rfl,hb⟩)
    go_roundw
    case rel=>exact ⟨k+1,by omega,by go_num,hide (by rw [uH hq,uH hst,if_neg (by rw [uH HQ];simp)]),hide (yB (uH HB) hb)⟩
    case measure=>simp [intOf];omega
  ·go_wp2
   go_ret
   exact ⟨ret_int (by rw [uH hq,idxK_end (by have:=uH HL;omega)]),uH HB⟩
theorem containsFuncK_any (g:Nat) (lb:Array Value) (eg:∀args w,(callFunc g args).run Tryz.prog w=.ok (.enter g args) w) (p:Ask→Bool) (ao:Option Addr) (len cap:Nat) (l:List Ask) (w:World) (h:AskRow w ao len l) (hl:len≤1048576)
  (hp:∀wx (q:Ask),q ∈ l→Below w.heap.size w wx→Calls Tryz.prog g (#[askv q]++lb) wx fun e w'=>e=.returned (.bool (p q))∧Below wx.heap.size wx w') :
  Calls Tryz.prog 158 #[.slice ao len cap,.func (.func g) #[] lb] w fun e w'=>e=.returned (.bool (l.any p))∧Below w.heap.size w w':=by
 have C:=hide (indexFuncK_any g lb eg p ao len cap l w h hl hp)
 have HS:=hide (idxK_has p l 0)
 obtain ⟨i,hi⟩:∃i,idxK p l 0=i:=⟨_,rfl⟩
 obtain ⟨b,hb⟩:∃b,l.any p=b:=⟨_,rfl⟩
 rw [hi] at C HS
 rw [hb] at HS ⊢
 clear h hp hi hb
 go_enter Tryz.func158,Tryz.ntmps158
 go_wp2_with fail
 refine (uH C).mono ?_
 rintro e w1 ⟨rfl,hb⟩
 have HB:=hide hb
 clear hb
 by_cases h0:0≤i
 ·go_wp2
  go_ret
  exact ⟨yF (by first | exact uH HS | (rw [←uH HS];simp [h0])),uH HB⟩
 ·go_wp2
  go_ret
  exact ⟨yF (by first | exact uH HS | (rw [←uH HS];simp [h0])),uH HB⟩
theorem askNot_any (q:Ask) (w:World) (hn:q.node.length≤1048576) :
  Calls Tryz.prog 159 #[askv q] w fun e w'=>e=.returned (.bool (!askOk q))∧Below w.heap.size w w':=by
 have C:=hide (askOk_any q (w.alloc (.cells #[.int .i64 q.mem,.int .i64 q.cpu,.int .i64 q.count,.string (bs q.node),.int .i64 q.missed] 140)) hn)
 obtain ⟨o,ho⟩:∃o,askOk q=o:=⟨_,rfl⟩
 rw [ho] at C ⊢
 obtain ⟨y0,y1,y2,nd,y4⟩:=q
 clear ho
 go_enter Tryz.func159,Tryz.ntmps159
 go_wp2_with fail
 refine (uH C).mono ?_
 rintro e w1 ⟨rfl,hb⟩
 have HB:=hide (yB (yA (yH _ w) _) hb)
 clear hb C
 cases o
 ·go_wp2
  go_ret
  exact ⟨rfl,uH HB⟩
 ·go_wp2
  go_ret
  exact ⟨rfl,uH HB⟩
def asksOk (l:List Ask):Bool:=decide (l.length≤10)&&l.all askOk
theorem asksOk_any (id:Int) (qu:List UInt8) (ao:Option Addr) (len cap:Nat) (l:List Ask) (w:World) (h:AskRow w ao len l) (hl:len≤1048576) (hn:∀q ∈ l,q.node.length≤1048576) :
  Calls Tryz.prog 118 #[applv id qu ao len cap] w fun e w'=>e=.returned (.bool (asksOk l))∧Below w.heap.size w w':=by
 have hb0:=yA (yH _ w) (.cells #[.int .i64 id,.string (bs qu),.slice ao len cap] 106)
 have C:=hide (containsFuncK_any 159 #[] (enters_of Tryz.func159 (by kernel_rfl) rfl) (fun q=>!askOk q) ao len cap l _ (h.below hb0) hl (fun wx q hq _=>askNot_any q wx (hn q hq)))
 have HS:=hide (show asksOk l=(decide (len≤10)&&!(l.any fun q=>!askOk q)) by rw [asksOk,←h.1];congr 1;rw [List.not_any_eq_all_not];simp)
 obtain ⟨o,ho⟩:∃o,asksOk l=o:=⟨_,rfl⟩
 obtain ⟨b,hb⟩:∃o,(l.any fun q=>!askOk q)=o:=⟨_,rfl⟩
 rw [ho] at HS ⊢
 rw [hb] at HS C
 have HB0:=hide hb0
 clear ho hb h hn hb0
 by_cases h10:len≤10
 ·have hi:(len:Int)≤10:=by omega
  rw [decide_eq_true h10] at HS
  clear h10
  go_enter Tryz.func118,Tryz.ntmps118
  go_wp2_with fail
  refine (uH C).mono ?_
  rintro e w1 ⟨rfl,hb⟩
  have HB:=hide (yB (uH HB0) hb)
  clear hb C HB0
  go_wp2
  go_ret
  exact ⟨yF (by rw [uH HS];simp),uH HB⟩
 ·have hi:¬(len:Int)≤10:=by omega
  rw [decide_eq_false h10] at HS
  clear h10 C
  go_enter Tryz.func118,Tryz.ntmps118
  go_wp2
  go_ret
  exact ⟨yF (by rw [uH HS];simp),uH HB0⟩
def numsOk (s:St):Bool:=inB s.clock 0 1000000000&&(inB s.epoch 1 1000000000&&(inB s.next 1 1000000000&&inB s.serial 1 1000000000))
theorem numbersOk_any (x:Sls) (s:St) (w:World) :
  Calls Tryz.prog 75 #[sv x s] w fun e w'=>e=.returned (.bool (numsOk s))∧Below w.heap.size w w':=by
 obtain ⟨qa,ql,qc,aa,al,ac,ma,ml,mc,ca,cl,cc⟩:=x
 obtain ⟨qs,clock,epoch,next,serial,apps,ms,cs⟩:=s
 have HB0:=hide (yA (yH _ w) (.cells (svc ⟨qa,ql,qc,aa,al,ac,ma,ml,mc,ca,cl,cc⟩ ⟨qs,clock,epoch,next,serial,apps,ms,cs⟩) 36))
 simp only [numsOk]
 obtain ⟨b0,h0⟩:∃b,inB clock 0 1000000000=b:=⟨_,rfl⟩
 obtain ⟨b1,h1⟩:∃b,inB epoch 1 1000000000=b:=⟨_,rfl⟩
 obtain ⟨b2,h2⟩:∃b,inB next 1 1000000000=b:=⟨_,rfl⟩
 obtain ⟨b3,h3⟩:∃b,inB serial 1 1000000000=b:=⟨_,rfl⟩
 have C0:=hide (fun wx=>by have:=numberOk_any clock wx;rw [h0] at this;exact this)
 have C1:=hide (fun wx=>by have:=countOk_any epoch wx;rw [h1] at this;exact this)
 have C2:=hide (fun wx=>by have:=countOk_any next wx;rw [h2] at this;exact this)
 have C3:=hide (fun wx=>by have:=countOk_any serial wx;rw [h3] at this;exact this)
 rw [h0,h1,h2,h3]
 clear h0 h1 h2 h3
 go_enter Tryz.func75,Tryz.ntmps75
 go_wp2_with fail
 refine (uH C0 _).mono ?_
 rintro e w1 ⟨rfl,rfl⟩
 cases b0 with
 | false=>
  go_wp2
  go_ret
  exact ⟨rfl,uH HB0⟩
 | true=>
 go_wp2_with fail
 refine (uH C1 _).mono ?_
 rintro e w1 ⟨rfl,rfl⟩
 cases b1 with
 | false=>
  go_wp2
  go_ret
  exact ⟨rfl,uH HB0⟩
 | true=>
 go_wp2_with fail
 refine (uH C2 _).mono ?_
 rintro e w1 ⟨rfl,rfl⟩
 cases b2 with
 | false=>
  go_wp2
  go_ret
  exact ⟨rfl,uH HB0⟩
 | true=>
 go_wp2_with fail
 refine (uH C3 _).mono ?_
 rintro e w1 ⟨rfl,rfl⟩
 go_wp2
 go_ret
 exact ⟨yF (by simp),uH HB0⟩
theorem l04On_any (x:Sls) (s:St) (nd:List UInt8) (w:World) (h:ConRow w x.ca x.cl s.cs) (hl:x.cl≤1048576) :
  Calls Tryz.prog 107 #[sv x s,.string (bs nd)] w fun e w'=>∃v,e=.returned v∧ROwn w.heap.size w' v (usedL (fun q=>decide (q.node=nd)) s.cs)∧Below w.heap.size w w':=by
 obtain ⟨i0,hi,hz0,hz1,hz2⟩:=info_parts Tryz.infoR
 obtain ⟨qa,ql,qc,aa,al,ac,ma,ml,mc,ca,cl,cc⟩:=x
 obtain ⟨qs,clock,epoch,next,serial,apps,ms,cs⟩:=s
 simp only at h hl ⊢
 have HR:=hide h
 have HL:=hide h.1
 have HB0:=hide (boxW_below w #[.slice qa ql qc,.int .i64 clock,.int .i64 epoch,.int .i64 next,.int .i64 serial,.slice aa al ac,.slice ma ml mc,.slice ca cl cc])
 have P0:=hide (boxW_blk w #[.slice qa ql qc,.int .i64 clock,.int .i64 epoch,.int .i64 next,.int .i64 serial,.slice aa al ac,.slice ma ml mc,.slice ca cl cc])
 have HW:=hide (boxW_size w #[.slice qa ql qc,.int .i64 clock,.int .i64 epoch,.int .i64 next,.int .i64 serial,.slice aa al ac,.slice ma ml mc,.slice ca cl cc])
 have HO0:=hide (rown_empty (boxW w #[.slice qa ql qc,.int .i64 clock,.int .i64 epoch,.int .i64 next,.int .i64 serial,.slice aa al ac,.slice ma ml mc,.slice ca cl cc]))
 obtain ⟨c,hc⟩:∃c:Array Value,#[.slice qa ql qc,.int .i64 clock,.int .i64 epoch,.int .i64 next,.int .i64 serial,.slice aa al ac,.slice ma ml mc,.slice ca cl cc]=c:=⟨_,rfl⟩
 rw [hc] at HB0 HW HO0
 have P0:=hide (show Blk (boxW w c) w.heap.size #[.slice qa ql qc,.int .i64 clock,.int .i64 epoch,.int .i64 next,.int .i64 serial,.slice aa al ac,.slice ma ml mc,.slice ca cl cc] 36 by rw [hc];exact boxW_blk w c)
 have HC:=hide hc
 clear h hc
 go_enter Tryz.func107,Tryz.ntmps107
 go_wp2
 go_loopw [5,6] (fun v i wr=>∃(k:Nat),k≤cl∧i=.int .i64 k∧Hid (ROwn (boxW w c).heap.size wr v (usedL (fun q=>decide (q.node=nd)) (cs.take k)))∧Hid (Below (boxW w c).heap.size (boxW w c) wr)) (fun _ i _=>cl - (intOf i).toNat)
 case atStart=>
  obtain rfl:=uH HC
  have h1:=uH HW
  refine ⟨0,Nat.zero_le _,rfl,hide ?_,hide (yA (yH _ _) _)⟩
  have:=uH HO0
  rw [h1] at this
  rw [h1]
  exact this
 case round=>
  obtain ⟨k,hk,rfl,HO,HB⟩:=hrel
  have hn1:w.heap.size<(boxW w c).heap.size:=by have:=uH HW;omega
  have p7:=Blk.at (show Blk wr w.heap.size _ 36 from ((uH HB).block _ hn1).trans (uH P0)) 7
  simp at p7
  by_cases hlt:k<cl
  ·obtain ⟨b,off,rfl,hq⟩:=(((uH HR).below (uH HB0)).below (uH HB)).at hlt
   have hkl:k<cs.length:=by have:=uH HL;omega
   have hst:=usedL_step (p:=fun q=>decide (q.node=nd)) hkl
   obtain ⟨c0,c1,c2,c3,c4⟩:=hq hkl
   obtain ⟨m,hs⟩:∃q,cs[k]=q:=⟨_,rfl⟩
   rw [hs] at c0 c1 c2 c3 c4 hst
   have hal:(usedL (fun q=>decide (q.node=nd)) (cs.take k)).length≤1048576:=by have:(usedL (fun q:Con=>decide (q.node=nd)) (cs.take k)).length≤(cs.take k).length:=(by simp only [usedL,List.length_map];exact List.length_filter_le _ _);simp at this;omega
   obtain ⟨acc,hacc⟩:∃a,usedL (fun q=>decide (q.node=nd)) (cs.take k)=a:=⟨_,rfl⟩
   rw [hacc] at hst hal HO
   obtain ⟨id,ap,no,me,cp⟩:=m
   simp only at c0 c1 c2 c3 c4 hst
   have hs2:(boxW w c).heap.size≤wr.heap.size:=(uH HB).size
   have hown:wr.ownsRow (boxW w c).heap.size 52 2 _ acc.length (rcells acc):=uH HO
   have hbe:=bs_eq no nd
   clear hq hs hkl hacc
   by_cases hnd:no=nd
   ·rw [decide_eq_true hnd] at hbe hst
    have HST:=hide (show usedL (fun q=>decide (q.node=nd)) (cs.take (k+1))=acc++[(me,cp)] by have:=hst;rw [if_pos rfl] at this;exact this)
    clear hst hnd
    go_wp2_with (at_builtin;refine wpList_append_own _ rfl _ _ 142 rfl (boxW w c).heap.size 52 i0 (.agg #[.int .i64 0,.int .i64 0]) 2 16 Tryz.underlying142 hi hz0 hz1 hz2 rfl (by decide) _ _ _ rfl (hown.alloc _) ⟨wr.heap.size,0,none⟩ 1 1 (rcell (me,cp)) rfl rfl ?c1 ?c2 ?c3 ?c4 ?c5 ?_)
    case c1=>
     intro j x hj
     match j,hj with
     | 0,hj=>simp at hj;subst hj;simp [Addr.add]
     | 1,hj=>simp at hj;subst hj;simp [Addr.add]
     | _+2,hj=>simp at hj
    case c2=>intro x hx;simp at hx;rcases hx with rfl | rfl<;>rfl
    case c3=>unfold maxLen;omega
    case c4=>omega
    case c5=>simp at hs2 ⊢;omega
    intro v' w3 hown' hgrow _
    have R:=rown_step (q:=(me,cp)) (uH HB) (uH HO) hown' hgrow hs2
    have HR3:=hide R
    clear hown' hgrow hown c0 c1 c2 c3 c4 R p7
    go_wp2
    go_roundw
    case rel=>exact ⟨k+1,by omega,by go_num,hide (by rw [uH HST];exact (uH HR3).1),hide (uH HR3).2⟩
    case measure=>simp [intOf];omega
   ·rw [decide_eq_false hnd] at hbe hst
    have HST:=hide (show usedL (fun q=>decide (q.node=nd)) (cs.take (k+1))=acc by have:=hst;rw [if_neg (by simp)] at this;exact this)
    clear hst hnd hown
    go_wp2
    go_roundw
    case rel=>exact ⟨k+1,by omega,by go_num,hide (by rw [uH HST];exact uH HO),HB⟩
    case measure=>simp [intOf];omega
  ·have htk:cs.take k=cs:=List.take_of_length_le (by have:=uH HL;omega)
   rw [htk] at HO
   go_wp2
   go_ret
   exact ⟨_,rfl,(uH HO).base (by omega),yB (uH HB0) (uH HB)⟩
def endM:Nat→List AV→Nat
 | K,[]=>K
 | K,v::t=>endM (K+2+5*v.len) t
def hsM:Nat→List AV→List AV
 | _,[]=>[]
 | K,v::t=>⟨(K:Int),109::dgs (K+1),v.ao,v.len,v.cap⟩::hsM (K+2+5*v.len) t
def AsksM (w:World):Nat→List AV→Prop
 | _,[]=>True
 | K,v::t=>AskRow w v.ao v.len (marksA (K+2) v.len)∧AsksM w (K+2+5*v.len) t
theorem AsksM.below {w w':World} (hb:Below w.heap.size w w'):∀(l:List AV) (K:Nat),AsksM w K l→AsksM w' K l
 | [],_,_=>trivial
 | v::t,K,h=>⟨h.1.below hb,AsksM.below hb t _ h.2⟩
def AVOne (w0:World) (b p:Nat) (q:AV) (w:World):Prop:=AVAt w b p q∧Below w0.heap.size w0 w
theorem AVOne.call {w0 w w':World} {b p:Nat} {q:AV} (h:AVOne w0 b p q w) (hb:Below w.heap.size w w'):AVOne w0 b p q w':=⟨h.1.below hb,yB h.2 hb⟩
theorem AVOne.drew {w0 w:World} {b p:Nat} {q:AV} (h:AVOne w0 b p q w):AVOne w0 b p q w.drew:=h.call (yH _ _).drew
theorem AVOne.read (w0:World) (b p:Nat) (q:AV):∀wx,AVOne w0 b p q wx→wx.cell? ⟨b,p,none⟩=some (.int .i64 q.id)∧wx.cell? ⟨b,p+1,none⟩=some (.string (bs q.queue))∧wx.cell? ⟨b,p+2,none⟩=some (.slice q.ao q.len q.cap):=fun wx h=>h.1
theorem Cel.type {w:World} {t t':TypeId} {g N N':Nat} (h:Cel w t g N) (h':Cel w t' g N'):t=t':=by
 obtain ⟨a,h1,_⟩:=h
 obtain ⟨b,h2,_⟩:=h'
 rw [h1] at h2
 cases h2
 rfl
structure Mks (S:Nat→Prop) (w w':World):Prop where
 os:w'.os=w.os
 tape:w'.tape=w.tape
 output:w'.output=w.output
 size:w.heap.size≤w'.heap.size
 block:∀k,k<w.heap.size→¬S k→w'.heap[k]? = w.heap[k]?
 cel:∀t g N,Cel w t g N→Cel w' t g N
theorem Mks.refl (S:Nat→Prop) (w:World):Mks S w w:=⟨rfl,rfl,rfl,yJ _,fun _ _ _=>rfl,fun _ _ _ h=>h⟩
theorem Mks.trans {S:Nat→Prop} {a b c:World} (h:Mks S a b) (k:Mks S b c):Mks S a c:=
 ⟨k.os.trans h.os,k.tape.trans h.tape,k.output.trans h.output,Nat.le_trans h.size k.size,fun i hi ho=>(k.block i (Nat.lt_of_lt_of_le hi h.size) ho).trans (h.block i hi ho),fun t g N x=>k.cel t g N (h.cel t g N x)⟩
theorem Mks.mono {S S':Nat→Prop} {a b:World} (h:Mks S a b) (hs:∀k,S k→S' k):Mks S' a b:=
 ⟨h.os,h.tape,h.output,h.size,fun i hi ho=>h.block i hi (fun hk=>ho (hs i hk)),h.cel⟩
theorem Mks.of_below {S:Nat→Prop} {w w':World} (hb:Below w.heap.size w w'):Mks S w w':=⟨hb.os,hb.tape,hb.output,hb.size,fun i hi _=>hb.block i hi,fun t g N x=>x.below hb⟩
theorem Mks.on {S:Nat→Prop} {a w w':World} (h:Mks S a w) (hb:Below w.heap.size w w'):Mks S a w':=h.trans (.of_below hb)
theorem Mks.one (S:Nat→Prop) (w:World) (g j:Nat) (v:Value) (hg:S g):Mks S w (w.setCell ⟨g,j,none⟩ v):=
 ⟨rfl,rfl,rfl,by simp [World.setCell],fun k _ ho=>Below.heap_setCell _ _ _ _ (by show k≠g;intro e;exact ho (e ▸ hg)),fun t g' N x=>x.set g j v⟩
theorem Mks.sc {S:Nat→Prop} {a w:World} (h:Mks S a w) (g j:Nat) (v:Value) (hg:S g):Mks S a (w.setCell ⟨g,j,none⟩ v):=h.trans (.one S w g j v hg)
theorem Mkd.mks {g:Nat} {w w':World} (h:Mkd g (g+1) w w'):Mks (fun k=>k=g) w w':=⟨h.os,h.tape,h.output,h.size,fun i hi ho=>h.block i hi (by omega),h.cel⟩
theorem Mks.below {S:Nat→Prop} {B:Nat} {a w:World} (h:Mks S a w) (hS:∀k,S k→B≤k) (hB:B≤a.heap.size):Below B a w:=
 ⟨h.os,h.tape,h.output,h.size,fun k hk=>h.block k (by omega) (fun hs=>by have:=hS k hs;omega)⟩
theorem Mks.blk {S:Nat→Prop} {g:Nat} {a w:World} {arr:Array Value} {t:TypeId} (h:Mks S a w) (hb:Blk a g arr t) (ho:¬S g):Blk w g arr t:=(h.block g hb.lt ho).trans hb
def inR (ao:Option Addr) (n:Nat) (k:Nat):Prop:=n≠0∧∃o,ao=some ⟨k,o,none⟩
def Own1 (B E:Nat) (w:World) (t:TypeId) (sz:Nat) (ao:Option Addr) (n:Nat):Prop:=n=0∨∃g M,ao=some ⟨g,0,none⟩∧B≤g∧g<E∧Cel w t g (M*sz)∧n≤M
theorem own1_of {w:World} {B sz n n' c:Nat} {e:TypeId} {ao:Option Addr} {xs:List Value} (h:w.ownsRow B e sz (.slice ao n c) n' xs):Own1 B w.heap.size w e sz ao c:=by
 rcases h.2 with ⟨h1,_⟩ | ⟨g,cap,cur,h1,h2,h3,_,_,h4,_⟩
 ·cases h1;exact .inl rfl
 ·cases h1;exact .inr ⟨g,c,rfl,h2,lt_of_block h3,⟨cur,h3,h4⟩,yJ _⟩
theorem Own1.below {B E:Nat} {w w':World} {t:TypeId} {sz n:Nat} {ao:Option Addr} (h:Own1 B E w t sz ao n) (hb:Below w.heap.size w w'):Own1 B E w' t sz ao n:=by
 rcases h with h | ⟨g,M,h1,h2,h3,h4,h5⟩
 ·exact .inl h
 ·exact .inr ⟨g,M,h1,h2,h3,h4.below hb,h5⟩
theorem Own1.mks {B E:Nat} {w w':World} {t:TypeId} {sz n:Nat} {ao:Option Addr} {S:Nat→Prop} (h:Own1 B E w t sz ao n) (hb:Mks S w w'):Own1 B E w' t sz ao n:=by
 rcases h with h | ⟨g,M,h1,h2,h3,h4,h5⟩
 ·exact .inl h
 ·exact .inr ⟨g,M,h1,h2,h3,hb.cel _ _ _ h4,h5⟩
theorem Own1.sc {B E:Nat} {w:World} {t:TypeId} {sz n:Nat} {ao:Option Addr} (h:Own1 B E w t sz ao n) (k j:Nat) (v:Value):Own1 B E (w.setCell ⟨k,j,none⟩ v) t sz ao n:=by
 rcases h with h | ⟨g,M,h1,h2,h3,h4,h5⟩
 ·exact .inl h
 ·exact .inr ⟨g,M,h1,h2,h3,h4.set k j v,h5⟩
theorem Own1.mono {B E B' E':Nat} {w:World} {t:TypeId} {sz n:Nat} {ao:Option Addr} (h:Own1 B E w t sz ao n) (h1:B'≤B) (h2:E≤E'):Own1 B' E' w t sz ao n:=by
 rcases h with h | ⟨g,M,a,b,c,d⟩
 ·exact .inl h
 ·exact .inr ⟨g,M,a,by omega,by omega,d⟩
theorem Own1.lies {B E:Nat} {w:World} {t:TypeId} {sz n:Nat} {ao:Option Addr} (h:Own1 B E w t sz ao n):∀k,inR ao n k→B≤k∧k<E∧∃N,Cel w t k N:=by
 rintro k ⟨hn,o,e⟩
 rcases h with h | ⟨g,M,h1,h2,h3,h4,h5⟩
 ·exact absurd h hn
 ·rw [h1] at e
  cases e
  exact ⟨h2,h3,_,h4⟩
theorem Own1.apart {B E B' E':Nat} {w:World} {t t':TypeId} {sz sz' n n':Nat} {ao bo:Option Addr} (h:Own1 B E w t sz ao n) (h':Own1 B' E' w t' sz' bo n') (ht:t≠t'):∀k,inR ao n k→¬inR bo n' k:=fun k hk hk'=>by
 obtain ⟨_,_,N,h1⟩:=h.lies k hk
 obtain ⟨_,_,N',h2⟩:=h'.lies k hk'
 exact ht (h1.type h2)
theorem cellMks {S:Nat→Prop} {w w':World} {g p:Nat} {u:Value} (h:w.cell? ⟨g,p,none⟩=some u) (hm:Mks S w w') (hg:¬S g):w'.cell? ⟨g,p,none⟩=some u:=
 (World.cell?_of_block (w:=w) (a:=⟨g,p,none⟩) (hm.block g (yG h) hg)).trans h
theorem QRow.mks {S:Nat→Prop} {w w':World} {ao:Option Addr} {len:Nat} {l:List Q} (h:QRow w ao len l) (hm:Mks S w w') (hs:∀k,inR ao len k→¬S k):QRow w' ao len l:=by
 obtain ⟨h1,h2⟩:=h
 refine ⟨h1,?_⟩
 rcases h2 with h2 | ⟨b,off,h3,h4⟩
 ·exact .inl h2
 ·by_cases hz:len=0
  ·exact .inl hz
  ·have hb:=hs b ⟨hz,off,h3⟩
   exact .inr ⟨b,off,h3,fun i h=>let ⟨a,c,d,e⟩:=h4 i h;⟨cellMks a hm hb,cellMks c hm hb,cellMks d hm hb,cellMks e hm hb⟩⟩
theorem MacRow.mks {S:Nat→Prop} {w w':World} {ao:Option Addr} {len:Nat} {l:List Mac} (h:MacRow w ao len l) (hm:Mks S w w') (hs:∀k,inR ao len k→¬S k):MacRow w' ao len l:=by
 obtain ⟨h1,h2⟩:=h
 refine ⟨h1,?_⟩
 rcases h2 with h2 | ⟨b,off,h3,h4⟩
 ·exact .inl h2
 ·by_cases hz:len=0
  ·exact .inl hz
  ·have hb:=hs b ⟨hz,off,h3⟩
   exact .inr ⟨b,off,h3,fun i h=>let ⟨a,c,d,e⟩:=h4 i h;⟨cellMks a hm hb,cellMks c hm hb,cellMks d hm hb,cellMks e hm hb⟩⟩
theorem ConRow.mks {S:Nat→Prop} {w w':World} {ao:Option Addr} {len:Nat} {l:List Con} (h:ConRow w ao len l) (hm:Mks S w w') (hs:∀k,inR ao len k→¬S k):ConRow w' ao len l:=by
 obtain ⟨h1,h2⟩:=h
 refine ⟨h1,?_⟩
 rcases h2 with h2 | ⟨b,off,h3,h4⟩
 ·exact .inl h2
 ·by_cases hz:len=0
  ·exact .inl hz
  ·have hb:=hs b ⟨hz,off,h3⟩
   exact .inr ⟨b,off,h3,fun i h=>let ⟨a,c,d,e,f⟩:=h4 i h;⟨cellMks a hm hb,cellMks c hm hb,cellMks d hm hb,cellMks e hm hb,cellMks f hm hb⟩⟩
theorem AskRow.mks {S:Nat→Prop} {w w':World} {ao:Option Addr} {len:Nat} {l:List Ask} (h:AskRow w ao len l) (hm:Mks S w w') (hs:∀k,inR ao len k→¬S k):AskRow w' ao len l:=by
 obtain ⟨h1,h2⟩:=h
 refine ⟨h1,?_⟩
 rcases h2 with h2 | ⟨b,off,h3,h4⟩
 ·exact .inl h2
 ·by_cases hz:len=0
  ·exact .inl hz
  ·have hb:=hs b ⟨hz,off,h3⟩
   exact .inr ⟨b,off,h3,fun i h=>let ⟨a,c,d,e,f⟩:=h4 i h;⟨cellMks a hm hb,cellMks c hm hb,cellMks d hm hb,cellMks e hm hb,cellMks f hm hb⟩⟩
theorem AVRow.mks {S:Nat→Prop} {w w':World} {ao:Option Addr} {len:Nat} {l:List AV} (h:AVRow w ao len l) (hm:Mks S w w') (hs:∀k,inR ao len k→¬S k):AVRow w' ao len l:=by
 obtain ⟨h1,h2⟩:=h
 refine ⟨h1,?_⟩
 rcases h2 with h2 | ⟨b,off,h3,h4⟩
 ·exact .inl h2
 ·by_cases hz:len=0
  ·exact .inl hz
  ·have hb:=hs b ⟨hz,off,h3⟩
   exact .inr ⟨b,off,h3,fun i h=>let ⟨a,c,d⟩:=h4 i h;⟨cellMks a hm hb,cellMks c hm hb,cellMks d hm hb⟩⟩
theorem AsksM.mks {S:Nat→Prop} {w w':World} (hm:Mks S w w'):∀(l:List AV) (K:Nat),AsksM w K l→(∀v ∈ l,∀k,inR v.ao v.len k→¬S k)→AsksM w' K l
 | [],_,_,_=>trivial
 | v::t,K,h,hs=>⟨h.1.mks hm (hs v (by simp)),AsksM.mks hm t _ h.2 (fun u hu=>hs u (by simp [hu]))⟩
def Apart (u v:AV):Prop:=u.len=0∨v.len=0∨u.ao≠v.ao
def AVBlk (w:World) (g M:Nat) (l:List AV):Prop:=Cel w 106 g (M*3)∧l.length≤M∧∀i (h:i<l.length),AVAt w g (i*3) l[i]
theorem AVBlk.below {w w':World} {g M:Nat} {l:List AV} (h:AVBlk w g M l) (hb:Below w.heap.size w w'):AVBlk w' g M l:=⟨h.1.below hb,h.2.1,fun i hi=>(h.2.2 i hi).below hb⟩
theorem AVBlk.mks {S:Nat→Prop} {w w':World} {g M:Nat} {l:List AV} (h:AVBlk w g M l) (hm:Mks S w w') (hs:¬S g):AVBlk w' g M l:=
 ⟨hm.cel _ _ _ h.1,h.2.1,fun i hi=>let ⟨a,b,c⟩:=h.2.2 i hi;⟨cellMks a hm hs,cellMks b hm hs,cellMks c hm hs⟩⟩
theorem AVBlk.id {w:World} {g M i:Nat} {l:List AV} (h:AVBlk w g M l) (hi:i<l.length) (x:Int):AVBlk (w.setCell ⟨g,i*3,none⟩ (.int .i64 x)) g M (l.set i ⟨x,l[i].queue,l[i].ao,l[i].len,l[i].cap⟩):=by
 refine ⟨h.1.set _ _ _,by simpa using h.2.1,fun j hj=>?_⟩
 have hj':j<l.length:=by simpa using hj
 obtain ⟨a,b,c⟩:=h.2.2 j hj'
 by_cases e:i=j
 ·subst e
  simp only [List.getElem_set_self]
  exact ⟨World.cell?_setCell_same _ ⟨g,i*3,none⟩ _ a,cellKeep b (by omega),cellKeep c (by omega)⟩
 ·rw [List.getElem_set_ne e]
  exact ⟨cellKeep a (by omega),cellKeep b (by omega),cellKeep c (by omega)⟩
theorem AVBlk.row {w:World} {g M:Nat} {l:List AV} (h:AVBlk w g M l):AVRow w (some ⟨g,0,none⟩) l.length l:=⟨rfl,.inr ⟨g,0,rfl,fun i hi=>by rw [Nat.zero_add];exact h.2.2 i hi⟩⟩
structure SCap (x:Sls):Prop where
 q:x.ql≤x.qc
 a:x.al≤x.ac
 m:x.ml≤x.mc
 c:x.cl≤x.cc
def RmS (B E:Nat) (w:World) (x:Sls) (hs:List AV):Prop:=Own1 B E w 99 4 x.qa x.qc∧Own1 B E w 106 3 x.aa x.ac∧Own1 B E w 113 4 x.ma x.mc∧Own1 B E w 58 5 x.ca x.cc∧∀v ∈ hs,Own1 B E w 140 5 v.ao v.cap
theorem RmS.map {B E B' E':Nat} {w w':World} {x:Sls} {hs:List AV} (h:RmS B E w x hs) (f:∀{t:TypeId} {sz n:Nat} {ao:Option Addr},Own1 B E w t sz ao n→Own1 B' E' w' t sz ao n):RmS B' E' w' x hs:=⟨f h.1,f h.2.1,f h.2.2.1,f h.2.2.2.1,fun v hv=>f (h.2.2.2.2 v hv)⟩
theorem RmS.below {B E:Nat} {w w':World} {x:Sls} {hs:List AV} (h:RmS B E w x hs) (hb:Below w.heap.size w w'):RmS B E w' x hs:=h.map (fun k=>k.below hb)
theorem RmS.mono {B E B' E':Nat} {w:World} {x:Sls} {hs:List AV} (h:RmS B E w x hs) (h1:B'≤B) (h2:E≤E'):RmS B' E' w x hs:=h.map (fun k=>k.mono h1 h2)
theorem RmS.mks {B E:Nat} {S:Nat→Prop} {w w':World} {x:Sls} {hs:List AV} (h:RmS B E w x hs) (hm:Mks S w w'):RmS B E w' x hs:=h.map (fun k=>k.mks hm)
theorem RmS.sc {B E:Nat} {w:World} {x:Sls} {hs:List AV} (h:RmS B E w x hs) (k j:Nat) (v:Value):RmS B E (w.setCell ⟨k,j,none⟩ v) x hs:=h.map (fun o=>o.sc k j v)
structure SAns (B E:Nat) (w:World) (x:Sls) (s:St) (hs:List AV):Prop where
 row:SRow w x s
 q:Own1 B E w 99 4 x.qa x.ql
 a:Own1 B E w 106 3 x.aa x.al
 m:Own1 B E w 113 4 x.ma x.ml
 c:Own1 B E w 58 5 x.ca x.cl
 av:AVRow w x.aa x.al hs
 heads:Heads w hs s.apps
 asks:∀v ∈ hs,Own1 B E w 140 5 v.ao v.len
 apart:hs.Pairwise Apart
 cap:SCap x
 rm:RmS B E w x hs
theorem Heads.below {w w':World} {hs:List AV} {l:List Appl} (h:Heads w hs l) (hb:Below w.heap.size w w'):Heads w' hs l:=⟨h.1,fun i h1 h2=>let ⟨a,b,c,d⟩:=h.2 i h1 h2;⟨a,b,c.below hb,d⟩⟩
theorem SAns.below {B E:Nat} {w w':World} {x:Sls} {s:St} {hs:List AV} (h:SAns B E w x s hs) (hb:Below w.heap.size w w'):SAns B E w' x s hs:=
 ⟨h.row.below hb,h.q.below hb,h.a.below hb,h.m.below hb,h.c.below hb,h.av.below hb,h.heads.below hb,fun v hv=>(h.asks v hv).below hb,h.apart,h.cap,h.rm.below hb⟩
theorem SAns.mono {B E B' E':Nat} {w:World} {x:Sls} {s:St} {hs:List AV} (h:SAns B E w x s hs) (h1:B'≤B) (h2:E≤E'):SAns B' E' w x s hs:=
 ⟨h.row,h.q.mono h1 h2,h.a.mono h1 h2,h.m.mono h1 h2,h.c.mono h1 h2,h.av,h.heads,fun v hv=>(h.asks v hv).mono h1 h2,h.apart,h.cap,h.rm.mono h1 h2⟩
theorem SAns.mks {B E:Nat} {S:Nat→Prop} {w w':World} {x:Sls} {s:St} {hs:List AV} (h:SAns B E w x s hs) (hm:Mks S w w') (hS:∀k,S k→k<B∨E≤k):SAns B E w' x s hs:=by
 have key:∀{t:TypeId} {sz n:Nat} {ao:Option Addr},Own1 B E w t sz ao n→∀k,inR ao n k→¬S k:=fun ho k hk hs=>by
  obtain ⟨h1,h2,_⟩:=ho.lies k hk
  have:=hS k hs
  omega
 have hrow:Heads w' hs s.apps:=⟨h.heads.1,fun i h1 h2=>by
  obtain ⟨a,b,c,d⟩:=h.heads.2 i h1 h2
  exact ⟨a,b,c.mks hm (key (h.asks _ (yM h1))),d⟩⟩
 have hav:=h.av.mks hm (key h.a)
 refine ⟨⟨h.row.1.mks hm (key h.q),?_,h.row.2.2.1.mks hm (key h.m),h.row.2.2.2.mks hm (key h.c)⟩,h.q.mks hm,h.a.mks hm,h.m.mks hm,h.c.mks hm,hav,hrow,fun v hv=>(h.asks v hv).mks hm,h.apart,h.cap,h.rm.mks hm⟩
 refine ⟨h.row.2.1.1,?_⟩
 rcases hav.2 with e | ⟨b,off,e,hh⟩
 ·exact .inl e
 ·refine .inr ⟨b,off,e,fun i hi=>?_⟩
  have hi':i<hs.length:=by rw [h.heads.1];exact hi
  obtain ⟨a1,a2,a3,a4⟩:=hrow.2 i hi' hi
  obtain ⟨c1,c2,c3⟩:=hh i hi'
  rw [a1] at c1
  rw [a2] at c2
  exact ⟨hs[i].ao,hs[i].len,hs[i].cap,c1,c2,c3,a3,a4⟩
structure SMk (w:World) (x:Sls) (hs:List AV):Prop where
 q:QRow w x.qa x.ql (marksQ x.ql)
 a:AVRow w x.aa x.al (hsM (1+4*x.ql) hs)
 k:AsksM w (1+4*x.ql) hs
 m:MacRow w x.ma x.ml (marksM (endM (1+4*x.ql) hs) x.ml)
 c:ConRow w x.ca x.cl (marksC (endM (1+4*x.ql) hs+4*x.ml) x.cl)
 z:x.ql=0∨∃g,x.qa=some ⟨g,0,none⟩
theorem SMk.below {w w':World} {x:Sls} {hs:List AV} (h:SMk w x hs) (hb:Below w.heap.size w w'):SMk w' x hs:=⟨h.q.below hb,h.a.below hb,AsksM.below hb _ _ h.k,h.m.below hb,h.c.below hb,h.z⟩
def endS (x:Sls) (hs:List AV):Nat:=endM (1+4*x.ql) hs+4*x.ml+5*x.cl
def inS (x:Sls) (hs:List AV) (k:Nat):Prop:=inR x.qa x.ql k∨(inR x.aa x.al k∨∃v ∈ hs,inR v.ao v.len k)∨inR x.ma x.ml k∨inR x.ca x.cl k
theorem SAns.ins {B E:Nat} {w:World} {x:Sls} {s:St} {hs:List AV} (h:SAns B E w x s hs):∀k,inS x hs k→B≤k∧k<E:=by
 rintro k (hk | (hk | ⟨v,hv,hk⟩) | hk | hk)
 ·exact ⟨(h.q.lies k hk).1,(h.q.lies k hk).2.1⟩
 ·exact ⟨(h.a.lies k hk).1,(h.a.lies k hk).2.1⟩
 ·exact ⟨((h.asks v hv).lies k hk).1,((h.asks v hv).lies k hk).2.1⟩
 ·exact ⟨(h.m.lies k hk).1,(h.m.lies k hk).2.1⟩
 ·exact ⟨(h.c.lies k hk).1,(h.c.lies k hk).2.1⟩
abbrev pcell (q:AV):List Value:=[.int .i64 q.id,.string (bs q.queue),.slice q.ao q.len q.cap]
def pcells:List AV→List Value
 | []=>[]
 | q::t=>pcell q++pcells t
theorem pcells_app (a:List AV) (q:AV):pcells (a++[q])=pcells a++pcell q:=by
 induction a with
 | nil=>rfl
 | cons x t ih=>rw [List.cons_append,pcells,pcells,ih,List.append_assoc]
theorem pcells_len:∀l:List AV,(pcells l).length=l.length*3
 | []=>rfl
 | q::t=>by rw [pcells,List.length_append,pcells_len t];simp;omega
theorem pcells_at:∀(l:List AV) (i:Nat) (h:i<l.length),(pcells l)[i*3]? = some (.int .i64 l[i].id)∧(pcells l)[i*3+1]? = some (.string (bs l[i].queue))∧(pcells l)[i*3+2]? = some (.slice l[i].ao l[i].len l[i].cap)
 | q::t,0,_=>⟨rfl,rfl,rfl⟩
 | q::t,i+1,h=>by
  have e:=pcells_at t i (by simpa using h)
  have k:∀j,(pcells (q::t))[(i+1)*3+j]? = (pcells t)[i*3+j]?:=fun j=>by
   rw [pcells,show (i+1)*3+j=(pcell q).length+(i*3+j) by simp;omega,List.getElem?_append_right (by omega)]
   congr 1
   omega
  have k0:=k 0
  simp only [Nat.add_zero] at k0
  rw [k0,k 1,k 2]
  simpa using e
theorem pcells_row {w:World} {b off len:Nat} {l:List AV} (h:AVRow w (some ⟨b,off,none⟩) len l):∀j u,(pcells l)[j]? = some u→w.cell? ⟨b,off+j,none⟩=some u:=fun j u hj=>by
 have hjl:j<l.length*3:=by rw [←pcells_len];exact (List.getElem?_eq_some_iff.1 hj).1
 obtain ⟨h1,h2⟩:=h
 rcases h2 with h2 | ⟨b',off',e,h4⟩
 ·omega
 ·cases e
  have hi:j / 3<l.length:=by omega
  obtain ⟨a0,a1,a2⟩:=pcells_at l (j / 3) hi
  obtain ⟨c0,c1,c2⟩:=h4 (j / 3) hi
  rcases (show j % 3=0∨j % 3=1∨j % 3=2 by omega) with e | e | e
  ·rw [show j=j / 3*3 by omega] at hj ⊢;rw [a0] at hj;cases hj;exact c0
  ·rw [show j=j / 3*3+1 by omega] at hj ⊢;rw [a1] at hj;cases hj;rw [←Nat.add_assoc];exact c1
  ·rw [show j=j / 3*3+2 by omega] at hj ⊢;rw [a2] at hj;cases hj;rw [←Nat.add_assoc];exact c2
def POwn (B:Nat) (w:World) (v:Value) (l:List AV):Prop:=w.ownsRow B 106 3 v l.length (pcells l)
theorem pown_empty (w:World):w.alloc (.cells #[] 106) |>.ownsRow w.heap.size 106 3 (.slice (some ⟨w.heap.size,0,none⟩) 0 0) 0 []:=
 ⟨rfl,.inr ⟨w.heap.size,0,#[],rfl,yJ _,by show (w.heap.push _)[w.heap.size]? = _;simp,yJ _,by unfold maxLen;omega,rfl,rfl⟩⟩
theorem pown_below {w w':World} {B:Nat} {v:Value} {l:List AV} (h:POwn B w v l) (hb:Below w.heap.size w w'):POwn B w' v l:=
 World.ownsRow.kept h (grownBy_below (grownBy_refl w none) hb) (by by_cases e:v.ownBlock=none;exact .inl e;exact .inr e)
theorem pown_base {w:World} {B B':Nat} {v:Value} {l:List AV} (h:POwn B w v l) (hb:B'≤B):POwn B' w v l:=by
 obtain ⟨h1,h2⟩:=h
 refine ⟨h1,?_⟩
 rcases h2 with h2 | ⟨g,cap,cur,a,b,c⟩
 ·exact .inl h2
 ·exact .inr ⟨g,cap,cur,a,Nat.le_trans hb b,c⟩
theorem pown_row {w:World} {B:Nat} {v:Value} {l:List AV} (h:POwn B w v l):∃ao cap,v=.slice ao l.length cap∧AVRow w ao l.length l∧l.length≤cap∧(l≠[]→∃g cur,ao=some ⟨g,0,none⟩∧B≤g∧w.heap[g]? = some (.cells cur 106 (0,0))∧cur.size=cap*3):=by
 rcases h.2 with ⟨rfl,h0⟩ | ⟨g,cap,cur,rfl,h1,h2,h3,h4,h5,h6⟩
 ·exact ⟨none,0,by rw [h0],⟨rfl,.inl h0⟩,by omega,fun hn=>absurd (List.length_eq_zero_iff.1 h0) hn⟩
 ·refine ⟨some ⟨g,0,none⟩,cap,rfl,⟨rfl,.inr ⟨g,0,rfl,fun i hi=>?_⟩⟩,h3,fun _=>⟨g,cur,rfl,h1,h2,h5⟩⟩
  obtain ⟨a,b,c⟩:=pcells_at l i hi
  have k:∀j (v:Value),j<l.length*3→(pcells l)[j]? = some v→w.cell? ⟨g,j,none⟩=some v:=fun j v hj hv=>by
   rw [←h6,List.getElem?_take_of_lt hj] at hv
   simp [World.cell?,h2]
   simpa using hv
  unfold AVAt
  rw [Nat.zero_add]
  exact ⟨k _ _ (by omega) a,k _ _ (by omega) b,k _ _ (by omega) c⟩
theorem pown_other {w:World} {B:Nat} {v:Value} {l:List AV} (h:POwn B w v l) (k j:Nat) (x:Value) (hk:k<B):POwn B (w.setCell ⟨k,j,none⟩ x) v l:=by
 obtain ⟨h1,h2⟩:=h
 refine ⟨h1,?_⟩
 rcases h2 with h2 | ⟨g,cap,cur,a,b,c,d⟩
 ·exact .inl h2
 ·exact .inr ⟨g,cap,cur,a,b,(heap_setCell_other w ⟨k,j,none⟩ g x (show g≠k by omega)).trans c,d⟩
theorem Tryz.infoApp:(Tryz.prog.info? 106).map (fun i=>(i.zero,i.size,i.bytes))=some (some (.agg #[.int .i64 0,.string ByteArray.empty,.slice none 0 0]),3,48):=by kernel_rfl
theorem Own1.grow {B E:Nat} {w w':World} {t:TypeId} {sz n:Nat} {ao:Option Addr} (h:Own1 B E w t sz ao n) (hb:Below w.heap.size w w') (hE:E≤w.heap.size):Own1 B w'.heap.size w' t sz ao n:=(h.below hb).mono (yJ _) (Nat.le_trans hE hb.size)
theorem not_in {B E k:Nat} {w:World} {t:TypeId} {sz n:Nat} {ao:Option Addr} (h:Own1 B E w t sz ao n) (hk:k<B∨E≤k):∀i,inR ao n i→¬(i=k):=fun i hi e=>by
 obtain ⟨h1,h2,_⟩:=h.lies i hi
 omega
def QHas (B:Nat) (w:World) (ao:Option Addr) (n:Nat) (l:List Q):Prop:=QRow w ao n l∧Own1 B w.heap.size w 99 4 ao n
theorem QHas.below {B n:Nat} {w w':World} {ao:Option Addr} {l:List Q} (h:QHas B w ao n l) (hb:Below w.heap.size w w'):QHas B w' ao n l:=⟨h.1.below hb,h.2.grow hb (yJ _)⟩
theorem QHas.sc {B n k j:Nat} {v:Value} {w:World} {ao:Option Addr} {l:List Q} (h:QHas B w ao n l) (hk:k<B):QHas B (w.setCell ⟨k,j,none⟩ v) ao n l:=
 ⟨h.1.mks (Mks.one (fun x=>x=k) w k j v rfl) (not_in h.2 (.inl hk)),by rw [set_size];exact h.2.mks (Mks.one (fun x=>x=k) w k j v rfl)⟩
theorem QOwn.has {B:Nat} {w:World} {v:Value} {l:List Q} (h:QOwn B w v l):∃ao cap,v=.slice ao l.length cap∧l.length≤cap∧QHas B w ao l.length l:=by
 obtain ⟨ao,cap,e,hr,hc,hg⟩:=qown_rowx h
 refine ⟨ao,cap,e,hc,hr,?_⟩
 by_cases hz:l=[]
 ·exact .inl (by rw [hz];rfl)
 ·obtain ⟨g,cur,e,h1,h2,h3⟩:=hg hz
  exact .inr ⟨g,cap,e,h1,lt_of_block h2,⟨cur,h2,h3⟩,hc⟩
def MHas (B:Nat) (w:World) (ao:Option Addr) (n:Nat) (l:List Mac):Prop:=MacRow w ao n l∧Own1 B w.heap.size w 113 4 ao n
theorem MHas.below {B n:Nat} {w w':World} {ao:Option Addr} {l:List Mac} (h:MHas B w ao n l) (hb:Below w.heap.size w w'):MHas B w' ao n l:=⟨h.1.below hb,h.2.grow hb (yJ _)⟩
theorem MHas.sc {B n k j:Nat} {v:Value} {w:World} {ao:Option Addr} {l:List Mac} (h:MHas B w ao n l) (hk:k<B):MHas B (w.setCell ⟨k,j,none⟩ v) ao n l:=
 ⟨h.1.mks (Mks.one (fun x=>x=k) w k j v rfl) (not_in h.2 (.inl hk)),by rw [set_size];exact h.2.mks (Mks.one (fun x=>x=k) w k j v rfl)⟩
theorem mown_has {B:Nat} {w:World} {v:Value} {l:List Mac} (h:MOwn B w v l):∃ao cap,v=.slice ao l.length cap∧l.length≤cap∧MHas B w ao l.length l:=by
 obtain ⟨ao,cap,e,hr,hc,hg⟩:=mown_row h
 refine ⟨ao,cap,e,hc,hr,?_⟩
 by_cases hz:l=[]
 ·exact .inl (by rw [hz];rfl)
 ·obtain ⟨g,cur,e,h1,h2,h3⟩:=hg hz
  exact .inr ⟨g,cap,e,h1,lt_of_block h2,⟨cur,h2,h3⟩,hc⟩
def CHas (B:Nat) (w:World) (ao:Option Addr) (n:Nat) (l:List Con):Prop:=ConRow w ao n l∧Own1 B w.heap.size w 58 5 ao n
theorem CHas.below {B n:Nat} {w w':World} {ao:Option Addr} {l:List Con} (h:CHas B w ao n l) (hb:Below w.heap.size w w'):CHas B w' ao n l:=⟨h.1.below hb,h.2.grow hb (yJ _)⟩
theorem CHas.sc {B n k j:Nat} {v:Value} {w:World} {ao:Option Addr} {l:List Con} (h:CHas B w ao n l) (hk:k<B):CHas B (w.setCell ⟨k,j,none⟩ v) ao n l:=
 ⟨h.1.mks (Mks.one (fun x=>x=k) w k j v rfl) (not_in h.2 (.inl hk)),by rw [set_size];exact h.2.mks (Mks.one (fun x=>x=k) w k j v rfl)⟩
theorem CHas.base {B B' n:Nat} {w:World} {ao:Option Addr} {l:List Con} (h:CHas B w ao n l) (hb:B'≤B):CHas B' w ao n l:=⟨h.1,h.2.mono hb (yJ _)⟩
theorem cown_has {B:Nat} {w:World} {v:Value} {l:List Con} (h:COwn B w v l):∃ao cap,v=.slice ao l.length cap∧l.length≤cap∧CHas B w ao l.length l:=by
 obtain ⟨ao,cap,e,hr,hc,hg⟩:=cown_row h
 refine ⟨ao,cap,e,hc,hr,?_⟩
 by_cases hz:l=[]
 ·exact .inl (by rw [hz];rfl)
 ·obtain ⟨g,cur,e,h1,h2,h3⟩:=hg hz
  exact .inr ⟨g,cap,e,h1,lt_of_block h2,⟨cur,h2,h3⟩,hc⟩
def PHas (B:Nat) (w:World) (ao:Option Addr) (n:Nat) (hs:List AV):Prop:=AVRow w ao n hs∧Own1 B w.heap.size w 106 3 ao n
theorem PHas.below {B n:Nat} {w w':World} {ao:Option Addr} {l:List AV} (h:PHas B w ao n l) (hb:Below w.heap.size w w'):PHas B w' ao n l:=⟨h.1.below hb,h.2.grow hb (yJ _)⟩
theorem PHas.sc {B n k j:Nat} {v:Value} {w:World} {ao:Option Addr} {l:List AV} (h:PHas B w ao n l) (hk:k<B):PHas B (w.setCell ⟨k,j,none⟩ v) ao n l:=
 ⟨h.1.mks (Mks.one (fun x=>x=k) w k j v rfl) (not_in h.2 (.inl hk)),by rw [set_size];exact h.2.mks (Mks.one (fun x=>x=k) w k j v rfl)⟩
theorem pown_has {B:Nat} {w:World} {v:Value} {l:List AV} (h:POwn B w v l):∃ao cap,v=.slice ao l.length cap∧l.length≤cap∧PHas B w ao l.length l:=by
 obtain ⟨ao,cap,e,hr,hc,hg⟩:=pown_row h
 refine ⟨ao,cap,e,hc,hr,?_⟩
 by_cases hz:l=[]
 ·exact .inl (by rw [hz];rfl)
 ·obtain ⟨g,cur,e,h1,h2,h3⟩:=hg hz
  exact .inr ⟨g,cap,e,h1,lt_of_block h2,⟨cur,h2,h3⟩,hc⟩
structure KHas (B:Nat) (w:World) (ns:List AV) (l:List Appl):Prop where
 heads:Heads w ns l
 own:∀v ∈ ns,Own1 B w.heap.size w 140 5 v.ao v.len
 apart:ns.Pairwise Apart
theorem KHas.below {B:Nat} {w w':World} {ns:List AV} {l:List Appl} (h:KHas B w ns l) (hb:Below w.heap.size w w'):KHas B w' ns l:=⟨h.heads.below hb,fun v hv=>(h.own v hv).grow hb (yJ _),h.apart⟩
theorem KHas.sc {B k j:Nat} {v:Value} {w:World} {ns:List AV} {l:List Appl} (h:KHas B w ns l) (hk:k<B∨∃t N,Cel w t k N∧t≠140):KHas B (w.setCell ⟨k,j,none⟩ v) ns l:=by
 have key:∀u ∈ ns,∀i,inR u.ao u.len i→¬(i=k):=fun u hu i hi e=>by
  obtain ⟨h1,h2,N,hc⟩:=(h.own u hu).lies i hi
  subst e
  rcases hk with hk | ⟨t,N',hc',ht⟩
  ·omega
  ·exact ht (hc'.type hc)
 refine ⟨⟨h.heads.1,fun i h1 h2=>?_⟩,fun u hu=>?_,h.apart⟩
 ·obtain ⟨a,b,c,d⟩:=h.heads.2 i h1 h2
  exact ⟨a,b,c.mks (Mks.one (fun x=>x=k) w k j v rfl) (key _ (yM h1)),d⟩
 ·rw [set_size]
  exact (h.own u hu).mks (Mks.one (fun x=>x=k) w k j v rfl)
theorem KHas.nil (B:Nat) (w:World):KHas B w [] []:=⟨⟨rfl,fun i h=>absurd h (by simp)⟩,fun v hv=>absurd hv (by simp),.nil⟩
theorem aown_has {B:Nat} {w:World} {v:Value} {l:List Ask} (h:AOwn B w v l):∃ao cap,v=.slice ao l.length cap∧l.length≤cap∧AskRow w ao l.length l∧Own1 B w.heap.size w 140 5 ao l.length:=by
 obtain ⟨ao,cap,e,hr,hc,hg⟩:=h.row
 refine ⟨ao,cap,e,hc,hr,?_⟩
 by_cases hz:l=[]
 ·exact .inl (by rw [hz];rfl)
 ·obtain ⟨g,cur,e,h1,h2,h3⟩:=hg hz
  exact .inr ⟨g,cap,e,h1,lt_of_block h2,⟨cur,h2,h3⟩,hc⟩
theorem KHas.snoc {B:Nat} {w w':World} {ns:List AV} {l:List Appl} (h:KHas B w ns l) (hb:Below w.heap.size w w') (hB:B≤w.heap.size) (id:Int) (qu:List UInt8) (ao:Option Addr) (cap:Nat) (k:List Ask) (hc:k.length≤cap)
  (hr:AskRow w' ao k.length k) (ho:Own1 w.heap.size w'.heap.size w' 140 5 ao k.length):KHas B w' (ns++[⟨id,qu,ao,k.length,cap⟩]) (l++[⟨id,qu,k⟩]):=by
 have h':=h.below hb
 refine ⟨⟨by simp [h.heads.1],fun i h1 h2=>?_⟩,fun v hv=>?_,?_⟩
 ·by_cases hi:i<ns.length
  ·have hi':i<l.length:=by rw [←h.heads.1];exact hi
   rw [List.getElem_append_left hi,List.getElem_append_left hi']
   exact h'.heads.2 i hi hi'
  ·have hi1:i=ns.length:=by simp at h1;omega
   subst hi1
   have hl:ns.length=l.length:=h.heads.1
   simp only [List.getElem_append_right (yJ _),Nat.sub_self,List.getElem_cons_zero]
   rw [List.getElem_append_right (by omega)]
   simp only [hl,Nat.sub_self,List.getElem_cons_zero]
   exact ⟨trivial,trivial,hr,hc⟩
 ·rcases List.mem_append.1 hv with hv | hv
  ·exact h'.own v hv
  ·simp at hv
   subst hv
   exact ho.mono hB (yJ _)
 ·refine List.pairwise_append.2 ⟨h.apart,by simp,fun u hu v hv=>?_⟩
  simp at hv
  subst hv
  rcases h.own u hu with e | ⟨g1,M1,e1,_,h3,_⟩
  ·exact .inl e
  ·rcases ho with e | ⟨g2,M2,e2,h4,_⟩
   ·exact .inr (.inl e)
   ·refine .inr (.inr (fun e=>?_))
    simp only at e
    rw [e1,e2] at e
    cases e
    omega
theorem appl_of {w:World} {ao:Option Addr} {n:Nat} {hs:List AV} {l:List Appl} (h:AVRow w ao n hs) (hh:Heads w hs l):ApplRow w ao n l:=by
 refine ⟨h.1.trans hh.1,?_⟩
 rcases h.2 with e | ⟨b,off,e,hc⟩
 ·exact .inl e
 ·refine .inr ⟨b,off,e,fun i hi=>?_⟩
  have hi':i<hs.length:=by rw [hh.1];exact hi
  obtain ⟨a1,a2,a3,a4⟩:=hh.2 i hi' hi
  obtain ⟨c1,c2,c3⟩:=hc i hi'
  rw [a1] at c1
  rw [a2] at c2
  exact ⟨hs[i].ao,hs[i].len,hs[i].cap,c1,c2,c3,a3,a4⟩
theorem sans_of {B:Nat} {w:World} {x:Sls} {s:St} {hs:List AV} (q:QHas B w x.qa x.ql s.qs) (a:PHas B w x.aa x.al hs) (k:KHas B w hs s.apps) (m:MHas B w x.ma x.ml s.ms) (c:CHas B w x.ca x.cl s.cs) (cap:SCap x) (rm:RmS B w.heap.size w x hs):SAns B w.heap.size w x s hs:=
 ⟨⟨q.1,appl_of a.1 k.heads,m.1,c.1⟩,q.2,a.2,m.2,c.2,a.1,k.heads,k.own,k.apart,cap,rm⟩
theorem ids_step {l:List Con} {k:Nat} (h:k<l.length):((l.take (k+1)).map (·.id))=(l.take k).map (·.id)++[l[k].id]:=by
 rw [List.take_succ_eq_append_getElem h,List.map_append]
 rfl
theorem iown_nil (B:Nat) (w:World):IOwn B w (.slice none 0 0) []:=⟨rfl,.inl ⟨rfl,rfl⟩⟩
theorem iown_base {B B':Nat} {w:World} {v:Value} {l:List Int} (h:IOwn B w v l) (hb:B'≤B):IOwn B' w v l:=⟨h.1,h.2.imp id (fun ⟨g,cap,cur,h1,h2,h3⟩=>⟨g,cap,cur,h1,Nat.le_trans hb h2,h3⟩)⟩
theorem iown_step {w wr w1:World} {B:Nat} {v v':Value} {l:List Int} {q:Int} {ob:Obj} (hb:Below B w wr) (hown:IOwn B wr v l)
  (h1:w1.ownsRow B 3 1 v' (l.length+1) (icells l++[.int .i64 q])) (hg:(wr.alloc ob).grownBy w1 v.ownBlock) (hB:B≤wr.heap.size) :
  IOwn B w1 v' (l++[q])∧Below B w w1:=by
 refine ⟨?_,(hb.alloc hB ob).grown hg (by simp;omega) ?_⟩
 ·unfold IOwn
  rw [List.length_append,icells,List.map_append]
  exact h1
 ·intro k hk
  rcases hown.2 with ⟨rfl,_⟩ | ⟨g,cap,cur,rfl,hg',_⟩
  ·simp [Value.ownBlock] at hk
  ·simp [Value.ownBlock] at hk;omega
theorem idsOf_any (ao:Option Addr) (len cap:Nat) (l:List Con) (w:World) (h:ConRow w ao len l) (hl:len≤1048576) :
  Calls Tryz.prog 38 #[.slice ao len cap] w fun e w'=>∃v,e=.returned v∧Hid (IOwn w.heap.size w' v (l.map (·.id))∧Below w.heap.size w w'):=by
 obtain ⟨i0,hi,hz0,hz1,hz2⟩:=info_parts Tryz.infoI
 have HR:=hide h
 have HL:=hide h.1
 clear h
 go_enter Tryz.func38,Tryz.ntmps38
 go_wp2
 go_loopw [3,8] (fun v i wr=>∃(k:Nat),k≤len∧i=.int .i64 k∧Hid (IOwn w.heap.size wr v ((l.take k).map (·.id)))∧Hid (Below w.heap.size w wr)) (fun _ i _=>len - (intOf i).toNat)
 case atStart=>exact ⟨0,Nat.zero_le _,rfl,hide (by simpa using iown_nil _ _),hide (yH _ _)⟩
 case round=>
  obtain ⟨k,hk,rfl,HO,HB⟩:=hrel
  by_cases hlt:k<len
  ·obtain ⟨b,off,rfl,hq⟩:=((uH HR).below (uH HB)).at hlt
   have hkl:k<l.length:=by have:=uH HL;omega
   have hst:=ids_step hkl
   obtain ⟨c0,c1,c2,c3,c4⟩:=hq hkl
   obtain ⟨m,hs⟩:∃q,l[k]=q:=⟨_,rfl⟩
   rw [hs] at c0 c1 c2 c3 c4 hst
   have hal:((l.take k).map (·.id)).length≤1048576:=by have:=uH HL;simp;omega
   obtain ⟨acc,hacc⟩:∃a,(l.take k).map (·.id)=a:=⟨_,rfl⟩
   rw [hacc] at hst hal HO
   obtain ⟨id,ap,nd,me,cp⟩:=m
   simp only at c0 c1 c2 c3 c4 hst
   have HST:=hide hst
   have hx:=yA (yH _ wr) (.cells #[.int .i64 id,.int .i64 ap,.string (bs nd),.int .i64 me,.int .i64 cp] 58)
   have HB1:=hide (yB (uH HB) hx)
   have HO1:=hide (iown_below (uH HO) hx)
   have q0:=(yD wr #[.int .i64 id,.int .i64 ap,.string (bs nd),.int .i64 me,.int .i64 cp] 58).at 0
   simp at q0
   have hw1:w.heap.size≤(wr.alloc (.cells #[.int .i64 id,.int .i64 ap,.string (bs nd),.int .i64 me,.int .i64 cp] 58)).heap.size:=(uH HB1).size
   have hown:(wr.alloc (.cells #[.int .i64 id,.int .i64 ap,.string (bs nd),.int .i64 me,.int .i64 cp] 58)).ownsRow w.heap.size 3 1 _ acc.length (icells acc):=uH HO1
   clear hq hs hkl hacc hst HO HB hx
   go_wp2_with (at_builtin;refine wpList_append_own _ rfl _ _ 29 rfl w.heap.size 3 i0 (.int .i64 0) 1 8 Tryz.underlying29 hi hz0 hz1 hz2 rfl (by decide) _ _ _ rfl (hown.alloc _) ⟨wr.heap.size+1,0,none⟩ 1 1 [.int .i64 id] (by first | rfl | simp) rfl ?c1 ?c2 ?c3 ?c4 ?c5 ?_)
   case c1=>
    have:=World.news_of_block (yD (wr.alloc (.cells #[.int .i64 id,.int .i64 ap,.string (bs nd),.int .i64 me,.int .i64 cp] 58)) #[.int .i64 id] 3)
    rw [yE] at this
    exact this
   case c2=>intro u hu;simp at hu;subst hu;rfl
   case c3=>unfold maxLen;omega
   case c4=>omega
   case c5=>have:=hw1;simp only [yE] at this ⊢;omega
   intro v' w3 hown' hgrow _
   have R:=hide (iown_step (q:=id) (uH HB1) (uH HO1) hown' hgrow hw1)
   clear hown' hgrow hown q0 c0 c1 c2 c3 c4
   go_wp2
   go_roundw
   case rel=>exact ⟨k+1,by omega,by go_num,hide (by rw [uH HST];exact (uH R).1),hide (uH R).2⟩
   case measure=>simp [intOf];omega
  ·have htk:l.take k=l:=List.take_of_length_le (by have:=uH HL;omega)
   rw [htk] at HO
   go_wp2
   go_ret
   exact ⟨_,rfl,hide ⟨uH HO,uH HB⟩⟩
theorem run_copy_many {P:Program} (w:World) (dT sT ty elem:TypeId) (g o dLen dCap:Nat) (a:Addr) (sLen sCap:Nat) (cur:Array Value) (t:TypeId) (cs:List Value) (sz:Nat)
  (hu:P.underlying dT=some (.slice elem)) (hs:(P.info? elem).map (·.size)=some sz)
  (hg:w.heap[g]? = some (.cells cur t (0,0))) (hn:cs.length=Nat.min sLen dLen*sz)
  (hsrc:∀j v,cs[j]? = some v→w.cell? (a.add j)=some v) (hfit:o+cs.length≤cur.size) (h1:∀v ∈ cs,v.oneCell'=true) :
  (Builtin.copy_ #[dT,sT] ty #[.slice (some ⟨g,o,none⟩) dLen dCap,.slice (some a) sLen sCap]).run P w =
   .ok (goInt (Nat.min sLen dLen)) (w.setRow g (cur.toList.take o++cs++cur.toList.drop (o+cs.length)).toArray):=by
 have hl:=run_loadCells_list (P:=P) w a cs hsrc
 have hst:=run_storeCells_at P g o t cs 0 cur w hg (by simpa using hfit) h1
 obtain ⟨m,hm⟩:∃m,Nat.min sLen dLen=m:=⟨_,rfl⟩
 rw [hm] at hn ⊢
 cases hq:P.info? elem with
 | none=>simp [hq] at hs
 | some i=>
  have hi:i.size=sz:=by simpa [hq] using hs
  rw [hn] at hl
  simp [Builtin.copy_,run_underlying hu,Builtin.lenOf,Builtin.firstCells,sizeOf,typeInfo,hq,hi,hm,hl,hst]
theorem run_copy_zero {P:Program} (w:World) (dT sT ty elem:TypeId) (d a:Option Addr) (dLen dCap sLen sCap sz:Nat) (hu:P.underlying dT=some (.slice elem)) (hs:(P.info? elem).map (·.size)=some sz) (hn:Nat.min sLen dLen=0) :
  (Builtin.copy_ #[dT,sT] ty #[.slice d dLen dCap,.slice a sLen sCap]).run P w=.ok (goInt 0) w:=by
 cases hq:P.info? elem with
 | none=>simp [hq] at hs
 | some i=>
  have hl:∀(x:Addr),(loadCells x 0).run P w=.ok #[] w:=fun x=>by simpa using run_loadCells_list (P:=P) w x [] (by simp)
  cases d<;>cases a<;>simp [Builtin.copy_,run_underlying hu,Builtin.lenOf,Builtin.firstCells,sizeOf,typeInfo,hq,hn,storeCells,hl]
theorem mks_setRow (w:World) (g:Nat) (cur:List Value) (new:List Value) (t:TypeId) (hg:w.heap[g]? = some (.cells cur.toArray t (0,0))) (hl:new.length=cur.length):Mks (fun k=>k=g) w (w.setRow g new.toArray):=by
 refine ⟨rfl,rfl,rfl,by simp [World.setRow],fun k _ hk=>setRow_other w g k _ (by omega),fun t' g' N h=>?_⟩
 by_cases e:g'=g
 ·subst e
  obtain ⟨arr,h1,h2⟩:=h
  rw [hg] at h1
  cases h1
  exact ⟨_,setRow_heap w g' _ _ t _ hg,by simpa [hl] using h2⟩
 ·exact h.of_block (setRow_other w g g' _ e)
theorem wp_copy_many {P:Program} {w:World} {o:Oper} {a:Act} {K:Act→World→Prop} {Q:Exit→Act→World→Prop} (d s:Operand) (dT sT:TypeId)
  (ho:o.op=.call { callee:=.builtin .copy,args:=#[d,s],argTypes:=#[dT,sT] }) (elem:TypeId) (sz:Nat) (hu:P.underlying dT=some (.slice elem)) (hsz:(P.info? elem).map (·.size)=some sz)
  (dp sp:Option Addr) (dLen dCap sLen sCap:Nat) (hd:a.eval d=.slice dp dLen dCap) (hs:a.eval s=.slice sp sLen sCap)
  (g off:Nat) (cur:List Value) (t:TypeId) (hg:w.heap[g]? = some (.cells cur.toArray t (0,0))) (cs:List Value) (m:Nat) (hm:m=Nat.min sLen dLen) (hn:cs.length=m*sz)
  (hpos:m≠0→dp=some ⟨g,off,none⟩∧∃ad,sp=some ad∧∀j v,cs[j]? = some v→w.cell? (ad.add j)=some v)
  (hfit:off+cs.length≤cur.length) (h1:∀v ∈ cs,v.oneCell'=true)
  (h:∀w',Hid (w'.heap[g]? = some (.cells (splice cur off cs).toArray t (0,0)))→Hid (Mks (fun k=>k=g) w w')→w'.heap.size=w.heap.size→K (a.put o.dst (goInt m)) w') :
  Oper.wp P o a w K Q:=by
 by_cases h0:m=0
 ·subst h0
  obtain rfl:cs=[]:=List.eq_nil_of_length_eq_zero (by simpa using hn)
  have hrun:=run_copy_zero (P:=P) w dT sT o.type elem dp sp dLen dCap sLen sCap sz hu hsz hm.symm
  unfold Oper.wp
  simp [execOp,ho,resolve,invoke,builtin,hd,hs,hrun,Result.andThen]
  exact h w (show _=_ by simpa [splice] using hg) (Mks.refl _ _) rfl
 ·obtain ⟨rfl,ad,rfl,hsrc⟩:=hpos h0
  have hrun:=run_copy_many (P:=P) w dT sT o.type elem g off dLen dCap ad sLen sCap cur.toArray t cs sz hu hsz hg (by rw [hn,hm]) hsrc (by simpa using hfit) h1
  unfold Oper.wp
  rw [←hm] at hrun
  simp [execOp,ho,resolve,invoke,builtin,hd,hs,hrun,Result.andThen]
  have e:(List.take off cur++(cs++List.drop (off+cs.length) cur))=splice cur off cs:=rfl
  have hh:=h (w.setRow g (splice cur off cs).toArray) (show _=_ from setRow_heap w g _ _ t _ hg) (mks_setRow w g cur _ t hg (length_splice cur off cs hfit)) (by simp [World.setRow])
  rw [←e] at hh
  exact hh
theorem wpList_copy_many {P:Program} {w:World} {ops:Array Oper} {rest:List Oper} {o:Oper} {a:Act} {Q:Exit→Act→World→Prop} (hgd:o.guard=none) (d s:Operand) (dT sT:TypeId)
  (ho:o.op=.call { callee:=.builtin .copy,args:=#[d,s],argTypes:=#[dT,sT] }) (elem:TypeId) (sz:Nat) (hu:P.underlying dT=some (.slice elem)) (hsz:(P.info? elem).map (·.size)=some sz)
  (dp sp:Option Addr) (dLen dCap sLen sCap:Nat) (hd:a.eval d=.slice dp dLen dCap) (hs:a.eval s=.slice sp sLen sCap)
  (g off:Nat) (cur:List Value) (t:TypeId) (hg:w.heap[g]? = some (.cells cur.toArray t (0,0))) (cs:List Value) (m:Nat) (hm:m=Nat.min sLen dLen) (hn:cs.length=m*sz)
  (hpos:m≠0→dp=some ⟨g,off,none⟩∧∃ad,sp=some ad∧∀j v,cs[j]? = some v→w.cell? (ad.add j)=some v)
  (hfit:off+cs.length≤cur.length) (h1:∀v ∈ cs,v.oneCell'=true)
  (h:∀w',Hid (w'.heap[g]? = some (.cells (splice cur off cs).toArray t (0,0)))→Hid (Mks (fun k=>k=g) w w')→w'.heap.size=w.heap.size→wpList P ops Q rest (a.put o.dst (goInt m)) w') :
  wpList P ops Q (o::rest) a w:=
 wpList_plain hgd fun _ hK=>wp_copy_many d s dT sT ho elem sz hu hsz dp sp dLen dCap sLen sCap hd hs g off cur t hg cs m hm hn hpos hfit h1 fun w' a1 a2 a3=>hK _ _ (h w' a1 a2 a3)
theorem step_copy_many {P:Program} {w:World} {ops:Array Oper} {o:Oper} {a:Act} {K:Act→World→Prop} {Q:Exit→Act→World→Prop} {E:Prop} (hgd:o.guard=none) (d s:Operand) (dT sT:TypeId)
  (ho:o.op=.call { callee:=.builtin .copy,args:=#[d,s],argTypes:=#[dT,sT] }) (elem:TypeId) (sz:Nat) (hu:P.underlying dT=some (.slice elem)) (hsz:(P.info? elem).map (·.size)=some sz)
  (dp sp:Option Addr) (dLen dCap sLen sCap:Nat) (hd:a.eval d=.slice dp dLen dCap) (hs:a.eval s=.slice sp sLen sCap)
  (g off:Nat) (cur:List Value) (t:TypeId) (hg:w.heap[g]? = some (.cells cur.toArray t (0,0))) (cs:List Value) (m:Nat) (hm:m=Nat.min sLen dLen) (hn:cs.length=m*sz)
  (hpos:m≠0→dp=some ⟨g,off,none⟩∧∃ad,sp=some ad∧∀j v,cs[j]? = some v→w.cell? (ad.add j)=some v)
  (hfit:off+cs.length≤cur.length) (h1:∀v ∈ cs,v.oneCell'=true)
  (h:∀w',Hid (w'.heap[g]? = some (.cells (splice cur off cs).toArray t (0,0)))→Hid (Mks (fun k=>k=g) w w')→w'.heap.size=w.heap.size→K (a.put o.dst (goInt m)) w') :
  if Region.wanted o (yielded ops a.tmps)=true then Oper.wp P o a w K Q else E:=by
 have hw:Region.wanted o (yielded ops a.tmps)=true:=by simp [Region.wanted,hgd]
 rw [if_pos hw]
 exact wp_copy_many d s dT sT ho elem sz hu hsz dp sp dLen dCap sLen sCap hd hs g off cur t hg cs m hm hn hpos hfit h1 h
def Lay (w:World) (t:TypeId) (g M:Nat) (cs:List Value):Prop:=∃R:List Value,w.heap[g]? = some (.cells (cs++R).toArray t (0,0))∧(cs++R).length=M
theorem Lay.lt {w:World} {t:TypeId} {g M:Nat} {cs:List Value} (h:Lay w t g M cs):g<w.heap.size:=let ⟨_,h,_⟩:=h;lt_of_block h
theorem Lay.of_block {w w':World} {t:TypeId} {g M:Nat} {cs:List Value} (h:Lay w t g M cs) (e:w'.heap[g]? = w.heap[g]?):Lay w' t g M cs:=let ⟨R,h1,h2⟩:=h;⟨R,e.trans h1,h2⟩
theorem Lay.below {w w':World} {t:TypeId} {g M:Nat} {cs:List Value} (h:Lay w t g M cs) (hb:Below w.heap.size w w'):Lay w' t g M cs:=h.of_block (hb.block g h.lt)
theorem Lay.other {w:World} {t:TypeId} {g M:Nat} {cs:List Value} (h:Lay w t g M cs) (k j:Nat) (v:Value) (hk:g≠k):Lay (w.setCell ⟨k,j,none⟩ v) t g M cs:=h.of_block (heap_setCell_other w ⟨k,j,none⟩ g v hk)
theorem Lay.cel {w:World} {t:TypeId} {g M:Nat} {cs:List Value} (h:Lay w t g M cs):Cel w t g M:=let ⟨R,h1,h2⟩:=h;⟨_,h1,by simpa using h2⟩
theorem Lay.cell {w:World} {t:TypeId} {g M:Nat} {cs:List Value} (h:Lay w t g M cs) {j:Nat} {u:Value} (hj:cs[j]? = some u):w.cell? ⟨g,j,none⟩=some u:=by
 obtain ⟨R,h1,h2⟩:=h
 have hl:j<cs.length:=(List.getElem?_eq_some_iff.1 hj).1
 simp [World.cell?,h1,List.getElem?_append_left hl,hj]
theorem CHas.blk {B n k:Nat} {w:World} {ao:Option Addr} {l:List Con} (h:CHas B w ao n l) (hk:k<n):∃g,ao=some ⟨g,0,none⟩∧B≤g∧g<w.heap.size∧(∀j,w.frozen? ⟨g,j,none⟩=false)∧∀i (hi:i<l.length),ConAt w g (i*5) l[i]:=by
 obtain ⟨⟨h1,h2⟩,h3⟩:=h
 rcases h3 with e | ⟨g,M,rfl,hB,hE,hc,hn⟩
 ·omega
 ·rcases h2 with e | ⟨b,off,e,hh⟩
  ·omega
  ·cases e
   exact ⟨g,rfl,hB,hE,fun j=>hc.frozen j,fun i hi=>by have:=hh i hi;rwa [Nat.zero_add] at this⟩
def RmL (B:Nat) (w:World) (l:List (TypeId×Nat×Option Addr×Nat)):Prop:=∀p ∈ l,Own1 B w.heap.size w p.1 p.2.1 p.2.2.1 p.2.2.2
theorem RmL.nil (B:Nat) (w:World):RmL B w []:=fun p hp=>absurd hp (by simp)
theorem RmL.cons {B:Nat} {w:World} {l:List (TypeId×Nat×Option Addr×Nat)} {t:TypeId} {sz c:Nat} {ao:Option Addr} (h:Own1 B w.heap.size w t sz ao c) (hl:RmL B w l):RmL B w ((t,sz,ao,c)::l):=fun p hp=>by
 rcases List.mem_cons.1 hp with rfl | hp
 ·exact h
 ·exact hl p hp
theorem RmL.sub {B:Nat} {w:World} {l l':List (TypeId×Nat×Option Addr×Nat)} (h:RmL B w l) (hs:∀p ∈ l',p ∈ l):RmL B w l':=fun p hp=>h p (hs p hp)
theorem RmL.below {B:Nat} {w w':World} {l:List (TypeId×Nat×Option Addr×Nat)} (h:RmL B w l) (hb:Below w.heap.size w w'):RmL B w' l:=fun p hp=>((h p hp).below hb).mono (yJ _) hb.size
theorem own1_sc {B:Nat} {w:World} {t:TypeId} {sz n:Nat} {ao:Option Addr} (h:Own1 B w.heap.size w t sz ao n) (k j:Nat) (v:Value):Own1 B (w.setCell ⟨k,j,none⟩ v).heap.size (w.setCell ⟨k,j,none⟩ v) t sz ao n:=(h.sc k j v).mono (yJ _) (by rw [set_size];exact yJ _)
theorem RmL.sc {B:Nat} {w:World} {l:List (TypeId×Nat×Option Addr×Nat)} (h:RmL B w l) (k j:Nat) (v:Value):RmL B (w.setCell ⟨k,j,none⟩ v) l:=fun p hp=>own1_sc (h p hp) k j v
theorem RmL.grown {B:Nat} {w w':World} {l:List (TypeId×Nat×Option Addr×Nat)} {t':TypeId} {r:Option Nat} (h:RmL B w l) (hg:w.grownBy w' r) (hr:∀k,r=some k→∃N,Cel w t' k N) (ht:∀p ∈ l,t'≠p.1):RmL B w' l:=fun p hp=>by
 rcases h p hp with e | ⟨g,M,e,h1,h2,h3,h4⟩
 ·exact .inl e
 ·refine .inr ⟨g,M,e,h1,Nat.lt_of_lt_of_le h2 hg.size,h3.of_block (hg.block g h2 (fun e2=>?_)),h4⟩
  obtain ⟨N,hc⟩:=hr g e2.symm
  exact ht p hp (hc.type h3)
def RL4 (co:Option Addr) (cd:Nat) (mo:Option Addr) (md:Nat) (qo:Option Addr) (qd:Nat) (ns:List AV):List (TypeId×Nat×Option Addr×Nat):=(58,5,co,cd)::(113,4,mo,md)::(99,4,qo,qd)::ns.map (fun v=>(140,5,v.ao,v.cap))
theorem rl4_snoc (co:Option Addr) (cd:Nat) (mo:Option Addr) (md:Nat) (qo:Option Addr) (qd:Nat) (ns:List AV) (v:AV):∀p ∈ RL4 co cd mo md qo qd (ns++[v]),p ∈ (140,5,v.ao,v.cap)::RL4 co cd mo md qo qd ns:=fun p hp=>by
 simp only [RL4,List.map_append,List.map_cons,List.map_nil,List.mem_cons,List.mem_append,List.not_mem_nil,or_false] at hp ⊢
 rcases hp with h | h | h | h | h<;>simp [h]
theorem rl4_app (co:Option Addr) (cd:Nat) (mo:Option Addr) (md:Nat) (qo:Option Addr) (qd:Nat) (ns:List AV):∀p ∈ RL4 co cd mo md qo qd ns,106≠p.1:=fun p hp=>by
 simp only [RL4,List.mem_cons,List.mem_map] at hp
 rcases hp with rfl | rfl | rfl | ⟨v,_,rfl⟩<;>(simp only;decide)
theorem rms_of {B:Nat} {w:World} {x:Sls} {hs:List AV} (h:RmL B w (RL4 x.ca x.cc x.ma x.mc x.qa x.qc hs)) (ha:Own1 B w.heap.size w 106 3 x.aa x.ac):RmS B w.heap.size w x hs:=
 ⟨h (99,4,x.qa,x.qc) (by simp [RL4]),ha,h (113,4,x.ma,x.mc) (by simp [RL4]),h (58,5,x.ca,x.cc) (by simp [RL4]),fun v hv=>h (140,5,v.ao,v.cap) (by simp only [RL4,List.mem_cons,List.mem_map];exact .inr (.inr (.inr ⟨v,hv,rfl⟩)))⟩
theorem PHas.blk {B n k:Nat} {w:World} {ao:Option Addr} {l:List AV} (h:PHas B w ao n l) (hk:k<n):∃g M,ao=some ⟨g,0,none⟩∧B≤g∧g<w.heap.size∧AVBlk w g M l:=by
 obtain ⟨⟨h1,h2⟩,h3⟩:=h
 rcases h3 with e | ⟨g,M,rfl,hB,hE,hc,hn⟩
 ·omega
 ·rcases h2 with e | ⟨b,off,e,hh⟩
  ·omega
  ·cases e
   exact ⟨g,M,rfl,hB,hE,hc,by omega,fun i hi=>by have:=hh i hi;rwa [Nat.zero_add] at this⟩
theorem AVBlk.asks {w:World} {g M i:Nat} {l:List AV} (h:AVBlk w g M l) (hi:i<l.length) (ao:Option Addr) (len cap:Nat):AVBlk (w.setCell ⟨g,i*3+2,none⟩ (.slice ao len cap)) g M (l.set i ⟨l[i].id,l[i].queue,ao,len,cap⟩):=by
 refine ⟨h.1.set _ _ _,by simpa using h.2.1,fun j hj=>?_⟩
 have hj':j<l.length:=by simpa using hj
 obtain ⟨a,b,c⟩:=h.2.2 j hj'
 by_cases e:i=j
 ·subst e
  simp only [List.getElem_set_self]
  exact ⟨cellKeep a (by omega),cellKeep b (by omega),World.cell?_setCell_same _ ⟨g,i*3+2,none⟩ _ c⟩
 ·rw [List.getElem_set_ne e]
  exact ⟨cellKeep a (by omega),cellKeep b (by omega),cellKeep c (by omega)⟩
theorem AVBlk.has {B w g M n l} (h:AVBlk w g M l) (hB:B≤g) (hn:n=l.length):PHas B w (some ⟨g,0,none⟩) n l:=by
 subst hn
 exact ⟨h.row,.inr ⟨g,M,rfl,hB,h.1.lt,h.1,h.2.1⟩⟩
structure CpSt (w:World) (arr:Array Value) (qo:Option Addr) (qs:List Q) (po:Option Addr) (n2:Nat) (ns:List AV) (apps:List Appl) (wr:World):Prop where
 r0:Blk wr w.heap.size arr 36
 r1:Blk wr (w.heap.size+1) #[.slice none 0 0,.int .i64 0,.int .i64 0,.int .i64 0,.int .i64 0,.slice none 0 0,.slice none 0 0,.slice none 0 0] 36
 q:QHas (w.heap.size+2) wr qo qs.length qs
 p:PHas (w.heap.size+2) wr po n2 ns
 k:KHas (w.heap.size+2) wr ns apps
 b:Below w.heap.size w wr
 z:w.heap.size+2≤wr.heap.size
theorem CpSt.below {w:World} {arr:Array Value} {qo:Option Addr} {qs:List Q} {po:Option Addr} {n2:Nat} {ns:List AV} {apps:List Appl} {wr wy:World} (h:CpSt w arr qo qs po n2 ns apps wr) (hb:Below wr.heap.size wr wy):CpSt w arr qo qs po n2 ns apps wy:=
 ⟨h.r0.below hb,h.r1.below hb,h.q.below hb,h.p.below hb,h.k.below hb,yB h.b hb,Nat.le_trans h.z hb.size⟩
theorem CpSt.sc {w:World} {arr:Array Value} {qo:Option Addr} {qs:List Q} {po:Option Addr} {n2:Nat} {ns:List AV} {apps:List Appl} {wr:World} (h:CpSt w arr qo qs po n2 ns apps wr) (j:Nat) (v:Value):CpSt w (arr.setIfInBounds j v) qo qs po n2 ns apps (wr.setCell ⟨w.heap.size,j,none⟩ v):=
 ⟨h.r0.set j v,h.r1.other _ _ _ (by omega),h.q.sc (by omega),h.p.sc (by omega),h.k.sc (.inl (by omega)),yC h.b _ _ _ (yJ _),by rw [set_size];exact h.z⟩
theorem MHas.blk {B n k:Nat} {w:World} {ao:Option Addr} {l:List Mac} (h:MHas B w ao n l) (hk:k<n):∃g,ao=some ⟨g,0,none⟩∧B≤g∧g<w.heap.size∧(∀j,w.frozen? ⟨g,j,none⟩=false)∧∀i (hi:i<l.length),MacAt w g (i*4) l[i]:=by
 obtain ⟨⟨h1,h2⟩,h3⟩:=h
 rcases h3 with e | ⟨g,M,rfl,hB,hE,hc,hn⟩
 ·omega
 ·rcases h2 with e | ⟨b,off,e,hh⟩
  ·omega
  ·cases e
   exact ⟨g,rfl,hB,hE,fun j=>hc.frozen j,fun i hi=>by have:=hh i hi;rwa [Nat.zero_add] at this⟩
theorem cellEq {w w':World} {b p:Nat} {u:Value} (h:w.cell? ⟨b,p,none⟩=some u) (hb:w'.heap[b]? = w.heap[b]?):w'.cell? ⟨b,p,none⟩=some u:=(World.cell?_of_block (w:=w) (a:=⟨b,p,none⟩) hb).trans h
theorem QRow.kept {w w':World} {ao:Option Addr} {len:Nat} {l:List Q} (h:QRow w ao len l) (hs:∀k,inR ao len k→w'.heap[k]? = w.heap[k]?):QRow w' ao len l:=by
 obtain ⟨h1,h2⟩:=h
 refine ⟨h1,?_⟩
 rcases h2 with h2 | ⟨b,off,h3,h4⟩
 ·exact .inl h2
 ·by_cases hz:len=0
  ·exact .inl hz
  ·have hb:=hs b ⟨hz,off,h3⟩
   exact .inr ⟨b,off,h3,fun i h=>let ⟨a,c,d,e⟩:=h4 i h;⟨cellEq a hb,cellEq c hb,cellEq d hb,cellEq e hb⟩⟩
theorem MacRow.kept {w w':World} {ao:Option Addr} {len:Nat} {l:List Mac} (h:MacRow w ao len l) (hs:∀k,inR ao len k→w'.heap[k]? = w.heap[k]?):MacRow w' ao len l:=by
 obtain ⟨h1,h2⟩:=h
 refine ⟨h1,?_⟩
 rcases h2 with h2 | ⟨b,off,h3,h4⟩
 ·exact .inl h2
 ·by_cases hz:len=0
  ·exact .inl hz
  ·have hb:=hs b ⟨hz,off,h3⟩
   exact .inr ⟨b,off,h3,fun i h=>let ⟨a,c,d,e⟩:=h4 i h;⟨cellEq a hb,cellEq c hb,cellEq d hb,cellEq e hb⟩⟩
theorem ConRow.kept {w w':World} {ao:Option Addr} {len:Nat} {l:List Con} (h:ConRow w ao len l) (hs:∀k,inR ao len k→w'.heap[k]? = w.heap[k]?):ConRow w' ao len l:=by
 obtain ⟨h1,h2⟩:=h
 refine ⟨h1,?_⟩
 rcases h2 with h2 | ⟨b,off,h3,h4⟩
 ·exact .inl h2
 ·by_cases hz:len=0
  ·exact .inl hz
  ·have hb:=hs b ⟨hz,off,h3⟩
   exact .inr ⟨b,off,h3,fun i h=>let ⟨a,c,d,e,f⟩:=h4 i h;⟨cellEq a hb,cellEq c hb,cellEq d hb,cellEq e hb,cellEq f hb⟩⟩
theorem AskRow.kept {w w':World} {ao:Option Addr} {len:Nat} {l:List Ask} (h:AskRow w ao len l) (hs:∀k,inR ao len k→w'.heap[k]? = w.heap[k]?):AskRow w' ao len l:=by
 obtain ⟨h1,h2⟩:=h
 refine ⟨h1,?_⟩
 rcases h2 with h2 | ⟨b,off,h3,h4⟩
 ·exact .inl h2
 ·by_cases hz:len=0
  ·exact .inl hz
  ·have hb:=hs b ⟨hz,off,h3⟩
   exact .inr ⟨b,off,h3,fun i h=>let ⟨a,c,d,e,f⟩:=h4 i h;⟨cellEq a hb,cellEq c hb,cellEq d hb,cellEq e hb,cellEq f hb⟩⟩
theorem AVRow.kept {w w':World} {ao:Option Addr} {len:Nat} {l:List AV} (h:AVRow w ao len l) (hs:∀k,inR ao len k→w'.heap[k]? = w.heap[k]?):AVRow w' ao len l:=by
 obtain ⟨h1,h2⟩:=h
 refine ⟨h1,?_⟩
 rcases h2 with h2 | ⟨b,off,h3,h4⟩
 ·exact .inl h2
 ·by_cases hz:len=0
  ·exact .inl hz
  ·have hb:=hs b ⟨hz,off,h3⟩
   exact .inr ⟨b,off,h3,fun i h=>let ⟨a,c,d⟩:=h4 i h;⟨cellEq a hb,cellEq c hb,cellEq d hb⟩⟩
theorem own_grown {B:Nat} {w w':World} {t t':TypeId} {sz n:Nat} {ao:Option Addr} {r:Option Nat} (h:Own1 B w.heap.size w t sz ao n) (hg:w.grownBy w' r) (hr:∀k,r=some k→∃N,Cel w t' k N) (ht:t'≠t):(∀k,inR ao n k→w'.heap[k]? = w.heap[k]?)∧Own1 B w'.heap.size w' t sz ao n:=by
 have key:∀k,inR ao n k→w'.heap[k]? = w.heap[k]?:=fun k hk=>by
  obtain ⟨_,h2,N,h3⟩:=h.lies k hk
  refine hg.block k h2 (fun e=>?_)
  obtain ⟨N',h4⟩:=hr k e.symm
  exact ht (h4.type h3)
 refine ⟨key,?_⟩
 rcases h with e | ⟨g,M,e,h1,h2,h3,h4⟩
 ·exact .inl e
 ·by_cases hz:n=0
  ·exact .inl hz
  ·exact .inr ⟨g,M,e,h1,Nat.lt_of_lt_of_le h2 hg.size,h3.of_block (key g ⟨hz,0,e⟩),h4⟩
theorem QHas.grown {B n:Nat} {w w':World} {t':TypeId} {ao:Option Addr} {l:List Q} {r:Option Nat} (h:QHas B w ao n l) (hg:w.grownBy w' r) (hr:∀k,r=some k→∃N,Cel w t' k N) (ht:t'≠99):QHas B w' ao n l:=⟨h.1.kept (own_grown h.2 hg hr ht).1,(own_grown h.2 hg hr ht).2⟩
theorem MHas.grown {B n:Nat} {w w':World} {t':TypeId} {ao:Option Addr} {l:List Mac} {r:Option Nat} (h:MHas B w ao n l) (hg:w.grownBy w' r) (hr:∀k,r=some k→∃N,Cel w t' k N) (ht:t'≠113):MHas B w' ao n l:=⟨h.1.kept (own_grown h.2 hg hr ht).1,(own_grown h.2 hg hr ht).2⟩
theorem CHas.grown {B n:Nat} {w w':World} {t':TypeId} {ao:Option Addr} {l:List Con} {r:Option Nat} (h:CHas B w ao n l) (hg:w.grownBy w' r) (hr:∀k,r=some k→∃N,Cel w t' k N) (ht:t'≠58):CHas B w' ao n l:=⟨h.1.kept (own_grown h.2 hg hr ht).1,(own_grown h.2 hg hr ht).2⟩
theorem PHas.grown {B n:Nat} {w w':World} {t':TypeId} {ao:Option Addr} {l:List AV} {r:Option Nat} (h:PHas B w ao n l) (hg:w.grownBy w' r) (hr:∀k,r=some k→∃N,Cel w t' k N) (ht:t'≠106):PHas B w' ao n l:=⟨h.1.kept (own_grown h.2 hg hr ht).1,(own_grown h.2 hg hr ht).2⟩
theorem KHas.grown {B:Nat} {w w':World} {t':TypeId} {hs:List AV} {l:List Appl} {r:Option Nat} (h:KHas B w hs l) (hg:w.grownBy w' r) (hr:∀k,r=some k→∃N,Cel w t' k N) (ht:t'≠140):KHas B w' hs l:=
 ⟨⟨h.heads.1,fun i h1 h2=>let ⟨a,b,c,d⟩:=h.heads.2 i h1 h2;⟨a,b,c.kept (own_grown (h.own _ (yM h1)) hg hr ht).1,d⟩⟩,fun v hv=>(own_grown (h.own v hv) hg hr ht).2,h.apart⟩
theorem owns_cel {w:World} {B sz n:Nat} {e:TypeId} {v:Value} {xs:List Value} (h:w.ownsRow B e sz v n xs):∀k,v.ownBlock=some k→∃N,Cel w e k N:=fun k hk=>by
 rcases h.2 with ⟨rfl,_⟩ | ⟨g,cap,cur,rfl,_,h2,_⟩
 ·simp [Value.ownBlock] at hk
 ·obtain rfl:g=k:=by simpa [Value.ownBlock] using hk
  exact ⟨_,cur,h2,rfl⟩
theorem Blk.grown {w w':World} {g:Nat} {arr:Array Value} {t t':TypeId} {r:Option Nat} (h:Blk w g arr t) (hg:w.grownBy w' r) (hr:∀k,r=some k→∃N,Cel w t' k N) (ht:t'≠t):Blk w' g arr t:=
 (hg.block g h.lt (fun e=>by obtain ⟨N,h4⟩:=hr g e.symm;exact ht (h4.type ⟨arr,h,rfl⟩))).trans h
theorem grown_sc (w:World) (g j:Nat) (v:Value):w.grownBy (w.setCell ⟨g,j,none⟩ v) (some g):=⟨rfl,rfl,rfl,by simp [World.setCell],fun k _ hne=>Below.heap_setCell _ _ _ _ (by show k≠g;intro e;exact hne (by rw [e]))⟩
structure SSome (x:Sls) (hs:List AV):Prop where
 q:x.qa=none→x.ql=0∧x.qc=0
 m:x.ma=none→x.ml=0∧x.mc=0
 c:x.ca=none→x.cl=0∧x.cc=0
 k:∀v ∈ hs,v.ao=none→v.len=0∧v.cap=0
theorem none_cap {B E:Nat} {w:World} {t:TypeId} {sz c n:Nat} {ao:Option Addr} (h:Own1 B E w t sz ao c) (hn:n≤c) (e:ao=none):n=0∧c=0:=by
 rcases h with h | ⟨g,M,h1,_⟩
 ·omega
 ·rw [e] at h1;cases h1
theorem SAns.some {B E:Nat} {w:World} {x:Sls} {s:St} {hs:List AV} (h:SAns B E w x s hs):SSome x hs:=
 ⟨none_cap h.rm.1 h.cap.q,none_cap h.rm.2.2.1 h.cap.m,none_cap h.rm.2.2.2.1 h.cap.c,fun v hv=>none_cap (h.rm.2.2.2.2 v hv) (by
  obtain ⟨i,hi,rfl⟩:=List.getElem_of_mem hv
  exact (h.heads.2 i hi (by rw [←h.heads.1];exact hi)).2.2.2)⟩
theorem lay_of {w:World} {t:TypeId} {g N:Nat} {cs:List Value} (hc:Cel w t g N) (h:∀j u,cs[j]? = some u→w.cell? ⟨g,j,none⟩=some u) (hl:cs.length≤N):Lay w t g N cs:=by
 obtain ⟨arr,h1,h2⟩:=hc
 refine ⟨arr.toList.drop cs.length,?_,by simp;omega⟩
 have e:cs++arr.toList.drop cs.length=arr.toList:=by
  apply List.ext_getElem?
  intro j
  by_cases hj:j<cs.length
  ·rw [List.getElem?_append_left hj]
   have h3:=h j cs[j] (List.getElem?_eq_getElem hj)
   simp [World.cell?,h1] at h3
   rw [List.getElem?_eq_getElem hj,Array.getElem?_toList]
   exact h3.symm
  ·rw [List.getElem?_append_right (by omega),List.getElem?_drop]
   congr 1
   omega
 rw [e]
 simpa using h1
theorem mks_cells {S:Nat→Prop} {g:Nat} (hg:S g):∀(vs:List Value) (o:Nat) (a w:World),Mks S a w→Mks S a (w.setCells g o vs)
 | [],_,_,_,h=>h
 | v::r,o,a,w,h=>mks_cells hg r (o+1) a _ (h.sc g o v hg)
theorem Cel.isThere {w:World} {t:TypeId} {g N:Nat} (h:Cel w t g N) {j:Nat} (hj:j<N):(w.cell? ⟨g,j,none⟩).isSome=true:=by
 obtain ⟨arr,h1,h2⟩:=h
 have h3:j<arr.size:=by omega
 simp [World.cell?,h1,h3]
structure AppR (B:Nat) (w:World) (e:TypeId) (sz:Nat) (ao:Option Addr) (n:Nat) (all:List Value) (g cap:Nat) (w':World):Prop where
 cells:∀j u,all[j]? = some u→w'.cell? ⟨g,j,none⟩=some u
 own:Own1 B w'.heap.size w' e sz (some ⟨g,0,none⟩) cap
 cap:n≤cap
 mks:Mks (fun k=>∃N,Cel w e k N∧B≤k) w w'
 pos:ao=some ⟨g,0,none⟩∧Mks (fun k=>k=g) w w'∨w.heap.size≤g∧Below w.heap.size w w'
theorem Lay.frozen {w:World} {t:TypeId} {g M:Nat} {cs:List Value} (h:Lay w t g M cs) (j:Nat):w.frozen? ⟨g,j,none⟩=false:=h.cel.frozen j
theorem Lay.isThere {w:World} {t:TypeId} {g M:Nat} {cs:List Value} (h:Lay w t g M cs) {j:Nat} (hj:j<M):(w.cell? ⟨g,j,none⟩).isSome=true:=by
 obtain ⟨R,h1,h2⟩:=h
 have h3:j<(cs++R).length:=by omega
 simp [World.cell?,h1,List.getElem?_eq_getElem h3]
theorem Lay.drew {w:World} {t:TypeId} {g M:Nat} {cs:List Value} (h:Lay w t g M cs):Lay w.drew t g M cs:=h
theorem Lay.cells {w:World} {t:TypeId} {g M:Nat} {cs:List Value} (h:Lay w t g M cs) (o:Nat) (vs:List Value) (hf:o+vs.length≤M) (new:List Value) (hn:new.length≤M)
  (hi:∀j u,new[j]? = some u→(o≤j∧j<o+vs.length→vs[j - o]? = some u)∧(¬(o≤j∧j<o+vs.length)→w.cell? ⟨g,j,none⟩=some u)):Lay (w.setCells g o vs) t g M new:=by
 refine lay_of ?_ (fun j u hj=>?_) hn
 ·exact (mks_cells (S:=fun k=>k=g) rfl vs o w w (Mks.refl _ _)).cel _ _ _ h.cel
 ·by_cases e:o≤j∧j<o+vs.length
  ·have h1:=World.cell?_setCells_in g vs o w (fun k hk=>h.isThere (by omega)) (j - o) (by omega)
   rw [show o+(j - o)=j by omega] at h1
   rw [h1]
   have h2:=(hi j u hj).1 e
   rw [List.getElem?_eq_getElem (by omega)] at h2
   exact h2
  ·rw [World.cell?_setCells_out g vs o w ⟨g,j,none⟩ (fun _ _=>by show j<o∨o+vs.length≤j;omega)]
   exact (hi j u hj).2 e
theorem AskRow.lay {w:World} {g N n:Nat} {l:List Ask} (h:AskRow w (some ⟨g,0,none⟩) n l) (hc:Cel w 140 g N) (hn:l.length*5≤N):Lay w 140 g N (acells l):=
 lay_of hc (fun j u hj=>by have:=acells_row h j u hj;rwa [Nat.zero_add] at this) (by rw [acells_len];exact hn)
theorem ConRow.lay {w:World} {g N n:Nat} {l:List Con} (h:ConRow w (some ⟨g,0,none⟩) n l) (hc:Cel w 58 g N) (hn:l.length*5≤N):Lay w 58 g N (ccells l):=
 lay_of hc (fun j u hj=>by have:=ccells_row h j u hj;rwa [Nat.zero_add] at this) (by rw [ccells_len];exact hn)
def Room1 (B:Nat) (w:World) (t:TypeId) (sz:Nat) (ao:Option Addr) (n cap:Nat):Prop:=n≤cap∧(cap=0∨∃g M,ao=some ⟨g,0,none⟩∧B≤g∧Cel w t g (M*sz)∧cap≤M)
theorem Room1.mks {S:Nat→Prop} {B:Nat} {w w':World} {t:TypeId} {sz n cap:Nat} {ao:Option Addr} (h:Room1 B w t sz ao n cap) (hm:Mks S w w'):Room1 B w' t sz ao n cap:=by
 obtain ⟨h1,h3⟩:=h
 refine ⟨h1,?_⟩
 rcases h3 with h3 | ⟨g,M,e,hB,hc,hM⟩
 ·exact .inl h3
 ·exact .inr ⟨g,M,e,hB,hm.cel _ _ _ hc,hM⟩
theorem Room1.below {B:Nat} {w w':World} {t:TypeId} {sz n cap:Nat} {ao:Option Addr} (h:Room1 B w t sz ao n cap) (hb:Below w.heap.size w w'):Room1 B w' t sz ao n cap:=h.mks (S:=fun _=>False) (.of_below hb)
theorem Room1.own {B:Nat} {w:World} {t:TypeId} {sz n cap:Nat} {ao:Option Addr} (h:Room1 B w t sz ao n cap):Own1 B w.heap.size w t sz ao n:=by
 obtain ⟨h1,h3⟩:=h
 rcases h3 with h3 | ⟨g,M,e,hB,hc,hM⟩
 ·exact .inl (by omega)
 ·exact .inr ⟨g,M,e,hB,hc.lt,hc,by omega⟩
theorem Room1.all {B:Nat} {w:World} {t:TypeId} {sz n cap:Nat} {ao:Option Addr} (h:Room1 B w t sz ao n cap):Own1 B w.heap.size w t sz ao cap:=by
 rcases h.2 with h3 | ⟨g,M,e,hB,hc,hM⟩
 ·exact .inl h3
 ·exact .inr ⟨g,M,e,hB,hc.lt,hc,hM⟩
structure Kc (B W:Nat) (ca:Option Addr) (cc:Nat) (w w':World):Prop where
 below:Below B w w'
 con:∀g arr,g<W→Blk w g arr 58→(cc≠0→∀o,ca≠some ⟨g,o,none⟩)→Blk w' g arr 58
theorem Kc.trans {B W cc:Nat} {ca:Option Addr} {a b c:World} (h:Kc B W ca cc a b) (k:Kc B W ca cc b c):Kc B W ca cc a c:=
 ⟨h.below.trans k.below,fun g arr hg hb ho=>k.con g arr hg (h.con g arr hg hb ho) ho⟩
theorem Kc.of {B W cc:Nat} {ca:Option Addr} {a b:World} (h:Below a.heap.size a b) (hB:B≤a.heap.size):Kc B W ca cc a b:=⟨h.mono hB,fun g arr _ hb _=>hb.below h⟩
theorem Kc.mks {S:Nat→Prop} {B W cc:Nat} {ca:Option Addr} {a b:World} (h:Mks S a b) (hB:∀k,S k→B≤k) (hz:B≤a.heap.size) (hc:∀k arr,k<W→Blk a k arr 58→S k→cc≠0∧∃o,ca=some ⟨k,o,none⟩):Kc B W ca cc a b:=
 ⟨h.below hB hz,fun g arr hg hb ho=>h.blk hb (fun hs=>let ⟨h1,o,h2⟩:=hc g arr hg hb hs;ho h1 o h2)⟩
theorem SRow.cl {w:World} {x:Sls} {s:St} (h:SRow w x s) (hf:FitSt s):x.cl≤1048576:=by have:=h.len.2.2.2;have:=hf.2.2.2.1;omega
end
section
open Go.RowKit Go.ChangeShapes
def IBlk (w:World) (t:TypeId) (g n k:Nat) (l:List Int):Prop:=
 ∃arr:Array Value,w.heap[g]? = some (.cells arr t (0,0))∧arr.size=n∧∀i (h:i<l.length),i<k→arr[i]? = some (.int .i64 l[i])
theorem IBlk.lt {w:World} {t:TypeId} {g n k:Nat} {l:List Int} (h:IBlk w t g n k l):g<w.heap.size:=let ⟨_,h,_⟩:=h;lt_of_block h
theorem IBlk.below {w w':World} {t:TypeId} {g n k:Nat} {l:List Int} (h:IBlk w t g n k l) (hb:Below w.heap.size w w'):IBlk w' t g n k l:=by
 have hlt:=h.lt
 obtain ⟨arr,h1,h2⟩:=h
 exact ⟨arr,(hb.block g hlt).trans h1,h2⟩
theorem IBlk.cell {w:World} {t:TypeId} {g n k:Nat} {l:List Int} (h:IBlk w t g n k l) {j:Nat} (hj:j<n):∃v,w.cell? ⟨g,j,none⟩=some v:=by
 obtain ⟨arr,h1,h2,_⟩:=h
 exact ⟨arr[j]'(by omega),by simp [World.cell?,h1,Array.getElem?_eq_getElem (show j<arr.size by omega)]⟩
theorem IBlk.frozen {w:World} {t:TypeId} {g n k:Nat} {l:List Int} (h:IBlk w t g n k l) (j:Nat):w.frozen? ⟨g,j,none⟩=false:=by
 obtain ⟨arr,h1,h2,_⟩:=h
 simp [World.frozen?,h1]
theorem IBlk.row {w:World} {t:TypeId} {g n:Nat} {l:List Int} (h:IBlk w t g n n l) (hl:n=l.length):NRow w (some ⟨g,0,none⟩) n l:=by
 obtain ⟨arr,h1,h2,h3⟩:=h
 refine ⟨hl,.inr ⟨g,0,rfl,fun i hi=>?_⟩⟩
 have a:=h3 i hi (by omega)
 simp only [Nat.zero_add]
 simp [World.cell?,h1,a]
theorem IBlk.step {w:World} {t:TypeId} {g n k:Nat} {l:List Int} (h:IBlk w t g n k l) (hk:k<n) (hl:k<l.length):IBlk (w.setCell ⟨g,k,none⟩ (.int .i64 l[k])) t g n (k+1) l:=by
 obtain ⟨arr,h1,h2,h3⟩:=h
 refine ⟨_,heap_setCell_same w g k _ _ (.int .i64 l[k]) h1,by simp [h2],fun i hi hik=>?_⟩
 by_cases e:i=k
 ·subst e
  simp [Array.getElem?_setIfInBounds,h2]
  omega
 ·have a:=h3 i hi (by omega)
  rw [←a];simp only [Array.getElem?_setIfInBounds];rw [if_neg (by omega)]
theorem IBlk.put {w:World} {t:TypeId} {g n k:Nat} {l:List Int} (h:IBlk w t g n k l) (j:Nat) (v:Value):IBlk (w.setCell ⟨g,j,none⟩ v) t g n 0 l:=by
 obtain ⟨arr,h1,h2,h3⟩:=h
 exact ⟨_,heap_setCell_same w g j _ _ v h1,by simp [h2],fun i hi hik=>absurd hik (by omega)⟩
theorem IBlk.none {w:World} {t:TypeId} {g n k:Nat} {l:List Int} (h:IBlk w t g n k l):IBlk w t g n 0 l:=by
 obtain ⟨arr,h1,h2,h3⟩:=h
 exact ⟨arr,h1,h2,fun i hi hik=>absurd hik (by omega)⟩
theorem IBlk.mks {S:Nat→Prop} {w w':World} {t:TypeId} {g n k:Nat} {l:List Int} (h:IBlk w t g n k l) (hm:Mks S w w') (hg:¬S g):IBlk w' t g n k l:=by
 have hlt:=h.lt
 obtain ⟨arr,h1,h2⟩:=h
 exact ⟨arr,(hm.block g hlt hg).trans h1,h2⟩
theorem IBlk.mkd {B E:Nat} {w w':World} {t:TypeId} {g n k:Nat} {l:List Int} (h:IBlk w t g n k l) (hm:Mkd B E w w') (hg:g<B∨E≤g):IBlk w' t g n k l:=by
 have hlt:=h.lt
 obtain ⟨arr,h1,h2⟩:=h
 exact ⟨arr,(hm.block g hlt hg).trans h1,h2⟩
theorem IBlk.al {w:World} {t:TypeId} {g n k:Nat} {l:List Int} (h:IBlk w t g n k l) (o:Obj):IBlk (w.alloc o) t g n k l:=h.below (yA (yH _ _) o)
def ITwo (w0:World) (b p c r:Nat) (q:Int) (w:World):Prop:=w.cell? ⟨b,p,none⟩=some (.int .i64 q)∧w.cell? ⟨c,r,none⟩=some (.int .i64 q)∧Below w0.heap.size w0 w
theorem ITwo.call {w0 w w':World} {b p c r:Nat} {q:Int} (h:ITwo w0 b p c r q w) (hb:Below w.heap.size w w'):ITwo w0 b p c r q w':=⟨(hb.cell (yG h.1)).trans h.1,(hb.cell (yG h.2.1)).trans h.2.1,yB h.2.2 hb⟩
theorem ITwo.drew {w0 w:World} {b p c r:Nat} {q:Int} (h:ITwo w0 b p c r q w):ITwo w0 b p c r q w.drew:=h.call (yH _ _).drew
theorem ITwo.read (w0:World) (b p c r:Nat) (q:Int):∀wx,ITwo w0 b p c r q wx→wx.cell? ⟨b,p,none⟩=some (.int .i64 q)∧wx.cell? ⟨c,r,none⟩=some (.int .i64 q):=fun wx h=>⟨h.1,h.2.1⟩
theorem eqIntS_same (ao bo:Option Addr) (len cap ccap:Nat) (l:List Int) (w:World) (h:NRow w ao len l) (h':NRow w bo len l) (hl:len≤1048576) :
  Calls Tryz.prog 8 #[.slice ao len cap,.slice bo len ccap] w fun e w'=>e=.returned (.bool true)∧Below w.heap.size w w':=by
 have HR:=hide h
 have HR':=hide h'
 have HL:=hide h.1
 clear h h'
 go_enter Tryz.func8,Tryz.ntmps8
 go_wp2
 go_loopw [5] (fun i wr=>∃k:Nat,k≤len∧i=.int .i64 k∧Hid (Below w.heap.size w wr)) (fun i _=>len - (intOf i).toNat)
 case atStart=>exact ⟨0,Nat.zero_le _,rfl,hide (yH _ _)⟩
 case round=>
  obtain ⟨k,hk,rfl,HB⟩:=hrel
  by_cases hlt:k<len
  ·obtain ⟨b,off,rfl,hq⟩:=((uH HR).below (uH HB)).at hlt
   obtain ⟨c,coff,rfl,hq'⟩:=((uH HR').below (uH HB)).at hlt
   have hkl:k<l.length:=by have:=uH HL;omega
   have A0:=hide (show ITwo w b (off+k) c (coff+k) l[k] wr from ⟨hq hkl,hq' hkl,uH HB⟩)
   obtain ⟨q,hs⟩:∃q,l[k]=q:=⟨_,rfl⟩
   rw [hs] at A0
   have R:=ITwo.read w b (off+k) c (coff+k) q
   have k0:(0:Int)≤k:=by omega
   have k1:(k:Int)<len:=by omega
   clear hq hq' hs hkl
   go_wp2_with fail
   go_region_held3 (fun wx=>ITwo w b (off+k) c (coff+k) q wx)
    (first | (with_reducible assumption) | exact (uH A0).drew | exact ITwo.call (by assumption) (by assumption))
    (fail)
   all_goals
    have HB2:=hide (uH A0).drew.2.2
    clear R A0
    go_wp2
    go_roundw
    case rel=>exact ⟨k+1,by omega,by go_num,HB2⟩
    case measure=>simp [intOf];omega
  ·go_wp2
   go_ret
   exact ⟨rfl,uH HB⟩
end
section
open Go.RowKit
def AWh (w:World) (B E g n:Nat):Prop:=Cel w 106 g (n*3)∧∀i,i<n→∃b len,w.cell? ⟨g,i*3+2,none⟩=some (.slice (some ⟨b,0,none⟩) len len)∧Cel w 140 b (len*5)∧len≤1048576∧B≤b∧b<E∧b≠g
theorem AWh.below {w w':World} {B E g n:Nat} (h:AWh w B E g n) (hb:Below w.heap.size w w'):AWh w' B E g n:=
 ⟨h.1.below hb,fun i hi=>let ⟨b,len,a,c,d⟩:=h.2 i hi;⟨b,len,cellBel a hb,c.below hb,d⟩⟩
theorem AWh.sc {w:World} {B E g n:Nat} (h:AWh w B E g n) (j:Nat) (v:Value) (hj:∀i,j≠i*3+2):AWh (w.setCell ⟨g,j,none⟩ v) B E g n:=
 ⟨h.1.set _ _ _,fun i hi=>let ⟨b,len,a,c,d⟩:=h.2 i hi;⟨b,len,cellKeep a (hj i),c.set _ _ _,d⟩⟩
theorem AWh.mkd {w w':World} {B E g n b:Nat} (h:AWh w B E g n) (hm:Mkd b (b+1) w w') (hn:b≠g):AWh w' B E g n:=
 ⟨hm.cel _ _ _ h.1,fun i hi=>let ⟨b',len,a,c,d⟩:=h.2 i hi;⟨b',len,(World.cell?_of_block (w:=w) (a:=⟨g,i*3+2,none⟩) (hm.block g h.1.lt (by omega))).trans a,hm.cel _ _ _ c,d⟩⟩
theorem ApplBlk.wh {w:World} {g n:Nat} {l:List Appl} (h:ApplBlk w 106 g n n l) (hl:n=l.length) (hk:∀q ∈ l,q.asks.length≤1048576):AWh w (g+1) w.heap.size g n:=by
 refine ⟨h.cel,fun i hi=>?_⟩
 obtain ⟨arr,h1,h2,h3⟩:=h
 have hil:i<l.length:=by omega
 obtain ⟨_,_,ao,len,cap,e,ho⟩:=h3 i hil hi
 obtain ⟨b,rfl,rfl,hb⟩:=ho.2.2.2
 have hg:=ho.2.2.1 b 0 rfl
 have hlen:=hk l[i] (yM _)
 have:=ho.1.1
 exact ⟨b,cap,by simp [World.cell?,h1,e],hb.cel,by omega,by omega,hb.lt,by omega⟩
theorem markAppS_from (B E g n:Nat) (k0:Int) (w:World) (h:AWh w B E g n) (hB:B≤g) (hE:g<E) (hn:n≤1048576) (h0:0<k0) (h1:k0≤100000000000000) :
  Calls Tryz.prog 44 #[.slice (some ⟨g,0,none⟩) n n,.int .i64 k0] w fun e w'=>∃k',e=.returned (.int .i64 k')∧k0≤k'∧k'≤k0+5242882*(n:Int)∧Mkd B E w w':=by
 have HQ0:=hide h
 clear h
 go_enter Tryz.func44,Tryz.ntmps44
 go_wp2
 go_loopw [1,5] (fun s i wr=>∃(j:Nat) (k:Int),j≤n∧i=.int .i64 j∧s=.int .i64 k∧k0≤k∧k≤k0+5242882*(j:Int)∧Hid (AWh wr B E g n)∧Hid (Mkd B E w wr)) (fun _ i _=>n - (intOf i).toNat)
 case atStart=>exact ⟨0,k0,Nat.zero_le _,rfl,rfl,by omega,by omega,HQ0,hide (Mkd.refl _ _ _)⟩
 case round=>
  obtain ⟨j,k,hj,rfl,rfl,hk,hk',HQ,HG⟩:=hrel
  by_cases hlt:j<n
  ·have hk0:0<k:=by omega
   have hk1:k≤105500000000000:=by omega
   have HK:=hide hk'
   clear hk'
   obtain ⟨v0,d0⟩:=(uH HQ).1.cell (j:=j*3) (by omega)
   have f0:=(uH HQ).1.frozen (j*3)
   have HQ1:=hide ((uH HQ).sc (j*3) (.int .i64 k) (by omega))
   have HG1:=hide ((uH HG).sc g (j*3) (.int .i64 k) hB hE)
   clear HQ HG
   go_wp2_with fail
   refine (markText_int (k+1) _ (by omega) (by omega)).mono ?_
   rintro e w1 ⟨rfl,hb⟩
   have HQ2:=hide ((uH HQ1).below hb)
   have HG2:=hide ((uH HG1).on hb)
   clear hb d0 f0 HQ1 HG1
   obtain ⟨v1,d1⟩:=(uH HQ2).1.cell (j:=j*3+1) (by omega)
   have f1:=(uH HQ2).1.frozen (j*3+1)
   have HQ3:=hide ((uH HQ2).sc (j*3+1) (.string (mk (k+1).toNat)) (by omega))
   have HG3:=hide ((uH HG2).sc g (j*3+1) (.string (mk (k+1).toNat)) hB hE)
   clear HQ2 HG2
   obtain ⟨b,len,d2,hcel,hlen,hb1,hb2,hbg⟩:=(uH HQ3).2 j hlt
   obtain ⟨K,hK⟩:=Int.eq_ofNat_of_zero_le (a:=k+1+1) (by omega)
   have CA:=hide (fun (e:k+1+1=(K:Int))=>by have:=markAskS_from b len len K (d:=len) _ hcel (yJ _) hlen (by omega) (by omega);rw [←e] at this;exact this)
   have HKK:=hide hK
   clear hcel hK
   go_wp2_with fail
   refine (uH CA (uH HKK)).mono ?_
   rintro e w2 ⟨rfl,_,hm⟩
   have HQ4:=hide ((uH HQ3).mkd hm hbg)
   have HG4:=hide ((uH HG3).trans (hm.mono hb1 (by omega)))
   clear hm CA HQ3 HG3 d1 f1 d2
   go_wp2
   go_roundw
   case rel=>exact ⟨j+1,k+1+1+5*(len:Int),by omega,by go_num,by go_num,by omega,by have:=uH HK;omega,HQ4,HG4⟩
   case measure=>simp [intOf];omega
  ·have hjn:j=n:=by omega
   subst hjn
   go_wp2
   go_ret
   exact ⟨k,rfl,hk,hk',uH HG⟩
theorem markState_any (B E g1 g2 g3 g4 ql al ml cl:Nat) (s:St) (w:World) (hq:Cel w 99 g1 (ql*4)) (ha:AWh w B E g2 al) (hm:Cel w 113 g3 (ml*4)) (hc:Cel w 58 g4 (cl*5))
  (b1:B≤g1∧g1<g2∧g2<g3∧g3<g4∧g4<E) (hE:E≤w.heap.size) (hql:ql≤1048576) (hal:al≤1048576) (hml:ml≤1048576) (hcl:cl≤1048576) :
  Calls Tryz.prog 10 #[sv (own4 g1 g2 g3 g4 ql al ml cl) s,.int .i64 1] w fun e w'=>∃k,e=.returned (.int .i64 k)∧0<k∧Mkd B E w w':=by
 have hb0:=yA (yH _ w) (.cells (svc (own4 g1 g2 g3 g4 ql al ml cl) s) 36)
 have P0:=hide (yD w (svc (own4 g1 g2 g3 g4 ql al ml cl) s) 36)
 have CQ:=hide (hq.below hb0)
 have CA:=hide (ha.below hb0)
 have CM:=hide (hm.below hb0)
 have CC:=hide (hc.below hb0)
 have HG0:=hide (show Mkd B E w _ from .of_below hb0)
 obtain ⟨qs,clock,epoch,next,serial,apps,ms,cs⟩:=s
 clear hq ha hm hc hb0
 go_enter Tryz.func10,Tryz.ntmps10
 go_wp2_with fail
 refine (markQueueS_from g1 ql ql 1 _ (uH CQ) (yJ _) hql (by omega) (by omega)).mono ?_
 rintro e w1 ⟨rfl,hm1⟩
 have P1:=hide (hm1.blk (uH P0) (.inr (by omega)))
 have CA1:=hide ((uH CA).mkd hm1 (by omega))
 have CM1:=hide (hm1.cel _ _ _ (uH CM))
 have CC1:=hide (hm1.cel _ _ _ (uH CC))
 have HG1:=hide ((uH HG0).trans (hm1.mono b1.1 (by omega)))
 have p5:=(uH P1).at 5
 simp at p5
 clear hm1 P0 CQ CA CM CC HG0
 go_wp2_with fail
 refine (markAppS_from B E g2 al (1+4*(ql:Int)) _ (uH CA1) (by omega) (by omega) hal (by omega) (by omega)).mono ?_
 rintro e w2 ⟨k2,rfl,hk2,hk2',hm2⟩
 have P2:=hide (hm2.blk (uH P1) (.inr (by omega)))
 have CM2:=hide (hm2.cel _ _ _ (uH CM1))
 have CC2:=hide (hm2.cel _ _ _ (uH CC1))
 have HG2:=hide ((uH HG1).trans hm2)
 have p6:=(uH P2).at 6
 simp at p6
 have hk2a:0<k2:=by omega
 have hk2b:k2≤10000000000000:=by omega
 clear hm2 P1 CA1 CM1 CC1 HG1 p5 hk2 hk2'
 go_wp2_with fail
 refine (markMachineS_from g3 ml ml k2 _ (uH CM2) (yJ _) hml (by omega) (by omega)).mono ?_
 rintro e w3 ⟨rfl,hm3⟩
 have P3:=hide (hm3.blk (uH P2) (.inr (by omega)))
 have CC3:=hide (hm3.cel _ _ _ (uH CC2))
 have HG3:=hide ((uH HG2).trans (hm3.mono (by omega) (by omega)))
 have p7:=(uH P3).at 7
 simp at p7
 clear hm3 P2 CM2 CC2 HG2 p6
 go_wp2_with fail
 refine (markContS_from g4 cl cl (k2+4*(ml:Int)) _ (uH CC3) (yJ _) hcl (by omega) (by omega)).mono ?_
 rintro e w4 ⟨rfl,hm4⟩
 have HG4:=hide ((uH HG3).trans (hm4.mono (by omega) (by omega)))
 clear hm4 P3 CC3 HG3 p7
 go_wp2
 go_ret
 exact ⟨_,rfl,by omega,uH HG4⟩
theorem AWh.mono {w:World} {B E B' E' g n:Nat} (h:AWh w B E g n) (h1:B'≤B) (h2:E≤E'):AWh w B' E' g n:=
 ⟨h.1,fun i hi=>let ⟨b,len,a,c,d,e,f,k⟩:=h.2 i hi;⟨b,len,a,c,d,by omega,by omega,k⟩⟩
theorem InBox.mkd {w wx wy:World} {x:Sls} {s:St} {B E:Nat} (h:InBox w x s wx) (hm:Mkd B E wx wy) (h1:w.heap.size<B) (h2:B≤wx.heap.size):InBox w x s wy:=⟨hm.blk h.1 (.inl h1),h.2.trans ((hm.below h2).mono (by omega))⟩
theorem InBox.low {w wx wy:World} {x:Sls} {s:St} {B:Nat} (h:InBox w x s wx) (hm:Below B wx wy) (h1:w.heap.size<B):InBox w x s wy:=⟨(hm.block _ h1).trans h.1,h.2.trans (hm.mono (by omega))⟩
def InTwoB (w9 w:World) (x:Sls) (s:St) (g g1 g2 g3 g4:Nat) (wx:World):Prop:=InTwo w x s g g1 g2 g3 g4 wx∧Below w9.heap.size w9 wx
theorem InTwoB.call {w9 w wx wy:World} {x:Sls} {s:St} {g g1 g2 g3 g4:Nat} (h:InTwoB w9 w x s g g1 g2 g3 g4 wx) (hb:Below wx.heap.size wx wy):InTwoB w9 w x s g g1 g2 g3 g4 wy:=⟨h.1.call hb,yB h.2 hb⟩
theorem InTwoB.drew {w9 w wx:World} {x:Sls} {s:St} {g g1 g2 g3 g4:Nat} (h:InTwoB w9 w x s g g1 g2 g3 g4 wx):InTwoB w9 w x s g g1 g2 g3 g4 wx.drew:=h.call (yH _ _).drew
theorem SAns.keep {B E:Nat} {w w':World} {x:Sls} {s:St} {hs:List AV} (h:SAns B E w x s hs) (hk:∀k,B≤k→k<E→w'.heap[k]? = w.heap[k]?):SAns B E w' x s hs:=by
 have key:∀{t:TypeId} {sz n:Nat} {ao:Option Addr},Own1 B E w t sz ao n→(∀k,inR ao n k→w'.heap[k]? = w.heap[k]?)∧Own1 B E w' t sz ao n:=fun ho=>by
  refine ⟨fun k hi=>?_,?_⟩
  ·obtain ⟨h1,h2,_⟩:=ho.lies k hi
   exact hk k h1 h2
  ·rcases ho with e | ⟨g,M,e,h1,h2,h3,h4⟩
   ·exact .inl e
   ·exact .inr ⟨g,M,e,h1,h2,h3.of_block (hk g h1 h2),h4⟩
 have hh:Heads w' hs s.apps:=⟨h.heads.1,fun i h1 h2=>by
  obtain ⟨a,b,c,d⟩:=h.heads.2 i h1 h2
  exact ⟨a,b,c.kept (key (h.asks _ (yM h1))).1,d⟩⟩
 have hav:=h.av.kept (key h.a).1
 exact ⟨⟨h.row.1.kept (key h.q).1,appl_of hav hh,h.row.2.2.1.kept (key h.m).1,h.row.2.2.2.kept (key h.c).1⟩,(key h.q).2,(key h.a).2,(key h.m).2,(key h.c).2,hav,hh,fun v hv=>(key (h.asks v hv)).2,h.apart,h.cap,h.rm.map (fun o=>(key o).2)⟩
structure AnsL (B E:Nat) (w:World) (g:Nat) (y:Sls) (s:St) (hs:List AV) (go:Option Addr) (gn:Nat) (gone:List Con):Prop where
 box:Blk w g (svc y s) 36
 a:SAns B E w y s hs
 c:ConRow w go gn gone
 co:Own1 B E w 58 5 go gn
 ap:∀k,inR go gn k→¬inR y.ca y.cl k
 ge:E≤g
theorem AnsL.below {B E:Nat} {w w':World} {g:Nat} {y:Sls} {s:St} {hs:List AV} {go:Option Addr} {gn:Nat} {gone:List Con} (h:AnsL B E w g y s hs go gn gone) (hb:Below w.heap.size w w'):AnsL B E w' g y s hs go gn gone:=
 ⟨h.box.below hb,h.a.below hb,h.c.below hb,h.co.below hb,h.ap,h.ge⟩
theorem AnsL.al {B E:Nat} {w:World} {g:Nat} {y:Sls} {s:St} {hs:List AV} {go:Option Addr} {gn:Nat} {gone:List Con} (h:AnsL B E w g y s hs go gn gone) (o:Obj):AnsL B E (w.alloc o) g y s hs go gn gone:=h.below (yA (yH _ _) o)
theorem AnsL.keep {B E:Nat} {w w':World} {g:Nat} {y:Sls} {s:St} {hs:List AV} {go:Option Addr} {gn:Nat} {gone:List Con} (h:AnsL B E w g y s hs go gn gone) (hk:∀k,B≤k→k<E→w'.heap[k]? = w.heap[k]?) (hg:w'.heap[g]? = w.heap[g]?):AnsL B E w' g y s hs go gn gone:=by
 refine ⟨hg.trans h.box,h.a.keep hk,h.c.kept (fun k hi=>?_),?_,h.ap,h.ge⟩
 ·obtain ⟨h1,h2,_⟩:=h.co.lies k hi
  exact hk k h1 h2
 ·rcases h.co with e | ⟨b,M,e,h1,h2,h3,h4⟩
  ·exact .inl e
  ·exact .inr ⟨b,M,e,h1,h2,h3.of_block (hk b h1 h2),h4⟩
theorem AnsL.read {B E:Nat} {w:World} {g:Nat} {y:Sls} {s:St} {hs:List AV} {go:Option Addr} {gn:Nat} {gone:List Con} (h:AnsL B E w g y s hs go gn gone):w.cell? ⟨g,0,none⟩=some (.slice y.qa y.ql y.qc)∧w.cell? ⟨g,1,none⟩=some (.int .i64 s.clock)∧w.cell? ⟨g,2,none⟩=some (.int .i64 s.epoch)∧w.cell? ⟨g,3,none⟩=some (.int .i64 s.next)∧w.cell? ⟨g,4,none⟩=some (.int .i64 s.serial)∧w.cell? ⟨g,5,none⟩=some (.slice y.aa y.al y.ac)∧w.cell? ⟨g,6,none⟩=some (.slice y.ma y.ml y.mc)∧w.cell? ⟨g,7,none⟩=some (.slice y.ca y.cl y.cc):=
 ⟨h.box.at 0,h.box.at 1,h.box.at 2,h.box.at 3,h.box.at 4,h.box.at 5,h.box.at 6,h.box.at 7⟩
structure OwnS (B E:Nat) (w:World) (x:Sls) (hs:List AV):Prop where
 q:Own1 B E w 99 4 x.qa x.ql
 a:Own1 B E w 106 3 x.aa x.al
 m:Own1 B E w 113 4 x.ma x.ml
 c:Own1 B E w 58 5 x.ca x.cl
 k:∀v ∈ hs,Own1 B E w 140 5 v.ao v.len
theorem SAns.own {B E:Nat} {w:World} {x:Sls} {s:St} {hs:List AV} (h:SAns B E w x s hs):OwnS B E w x hs:=⟨h.q,h.a,h.m,h.c,h.asks⟩
theorem OwnS.mks {B E:Nat} {w w':World} {x:Sls} {hs:List AV} {S:Nat→Prop} (h:OwnS B E w x hs) (hm:Mks S w w'):OwnS B E w' x hs:=⟨h.q.mks hm,h.a.mks hm,h.m.mks hm,h.c.mks hm,fun v hv=>(h.k v hv).mks hm⟩
structure AnsH (B E:Nat) (w:World) (g:Nat) (y:Sls) (s:St) (hs:List AV) (go:Option Addr) (gn:Nat):Prop where
 box:Blk w g (svc y s) 36
 m:SMk w y hs
 own:OwnS B E w y hs
 co:Own1 B E w 58 5 go gn
 ap:∀k,inR go gn k→¬inR y.ca y.cl k
 ge:E≤g
theorem AnsH.read {B E:Nat} {w:World} {g:Nat} {y:Sls} {s:St} {hs:List AV} {go:Option Addr} {gn:Nat} (h:AnsH B E w g y s hs go gn):w.cell? ⟨g,0,none⟩=some (.slice y.qa y.ql y.qc):=h.box.at 0
structure AnsM (w:World) (g:Nat) (y:Sls) (s:St) (hs:List AV) (go:Option Addr) (gn:Nat):Prop where
 box:Blk w g (svc y s) 36
 m:SMk w y hs
 c:ConRow w go gn (marksC (endS y hs) gn)
theorem AnsM.below {w w':World} {g:Nat} {y:Sls} {s:St} {hs:List AV} {go:Option Addr} {gn:Nat} (h:AnsM w g y s hs go gn) (hb:Below w.heap.size w w'):AnsM w' g y s hs go gn:=⟨h.box.below hb,h.m.below hb,h.c.below hb⟩
theorem AnsM.al {w:World} {g:Nat} {y:Sls} {s:St} {hs:List AV} {go:Option Addr} {gn:Nat} (h:AnsM w g y s hs go gn) (o:Obj):AnsM (w.alloc o) g y s hs go gn:=h.below (yA (yH _ _) o)
theorem AnsM.read {w:World} {g:Nat} {y:Sls} {s:St} {hs:List AV} {go:Option Addr} {gn:Nat} (h:AnsM w g y s hs go gn):w.cell? ⟨g,0,none⟩=some (.slice y.qa y.ql y.qc)∧w.cell? ⟨g,1,none⟩=some (.int .i64 s.clock)∧w.cell? ⟨g,2,none⟩=some (.int .i64 s.epoch)∧w.cell? ⟨g,3,none⟩=some (.int .i64 s.next)∧w.cell? ⟨g,4,none⟩=some (.int .i64 s.serial)∧w.cell? ⟨g,5,none⟩=some (.slice y.aa y.al y.ac)∧w.cell? ⟨g,6,none⟩=some (.slice y.ma y.ml y.mc)∧w.cell? ⟨g,7,none⟩=some (.slice y.ca y.cl y.cc):=
 ⟨h.box.at 0,h.box.at 1,h.box.at 2,h.box.at 3,h.box.at 4,h.box.at 5,h.box.at 6,h.box.at 7⟩
theorem AnsL.off {B E B' E':Nat} {w w':World} {g:Nat} {y:Sls} {s:St} {hs:List AV} {go:Option Addr} {gn:Nat} {gone:List Con} {S:Nat→Prop} (h:AnsL B E w g y s hs go gn gone) (hm:Mks S w w') (hS:∀k,S k→B'≤k∧k<E') (h1:g<B'∨E'≤B) (h2:g<B'∨E'≤g):AnsL B E w' g y s hs go gn gone:=
 h.keep (fun k hk1 hk2=>hm.block k (by have:=h.box.lt;have:=h.ge;omega) (fun hs=>by have:=hS k hs;have:=h.ge;omega)) (hm.block g h.box.lt (fun hs=>by have:=hS g hs;omega))
theorem InBox.off {w wx wy:World} {x:Sls} {s:St} {B:Nat} {S:Nat→Prop} (h:InBox w x s wx) (hm:Mks S wx wy) (hS:∀k,S k→B≤k) (h1:w.heap.size<B) (h2:B≤wx.heap.size):InBox w x s wy:=h.low (hm.below hS h2) h1
theorem own4_heads {w:World} {g1 g2 g3 g4:Nat} {x:Sls} {s:St} (h:SOwn4 w g1 g2 g3 g4 x.ql x.al x.ml x.cl s) (hl:SLen x s):∃hs,AVRow w (some ⟨g2,0,none⟩) x.al hs∧Heads w hs s.apps∧SSome (own4 g1 g2 g3 g4 x.ql x.al x.ml x.cl) hs:=by
 obtain ⟨hs,h1,h2⟩:=(h.2.1.row hl.2.1).heads
 refine ⟨hs,h1,h2,⟨(fun e=>by cases e),(fun e=>by cases e),(fun e=>by cases e),fun v hv hno=>?_⟩⟩
 obtain ⟨i,hi,rfl⟩:=List.getElem_of_mem hv
 have hi':i<s.apps.length:=by rw [←h2.1];exact hi
 obtain ⟨arr,a1,a2,a3⟩:=h.2.1
 obtain ⟨_,_,ao,len,cap,e,ho⟩:=a3 i hi' (by have:=hl.2.1;omega)
 obtain ⟨b,rfl,_,_⟩:=ho.2.2.2
 rcases h1.2 with z | ⟨b',off',z,hh⟩
 ·have:=h1.1;omega
 ·cases z
  have hc:=(hh i hi).2.2
  simp [World.cell?,a1] at hc
  rw [e] at hc
  simp at hc
  rw [hno] at hc
  exact absurd hc.1 (by simp)
end
end Go.Proofs.YtokabeokclpljaaGreat
