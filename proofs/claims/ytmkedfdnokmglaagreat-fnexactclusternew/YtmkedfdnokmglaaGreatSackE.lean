/-
  Texts in one: AKey, BackA, HasI, WfS, FindAp, MarkP, MarkO, IntL, NsV, AgV, AgZ, AhV, MarkV, OwnP, Hav, CpC, RpV, IntLaw, RmL, CopySt, GrowS.
-/
import Derived.Test.YtmkedfdnokmglaaGreatSackC
import Derived.ChangeSlices
import Derived.Laws.Tables
import Derived.Laws.Rows
set_option maxRecDepth 100000
set_option maxHeartbeats 16000000
set_option linter.unusedVariables false
set_option linter.unusedSimpArgs false
namespace Go.Proofs.YtmkedfdnokmglaaGreat
section
open Go.RowKit Go.Maps
structure AV where
 id:Int
 queue:List UInt8
 ao:Option Addr
 len:Nat
 cap:Nat
abbrev avv (v:AV):Value:=.agg #[.int .i64 v.id,.string (bs v.queue),.slice v.ao v.len v.cap]
def AVAt (w:World) (b p:Nat) (v:AV):Prop:=
 w.cell? ⟨b,p,none⟩=some (.int .i64 v.id)∧w.cell? ⟨b,p+1,none⟩=some (.string (bs v.queue))∧w.cell? ⟨b,p+2,none⟩=some (.slice v.ao v.len v.cap)
theorem AVAt.lt {w:World} {b p:Nat} {v:AV} (h:AVAt w b p v):b<w.heap.size:=yG h.1
theorem AVAt.below {w w':World} {b p:Nat} {v:AV} (h:AVAt w b p v) (hb:Below w.heap.size w w'):AVAt w' b p v:=
 ⟨(hb.cell h.lt).trans h.1,(hb.cell h.lt).trans h.2.1,(hb.cell h.lt).trans h.2.2⟩
def AVRow (w:World) (ao:Option Addr) (len:Nat) (l:List AV):Prop:=
 len=l.length∧(len=0∨∃b off,ao=some ⟨b,off,none⟩∧∀i (h:i<l.length),AVAt w b (off+i*3) l[i])
theorem AVRow.below {w w':World} {ao:Option Addr} {len:Nat} {l:List AV} (h:AVRow w ao len l) (hb:Below w.heap.size w w'):AVRow w' ao len l:=by
 obtain ⟨h1,h2⟩:=h
 refine ⟨h1,?_⟩
 rcases h2 with h2 | ⟨b,off,h3,h4⟩
 ·exact .inl h2
 ·exact .inr ⟨b,off,h3,fun i h=>(h4 i h).below hb⟩
theorem AVRow.at {w:World} {ao:Option Addr} {len:Nat} {l:List AV} (h:AVRow w ao len l) {i:Nat} (hi:i<len):∃b off,ao=some ⟨b,off,none⟩∧∀(h:i<l.length),AVAt w b (off+i*3) l[i]:=by
 obtain ⟨h1,h2⟩:=h
 rcases h2 with h2 | ⟨b,off,h3,h4⟩
 ·omega
 ·exact ⟨b,off,h3,fun hi=>h4 i hi⟩
def Heads (w:World) (hs:List AV) (l:List Appl):Prop:=
 hs.length=l.length∧∀i (h:i<hs.length) (h':i<l.length),hs[i].id=l[i].id∧hs[i].queue=l[i].queue∧AskRow w hs[i].ao hs[i].len l[i].asks∧hs[i].len≤hs[i].cap
theorem ApplRow.heads {w:World} {ao:Option Addr} {len:Nat} {l:List Appl} (h:ApplRow w ao len l):∃hs,AVRow w ao len hs∧Heads w hs l:=by
 obtain ⟨h1,h2⟩:=h
 by_cases h0:len=0
 ·have hl:l=[]:=List.length_eq_zero_iff.1 (by omega)
  subst hl
  exact ⟨[],⟨by simpa using h0,.inl h0⟩,rfl,fun i h=>by simp at h⟩
 ·rcases h2 with h2 | ⟨b,off,h3,h4⟩
  ·exact absurd h2 h0
  ·have inh:Inhabited AV:=⟨⟨0,[],none,0,0⟩⟩
   obtain ⟨F,hF⟩:=Go.Deep.choose_lt (α:=AV) (n:=l.length) (p:=fun i v=>∀hi:i<l.length,AVAt w b (off+i*3) v∧v.id=l[i].id∧v.queue=l[i].queue∧AskRow w v.ao v.len l[i].asks∧v.len≤v.cap) (fun i hi=>by
    obtain ⟨x,y,z,a,c,d,e,f⟩:=h4 i hi
    exact ⟨⟨l[i].id,l[i].queue,x,y,z⟩,fun _=>⟨⟨a,c,d⟩,rfl,rfl,e,f⟩⟩)
   refine ⟨(List.range l.length).map F,⟨by simpa using h1,.inr ⟨b,off,h3,fun i hi=>?_⟩⟩,by simp,fun i hi hi'=>?_⟩
   ·have hi':i<l.length:=by simpa using hi
    simpa using (hF i hi' hi').1
   ·simpa using (hF i hi' hi').2
def addrD:Option Addr→DataW Unit
 | none=>.agg []
 | some ⟨b,o,none⟩=>.agg [.lit (.int .i64 b),.lit (.int .i64 o)]
 | some ⟨b,o,some k⟩=>.agg [.lit (.int .i64 b),.lit (.int .i64 o),.lit (.int .i64 k)]
theorem addrD_inj {a b:Option Addr} (h:addrD a=addrD b):a=b:=by
 match a,b with
 | none,none=>rfl
 | none,some ⟨x,y,none⟩=>simp [addrD] at h
 | none,some ⟨x,y,some z⟩=>simp [addrD] at h
 | some ⟨x,y,none⟩,none=>simp [addrD] at h
 | some ⟨x,y,some z⟩,none=>simp [addrD] at h
 | some ⟨x,y,none⟩,some ⟨x',y',none⟩=>simp [addrD] at h;obtain ⟨h1,h2⟩:=h;(have e1:x=x':=(by omega));(have e2:y=y':=(by omega));subst e1 e2;rfl
 | some ⟨x,y,none⟩,some ⟨x',y',some z'⟩=>simp [addrD] at h
 | some ⟨x,y,some z⟩,some ⟨x',y',none⟩=>simp [addrD] at h
 | some ⟨x,y,some z⟩,some ⟨x',y',some z'⟩=>simp [addrD] at h;obtain ⟨h1,h2,h3⟩:=h;(have e1:x=x':=(by omega));(have e2:y=y':=(by omega));(have e3:z=z':=(by omega));subst e1 e2 e3;rfl
def ad (v:AV):DataW Unit:=.agg [.lit (.int .i64 v.id),.lit (.string v.queue),addrD v.ao,.lit (.int .i64 v.len),.lit (.int .i64 v.cap)]
theorem ad_inj {a b:AV} (h:ad a=ad b):a=b:=by
 obtain ⟨a1,a2,a3,a4,a5⟩:=a
 obtain ⟨b1,b2,b3,b4,b5⟩:=b
 simp [ad] at h
 obtain ⟨h1,h2,h3,h4,h5⟩:=h
 have e3:=addrD_inj h3
 have e4:a4=b4:=by omega
 have e5:a5=b5:=by omega
 subst h1 h2 e3 e4 e5
 rfl
def appElem:Value→Option (DataW Unit×List MemPlace)
 | .agg cs=>match cs.toList with
  | [.int .i64 x,.string s,.slice ao len cap]=>some (ad ⟨x,s.data.toList,ao,len,cap⟩,[])
  | _=>none
 | _=>none
theorem appElem_mk (v:AV):appElem (avv v)=some (ad v,[]):=by
 obtain ⟨x,qu,ao,len,cap⟩:=v
 simp [appElem,bs]
theorem appElem_shape {v:Value} {y:DataW Unit×List MemPlace} (h:appElem v=some y):∃c,v=avv c:=by
 unfold appElem at h
 split at h
 ·rename_i cs
  split at h
  ·rename_i x s ao len cap e
   have e2:cs=#[.int .i64 x,.string s,.slice ao len cap]:=by cases cs;simpa using e
   exact ⟨⟨x,s.data.toList,ao,len,cap⟩,by rw [e2];simp [avv,bs_data]⟩
  ·cases h
 ·cases h
theorem appElem_inv {v:Value} {m:AV} {ps:List MemPlace} (h:appElem v=some (ad m,ps)):v=avv m:=by
 obtain ⟨c,rfl⟩:=appElem_shape h
 rw [appElem_mk] at h
 have:=ad_inj (congrArg Prod.fst (Option.some.inj h))
 rw [show c=m from this]
def findA (id:Int) (l:List AV):Option AV:=l.find? (fun v=>decide (v.id=id))
theorem findA_id {id:Int} {l:List AV} {v:AV} (h:findA id l=some v):v.id=id:=by simpa using List.find?_some h
def KnownA (l:List AV) (keep:Lit→AV→Bool) (D:DataW Unit):Prop:=
 (∀kl,Maps.has D kl=true→∃v,findA v.id l=some v∧keyOf Tryz.prog 217 (keyv [] v.id)=some kl∧∀zd,D.atKey kl zd=ad v)∧
 (∀v kl,findA v.id l=some v→keyOf Tryz.prog 217 (keyv [] v.id)=some kl→Maps.has D kl=keep kl v)
abbrev allA:Lit→AV→Bool:=fun _ _=>true
theorem knownA_empty:KnownA [] allA (.map []):=⟨fun kl h=>by simp [Maps.has] at h,fun v kl h=>by simp [findA] at h⟩
theorem KnownA.put {l:List AV} {D:DataW Unit} (h:KnownA l allA D) (hD:IsMap D) {m:AV} {kl:Lit} (hk:keyOf Tryz.prog 217 (keyv [] m.id)=some kl):KnownA (m::l) allA (D.put kl (ad m)):=by
 have hne:∀(kl':Lit) (v:AV),kl'≠kl→keyOf Tryz.prog 217 (keyv [] v.id)=some kl'→¬m.id=v.id:=fun kl' v e hv e'=>e (by rw [←e'] at hv;rw [hk] at hv;exact (Option.some.inj hv).symm)
 refine ⟨fun kl' hh=>?_,fun v kl' h1 h2=>?_⟩
 ·by_cases e:kl'=kl
  ·subst e
   exact ⟨m,by simp [findA],hk,fun zd=>atKey_put_same hD (keyLaw.key hk) _ _⟩
  ·rw [has_put_other e] at hh
   obtain ⟨v,h1,h2,h3⟩:=h.1 kl' hh
   exact ⟨v,by have:=hne kl' v e h2;simpa [findA,this] using h1,h2,fun zd=>by rw [atKey_put_other e];exact h3 zd⟩
 ·by_cases e:kl'=kl
  ·subst e
   exact has_put_same hD (keyLaw.key hk) _
  ·rw [has_put_other e]
   exact h.2 v kl' (by have:=hne kl' v e h2;simpa [findA,this] using h1) h2
theorem keyv_inj {a b:Int} {kl:Lit} (h1:keyOf Tryz.prog 217 (keyv [] a)=some kl) (h2:keyOf Tryz.prog 217 (keyv [] b)=some kl):a=b:=by
 have:=keyLaw.inj h1 h2
 simpa [keyv] using this
theorem KnownA.look {l:List AV} {keep:Lit→AV→Bool} {D:DataW Unit} (h:KnownA l keep D) {id:Int} {kl:Lit} (hk:keyOf Tryz.prog 217 (keyv [] id)=some kl) :
  (findA id l=none→Maps.has D kl=false)∧∀v,findA id l=some v→Maps.has D kl=keep kl v∧(Maps.has D kl=true→∀zd,D.atKey kl zd=ad v):=by
 refine ⟨fun hf=>?_,fun v hf=>?_⟩
 ·cases hh:Maps.has D kl with
  | false=>rfl
  | true=>
   obtain ⟨v,h1,h2,_⟩:=h.1 kl hh
   rw [←keyv_inj hk h2] at h1
   rw [hf] at h1
   cases h1
 ·have hv:=findA_id hf
  rw [←hv] at hf hk
  refine ⟨h.2 v kl hf hk,fun hh=>?_⟩
  obtain ⟨u,h1,h2,h3⟩:=h.1 kl hh
  have e:=keyv_inj hk h2
  rw [←e,hf] at h1
  cases h1
  exact h3
def optB (o:Option AV) (f:AV→Bool):Bool:=match o with
 | none=>false
 | some v=>f v
theorem appZero (w:World):(zeroValue 174).run Tryz.prog w=.ok (avv ⟨0,[],none,0,0⟩) w:=by kernel_rfl
theorem lookA {w:World} {bm n:Nat} {l:List AV} {keep:Lit→AV→Bool} {D:DataW Unit} (hown:w.ownsMap Tryz.prog 217 appElem bm n D) (hk:KnownA l keep D) {id:Int} {kl:Lit} (hkey:keyOf Tryz.prog 217 (keyv [] id)=some kl) :
  ∃v:AV,(Instr.lookup 210 (.map (some bm)) (keyv [] id) true).run Tryz.prog w=.ok (.tuple #[avv v,.bool (optB (findA id l) (keep kl))]) w∧(∀u,findA id l=some u→keep kl u=true→v=u)∧(findA id l=none→v=⟨0,[],none,0,0⟩):=by
 obtain ⟨v,ps,hrun,hv⟩:=hown.look_ok keyLaw Tryz.underlying210 (appZero w) (appElem_mk ⟨0,[],none,0,0⟩) hkey
 obtain ⟨h1,h2⟩:=hk.look hkey
 cases hf:findA id l with
 | none=>
  have hh:=h1 hf
  rw [atKey_of_not_has hh] at hv
  rw [appElem_inv hv,hh] at hrun
  exact ⟨_,hrun,(fun u e=>by cases e),fun _=>rfl⟩
 | some u=>
  obtain ⟨ha,hb⟩:=h2 u hf
  obtain ⟨c,rfl⟩:=appElem_shape hv
  rw [ha] at hrun
  refine ⟨c,hrun,fun u' e hu=>?_,(fun e=>by cases e)⟩
  cases e
  rw [hb (ha.trans hu)] at hv
  rw [appElem_mk] at hv
  exact ad_inj (congrArg Prod.fst (Option.some.inj hv))
end
section
open Go.RowKit Go.Shelf
attribute [local go_sem] Oper.semAt_some
abbrev NAV:={ m:AV // (Lit.int .i64 m.id).wf=true }
theorem AVRow.kpa {W W':World} {ao:Option Addr} {len:Nat} {l:List AV} (h:AVRow W ao len l) (k:KpA W W'):AVRow W' ao len l:=by
 obtain ⟨h1,h2⟩:=h
 refine ⟨h1,?_⟩
 rcases h2 with h2 | ⟨b,off,h3,h4⟩
 ·exact .inl h2
 ·exact .inr ⟨b,off,h3,fun i hi=>let ⟨a,b,c⟩:=h4 i hi;⟨k.cell a,k.cell b,k.cell c⟩⟩
theorem backA_some (n l Bs len cap:Nat) (ao:Option Addr) (ms:List AV) (J Jx:List (Int×NAV)→World→Prop)
  (hY:∀pre x W1,J pre W1→pre.length<ms.length→YieldAt Fence.wide (n - 1) Tryz.prog l #[.int .i64 x.1,avv x.2.1] W1 fun e W'=>
   (e=.returned (.bool true)∧J (pre++[x]) W'∧KpA W1 W')∨(e=.returned (.bool false)∧Jx (pre++[x]) W'))
  (W:World) (hBs:W.cell? ⟨Bs,0,none⟩=some (.slice ao len cap)) (hg:AVRow W ao len ms) (hl:len≤1048576) (hN:∀m ∈ ms,(Lit.int .i64 m.id).wf=true) (h0:J [] W) :
  CallsIn Fence.wide n Tryz.prog 191 #[.func (.yield l) #[] #[],.pointer (some ⟨Bs,0,none⟩)] W fun e W'=>(∃v,e=.returned v)∧
   ((∃ys:List (Int×NAV),Hid (ys.map (fun x:Int×NAV=>x.2.1)=ms.reverse)∧J ys W')∨(∃pre,Jx pre W')):=by
 have HY:=hide hY
 have HBs:=hide hBs
 have HG:=hide hg
 have HLEN:=hide hg.1
 have H0:=hide h0
 have HNN:=hide hN
 clear hY hg h0 hN
 refine callsIn_of_wp Tryz.func191 rfl trivial ?_ rfl
 simp only [Tryz.ntmps191,List.size_toArray,List.length_cons,List.length_nil,Nat.reduceAdd,Nat.reduceSub,Array.replicate_succ,Array.replicate_zero,List.push_toArray,List.append_toArray,List.nil_append,List.cons_append]
 gi_wp2
 clear hBs
 gi_loopw [3] (fun i wr=>∃(k:Nat) (pre:List (Int×NAV)),k≤len∧i=.int .i64 ((k:Int) - 1)∧Hid (pre.length+k=ms.length)∧Hid (pre.map (fun x:Int×NAV=>x.2.1)=(ms.drop k).reverse)∧Hid (J pre wr)∧Hid (wr.cell? ⟨Bs,0,none⟩=some (.slice ao len cap))∧Hid (AVRow wr ao len ms)) (fun i _=>(intOf i+1).toNat)
 case atStart=>exact ⟨len,[],yJ _,by go_num,hide (by have:=uH HLEN;simp;omega),hide (by rw [List.drop_of_length_le (by have:=uH HLEN;omega)];rfl),H0,HBs,HG⟩
 case round=>
  obtain ⟨k,pre,hk,rfl,HL,HM,HJ,HB,HGr⟩:=hrel
  cases k with
  | zero=>
   gi_wp2
   go_end0
   exact ⟨⟨_,rfl⟩,.inl ⟨pre,hide (by rw [uH HM];rfl),uH HJ⟩⟩
  | succ j=>
   have hj:j<len:=by omega
   obtain ⟨b,off,rfl,hq⟩:=(uH HGr).at hj
   have hjm:j<ms.length:=by have:=uH HLEN;omega
   obtain ⟨c0,c1,c2⟩:=hq hjm
   have hbox:=uH HB
   have hel:=uH HNN ms[j] (yM _)
   obtain ⟨fn,tmps,assign,body,hy,hR⟩:=uH HY pre ((j:Int),⟨ms[j],hel⟩) wr (uH HJ) (by have:=uH HL;omega)
   have HRR:=hide hR
   have HM2:=hide (show (pre++[((j:Int),(⟨ms[j],hel⟩:NAV))]).map (fun x:Int×NAV=>x.2.1)=(ms.drop j).reverse by rw [List.map_append,uH HM,List.drop_eq_getElem_cons hjm,List.reverse_cons];rfl)
   have hij:((j+1:Nat):Int) - 1=(j:Int):=by omega
   obtain ⟨y,hyy⟩:∃y:NAV,(⟨ms[j],hel⟩:NAV)=y:=⟨_,rfl⟩
   have hy1:ms[j]=y.1:=by rw [←hyy]
   rw [hyy] at hy HRR HM2
   rw [hy1] at c0 c1 c2
   obtain ⟨⟨id,qu,zo,zl,zc⟩,hyn⟩:=y
   simp only at hy c0 c1 c2
   rw [hij]
   have j0:(0:Int)≤j:=by omega
   have j1:(j:Int)<len:=by omega
   clear hR hyy hy1 hij HM hq hjm hel
   gi_wp2
   refine ⟨(by intro e;cases e),?_⟩
   refine (uH HRR).mono ?_
   rintro e W3 (⟨rfl,hJ3,hk3⟩ | ⟨rfl,hJx3⟩)
   ·have HB3:=hide (hk3.cell (uH HB))
    have HG3:=hide ((uH HGr).kpa hk3)
    have HJ3:=hide hJ3
    clear hk3 hJ3 hbox hy HRR c0 c1 c2
    gi_wp2
    go_roundw
    case rel=>exact ⟨j,pre++[((j:Int),⟨⟨id,qu,zo,zl,zc⟩,hyn⟩)],by omega,by go_num,hide (by have:=uH HL;simp;omega),HM2,HJ3,HB3,HG3⟩
    case measure=>simp [intOf]
   ·gi_wp2
    refine bodyPost_ret (results_none rfl _ _ _) rfl ?_
    exact ⟨⟨_,rfl⟩,.inr ⟨_,hJx3⟩⟩
theorem backA_stops (n Bs len cap:Nat) (ao:Option Addr) (ms:List AV) (w:World) (hBs:w.cell? ⟨Bs,0,none⟩=some (.slice ao len cap)) (hrow:AVRow w ao len ms) (hl:len≤1048576) (hN:∀m ∈ ms,(Lit.int .i64 m.id).wf=true) :
  SeqStopsK Fence.wide n Tryz.prog 191 #[.pointer (some ⟨Bs,0,none⟩)] (fun x:Int×NAV=>#[.int .i64 x.1,avv x.2.1]) KpA (fun ys=>Hid (ys.map (fun x:Int×NAV=>x.2.1)=ms.reverse)) (fun _=>True) ms.length w:=by
 intro l J Jx W hW hJ hJx hY h0
 refine (backA_some n l Bs len cap ao ms J Jx hY W ((hW.cell (yG hBs)).trans hBs) (hrow.below hW) hl hN h0).mono ?_
 rintro e W' ⟨he,⟨ys,h1,h2⟩ | ⟨pre,h2⟩⟩
 ·exact ⟨he,.inl ⟨ys,h1,h2⟩⟩
 ·exact ⟨he,.inr ⟨pre,trivial,h2⟩⟩
theorem backA_any (v:Value) (w:World) (hv:v.oneCell'=true) :
  Calls Tryz.prog 179 #[v] w fun e w'=>e=.returned (.func (.func 191) #[] #[.pointer (some ⟨w.heap.size,0,none⟩)])∧w.alloc (.cells #[v] 38)=w':=by
 have hmf:∀(fn:Fn) (first cap:Array Value) (w:World),(Instr.makeFunc fn first cap).run Tryz.prog w=.ok (.func fn first cap) w:=fun _ _ _ _=>rfl
 go_enter Tryz.func179,Tryz.ntmps179
 go_wp2
 go_ret
 exact ⟨rfl,rfl⟩
theorem appKey_any (m:AV) (w:World) :
  Calls Tryz.prog 180 #[avv m] w fun e w'=>e=.returned (.agg #[.string (bs []),.int .i64 m.id])∧Below w.heap.size w w':=by
 obtain ⟨id,qu,zo,zl,zc⟩:=m
 go_enter Tryz.func180,Tryz.ntmps180
 go_wp2
 refine bodyPost_ret (v:=.agg #[.string (bs []),.int .i64 id]) (by simp [results,Tryz.results180,go_sem];rfl) rfl ⟨rfl,?_⟩
 repeat (first | exact yH _ _ | refine yA ?_ _ | refine Below.drew ?_ | refine yC ?_ _ _ _ (by omega))
end
section
open Go.RowKit Go.Maps
def hasB (hs:List AV) (keep:AV→Bool) (q:Con):Bool:=optB (findA q.app hs) keep
theorem ofApp_any (q:Con) (w:World) :
  Calls Tryz.prog 185 #[conv q] w fun e w'=>e=.returned (.agg #[.string (bs []),.int .i64 q.app])∧Below w.heap.size w w':=by
 obtain ⟨id,ap,nd,me,cp⟩:=q
 go_enter Tryz.func185,Tryz.ntmps185
 go_wp2
 refine bodyPost_ret (v:=.agg #[.string (bs []),.int .i64 ap]) (by simp [results,Tryz.results185,go_sem];rfl) rfl ⟨rfl,?_⟩
 repeat (first | exact yH _ _ | refine yA ?_ _ | refine Below.drew ?_ | refine yC ?_ _ _ _ (by omega))
theorem ownsMap_below {w w':World} {k:TypeId} {R:Value→Option (DataW Unit×List MemPlace)} {b n:Nat} {D:DataW Unit} (h:w.ownsMap Tryz.prog k R b n D) (hb:Below w.heap.size w w'):w'.ownsMap Tryz.prog k R b n D:=h.kept (grownBy_below (grownBy_refl w none) hb) (by simp)
theorem has_any (bm n:Nat) (D:DataW Unit) (hs:List AV) (keep:AV→Bool) (q:Con) (w:World) (hown:w.ownsMap Tryz.prog 217 appElem bm n D) (hk:KnownA hs (fun _ v=>keep v) D) (hwf:(Lit.int .i64 q.app).wf=true) :
  Calls Tryz.prog 165 #[.map (some bm),conv q] w fun e w'=>e=.returned (.bool (hasB hs keep q))∧Below w.heap.size w w':=by
 obtain ⟨kl,hkey⟩:=keyKey (nm:=[]) (k:=q.app) (by decide) hwf
 have HL:=hide (fun wx (hb:Below w.heap.size w wx)=>lookA (ownsMap_below hown hb) hk hkey)
 obtain ⟨o,ho⟩:∃o,hasB hs keep q=o:=⟨_,rfl⟩
 have HO:=hide (show optB (findA q.app hs) keep=o from ho)
 rw [ho]
 clear ho hkey hown hk hwf
 have CO:=hide (fun wx=>ofApp_any q wx)
 obtain ⟨id,ap,nd,me,cp⟩:=q
 simp only at HL HO
 have HB0:=hide (yA (yH _ w) (.cells #[.int .i64 id,.int .i64 ap,.string (bs nd),.int .i64 me,.int .i64 cp] 74))
 go_enter Tryz.func165,Tryz.ntmps165
 go_wp2_with fail
 refine (uH CO _).mono ?_
 rintro e w1 ⟨rfl,hb⟩
 have HB1:=hide (yB (uH HB0) hb)
 obtain ⟨v,hlk,_,_⟩:=uH HL _ (uH HB1)
 rw [show optB (findA ap hs) (fun v=>keep v)=o from uH HO] at hlk
 obtain ⟨v1,v2,v3,v4,v5⟩:=v
 clear hb HB0 HL HO
 go_wp2
 go_ret
 refine ⟨rfl,?_⟩
 repeat (first | exact uH HB1 | refine yA ?_ _ | refine Below.drew ?_ | refine yC ?_ _ _ _ (by omega))
def WfSt (s:St):Prop:=(∀a ∈ s.apps,(Lit.int .i64 a.id).wf=true)∧(∀c ∈ s.cs,(Lit.int .i64 c.app).wf=true)
theorem heads_wf {w:World} {hs:List AV} {l:List Appl} (hh:Heads w hs l) (h:∀a ∈ l,(Lit.int .i64 a.id).wf=true):∀v ∈ hs,(Lit.int .i64 v.id).wf=true:=fun v hv=>by
 obtain ⟨i,hi,rfl⟩:=List.mem_iff_getElem.1 hv
 have hi':i<l.length:=by rw [←hh.1];exact hi
 rw [(hh.2 i hi hi').1]
 exact h _ (yM _)
def findAp (id:Int) (l:List Appl):Option Appl:=l.find? (fun a=>decide (a.id=id))
def apFrom (id:Int):List Appl→Nat→Int
 | [],_=>-1
 | q::t,k=>if q.id=id then k else apFrom id t (k+1)
def apAt (l:List Appl) (id:Int):Int:=apFrom id l 0
theorem apFrom_step {id:Int} {l:List Appl} {k:Nat} (h:k<l.length):apFrom id (l.drop k) k=if l[k].id=id then (k:Int) else apFrom id (l.drop (k+1)) (k+1):=by
 rw [List.drop_eq_getElem_cons h,apFrom]
theorem apFrom_end {id:Int} {l:List Appl} {k:Nat} (h:l.length≤k):apFrom id (l.drop k) k = -1:=by
 rw [List.drop_of_length_le h];rfl
theorem apFrom_find (id:Int):∀(l:List Appl) (k:Nat),(findAp id l=none∧apFrom id l k = -1)∨(∃(j:Nat) (h:j<l.length),findAp id l=some l[j]∧apFrom id l k=((k+j:Nat):Int))
 | [],k=>.inl ⟨rfl,rfl⟩
 | q::t,k=>by
  by_cases h:q.id=id
  ·right
   exact ⟨0,by simp,by simp [findAp,h],by rw [apFrom,if_pos h];simp⟩
  ·have hf:findAp id (q::t)=findAp id t:=by simp [findAp,h]
   rw [hf,apFrom,if_neg h]
   rcases apFrom_find id t (k+1) with ⟨a,b⟩ | ⟨j,hj,a,b⟩
   ·exact .inl ⟨a,b⟩
   ·exact .inr ⟨j+1,by simpa using hj,by simpa using a,by rw [b];congr 1;omega⟩
theorem apAt_find (id:Int) (l:List Appl):(findAp id l=none∧apAt l id = -1)∨(∃(j:Nat) (h:j<l.length),findAp id l=some l[j]∧apAt l id=(j:Int)):=by
 rcases apFrom_find id l 0 with h | ⟨j,h,a,b⟩
 ·exact .inl h
 ·exact .inr ⟨j,h,a,by rw [apAt,b];congr 1;omega⟩
theorem heads_find {hs:List AV} {l:List Appl} {id:Int}:hs.length=l.length→(∀i (h:i<hs.length) (h':i<l.length),hs[i].id=l[i].id∧hs[i].queue=l[i].queue)→(findA id hs).map AV.queue=(findAp id l).map Appl.queue:=by
 induction hs generalizing l with
 | nil=>
  intro h _
  have:l=[]:=List.length_eq_zero_iff.1 h.symm
  subst this
  rfl
 | cons v t ih=>
  intro h1 h2
  cases l with
  | nil=>simp at h1
  | cons a r=>
   have h0:=h2 0 (by simp) (by simp)
   simp only [List.getElem_cons_zero] at h0
   by_cases e:a.id=id
   ·have e':v.id=id:=h0.1.trans e
    simp [findA,findAp,e,e',h0.2]
   ·have e':¬v.id=id:=fun x=>e (h0.1.symm.trans x)
    have:=ih (l:=r) (by simpa using h1) (fun i a b=>by have:=h2 (i+1) (by simpa using a) (by simpa using b);simpa using this)
    simpa [findA,findAp,e,e'] using this
theorem l04App_any (x:Sls) (s:St) (id:Int) (w:World) (h:ApplRow w x.aa x.al s.apps) (hl:x.al≤1048576) :
  Calls Tryz.prog 133 #[sv x s,.int .i64 id] w fun e w'=>e=.returned (.int .i64 (apAt s.apps id))∧Below w.heap.size w w':=by
 have HR:=hide h
 have HL:=hide h.1
 have HB0:=hide (yA (yH _ w) (.cells (svc x s) 42))
 have P0:=hide (yD w (svc x s) 42)
 clear h
 obtain ⟨qa,ql,qc,aa,al,ac,ma,ml,mc,ca,cl,cc⟩:=x
 obtain ⟨qs,clock,epoch,next,serial,apps,ms,cs⟩:=s
 simp only at hl HR HL ⊢
 go_enter Tryz.func133,Tryz.ntmps133
 go_wp2
 go_loopw [5] (fun i wr=>∃(k:Nat),k≤al∧i=.int .i64 k∧Hid (apAt apps id=apFrom id (apps.drop k) k)∧Hid (Blk wr w.heap.size (svc ⟨qa,ql,qc,aa,al,ac,ma,ml,mc,ca,cl,cc⟩ ⟨qs,clock,epoch,next,serial,apps,ms,cs⟩) 42)∧Hid (Below w.heap.size w wr)) (fun i _=>al - (intOf i).toNat)
 case atStart=>exact ⟨0,Nat.zero_le _,rfl,hide (by simp [apAt]),P0,HB0⟩
 case round=>
  obtain ⟨k,hk,rfl,HQ,HP,HB⟩:=hrel
  have p5:=(uH HP).at 5
  simp at p5
  by_cases hlt:k<al
  ·obtain ⟨b,off,rfl,hq⟩:=((uH HR).below (uH HB)).at hlt
   have hkl:k<apps.length:=by have:=uH HL;omega
   have hst:=hide (apFrom_step (id:=id) hkl)
   obtain ⟨xo,xl,xc,hxx⟩:=hq hkl
   have c0:=hxx.1
   clear hq hxx
   obtain ⟨s,hs⟩:∃s,apps[k].id=s:=⟨_,rfl⟩
   rw [hs] at c0 hst
   clear hs hkl
   by_cases he:s=id
   ·have HE:=hide he
    have hbe:(s==id)=true:=by simp [he]
    clear he
    go_wp2
    go_ret
    exact ⟨ret_int (by rw [uH HQ,uH hst,if_pos (uH HE)]),uH HB⟩
   ·have HE:=hide he
    have hbe:(s==id)=false:=by simp [he]
    clear he
    go_wp2
    go_roundw
    case rel=>exact ⟨k+1,by omega,by go_num,hide (by rw [uH HQ,uH hst,if_neg (uH HE)]),HP,HB⟩
    case measure=>simp [intOf];omega
  ·go_wp2
   go_ret
   exact ⟨ret_int (by rw [uH HQ,apFrom_end (by have:=uH HL;omega)]),uH HB⟩
end
section
open Go.RowKit
def endM:Nat→List AV→Nat
 | K,[]=>K
 | K,v::t=>endM (K+2+5*v.len) t
def hsM:Nat→List AV→List AV
 | _,[]=>[]
 | K,v::t=>⟨(K:Int),109::dgs (K+1),v.ao,v.len,v.cap⟩::hsM (K+2+5*v.len) t
def AsksM (w:World):Nat→List AV→Prop
 | _,[]=>True
 | K,v::t=>AskRow w v.ao v.len (marksA (K+2) v.len)∧AsksM w (K+2+5*v.len) t
theorem AsksM.below {w w':World} (hb:Below w.heap.size w w'):∀(l:List AV) (K:Nat),AsksM w K l→AsksM w' K l
 | [],_,_=>trivial
 | v::t,K,h=>⟨h.1.below hb,AsksM.below hb t _ h.2⟩
def AVOne (w0:World) (b p:Nat) (q:AV) (w:World):Prop:=AVAt w b p q∧Below w0.heap.size w0 w
theorem AVOne.call {w0 w w':World} {b p:Nat} {q:AV} (h:AVOne w0 b p q w) (hb:Below w.heap.size w w'):AVOne w0 b p q w':=⟨h.1.below hb,yB h.2 hb⟩
theorem AVOne.drew {w0 w:World} {b p:Nat} {q:AV} (h:AVOne w0 b p q w):AVOne w0 b p q w.drew:=h.call (yH _ _).drew
theorem AVOne.read (w0:World) (b p:Nat) (q:AV):∀wx,AVOne w0 b p q wx→wx.cell? ⟨b,p,none⟩=some (.int .i64 q.id)∧wx.cell? ⟨b,p+1,none⟩=some (.string (bs q.queue))∧wx.cell? ⟨b,p+2,none⟩=some (.slice q.ao q.len q.cap):=fun wx h=>h.1
theorem Cel.type {w:World} {t t':TypeId} {g N N':Nat} (h:Cel w t g N) (h':Cel w t' g N'):t=t':=by
 obtain ⟨a,h1,_⟩:=h
 obtain ⟨b,h2,_⟩:=h'
 rw [h1] at h2
 cases h2
 rfl
structure Mks (S:Nat→Prop) (w w':World):Prop where
 os:w'.os=w.os
 tape:w'.tape=w.tape
 output:w'.output=w.output
 size:w.heap.size≤w'.heap.size
 block:∀k,k<w.heap.size→¬S k→w'.heap[k]? = w.heap[k]?
 cel:∀t g N,Cel w t g N→Cel w' t g N
theorem Mks.refl (S:Nat→Prop) (w:World):Mks S w w:=⟨rfl,rfl,rfl,yJ _,fun _ _ _=>rfl,fun _ _ _ h=>h⟩
theorem Mks.trans {S:Nat→Prop} {a b c:World} (h:Mks S a b) (k:Mks S b c):Mks S a c:=
 ⟨k.os.trans h.os,k.tape.trans h.tape,k.output.trans h.output,Nat.le_trans h.size k.size,fun i hi ho=>(k.block i (Nat.lt_of_lt_of_le hi h.size) ho).trans (h.block i hi ho),fun t g N x=>k.cel t g N (h.cel t g N x)⟩
theorem Mks.mono {S S':Nat→Prop} {a b:World} (h:Mks S a b) (hs:∀k,S k→S' k):Mks S' a b:=
 ⟨h.os,h.tape,h.output,h.size,fun i hi ho=>h.block i hi (fun hk=>ho (hs i hk)),h.cel⟩
theorem Mks.of_below {S:Nat→Prop} {w w':World} (hb:Below w.heap.size w w'):Mks S w w':=⟨hb.os,hb.tape,hb.output,hb.size,fun i hi _=>hb.block i hi,fun t g N x=>x.below hb⟩
theorem Mks.on {S:Nat→Prop} {a w w':World} (h:Mks S a w) (hb:Below w.heap.size w w'):Mks S a w':=h.trans (.of_below hb)
theorem Mks.one (S:Nat→Prop) (w:World) (g j:Nat) (v:Value) (hg:S g):Mks S w (w.setCell ⟨g,j,none⟩ v):=
 ⟨rfl,rfl,rfl,by simp [World.setCell],fun k _ ho=>Below.heap_setCell _ _ _ _ (by show k≠g;intro e;exact ho (e ▸ hg)),fun t g' N x=>x.set g j v⟩
theorem Mks.sc {S:Nat→Prop} {a w:World} (h:Mks S a w) (g j:Nat) (v:Value) (hg:S g):Mks S a (w.setCell ⟨g,j,none⟩ v):=h.trans (.one S w g j v hg)
theorem Mkd.mks {g:Nat} {w w':World} (h:Mkd g (g+1) w w'):Mks (fun k=>k=g) w w':=⟨h.os,h.tape,h.output,h.size,fun i hi ho=>h.block i hi (by omega),h.cel⟩
theorem Mks.below {S:Nat→Prop} {B:Nat} {a w:World} (h:Mks S a w) (hS:∀k,S k→B≤k) (hB:B≤a.heap.size):Below B a w:=
 ⟨h.os,h.tape,h.output,h.size,fun k hk=>h.block k (by omega) (fun hs=>by have:=hS k hs;omega)⟩
theorem Mks.blk {S:Nat→Prop} {g:Nat} {a w:World} {arr:Array Value} {t:TypeId} (h:Mks S a w) (hb:Blk a g arr t) (ho:¬S g):Blk w g arr t:=(h.block g hb.lt ho).trans hb
def inR (ao:Option Addr) (n:Nat) (k:Nat):Prop:=n≠0∧∃o,ao=some ⟨k,o,none⟩
def Own1 (B E:Nat) (w:World) (t:TypeId) (sz:Nat) (ao:Option Addr) (n:Nat):Prop:=n=0∨∃g M,ao=some ⟨g,0,none⟩∧B≤g∧g<E∧Cel w t g (M*sz)∧n≤M
theorem own1_of {w:World} {B sz n n' c:Nat} {e:TypeId} {ao:Option Addr} {xs:List Value} (h:w.ownsRow B e sz (.slice ao n c) n' xs):Own1 B w.heap.size w e sz ao c:=by
 rcases h.2 with ⟨h1,_⟩ | ⟨g,cap,cur,h1,h2,h3,_,_,h4,_⟩
 ·cases h1;exact .inl rfl
 ·cases h1;exact .inr ⟨g,c,rfl,h2,lt_of_block h3,⟨cur,h3,h4⟩,yJ _⟩
theorem Own1.below {B E:Nat} {w w':World} {t:TypeId} {sz n:Nat} {ao:Option Addr} (h:Own1 B E w t sz ao n) (hb:Below w.heap.size w w'):Own1 B E w' t sz ao n:=by
 rcases h with h | ⟨g,M,h1,h2,h3,h4,h5⟩
 ·exact .inl h
 ·exact .inr ⟨g,M,h1,h2,h3,h4.below hb,h5⟩
theorem Own1.mks {B E:Nat} {w w':World} {t:TypeId} {sz n:Nat} {ao:Option Addr} {S:Nat→Prop} (h:Own1 B E w t sz ao n) (hb:Mks S w w'):Own1 B E w' t sz ao n:=by
 rcases h with h | ⟨g,M,h1,h2,h3,h4,h5⟩
 ·exact .inl h
 ·exact .inr ⟨g,M,h1,h2,h3,hb.cel _ _ _ h4,h5⟩
theorem Own1.sc {B E:Nat} {w:World} {t:TypeId} {sz n:Nat} {ao:Option Addr} (h:Own1 B E w t sz ao n) (k j:Nat) (v:Value):Own1 B E (w.setCell ⟨k,j,none⟩ v) t sz ao n:=by
 rcases h with h | ⟨g,M,h1,h2,h3,h4,h5⟩
 ·exact .inl h
 ·exact .inr ⟨g,M,h1,h2,h3,h4.set k j v,h5⟩
theorem Own1.mono {B E B' E':Nat} {w:World} {t:TypeId} {sz n:Nat} {ao:Option Addr} (h:Own1 B E w t sz ao n) (h1:B'≤B) (h2:E≤E'):Own1 B' E' w t sz ao n:=by
 rcases h with h | ⟨g,M,a,b,c,d⟩
 ·exact .inl h
 ·exact .inr ⟨g,M,a,by omega,by omega,d⟩
theorem Own1.lies {B E:Nat} {w:World} {t:TypeId} {sz n:Nat} {ao:Option Addr} (h:Own1 B E w t sz ao n):∀k,inR ao n k→B≤k∧k<E∧∃N,Cel w t k N:=by
 rintro k ⟨hn,o,e⟩
 rcases h with h | ⟨g,M,h1,h2,h3,h4,h5⟩
 ·exact absurd h hn
 ·rw [h1] at e
  cases e
  exact ⟨h2,h3,_,h4⟩
theorem Own1.apart {B E B' E':Nat} {w:World} {t t':TypeId} {sz sz' n n':Nat} {ao bo:Option Addr} (h:Own1 B E w t sz ao n) (h':Own1 B' E' w t' sz' bo n') (ht:t≠t'):∀k,inR ao n k→¬inR bo n' k:=fun k hk hk'=>by
 obtain ⟨_,_,N,h1⟩:=h.lies k hk
 obtain ⟨_,_,N',h2⟩:=h'.lies k hk'
 exact ht (h1.type h2)
theorem cellMks {S:Nat→Prop} {w w':World} {g p:Nat} {u:Value} (h:w.cell? ⟨g,p,none⟩=some u) (hm:Mks S w w') (hg:¬S g):w'.cell? ⟨g,p,none⟩=some u:=
 (World.cell?_of_block (w:=w) (a:=⟨g,p,none⟩) (hm.block g (yG h) hg)).trans h
theorem QRow.mks {S:Nat→Prop} {w w':World} {ao:Option Addr} {len:Nat} {l:List Q} (h:QRow w ao len l) (hm:Mks S w w') (hs:∀k,inR ao len k→¬S k):QRow w' ao len l:=by
 obtain ⟨h1,h2⟩:=h
 refine ⟨h1,?_⟩
 rcases h2 with h2 | ⟨b,off,h3,h4⟩
 ·exact .inl h2
 ·by_cases hz:len=0
  ·exact .inl hz
  ·have hb:=hs b ⟨hz,off,h3⟩
   exact .inr ⟨b,off,h3,fun i h=>let ⟨a,c,d,e⟩:=h4 i h;⟨cellMks a hm hb,cellMks c hm hb,cellMks d hm hb,cellMks e hm hb⟩⟩
theorem MacRow.mks {S:Nat→Prop} {w w':World} {ao:Option Addr} {len:Nat} {l:List Mac} (h:MacRow w ao len l) (hm:Mks S w w') (hs:∀k,inR ao len k→¬S k):MacRow w' ao len l:=by
 obtain ⟨h1,h2⟩:=h
 refine ⟨h1,?_⟩
 rcases h2 with h2 | ⟨b,off,h3,h4⟩
 ·exact .inl h2
 ·by_cases hz:len=0
  ·exact .inl hz
  ·have hb:=hs b ⟨hz,off,h3⟩
   exact .inr ⟨b,off,h3,fun i h=>let ⟨a,c,d,e⟩:=h4 i h;⟨cellMks a hm hb,cellMks c hm hb,cellMks d hm hb,cellMks e hm hb⟩⟩
theorem ConRow.mks {S:Nat→Prop} {w w':World} {ao:Option Addr} {len:Nat} {l:List Con} (h:ConRow w ao len l) (hm:Mks S w w') (hs:∀k,inR ao len k→¬S k):ConRow w' ao len l:=by
 obtain ⟨h1,h2⟩:=h
 refine ⟨h1,?_⟩
 rcases h2 with h2 | ⟨b,off,h3,h4⟩
 ·exact .inl h2
 ·by_cases hz:len=0
  ·exact .inl hz
  ·have hb:=hs b ⟨hz,off,h3⟩
   exact .inr ⟨b,off,h3,fun i h=>let ⟨a,c,d,e,f⟩:=h4 i h;⟨cellMks a hm hb,cellMks c hm hb,cellMks d hm hb,cellMks e hm hb,cellMks f hm hb⟩⟩
theorem AskRow.mks {S:Nat→Prop} {w w':World} {ao:Option Addr} {len:Nat} {l:List Ask} (h:AskRow w ao len l) (hm:Mks S w w') (hs:∀k,inR ao len k→¬S k):AskRow w' ao len l:=by
 obtain ⟨h1,h2⟩:=h
 refine ⟨h1,?_⟩
 rcases h2 with h2 | ⟨b,off,h3,h4⟩
 ·exact .inl h2
 ·by_cases hz:len=0
  ·exact .inl hz
  ·have hb:=hs b ⟨hz,off,h3⟩
   exact .inr ⟨b,off,h3,fun i h=>let ⟨a,c,d,e,f⟩:=h4 i h;⟨cellMks a hm hb,cellMks c hm hb,cellMks d hm hb,cellMks e hm hb,cellMks f hm hb⟩⟩
theorem AVRow.mks {S:Nat→Prop} {w w':World} {ao:Option Addr} {len:Nat} {l:List AV} (h:AVRow w ao len l) (hm:Mks S w w') (hs:∀k,inR ao len k→¬S k):AVRow w' ao len l:=by
 obtain ⟨h1,h2⟩:=h
 refine ⟨h1,?_⟩
 rcases h2 with h2 | ⟨b,off,h3,h4⟩
 ·exact .inl h2
 ·by_cases hz:len=0
  ·exact .inl hz
  ·have hb:=hs b ⟨hz,off,h3⟩
   exact .inr ⟨b,off,h3,fun i h=>let ⟨a,c,d⟩:=h4 i h;⟨cellMks a hm hb,cellMks c hm hb,cellMks d hm hb⟩⟩
theorem AsksM.mks {S:Nat→Prop} {w w':World} (hm:Mks S w w'):∀(l:List AV) (K:Nat),AsksM w K l→(∀v ∈ l,∀k,inR v.ao v.len k→¬S k)→AsksM w' K l
 | [],_,_,_=>trivial
 | v::t,K,h,hs=>⟨h.1.mks hm (hs v (by simp)),AsksM.mks hm t _ h.2 (fun u hu=>hs u (by simp [hu]))⟩
def Apart (u v:AV):Prop:=u.len=0∨v.len=0∨u.ao≠v.ao
theorem markContS_zero (ao:Option Addr) (c:Nat) (K:Int) (w:World) :
  Calls Tryz.prog 51 #[.slice ao 0 c,.int .i64 K] w fun e w'=>e=.returned (.int .i64 K)∧w=w':=by
 go_enter Tryz.func51,Tryz.ntmps51
 go_wp2
 go_loopw [1,5] (fun s i wr=>i=.int .i64 0∧s=.int .i64 K∧wr=w) (fun _ _ _=>0)
 case atStart=>exact ⟨rfl,rfl,rfl⟩
 case round=>
  obtain ⟨rfl,rfl,rfl⟩:=hrel
  go_wp2
  go_ret
  exact ⟨rfl,rfl⟩
def AVBlk (w:World) (g M:Nat) (l:List AV):Prop:=Cel w 174 g (M*3)∧l.length≤M∧∀i (h:i<l.length),AVAt w g (i*3) l[i]
theorem AVBlk.below {w w':World} {g M:Nat} {l:List AV} (h:AVBlk w g M l) (hb:Below w.heap.size w w'):AVBlk w' g M l:=⟨h.1.below hb,h.2.1,fun i hi=>(h.2.2 i hi).below hb⟩
theorem AVBlk.mks {S:Nat→Prop} {w w':World} {g M:Nat} {l:List AV} (h:AVBlk w g M l) (hm:Mks S w w') (hs:¬S g):AVBlk w' g M l:=
 ⟨hm.cel _ _ _ h.1,h.2.1,fun i hi=>let ⟨a,b,c⟩:=h.2.2 i hi;⟨cellMks a hm hs,cellMks b hm hs,cellMks c hm hs⟩⟩
theorem AVBlk.id {w:World} {g M i:Nat} {l:List AV} (h:AVBlk w g M l) (hi:i<l.length) (x:Int):AVBlk (w.setCell ⟨g,i*3,none⟩ (.int .i64 x)) g M (l.set i ⟨x,l[i].queue,l[i].ao,l[i].len,l[i].cap⟩):=by
 refine ⟨h.1.set _ _ _,by simpa using h.2.1,fun j hj=>?_⟩
 have hj':j<l.length:=by simpa using hj
 obtain ⟨a,b,c⟩:=h.2.2 j hj'
 by_cases e:i=j
 ·subst e
  simp only [List.getElem_set_self]
  exact ⟨World.cell?_setCell_same _ ⟨g,i*3,none⟩ _ a,cellKeep b (by omega),cellKeep c (by omega)⟩
 ·rw [List.getElem_set_ne e]
  exact ⟨cellKeep a (by omega),cellKeep b (by omega),cellKeep c (by omega)⟩
theorem AVBlk.row {w:World} {g M:Nat} {l:List AV} (h:AVBlk w g M l):AVRow w (some ⟨g,0,none⟩) l.length l:=⟨rfl,.inr ⟨g,0,rfl,fun i hi=>by rw [Nat.zero_add];exact h.2.2 i hi⟩⟩
end
section
open Go.RowKit Go.ChangeShapes
def IBlk (w:World) (t:TypeId) (g n k:Nat) (l:List Int):Prop:=
 ∃arr:Array Value,w.heap[g]? = some (.cells arr t (0,0))∧arr.size=n∧∀i (h:i<l.length),i<k→arr[i]? = some (.int .i64 l[i])
theorem IBlk.lt {w:World} {t:TypeId} {g n k:Nat} {l:List Int} (h:IBlk w t g n k l):g<w.heap.size:=let ⟨_,h,_⟩:=h;lt_of_block h
theorem IBlk.below {w w':World} {t:TypeId} {g n k:Nat} {l:List Int} (h:IBlk w t g n k l) (hb:Below w.heap.size w w'):IBlk w' t g n k l:=by
 have hlt:=h.lt
 obtain ⟨arr,h1,h2⟩:=h
 exact ⟨arr,(hb.block g hlt).trans h1,h2⟩
theorem IBlk.cell {w:World} {t:TypeId} {g n k:Nat} {l:List Int} (h:IBlk w t g n k l) {j:Nat} (hj:j<n):∃v,w.cell? ⟨g,j,none⟩=some v:=by
 obtain ⟨arr,h1,h2,_⟩:=h
 exact ⟨arr[j]'(by omega),by simp [World.cell?,h1,Array.getElem?_eq_getElem (show j<arr.size by omega)]⟩
theorem IBlk.frozen {w:World} {t:TypeId} {g n k:Nat} {l:List Int} (h:IBlk w t g n k l) (j:Nat):w.frozen? ⟨g,j,none⟩=false:=by
 obtain ⟨arr,h1,h2,_⟩:=h
 simp [World.frozen?,h1]
theorem IBlk.row {w:World} {t:TypeId} {g n:Nat} {l:List Int} (h:IBlk w t g n n l) (hl:n=l.length):NRow w (some ⟨g,0,none⟩) n l:=by
 obtain ⟨arr,h1,h2,h3⟩:=h
 refine ⟨hl,.inr ⟨g,0,rfl,fun i hi=>?_⟩⟩
 have a:=h3 i hi (by omega)
 simp only [Nat.zero_add]
 simp [World.cell?,h1,a]
theorem IBlk.step {w:World} {t:TypeId} {g n k:Nat} {l:List Int} (h:IBlk w t g n k l) (hk:k<n) (hl:k<l.length):IBlk (w.setCell ⟨g,k,none⟩ (.int .i64 l[k])) t g n (k+1) l:=by
 obtain ⟨arr,h1,h2,h3⟩:=h
 refine ⟨_,heap_setCell_same w g k _ _ (.int .i64 l[k]) h1,by simp [h2],fun i hi hik=>?_⟩
 by_cases e:i=k
 ·subst e
  simp [Array.getElem?_setIfInBounds,h2]
  omega
 ·have a:=h3 i hi (by omega)
  rw [←a];simp only [Array.getElem?_setIfInBounds];rw [if_neg (by omega)]
theorem IBlk.put {w:World} {t:TypeId} {g n k:Nat} {l:List Int} (h:IBlk w t g n k l) (j:Nat) (v:Value):IBlk (w.setCell ⟨g,j,none⟩ v) t g n 0 l:=by
 obtain ⟨arr,h1,h2,h3⟩:=h
 exact ⟨_,heap_setCell_same w g j _ _ v h1,by simp [h2],fun i hi hik=>absurd hik (by omega)⟩
theorem IBlk.none {w:World} {t:TypeId} {g n k:Nat} {l:List Int} (h:IBlk w t g n k l):IBlk w t g n 0 l:=by
 obtain ⟨arr,h1,h2,h3⟩:=h
 exact ⟨arr,h1,h2,fun i hi hik=>absurd hik (by omega)⟩
theorem IBlk.mks {S:Nat→Prop} {w w':World} {t:TypeId} {g n k:Nat} {l:List Int} (h:IBlk w t g n k l) (hm:Mks S w w') (hg:¬S g):IBlk w' t g n k l:=by
 have hlt:=h.lt
 obtain ⟨arr,h1,h2⟩:=h
 exact ⟨arr,(hm.block g hlt hg).trans h1,h2⟩
theorem IBlk.mkd {B E:Nat} {w w':World} {t:TypeId} {g n k:Nat} {l:List Int} (h:IBlk w t g n k l) (hm:Mkd B E w w') (hg:g<B∨E≤g):IBlk w' t g n k l:=by
 have hlt:=h.lt
 obtain ⟨arr,h1,h2⟩:=h
 exact ⟨arr,(hm.block g hlt hg).trans h1,h2⟩
theorem IBlk.al {w:World} {t:TypeId} {g n k:Nat} {l:List Int} (h:IBlk w t g n k l) (o:Obj):IBlk (w.alloc o) t g n k l:=h.below (yA (yH _ _) o)
def ITwo (w0:World) (b p c r:Nat) (q:Int) (w:World):Prop:=w.cell? ⟨b,p,none⟩=some (.int .i64 q)∧w.cell? ⟨c,r,none⟩=some (.int .i64 q)∧Below w0.heap.size w0 w
theorem ITwo.call {w0 w w':World} {b p c r:Nat} {q:Int} (h:ITwo w0 b p c r q w) (hb:Below w.heap.size w w'):ITwo w0 b p c r q w':=⟨(hb.cell (yG h.1)).trans h.1,(hb.cell (yG h.2.1)).trans h.2.1,yB h.2.2 hb⟩
theorem ITwo.drew {w0 w:World} {b p c r:Nat} {q:Int} (h:ITwo w0 b p c r q w):ITwo w0 b p c r q w.drew:=h.call (yH _ _).drew
theorem ITwo.read (w0:World) (b p c r:Nat) (q:Int):∀wx,ITwo w0 b p c r q wx→wx.cell? ⟨b,p,none⟩=some (.int .i64 q)∧wx.cell? ⟨c,r,none⟩=some (.int .i64 q):=fun wx h=>⟨h.1,h.2.1⟩
theorem eqIntS_big (ao bo:Option Addr) (len cap ccap:Nat) (l:List Int) (w:World) (h:NRow w ao len l) (h':NRow w bo len l) (hl:len≤2000000000000) :
  Calls Tryz.prog 9 #[.slice ao len cap,.slice bo len ccap] w fun e w'=>e=.returned (.bool true)∧Below w.heap.size w w':=by
 have HR:=hide h
 have HR':=hide h'
 have HL:=hide h.1
 clear h h'
 go_enter Tryz.func9,Tryz.ntmps9
 go_wp2
 go_loopw [5] (fun i wr=>∃k:Nat,k≤len∧i=.int .i64 k∧Hid (Below w.heap.size w wr)) (fun i _=>len - (intOf i).toNat)
 case atStart=>exact ⟨0,Nat.zero_le _,rfl,hide (yH _ _)⟩
 case round=>
  obtain ⟨k,hk,rfl,HB⟩:=hrel
  by_cases hlt:k<len
  ·obtain ⟨b,off,rfl,hq⟩:=((uH HR).below (uH HB)).at hlt
   obtain ⟨c,coff,rfl,hq'⟩:=((uH HR').below (uH HB)).at hlt
   have hkl:k<l.length:=by have:=uH HL;omega
   have A0:=hide (show ITwo w b (off+k) c (coff+k) l[k] wr from ⟨hq hkl,hq' hkl,uH HB⟩)
   obtain ⟨q,hs⟩:∃q,l[k]=q:=⟨_,rfl⟩
   rw [hs] at A0
   have R:=ITwo.read w b (off+k) c (coff+k) q
   have k0:(0:Int)≤k:=by omega
   have k1:(k:Int)<len:=by omega
   clear hq hq' hs hkl
   go_wp2_with fail
   go_region_held3 (fun wx=>ITwo w b (off+k) c (coff+k) q wx)
    (first | (with_reducible assumption) | exact (uH A0).drew | exact ITwo.call (by assumption) (by assumption))
    (fail)
   all_goals
    have HB2:=hide (uH A0).drew.2.2
    clear R A0
    go_wp2
    go_roundw
    case rel=>exact ⟨k+1,by omega,by go_num,HB2⟩
    case measure=>simp [intOf];omega
  ·go_wp2
   go_ret
   exact ⟨rfl,uH HB⟩
theorem eqIntS_same (ao bo:Option Addr) (len cap ccap:Nat) (l:List Int) (w:World) (h:NRow w ao len l) (h':NRow w bo len l) (hl:len≤1048576) :
  Calls Tryz.prog 9 #[.slice ao len cap,.slice bo len ccap] w fun e w'=>e=.returned (.bool true)∧Below w.heap.size w w':=eqIntS_big ao bo len cap ccap l w h h' (by omega)
end
section
open Go.RowKit
theorem ConRow.other {w:World} {ao:Option Addr} {len:Nat} {l:List Con} (h:ConRow w ao len l) (g j:Nat) (v:Value) (hg:∀b off,ao=some ⟨b,off,none⟩→b≠g):ConRow (w.setCell ⟨g,j,none⟩ v) ao len l:=by
 obtain ⟨h1,h2⟩:=h
 refine ⟨h1,?_⟩
 rcases h2 with h2 | ⟨b,off,h3,h4⟩
 ·exact .inl h2
 ·have hn:=hg b off h3
  have hc:∀p,(w.setCell ⟨g,j,none⟩ v).cell? ⟨b,p,none⟩=w.cell? ⟨b,p,none⟩:=fun p=>by
   unfold World.cell?;rw [heap_setCell_other w ⟨g,j,none⟩ b v hn]
  refine .inr ⟨b,off,h3,fun i h=>?_⟩
  obtain ⟨a,b,c,d,e⟩:=h4 i h
  exact ⟨by rw [hc];exact a,by rw [hc];exact b,by rw [hc];exact c,by rw [hc];exact d,by rw [hc];exact e⟩
theorem NRow.other {w:World} {ao:Option Addr} {len:Nat} {l:List Int} (h:NRow w ao len l) (g j:Nat) (v:Value) (hg:∀b off,ao=some ⟨b,off,none⟩→b≠g):NRow (w.setCell ⟨g,j,none⟩ v) ao len l:=by
 obtain ⟨h1,h2⟩:=h
 refine ⟨h1,?_⟩
 rcases h2 with h2 | ⟨b,off,h3,h4⟩
 ·exact .inl h2
 ·have hn:=hg b off h3
  refine .inr ⟨b,off,h3,fun i h=>?_⟩
  rw [←h4 i h]
  unfold World.cell?;rw [heap_setCell_other w ⟨g,j,none⟩ b v hn]
theorem conblk_any {w:World} {t:TypeId} {g n k:Nat} {l:List Con} (h:ConBlk w t g n k l):ConBlk w t g n 0 []:=by
 obtain ⟨arr,h1,h2,_⟩:=h
 exact ⟨arr,h1,h2,fun i hi=>absurd hi (by simp)⟩
theorem iblk_other {w:World} {t:TypeId} {g n k:Nat} {l:List Int} (h:IBlk w t g n k l) (b j:Nat) (v:Value) (hn:g≠b):IBlk (w.setCell ⟨b,j,none⟩ v) t g n k l:=by
 obtain ⟨arr,h1,h2⟩:=h
 exact ⟨arr,(heap_setCell_other w ⟨b,j,none⟩ g v hn).trans h1,h2⟩
theorem iblk_cel {w:World} {t:TypeId} {g n k:Nat} {l:List Int} (h:IBlk w t g n k l):Cel w t g n:=by
 obtain ⟨arr,h1,h2,_⟩:=h
 exact ⟨arr,h1,h2⟩
theorem conblk_cel {w:World} {t:TypeId} {g n k:Nat} {l:List Con} (h:ConBlk w t g n k l):Cel w t g (n*5):=by
 obtain ⟨arr,h1,h2,_⟩:=h
 exact ⟨arr,h1,h2⟩
theorem conblk_mks {S:Nat→Prop} {w w':World} {t:TypeId} {g n k:Nat} {l:List Con} (h:ConBlk w t g n k l) (hm:Mks S w w') (hg:¬S g):ConBlk w' t g n k l:=by
 have hlt:=h.lt
 obtain ⟨arr,h1,h2⟩:=h
 exact ⟨arr,(hm.block g hlt hg).trans h1,h2⟩
theorem ns_blk {w:World} {b:Nat} {old:Array Value} {t:TypeId} (h:Blk w b old t) (arr:Array Value):Blk (w.setRow b arr) b arr t:=setRow_heap w b old arr t (0,0) h
theorem ns_mks {w:World} {b:Nat} {old:Array Value} {t:TypeId} (h:Blk w b old t) (arr:Array Value) (hs:arr.size=old.size):Mks (fun k=>k=b) w (w.setRow b arr):=by
 refine ⟨rfl,rfl,rfl,by rw [setRow_size];exact yJ _,fun k _ hk=>setRow_other w b k arr hk,fun t' g N hc=>?_⟩
 by_cases e:g=b
 ·subst e
  obtain ⟨c,h1,h2⟩:=hc
  rw [h] at h1
  cases h1
  exact ⟨arr,ns_blk h arr,by omega⟩
 ·exact hc.of_block (setRow_other w b g arr e)
theorem ns_store {P:Program} {w:World} {b:Nat} {old arr:Array Value} {t:TypeId} (ty:TypeId) (h:Blk w b old t) (hi:(P.info? ty).map (·.size)=some arr.size) (ho:old.size=arr.size) (h1:arr.all (·.oneCell')=true) :
  (Instr.storeAt ty (.pointer (some ⟨b,0,none⟩)) (.agg arr)).run P w=.ok () (w.setRow b arr):=by
 simp only [Instr.storeAt,Instr.sureAddr,Sem.run_bind,Sem.run_pure,Result.andThen]
 exact run_storeVar_row w b t ty old arr h hi ho h1
theorem ns_load {P:Program} {w:World} {b:Nat} {arr:Array Value} {t:TypeId} (ty:TypeId) {d:TypeDesc} (h:Blk w b arr t) (hu:P.underlying ty=some d) (ha:(match d with | .struct _ | .array _ _=>true | _=>false)=true) (hi:(P.info? ty).map (·.size)=some arr.size):(Instr.loadAt ty (.pointer (some ⟨b,0,none⟩))).run P w=.ok (.agg arr) w:=by
 simp only [Instr.loadAt,Instr.sureAddr,Sem.run_bind,Sem.run_pure,Result.andThen]
 exact run_loadVar_row w b t ty arr (0,0) _ h hu ha hi
def CsOwn (w:World) (g:Nat) (ao:Option Addr) (len cap:Nat) (l:List Con):Prop:=ConRow w ao len l∧cap=len∧∃b,ao=some ⟨b,0,none⟩∧g<b∧ConBlk w 74 b len 0 []
theorem CsOwn.below {w w':World} {g:Nat} {ao:Option Addr} {len cap:Nat} {l:List Con} (h:CsOwn w g ao len cap l) (hb:Below w.heap.size w w'):CsOwn w' g ao len cap l:=⟨h.1.below hb,h.2.1,let ⟨b,e,c,d⟩:=h.2.2;⟨b,e,c,d.below hb⟩⟩
theorem CsOwn.put {w:World} {g:Nat} {ao:Option Addr} {len cap:Nat} {l:List Con} (h:CsOwn w g ao len cap l) (j:Nat) (v:Value):CsOwn (w.setCell ⟨g,j,none⟩ v) g ao len cap l:=by
 obtain ⟨h1,h2,b,rfl,h3,h4⟩:=h
 exact ⟨h1.other g j v (fun c off e=>by cases e;omega),h2,b,rfl,h3,ConBlk.other h4 g j v (by omega)⟩
def KlOwn (w:World) (g:Nat) (ao:Option Addr) (len cap:Nat) (l:List Int):Prop:=NRow w ao len l∧cap=len∧∃b,ao=some ⟨b,0,none⟩∧g<b∧IBlk w 3 b len 0 []
theorem KlOwn.below {w w':World} {g:Nat} {ao:Option Addr} {len cap:Nat} {l:List Int} (h:KlOwn w g ao len cap l) (hb:Below w.heap.size w w'):KlOwn w' g ao len cap l:=⟨h.1.below hb,h.2.1,let ⟨b,e,c,d⟩:=h.2.2;⟨b,e,c,d.below hb⟩⟩
theorem KlOwn.put {w:World} {g:Nat} {ao:Option Addr} {len cap:Nat} {l:List Int} (h:KlOwn w g ao len cap l) (j:Nat) (v:Value):KlOwn (w.setCell ⟨g,j,none⟩ v) g ao len cap l:=by
 obtain ⟨h1,h2,b,rfl,h3,h4⟩:=h
 exact ⟨h1.other g j v (fun c off e=>by cases e;omega),h2,b,rfl,h3,iblk_other h4 g j v (by omega)⟩
structure Agt where
 name:List UInt8
 mem:Int
 cpu:Int
 cs:List Con
abbrev agtv (name:List UInt8) (mem:Int) (cpu:Int) (xo:Option Addr) (xl xc:Nat):Value:=.agg #[.string (bs name),.int .i64 mem,.int .i64 cpu,.slice xo xl xc]
def AgtAt (w:World) (b p:Nat) (q:Agt) (xo:Option Addr) (xl xc:Nat):Prop:=
 w.cell? ⟨b,p,none⟩=some (.string (bs q.name))∧w.cell? ⟨b,p+1,none⟩=some (.int .i64 q.mem)∧w.cell? ⟨b,p+2,none⟩=some (.int .i64 q.cpu)∧w.cell? ⟨b,p+3,none⟩=some (.slice xo xl xc)∧ConRow w xo xl q.cs
def AgtRow (w:World) (ao:Option Addr) (len:Nat) (l:List Agt):Prop:=
 len=l.length∧(len=0∨∃b off,ao=some ⟨b,off,none⟩∧∀i (h:i<l.length),∃(xo:Option Addr) (xl xc:Nat),AgtAt w b (off+i*4) l[i] xo xl xc)
theorem AgtAt.lt {w:World} {b p:Nat} {q:Agt} {xo:Option Addr} {xl xc:Nat} (h:AgtAt w b p q xo xl xc):b<w.heap.size:=yG h.1
theorem AgtAt.below {w w':World} {b p:Nat} {q:Agt} {xo:Option Addr} {xl xc:Nat} (h:AgtAt w b p q xo xl xc) (hb:Below w.heap.size w w'):AgtAt w' b p q xo xl xc:=
 ⟨(hb.cell h.lt).trans h.1,(hb.cell h.lt).trans h.2.1,(hb.cell h.lt).trans h.2.2.1,(hb.cell h.lt).trans h.2.2.2.1,h.2.2.2.2.below hb⟩
theorem AgtRow.below {w w':World} {ao:Option Addr} {len:Nat} {l:List Agt} (h:AgtRow w ao len l) (hb:Below w.heap.size w w'):AgtRow w' ao len l:=by
 obtain ⟨h1,h2⟩:=h
 refine ⟨h1,?_⟩
 rcases h2 with h2 | ⟨b,off,h3,h4⟩
 ·exact .inl h2
 ·exact .inr ⟨b,off,h3,fun i h=>let ⟨xo,xl,xc,hh⟩:=h4 i h;⟨xo,xl,xc,hh.below hb⟩⟩
theorem AgtRow.nil (w:World) (ao:Option Addr):AgtRow w ao 0 []:=⟨rfl,.inl rfl⟩
theorem AgtRow.at {w:World} {ao:Option Addr} {len:Nat} {l:List Agt} (h:AgtRow w ao len l) {i:Nat} (hi:i<len):∃b off,ao=some ⟨b,off,none⟩∧∀(h:i<l.length),∃(xo:Option Addr) (xl xc:Nat),AgtAt w b (off+i*4) l[i] xo xl xc:=by
 obtain ⟨h1,h2⟩:=h
 rcases h2 with h2 | ⟨b,off,h3,h4⟩
 ·omega
 ·exact ⟨b,off,h3,fun hi=>h4 i hi⟩
def AgtBlk (w:World) (t:TypeId) (g n k:Nat) (l:List Agt):Prop:=
 ∃arr:Array Value,w.heap[g]? = some (.cells arr t (0,0))∧arr.size=n*4∧∀i (h:i<l.length),i<k→arr[i*4]? = some (.string (bs l[i].name))∧arr[i*4+1]? = some (.int .i64 l[i].mem)∧arr[i*4+2]? = some (.int .i64 l[i].cpu)∧∃(xo:Option Addr) (xl xc:Nat),arr[i*4+3]? = some (.slice xo xl xc)∧CsOwn w g xo xl xc l[i].cs
theorem AgtBlk.lt {w:World} {t:TypeId} {g n k:Nat} {l:List Agt} (h:AgtBlk w t g n k l):g<w.heap.size:=let ⟨_,h,_⟩:=h;lt_of_block h
theorem AgtBlk.below {w w':World} {t:TypeId} {g n k:Nat} {l:List Agt} (h:AgtBlk w t g n k l) (hb:Below w.heap.size w w'):AgtBlk w' t g n k l:=by
 have hlt:=h.lt
 obtain ⟨arr,h1,h2,h3⟩:=h
 exact ⟨arr,(hb.block g hlt).trans h1,h2,fun i h hk=>let ⟨s0,s1,s2,xo,xl,xc,t0,o0⟩:=h3 i h hk;⟨s0,s1,s2,xo,xl,xc,t0,o0.below hb⟩⟩
theorem AgtBlk.cell {w:World} {t:TypeId} {g n k:Nat} {l:List Agt} (h:AgtBlk w t g n k l) {j:Nat} (hj:j<n*4):∃v,w.cell? ⟨g,j,none⟩=some v:=by
 obtain ⟨arr,h1,h2,_⟩:=h
 exact ⟨arr[j]'(by omega),by simp [World.cell?,h1,Array.getElem?_eq_getElem (show j<arr.size by omega)]⟩
theorem AgtBlk.frozen {w:World} {t:TypeId} {g n k:Nat} {l:List Agt} (h:AgtBlk w t g n k l) (j:Nat):w.frozen? ⟨g,j,none⟩=false:=by
 obtain ⟨arr,h1,h2,_⟩:=h
 simp [World.frozen?,h1]
theorem AgtBlk.row {w:World} {t:TypeId} {g n:Nat} {l:List Agt} (h:AgtBlk w t g n n l) (hl:n=l.length):AgtRow w (some ⟨g,0,none⟩) n l:=by
 obtain ⟨arr,h1,h2,h3⟩:=h
 refine ⟨hl,.inr ⟨g,0,rfl,fun i hi=>?_⟩⟩
 obtain ⟨s0,s1,s2,xo,xl,xc,t0,o0⟩:=h3 i hi (by omega)
 refine ⟨xo,xl,xc,?_⟩
 unfold AgtAt
 simp only [Nat.zero_add]
 exact ⟨by simp [World.cell?,h1,s0],by simp [World.cell?,h1,s1],by simp [World.cell?,h1,s2],by simp [World.cell?,h1,t0],o0.1⟩
theorem agtblk_made (w:World) (t:TypeId) (z:Array Value) (n:Nat) (l:List Agt):AgtBlk (w.alloc (.cells (madeCells z (n*4)) t)) t w.heap.size n 0 l:=
 ⟨madeCells z (n*4),by show (w.heap.push _)[w.heap.size]? = _;simp,size_madeCells _ _,fun i _ h=>absurd h (by omega)⟩
def putAgt (w:World) (g p:Nat) (name:List UInt8) (mem:Int) (cpu:Int) (xo:Option Addr) (xl xc:Nat):World:=((((w.setCell ⟨g,p,none⟩ (.string (bs name))).setCell ⟨g,p+1,none⟩ (.int .i64 mem)).setCell ⟨g,p+2,none⟩ (.int .i64 cpu)).setCell ⟨g,p+3,none⟩ (.slice xo xl xc))
theorem AgtBlk.step {w:World} {t:TypeId} {g n k:Nat} {l:List Agt} (h:AgtBlk w t g n k l) (hk:k<n) (hl:k<l.length) (xo:Option Addr) (xl xc:Nat) (ow0:CsOwn w g xo xl xc l[k].cs):AgtBlk (putAgt w g (k*4) l[k].name l[k].mem l[k].cpu xo xl xc) t g n (k+1) l:=by
 obtain ⟨arr,h1,h2,h3⟩:=h
 have e1:=heap_setCell_same w g (k*4) _ _ (.string (bs l[k].name)) h1
 have e2:=heap_setCell_same _ g (k*4+1) _ _ (.int .i64 l[k].mem) e1
 have e3:=heap_setCell_same _ g (k*4+2) _ _ (.int .i64 l[k].cpu) e2
 have e4:=heap_setCell_same _ g (k*4+3) _ _ (.slice xo xl xc) e3
 refine ⟨_,e4,by simp [h2],fun i hi hik=>?_⟩
 by_cases e:i=k
 ·subst e
  have q1:i*4+3<arr.size:=by omega
  refine ⟨?_,?_,?_,xo,xl,xc,?_,((((ow0.put (i*4) (.string (bs l[i].name))).put (i*4+1) (.int .i64 l[i].mem)).put (i*4+2) (.int .i64 l[i].cpu)).put (i*4+3) (.slice xo xl xc))⟩<;>simp [Array.getElem?_setIfInBounds,h2]<;>omega
 ·obtain ⟨s0,s1,s2,z0,z1,z2,t0,o0⟩:=h3 i hi (by omega)
  refine ⟨?_,?_,?_,z0,z1,z2,?_,((((o0.put (k*4) (.string (bs l[k].name))).put (k*4+1) (.int .i64 l[k].mem)).put (k*4+2) (.int .i64 l[k].cpu)).put (k*4+3) (.slice xo xl xc))⟩
  ·rw [←s0];simp only [Array.getElem?_setIfInBounds];repeat rw [if_neg (by omega)]
  ·rw [←s1];simp only [Array.getElem?_setIfInBounds];repeat rw [if_neg (by omega)]
  ·rw [←s2];simp only [Array.getElem?_setIfInBounds];repeat rw [if_neg (by omega)]
  ·rw [←t0];simp only [Array.getElem?_setIfInBounds];repeat rw [if_neg (by omega)]
def AgtBig (q:Agt):Prop:=q.name.length≤9223372036854775807∧q.cs.length≤9223372036854775807∧∀a ∈ q.cs,a.node.length≤9223372036854775807
def FitAgt1 (q:Agt):Prop:=q.name.length≤1048576∧FitCon q.cs
def FitAgt (l:List Agt):Prop:=l.length≤1048576∧∀q ∈ l,FitAgt1 q
theorem szAgent_any (name:List UInt8) (mem cpu:Int) (ao:Option Addr) (len cap:Nat) (l:List Con) (a:Int) (w:World) (h:ConRow w ao len l) (ha0:0≤a) (ha1:a≤1048576) (hn:AgtBig ⟨name,mem,cpu,l⟩) :
  Calls Tryz.prog 38 #[agtv name mem cpu ao len cap,.int .i64 a] w fun e w'=>∃r:Int,e=.returned (.int .i64 r)∧(r = -1∨(0≤r∧r≤a∧FitAgt1 ⟨name,mem,cpu,l⟩))∧Below w.heap.size w w':=by
 have z1:=bs_size name
 obtain ⟨hn1,hn2,hn3⟩:=hn
 simp only at hn1 hn2 hn3
 have hlen:len≤9223372036854775807:=by have:=h.1;omega
 have HB0:=hide (yA (yH _ w) (.cells #[.string (bs name),.int .i64 mem,.int .i64 cpu,.slice ao len cap] 89))
 have HR:=hide h
 have H3:=hide hn3
 clear h hn3 hn2
 by_cases h1:a - name.length<0
 ·go_enter Tryz.func38,Tryz.ntmps38
  go_wp2
  go_ret
  exact ⟨-1,rfl,.inl rfl,uH HB0⟩
 ·have C:=hide (szContS_any ao len cap l (a - name.length) _ ((uH HR).below (uH HB0)) hlen (uH H3) (by omega) (by omega))
  go_enter Tryz.func38,Tryz.ntmps38
  go_wp2_with fail
  refine (uH C).mono ?_
  rintro e w1 ⟨r,rfl,hr,hb⟩
  have HB1:=hide (yB (uH HB0) hb)
  clear hb C
  rcases hr with rfl | ⟨hr0,hr1,hf⟩
  ·go_wp2
   go_ret
   exact ⟨-1,rfl,.inl rfl,uH HB1⟩
  ·have HF:=hide hf
   clear hf
   go_wp2
   go_ret
   exact ⟨r,rfl,.inr ⟨hr0,by omega,by show name.length≤1048576;omega,uH HF⟩,uH HB1⟩
theorem szAgentS_any (ao:Option Addr) (len cap:Nat) (l:List Agt) (a0:Int) (w:World) (h:AgtRow w ao len l) (hlen:len≤9223372036854775807) (hm:∀q ∈ l,AgtBig q) (hA0:0≤a0) (hA1:a0≤1048576) :
  Calls Tryz.prog 15 #[.slice ao len cap,.int .i64 a0] w fun e w'=>∃r:Int,e=.returned (.int .i64 r)∧(r = -1∨(0≤r∧r≤a0∧FitAgt l))∧Below w.heap.size w w':=by
 have HR:=hide h
 have HL:=hide h.1
 have HM:=hide hm
 clear h hm
 by_cases hbig:(len:Int)≤a0
 ·have hb1:¬(a0:Int) - len<0:=by omega
  go_enter Tryz.func15,Tryz.ntmps15
  go_wp2
  go_loopw [1,5] (fun s i wr=>∃(k:Nat) (a:Int),k≤len∧i=.int .i64 k∧s=.int .i64 a∧0≤a∧a≤a0∧Hid (∀q ∈ l.take k,FitAgt1 q)∧Hid (Below w.heap.size w wr)) (fun _ i _=>len - (intOf i).toNat)
  case atStart=>exact ⟨0,a0 - len,Nat.zero_le _,rfl,rfl,by omega,by omega,hide (by simp),hide (yH _ _)⟩
  case round=>
   obtain ⟨k,a,hk,rfl,rfl,ha0,ha1,HP,HB⟩:=hrel
   by_cases hlt:k<len
   ·obtain ⟨b,off,rfl,hq⟩:=((uH HR).below (uH HB)).at hlt
    have hkl:k<l.length:=by have:=uH HL;omega
    obtain ⟨xo,xl,xc,c0,c1,c2,c3,hrow⟩:=hq hkl
    have n1:=uH HM l[k] (yM _)
    have htk:=List.take_succ_eq_append_getElem hkl
    obtain ⟨q,hs⟩:∃q,l[k]=q:=⟨_,rfl⟩
    rw [hs] at c0 c1 c2 n1 htk hrow
    obtain ⟨name,mem,cpu,cs⟩:=q
    simp only at c0 c1 c2 hrow
    have HTK:=hide htk
    have C:=hide (szAgent_any name mem cpu xo xl xc cs a wr hrow ha0 (by omega) n1)
    clear hq hs hkl htk n1 hrow
    go_wp2_with fail
    refine (uH C).mono ?_
    rintro e w1 ⟨r,rfl,hr,hb⟩
    have HB1:=hide (yB (uH HB) hb)
    clear hb C c0 c1 c2 c3
    rcases hr with rfl | ⟨r0,r1,r2⟩
    ·go_wp2
     go_ret
     exact ⟨-1,rfl,.inl rfl,uH HB1⟩
    ·have HN:=hide (show ∀q ∈ l.take (k+1),FitAgt1 q by
      rw [uH HTK]
      intro x hx
      rcases List.mem_append.1 hx with hx | hx
      ·exact uH HP x hx
      ·rw [List.mem_singleton.1 hx];exact r2)
     clear r2 HP HTK
     go_wp2
     go_roundw
     case rel=>exact ⟨k+1,r,by omega,by go_num,rfl,by omega,by omega,HN,HB1⟩
     case measure=>simp [intOf];omega
   ·have HF:=hide (show FitAgt l from ⟨by have:=uH HL;omega,fun q hq=>uH HP q (by rw [List.take_of_length_le (by have:=uH HL;omega)];exact hq)⟩)
    go_wp2
    go_ret
    exact ⟨a,rfl,.inr ⟨ha0,ha1,uH HF⟩,uH HB⟩
 ·have hb1:(a0:Int) - len<0:=by omega
  go_enter Tryz.func15,Tryz.ntmps15
  go_wp2
  go_ret
  exact ⟨-1,rfl,.inl rfl,yH _ _⟩
structure AH where
 name:List UInt8
 mem:Int
 cpu:Int
 ao:Option Addr
 len:Nat
 cap:Nat
def AHAt (w:World) (b p:Nat) (v:AH):Prop:=
 w.cell? ⟨b,p,none⟩=some (.string (bs v.name))∧w.cell? ⟨b,p+1,none⟩=some (.int .i64 v.mem)∧w.cell? ⟨b,p+2,none⟩=some (.int .i64 v.cpu)∧w.cell? ⟨b,p+3,none⟩=some (.slice v.ao v.len v.cap)
theorem AHAt.lt {w:World} {b p:Nat} {v:AH} (h:AHAt w b p v):b<w.heap.size:=yG h.1
theorem AHAt.below {w w':World} {b p:Nat} {v:AH} (h:AHAt w b p v) (hb:Below w.heap.size w w'):AHAt w' b p v:=
 ⟨(hb.cell h.lt).trans h.1,(hb.cell h.lt).trans h.2.1,(hb.cell h.lt).trans h.2.2.1,(hb.cell h.lt).trans h.2.2.2⟩
def AHRow (w:World) (ao:Option Addr) (len:Nat) (l:List AH):Prop:=
 len=l.length∧(len=0∨∃b off,ao=some ⟨b,off,none⟩∧∀i (h:i<l.length),AHAt w b (off+i*4) l[i])
theorem AHRow.below {w w':World} {ao:Option Addr} {len:Nat} {l:List AH} (h:AHRow w ao len l) (hb:Below w.heap.size w w'):AHRow w' ao len l:=by
 obtain ⟨h1,h2⟩:=h
 refine ⟨h1,?_⟩
 rcases h2 with h2 | ⟨b,off,h3,h4⟩
 ·exact .inl h2
 ·exact .inr ⟨b,off,h3,fun i h=>(h4 i h).below hb⟩
theorem AHRow.at {w:World} {ao:Option Addr} {len:Nat} {l:List AH} (h:AHRow w ao len l) {i:Nat} (hi:i<len):∃b off,ao=some ⟨b,off,none⟩∧∀(h:i<l.length),AHAt w b (off+i*4) l[i]:=by
 obtain ⟨h1,h2⟩:=h
 rcases h2 with h2 | ⟨b,off,h3,h4⟩
 ·omega
 ·exact ⟨b,off,h3,fun hi=>h4 i hi⟩
def Thin (hs:List AH) (l:List Agt):Prop:=
 hs.length=l.length∧∀i (h:i<hs.length) (h':i<l.length),hs[i].name=l[i].name∧hs[i].mem=l[i].mem∧hs[i].cpu=l[i].cpu∧hs[i].len=0∧l[i].cs=[]
theorem Thin.nil:Thin [] []:=⟨rfl,fun i h=>absurd h (by simp)⟩
theorem AgtRow.thin {w:World} {ao:Option Addr} {len:Nat} {l:List Agt} (h:AgtRow w ao len l) (hc:∀q ∈ l,q.cs=[]):∃hs,AHRow w ao len hs∧Thin hs l:=by
 obtain ⟨h1,h2⟩:=h
 rcases h2 with h2 | ⟨b,off,h3,h4⟩
 ·have:l=[]:=List.eq_nil_of_length_eq_zero (by omega)
  subst this
  exact ⟨[],⟨by simpa using h1,.inl h2⟩,Thin.nil⟩
 ·have hx:∀i:Fin l.length,∃v:AH,AHAt w b (off+i.1*4) v∧v.name=l[i.1].name∧v.mem=l[i.1].mem∧v.cpu=l[i.1].cpu∧v.len=0:=fun i=>by
   obtain ⟨xo,xl,xc,a0,a1,a2,a3,a4⟩:=h4 i.1 i.2
   have e:=hc _ (yM i.2)
   have e2:=a4.1
   rw [e] at e2
   exact ⟨⟨_,_,_,xo,xl,xc⟩,⟨a0,a1,a2,a3⟩,rfl,rfl,rfl,e2⟩
  obtain ⟨f,hf⟩:=Classical.axiomOfChoice hx
  refine ⟨List.ofFn f,⟨by simpa using h1,.inr ⟨b,off,h3,fun i hi=>?_⟩⟩,by simp,fun i hi hi'=>?_⟩
  ·have:=(hf ⟨i,by simpa using hi⟩).1
   simpa using this
  ·have:=(hf ⟨i,hi'⟩).2
   simpa using ⟨this.1,this.2.1,this.2.2.1,this.2.2.2,hc _ (yM hi')⟩
theorem Thin.row {w:World} {ao:Option Addr} {len:Nat} {hs:List AH} {l:List Agt} (h:Thin hs l) (hr:AHRow w ao len hs):AgtRow w ao len l:=by
 obtain ⟨h1,h2⟩:=hr
 refine ⟨by rw [h1,h.1],?_⟩
 rcases h2 with h2 | ⟨b,off,h3,h4⟩
 ·exact .inl h2
 ·refine .inr ⟨b,off,h3,fun i hi=>?_⟩
  have hi':i<hs.length:=by rw [h.1];exact hi
  obtain ⟨e0,e1,e2,e3,e4⟩:=h.2 i hi' hi
  obtain ⟨a0,a1,a2,a3⟩:=h4 i hi'
  rw [e0] at a0
  rw [e1] at a1
  rw [e2] at a2
  rw [e3] at a3
  exact ⟨_,_,_,a0,a1,a2,a3,by rw [e4];exact ⟨rfl,.inl rfl⟩⟩
def AHBlk (w:World) (g M:Nat) (l:List AH):Prop:=Cel w 71 g (M*4)∧l.length≤M∧∀i (h:i<l.length),AHAt w g (i*4) l[i]
theorem AHBlk.below {w w':World} {g M:Nat} {l:List AH} (h:AHBlk w g M l) (hb:Below w.heap.size w w'):AHBlk w' g M l:=⟨h.1.below hb,h.2.1,fun i hi=>(h.2.2 i hi).below hb⟩
theorem AHBlk.conts {w:World} {g M i:Nat} {l:List AH} (h:AHBlk w g M l) (hi:i<l.length) (ao:Option Addr) (len cap:Nat):AHBlk (w.setCell ⟨g,i*4+3,none⟩ (.slice ao len cap)) g M (l.set i ⟨l[i].name,l[i].mem,l[i].cpu,ao,len,cap⟩):=by
 refine ⟨h.1.set _ _ _,by simpa using h.2.1,fun j hj=>?_⟩
 have hj':j<l.length:=by simpa using hj
 obtain ⟨a,b,c,d⟩:=h.2.2 j hj'
 by_cases e:i=j
 ·subst e
  simp only [List.getElem_set_self]
  exact ⟨cellKeep a (by omega),cellKeep b (by omega),cellKeep c (by omega),World.cell?_setCell_same _ ⟨g,i*4+3,none⟩ _ d⟩
 ·rw [List.getElem_set_ne e]
  exact ⟨cellKeep a (by omega),cellKeep b (by omega),cellKeep c (by omega),cellKeep d (by omega)⟩
theorem Thin.set {hs:List AH} {l:List Agt} (h:Thin hs l) {k:Nat} (hk:k<hs.length) (ao:Option Addr) (cap:Nat):Thin (hs.set k ⟨hs[k].name,hs[k].mem,hs[k].cpu,ao,0,cap⟩) l:=by
 refine ⟨by simpa using h.1,fun i hi hi'=>?_⟩
 have hi2:i<hs.length:=by simpa using hi
 obtain ⟨e0,e1,e2,e3,e4⟩:=h.2 i hi2 hi'
 by_cases e:k=i
 ·subst e
  simp only [List.getElem_set_self]
  exact ⟨e0,e1,e2,trivial,e4⟩
 ·simp only [List.getElem_set_ne e]
  exact ⟨e0,e1,e2,e3,e4⟩
def GHas (B:Nat) (w:World) (ao:Option Addr) (n cap:Nat) (hs:List AH):Prop:=AHRow w ao n hs∧n≤cap∧(n=0∨∃g,ao=some ⟨g,0,none⟩∧B≤g∧AHBlk w g cap hs)
theorem GHas.nil (B:Nat) (w:World):GHas B w none 0 0 []:=⟨⟨rfl,.inl rfl⟩,yJ _,.inl rfl⟩
theorem GHas.below {B:Nat} {w w':World} {ao:Option Addr} {n cap:Nat} {hs:List AH} (h:GHas B w ao n cap hs) (hb:Below w.heap.size w w'):GHas B w' ao n cap hs:=
 ⟨h.1.below hb,h.2.1,h.2.2.elim .inl fun ⟨g,a,b,c⟩=>.inr ⟨g,a,b,c.below hb⟩⟩
theorem GHas.base {B B':Nat} {w:World} {ao:Option Addr} {n cap:Nat} {hs:List AH} (h:GHas B w ao n cap hs) (hb:B'≤B):GHas B' w ao n cap hs:=
 ⟨h.1,h.2.1,h.2.2.elim .inl fun ⟨g,a,b,c⟩=>.inr ⟨g,a,Nat.le_trans hb b,c⟩⟩
theorem AHBlk.has {B w g M n} {l:List AH} (h:AHBlk w g M l) (hB:B≤g) (hn:n=l.length):GHas B w (some ⟨g,0,none⟩) n M l:=
 ⟨⟨hn,.inr ⟨g,0,rfl,fun i hi=>by rw [Nat.zero_add];exact h.2.2 i hi⟩⟩,by have:=h.2.1;omega,.inr ⟨g,rfl,hB,h⟩⟩
structure SCap (x:Sls):Prop where
 q:x.ql≤x.qc
 a:x.al≤x.ac
 m:x.ml≤x.mc
 c:x.cl≤x.cc
def RmS (B E:Nat) (w:World) (x:Sls) (hs:List AV):Prop:=Own1 B E w 95 4 x.qa x.qc∧Own1 B E w 174 3 x.aa x.ac∧Own1 B E w 177 4 x.ma x.mc∧Own1 B E w 74 5 x.ca x.cc∧∀v ∈ hs,Own1 B E w 198 5 v.ao v.cap
theorem RmS.map {B E B' E':Nat} {w w':World} {x:Sls} {hs:List AV} (h:RmS B E w x hs) (f:∀{t:TypeId} {sz n:Nat} {ao:Option Addr},Own1 B E w t sz ao n→Own1 B' E' w' t sz ao n):RmS B' E' w' x hs:=⟨f h.1,f h.2.1,f h.2.2.1,f h.2.2.2.1,fun v hv=>f (h.2.2.2.2 v hv)⟩
theorem RmS.below {B E:Nat} {w w':World} {x:Sls} {hs:List AV} (h:RmS B E w x hs) (hb:Below w.heap.size w w'):RmS B E w' x hs:=h.map (fun k=>k.below hb)
theorem RmS.mono {B E B' E':Nat} {w:World} {x:Sls} {hs:List AV} (h:RmS B E w x hs) (h1:B'≤B) (h2:E≤E'):RmS B' E' w x hs:=h.map (fun k=>k.mono h1 h2)
theorem RmS.mks {B E:Nat} {S:Nat→Prop} {w w':World} {x:Sls} {hs:List AV} (h:RmS B E w x hs) (hm:Mks S w w'):RmS B E w' x hs:=h.map (fun k=>k.mks hm)
theorem RmS.sc {B E:Nat} {w:World} {x:Sls} {hs:List AV} (h:RmS B E w x hs) (k j:Nat) (v:Value):RmS B E (w.setCell ⟨k,j,none⟩ v) x hs:=h.map (fun o=>o.sc k j v)
structure SAns (B E:Nat) (w:World) (x:Sls) (s:St) (hs:List AV):Prop where
 row:SRow w x s
 q:Own1 B E w 95 4 x.qa x.ql
 a:Own1 B E w 174 3 x.aa x.al
 m:Own1 B E w 177 4 x.ma x.ml
 c:Own1 B E w 74 5 x.ca x.cl
 av:AVRow w x.aa x.al hs
 heads:Heads w hs s.apps
 asks:∀v ∈ hs,Own1 B E w 198 5 v.ao v.len
 apart:hs.Pairwise Apart
 cap:SCap x
 rm:RmS B E w x hs
theorem Heads.below {w w':World} {hs:List AV} {l:List Appl} (h:Heads w hs l) (hb:Below w.heap.size w w'):Heads w' hs l:=⟨h.1,fun i h1 h2=>let ⟨a,b,c,d⟩:=h.2 i h1 h2;⟨a,b,c.below hb,d⟩⟩
theorem SAns.below {B E:Nat} {w w':World} {x:Sls} {s:St} {hs:List AV} (h:SAns B E w x s hs) (hb:Below w.heap.size w w'):SAns B E w' x s hs:=
 ⟨h.row.below hb,h.q.below hb,h.a.below hb,h.m.below hb,h.c.below hb,h.av.below hb,h.heads.below hb,fun v hv=>(h.asks v hv).below hb,h.apart,h.cap,h.rm.below hb⟩
theorem SAns.mono {B E B' E':Nat} {w:World} {x:Sls} {s:St} {hs:List AV} (h:SAns B E w x s hs) (h1:B'≤B) (h2:E≤E'):SAns B' E' w x s hs:=
 ⟨h.row,h.q.mono h1 h2,h.a.mono h1 h2,h.m.mono h1 h2,h.c.mono h1 h2,h.av,h.heads,fun v hv=>(h.asks v hv).mono h1 h2,h.apart,h.cap,h.rm.mono h1 h2⟩
theorem SAns.mks {B E:Nat} {S:Nat→Prop} {w w':World} {x:Sls} {s:St} {hs:List AV} (h:SAns B E w x s hs) (hm:Mks S w w') (hS:∀k,S k→k<B∨E≤k):SAns B E w' x s hs:=by
 have key:∀{t:TypeId} {sz n:Nat} {ao:Option Addr},Own1 B E w t sz ao n→∀k,inR ao n k→¬S k:=fun ho k hk hs=>by
  obtain ⟨h1,h2,_⟩:=ho.lies k hk
  have:=hS k hs
  omega
 have hrow:Heads w' hs s.apps:=⟨h.heads.1,fun i h1 h2=>by
  obtain ⟨a,b,c,d⟩:=h.heads.2 i h1 h2
  exact ⟨a,b,c.mks hm (key (h.asks _ (yM h1))),d⟩⟩
 have hav:=h.av.mks hm (key h.a)
 refine ⟨⟨h.row.1.mks hm (key h.q),?_,h.row.2.2.1.mks hm (key h.m),h.row.2.2.2.mks hm (key h.c)⟩,h.q.mks hm,h.a.mks hm,h.m.mks hm,h.c.mks hm,hav,hrow,fun v hv=>(h.asks v hv).mks hm,h.apart,h.cap,h.rm.mks hm⟩
 refine ⟨h.row.2.1.1,?_⟩
 rcases hav.2 with e | ⟨b,off,e,hh⟩
 ·exact .inl e
 ·refine .inr ⟨b,off,e,fun i hi=>?_⟩
  have hi':i<hs.length:=by rw [h.heads.1];exact hi
  obtain ⟨a1,a2,a3,a4⟩:=hrow.2 i hi' hi
  obtain ⟨c1,c2,c3⟩:=hh i hi'
  rw [a1] at c1
  rw [a2] at c2
  exact ⟨hs[i].ao,hs[i].len,hs[i].cap,c1,c2,c3,a3,a4⟩
structure SMk (w:World) (x:Sls) (hs:List AV):Prop where
 q:QRow w x.qa x.ql (marksQ x.ql)
 a:AVRow w x.aa x.al (hsM (1+4*x.ql) hs)
 k:AsksM w (1+4*x.ql) hs
 m:MacRow w x.ma x.ml (marksM (endM (1+4*x.ql) hs) x.ml)
 c:ConRow w x.ca x.cl (marksC (endM (1+4*x.ql) hs+4*x.ml) x.cl)
 z:x.ql=0∨∃g,x.qa=some ⟨g,0,none⟩
theorem SMk.below {w w':World} {x:Sls} {hs:List AV} (h:SMk w x hs) (hb:Below w.heap.size w w'):SMk w' x hs:=⟨h.q.below hb,h.a.below hb,AsksM.below hb _ _ h.k,h.m.below hb,h.c.below hb,h.z⟩
abbrev pcell (q:AV):List Value:=[.int .i64 q.id,.string (bs q.queue),.slice q.ao q.len q.cap]
def pcells:List AV→List Value
 | []=>[]
 | q::t=>pcell q++pcells t
theorem pcells_app (a:List AV) (q:AV):pcells (a++[q])=pcells a++pcell q:=by
 induction a with
 | nil=>rfl
 | cons x t ih=>rw [List.cons_append,pcells,pcells,ih,List.append_assoc]
theorem pcells_at:∀(l:List AV) (i:Nat) (h:i<l.length),(pcells l)[i*3]? = some (.int .i64 l[i].id)∧(pcells l)[i*3+1]? = some (.string (bs l[i].queue))∧(pcells l)[i*3+2]? = some (.slice l[i].ao l[i].len l[i].cap)
 | q::t,0,_=>⟨rfl,rfl,rfl⟩
 | q::t,i+1,h=>by
  have e:=pcells_at t i (by simpa using h)
  have k:∀j,(pcells (q::t))[(i+1)*3+j]? = (pcells t)[i*3+j]?:=fun j=>by
   rw [pcells,show (i+1)*3+j=(pcell q).length+(i*3+j) by simp;omega,List.getElem?_append_right (by omega)]
   congr 1
   omega
  have k0:=k 0
  simp only [Nat.add_zero] at k0
  rw [k0,k 1,k 2]
  simpa using e
def POwn (B:Nat) (w:World) (v:Value) (l:List AV):Prop:=w.ownsRow B 174 3 v l.length (pcells l)
theorem pown_empty (w:World):w.alloc (.cells #[] 174) |>.ownsRow w.heap.size 174 3 (.slice (some ⟨w.heap.size,0,none⟩) 0 0) 0 []:=
 ⟨rfl,.inr ⟨w.heap.size,0,#[],rfl,yJ _,by show (w.heap.push _)[w.heap.size]? = _;simp,yJ _,by unfold maxLen;omega,rfl,rfl⟩⟩
theorem pown_below {w w':World} {B:Nat} {v:Value} {l:List AV} (h:POwn B w v l) (hb:Below w.heap.size w w'):POwn B w' v l:=
 World.ownsRow.kept h (grownBy_below (grownBy_refl w none) hb) (by by_cases e:v.ownBlock=none;exact .inl e;exact .inr e)
theorem pown_base {w:World} {B B':Nat} {v:Value} {l:List AV} (h:POwn B w v l) (hb:B'≤B):POwn B' w v l:=by
 obtain ⟨h1,h2⟩:=h
 refine ⟨h1,?_⟩
 rcases h2 with h2 | ⟨g,cap,cur,a,b,c⟩
 ·exact .inl h2
 ·exact .inr ⟨g,cap,cur,a,Nat.le_trans hb b,c⟩
theorem pown_row {w:World} {B:Nat} {v:Value} {l:List AV} (h:POwn B w v l):∃ao cap,v=.slice ao l.length cap∧AVRow w ao l.length l∧l.length≤cap∧(l≠[]→∃g cur,ao=some ⟨g,0,none⟩∧B≤g∧w.heap[g]? = some (.cells cur 174 (0,0))∧cur.size=cap*3):=by
 rcases h.2 with ⟨rfl,h0⟩ | ⟨g,cap,cur,rfl,h1,h2,h3,h4,h5,h6⟩
 ·exact ⟨none,0,by rw [h0],⟨rfl,.inl h0⟩,by omega,fun hn=>absurd (List.length_eq_zero_iff.1 h0) hn⟩
 ·refine ⟨some ⟨g,0,none⟩,cap,rfl,⟨rfl,.inr ⟨g,0,rfl,fun i hi=>?_⟩⟩,h3,fun _=>⟨g,cur,rfl,h1,h2,h5⟩⟩
  obtain ⟨a,b,c⟩:=pcells_at l i hi
  have k:∀j (v:Value),j<l.length*3→(pcells l)[j]? = some v→w.cell? ⟨g,j,none⟩=some v:=fun j v hj hv=>by
   rw [←h6,List.getElem?_take_of_lt hj] at hv
   simp [World.cell?,h2]
   simpa using hv
  unfold AVAt
  rw [Nat.zero_add]
  exact ⟨k _ _ (by omega) a,k _ _ (by omega) b,k _ _ (by omega) c⟩
theorem pown_other {w:World} {B:Nat} {v:Value} {l:List AV} (h:POwn B w v l) (k j:Nat) (x:Value) (hk:k<B):POwn B (w.setCell ⟨k,j,none⟩ x) v l:=by
 obtain ⟨h1,h2⟩:=h
 refine ⟨h1,?_⟩
 rcases h2 with h2 | ⟨g,cap,cur,a,b,c,d⟩
 ·exact .inl h2
 ·exact .inr ⟨g,cap,cur,a,b,(heap_setCell_other w ⟨k,j,none⟩ g x (show g≠k by omega)).trans c,d⟩
theorem Tryz.infoApp:(Tryz.prog.info? 174).map (fun i=>(i.zero,i.size,i.bytes))=some (some (.agg #[.int .i64 0,.string ByteArray.empty,.slice none 0 0]),3,48):=by kernel_rfl
theorem Own1.grow {B E:Nat} {w w':World} {t:TypeId} {sz n:Nat} {ao:Option Addr} (h:Own1 B E w t sz ao n) (hb:Below w.heap.size w w') (hE:E≤w.heap.size):Own1 B w'.heap.size w' t sz ao n:=(h.below hb).mono (yJ _) (Nat.le_trans hE hb.size)
theorem not_in {B E k:Nat} {w:World} {t:TypeId} {sz n:Nat} {ao:Option Addr} (h:Own1 B E w t sz ao n) (hk:k<B∨E≤k):∀i,inR ao n i→¬(i=k):=fun i hi e=>by
 obtain ⟨h1,h2,_⟩:=h.lies i hi
 omega
def QHas (B:Nat) (w:World) (ao:Option Addr) (n:Nat) (l:List Q):Prop:=QRow w ao n l∧Own1 B w.heap.size w 95 4 ao n
theorem QHas.below {B n:Nat} {w w':World} {ao:Option Addr} {l:List Q} (h:QHas B w ao n l) (hb:Below w.heap.size w w'):QHas B w' ao n l:=⟨h.1.below hb,h.2.grow hb (yJ _)⟩
theorem QHas.sc {B n k j:Nat} {v:Value} {w:World} {ao:Option Addr} {l:List Q} (h:QHas B w ao n l) (hk:k<B):QHas B (w.setCell ⟨k,j,none⟩ v) ao n l:=
 ⟨h.1.mks (Mks.one (fun x=>x=k) w k j v rfl) (not_in h.2 (.inl hk)),by rw [set_size];exact h.2.mks (Mks.one (fun x=>x=k) w k j v rfl)⟩
theorem QOwn.has {B:Nat} {w:World} {v:Value} {l:List Q} (h:QOwn B w v l):∃ao cap,v=.slice ao l.length cap∧l.length≤cap∧QHas B w ao l.length l:=by
 obtain ⟨ao,cap,e,hr,hc,hg⟩:=qown_rowx h
 refine ⟨ao,cap,e,hc,hr,?_⟩
 by_cases hz:l=[]
 ·exact .inl (by rw [hz];rfl)
 ·obtain ⟨g,cur,e,h1,h2,h3⟩:=hg hz
  exact .inr ⟨g,cap,e,h1,lt_of_block h2,⟨cur,h2,h3⟩,hc⟩
def MHas (B:Nat) (w:World) (ao:Option Addr) (n:Nat) (l:List Mac):Prop:=MacRow w ao n l∧Own1 B w.heap.size w 177 4 ao n
theorem MHas.below {B n:Nat} {w w':World} {ao:Option Addr} {l:List Mac} (h:MHas B w ao n l) (hb:Below w.heap.size w w'):MHas B w' ao n l:=⟨h.1.below hb,h.2.grow hb (yJ _)⟩
theorem MHas.sc {B n k j:Nat} {v:Value} {w:World} {ao:Option Addr} {l:List Mac} (h:MHas B w ao n l) (hk:k<B):MHas B (w.setCell ⟨k,j,none⟩ v) ao n l:=
 ⟨h.1.mks (Mks.one (fun x=>x=k) w k j v rfl) (not_in h.2 (.inl hk)),by rw [set_size];exact h.2.mks (Mks.one (fun x=>x=k) w k j v rfl)⟩
theorem mown_has {B:Nat} {w:World} {v:Value} {l:List Mac} (h:MOwn B w v l):∃ao cap,v=.slice ao l.length cap∧l.length≤cap∧MHas B w ao l.length l:=by
 obtain ⟨ao,cap,e,hr,hc,hg⟩:=mown_row h
 refine ⟨ao,cap,e,hc,hr,?_⟩
 by_cases hz:l=[]
 ·exact .inl (by rw [hz];rfl)
 ·obtain ⟨g,cur,e,h1,h2,h3⟩:=hg hz
  exact .inr ⟨g,cap,e,h1,lt_of_block h2,⟨cur,h2,h3⟩,hc⟩
def CHas (B:Nat) (w:World) (ao:Option Addr) (n:Nat) (l:List Con):Prop:=ConRow w ao n l∧Own1 B w.heap.size w 74 5 ao n
theorem CHas.below {B n:Nat} {w w':World} {ao:Option Addr} {l:List Con} (h:CHas B w ao n l) (hb:Below w.heap.size w w'):CHas B w' ao n l:=⟨h.1.below hb,h.2.grow hb (yJ _)⟩
theorem CHas.sc {B n k j:Nat} {v:Value} {w:World} {ao:Option Addr} {l:List Con} (h:CHas B w ao n l) (hk:k<B):CHas B (w.setCell ⟨k,j,none⟩ v) ao n l:=
 ⟨h.1.mks (Mks.one (fun x=>x=k) w k j v rfl) (not_in h.2 (.inl hk)),by rw [set_size];exact h.2.mks (Mks.one (fun x=>x=k) w k j v rfl)⟩
theorem CHas.base {B B' n:Nat} {w:World} {ao:Option Addr} {l:List Con} (h:CHas B w ao n l) (hb:B'≤B):CHas B' w ao n l:=⟨h.1,h.2.mono hb (yJ _)⟩
theorem cown_has {B:Nat} {w:World} {v:Value} {l:List Con} (h:COwn B w v l):∃ao cap,v=.slice ao l.length cap∧l.length≤cap∧CHas B w ao l.length l:=by
 obtain ⟨ao,cap,e,hr,hc,hg⟩:=cown_row h
 refine ⟨ao,cap,e,hc,hr,?_⟩
 by_cases hz:l=[]
 ·exact .inl (by rw [hz];rfl)
 ·obtain ⟨g,cur,e,h1,h2,h3⟩:=hg hz
  exact .inr ⟨g,cap,e,h1,lt_of_block h2,⟨cur,h2,h3⟩,hc⟩
def PHas (B:Nat) (w:World) (ao:Option Addr) (n:Nat) (hs:List AV):Prop:=AVRow w ao n hs∧Own1 B w.heap.size w 174 3 ao n
theorem PHas.below {B n:Nat} {w w':World} {ao:Option Addr} {l:List AV} (h:PHas B w ao n l) (hb:Below w.heap.size w w'):PHas B w' ao n l:=⟨h.1.below hb,h.2.grow hb (yJ _)⟩
theorem PHas.sc {B n k j:Nat} {v:Value} {w:World} {ao:Option Addr} {l:List AV} (h:PHas B w ao n l) (hk:k<B):PHas B (w.setCell ⟨k,j,none⟩ v) ao n l:=
 ⟨h.1.mks (Mks.one (fun x=>x=k) w k j v rfl) (not_in h.2 (.inl hk)),by rw [set_size];exact h.2.mks (Mks.one (fun x=>x=k) w k j v rfl)⟩
theorem pown_has {B:Nat} {w:World} {v:Value} {l:List AV} (h:POwn B w v l):∃ao cap,v=.slice ao l.length cap∧l.length≤cap∧PHas B w ao l.length l:=by
 obtain ⟨ao,cap,e,hr,hc,hg⟩:=pown_row h
 refine ⟨ao,cap,e,hc,hr,?_⟩
 by_cases hz:l=[]
 ·exact .inl (by rw [hz];rfl)
 ·obtain ⟨g,cur,e,h1,h2,h3⟩:=hg hz
  exact .inr ⟨g,cap,e,h1,lt_of_block h2,⟨cur,h2,h3⟩,hc⟩
structure KHas (B:Nat) (w:World) (ns:List AV) (l:List Appl):Prop where
 heads:Heads w ns l
 own:∀v ∈ ns,Own1 B w.heap.size w 198 5 v.ao v.len
 apart:ns.Pairwise Apart
theorem KHas.below {B:Nat} {w w':World} {ns:List AV} {l:List Appl} (h:KHas B w ns l) (hb:Below w.heap.size w w'):KHas B w' ns l:=⟨h.heads.below hb,fun v hv=>(h.own v hv).grow hb (yJ _),h.apart⟩
theorem KHas.sc {B k j:Nat} {v:Value} {w:World} {ns:List AV} {l:List Appl} (h:KHas B w ns l) (hk:k<B∨∃t N,Cel w t k N∧t≠198):KHas B (w.setCell ⟨k,j,none⟩ v) ns l:=by
 have key:∀u ∈ ns,∀i,inR u.ao u.len i→¬(i=k):=fun u hu i hi e=>by
  obtain ⟨h1,h2,N,hc⟩:=(h.own u hu).lies i hi
  subst e
  rcases hk with hk | ⟨t,N',hc',ht⟩
  ·omega
  ·exact ht (hc'.type hc)
 refine ⟨⟨h.heads.1,fun i h1 h2=>?_⟩,fun u hu=>?_,h.apart⟩
 ·obtain ⟨a,b,c,d⟩:=h.heads.2 i h1 h2
  exact ⟨a,b,c.mks (Mks.one (fun x=>x=k) w k j v rfl) (key _ (yM h1)),d⟩
 ·rw [set_size]
  exact (h.own u hu).mks (Mks.one (fun x=>x=k) w k j v rfl)
theorem KHas.nil (B:Nat) (w:World):KHas B w [] []:=⟨⟨rfl,fun i h=>absurd h (by simp)⟩,fun v hv=>absurd hv (by simp),.nil⟩
theorem aown_has {B:Nat} {w:World} {v:Value} {l:List Ask} (h:AOwn B w v l):∃ao cap,v=.slice ao l.length cap∧l.length≤cap∧AskRow w ao l.length l∧Own1 B w.heap.size w 198 5 ao l.length:=by
 obtain ⟨ao,cap,e,hr,hc,hg⟩:=h.row
 refine ⟨ao,cap,e,hc,hr,?_⟩
 by_cases hz:l=[]
 ·exact .inl (by rw [hz];rfl)
 ·obtain ⟨g,cur,e,h1,h2,h3⟩:=hg hz
  exact .inr ⟨g,cap,e,h1,lt_of_block h2,⟨cur,h2,h3⟩,hc⟩
theorem KHas.snoc {B:Nat} {w w':World} {ns:List AV} {l:List Appl} (h:KHas B w ns l) (hb:Below w.heap.size w w') (hB:B≤w.heap.size) (id:Int) (qu:List UInt8) (ao:Option Addr) (cap:Nat) (k:List Ask) (hc:k.length≤cap)
  (hr:AskRow w' ao k.length k) (ho:Own1 w.heap.size w'.heap.size w' 198 5 ao k.length):KHas B w' (ns++[⟨id,qu,ao,k.length,cap⟩]) (l++[⟨id,qu,k⟩]):=by
 have h':=h.below hb
 refine ⟨⟨by simp [h.heads.1],fun i h1 h2=>?_⟩,fun v hv=>?_,?_⟩
 ·by_cases hi:i<ns.length
  ·have hi':i<l.length:=by rw [←h.heads.1];exact hi
   rw [List.getElem_append_left hi,List.getElem_append_left hi']
   exact h'.heads.2 i hi hi'
  ·have hi1:i=ns.length:=by simp at h1;omega
   subst hi1
   have hl:ns.length=l.length:=h.heads.1
   simp only [List.getElem_append_right (yJ _),Nat.sub_self,List.getElem_cons_zero]
   rw [List.getElem_append_right (by omega)]
   simp only [hl,Nat.sub_self,List.getElem_cons_zero]
   exact ⟨trivial,trivial,hr,hc⟩
 ·rcases List.mem_append.1 hv with hv | hv
  ·exact h'.own v hv
  ·simp at hv
   subst hv
   exact ho.mono hB (yJ _)
 ·refine List.pairwise_append.2 ⟨h.apart,by simp,fun u hu v hv=>?_⟩
  simp at hv
  subst hv
  rcases h.own u hu with e | ⟨g1,M1,e1,_,h3,_⟩
  ·exact .inl e
  ·rcases ho with e | ⟨g2,M2,e2,h4,_⟩
   ·exact .inr (.inl e)
   ·refine .inr (.inr (fun e=>?_))
    simp only at e
    rw [e1,e2] at e
    cases e
    omega
theorem appl_of {w:World} {ao:Option Addr} {n:Nat} {hs:List AV} {l:List Appl} (h:AVRow w ao n hs) (hh:Heads w hs l):ApplRow w ao n l:=by
 refine ⟨h.1.trans hh.1,?_⟩
 rcases h.2 with e | ⟨b,off,e,hc⟩
 ·exact .inl e
 ·refine .inr ⟨b,off,e,fun i hi=>?_⟩
  have hi':i<hs.length:=by rw [hh.1];exact hi
  obtain ⟨a1,a2,a3,a4⟩:=hh.2 i hi' hi
  obtain ⟨c1,c2,c3⟩:=hc i hi'
  rw [a1] at c1
  rw [a2] at c2
  exact ⟨hs[i].ao,hs[i].len,hs[i].cap,c1,c2,c3,a3,a4⟩
theorem sans_of {B:Nat} {w:World} {x:Sls} {s:St} {hs:List AV} (q:QHas B w x.qa x.ql s.qs) (a:PHas B w x.aa x.al hs) (k:KHas B w hs s.apps) (m:MHas B w x.ma x.ml s.ms) (c:CHas B w x.ca x.cl s.cs) (cap:SCap x) (rm:RmS B w.heap.size w x hs):SAns B w.heap.size w x s hs:=
 ⟨⟨q.1,appl_of a.1 k.heads,m.1,c.1⟩,q.2,a.2,m.2,c.2,a.1,k.heads,k.own,k.apart,cap,rm⟩
theorem CHas.blk {B n k:Nat} {w:World} {ao:Option Addr} {l:List Con} (h:CHas B w ao n l) (hk:k<n):∃g,ao=some ⟨g,0,none⟩∧B≤g∧g<w.heap.size∧(∀j,w.frozen? ⟨g,j,none⟩=false)∧∀i (hi:i<l.length),ConAt w g (i*5) l[i]:=by
 obtain ⟨⟨h1,h2⟩,h3⟩:=h
 rcases h3 with e | ⟨g,M,rfl,hB,hE,hc,hn⟩
 ·omega
 ·rcases h2 with e | ⟨b,off,e,hh⟩
  ·omega
  ·cases e
   exact ⟨g,rfl,hB,hE,fun j=>hc.frozen j,fun i hi=>by have:=hh i hi;rwa [Nat.zero_add] at this⟩
theorem copyOfConts_any (ao:Option Addr) (len cap:Nat) (cs:List Con) (w:World) (h:ConRow w ao len cs) (hl:len≤1048576) (hn:∀c ∈ cs,c.node.length≤1048576) :
  Calls Tryz.prog 76 #[.slice ao len cap] w fun e w'=>∃co cd,e=.returned (.slice co cs.length cd)∧cs.length≤cd∧CHas w.heap.size w' co cs.length cs∧Own1 w.heap.size w'.heap.size w' 74 5 co cd∧Below w.heap.size w w':=by
 have HF:=hide hn
 have CC:=hide (cloneCont_any ao len cap cs w h hl)
 have hll:=hide h.1
 clear h hn
 go_enter Tryz.func76,Tryz.ntmps76
 go_wp2_with fail
 refine (uH CC).mono ?_
 rintro e w9 ⟨v,rfl,ho,hb⟩
 obtain ⟨co,cd,rfl,hcd,hch⟩:=cown_has ho
 obtain ⟨n4,hn4⟩:∃n,cs.length=n:=⟨_,rfl⟩
 rw [hn4] at hch hcd ⊢
 have OC:=hide hch
 have HO9:=hide (own1_of ho)
 have HB9:=hide hb
 have HN4:=hide hn4
 have hl4:n4≤1048576:=by have:=uH hll;omega
 clear ho hb hch CC hn4
 go_wp2
 go_loopw [4,5,10] (fun _ _ i wr=>∃(q:Nat),q≤n4∧i=.int .i64 q∧Hid (CHas w.heap.size wr co n4 cs)∧Hid (Own1 w.heap.size wr.heap.size wr 74 5 co cd)∧Hid (Below w.heap.size w wr)) (fun _ _ i _=>n4 - (intOf i).toNat)
 case atStart=>exact ⟨0,Nat.zero_le _,rfl,OC,HO9,HB9⟩
 case round=>
  obtain ⟨q,hq,rfl,HC,HO,HB⟩:=hrel
  clear OC HO9 HB9
  by_cases hlt:q<n4
  ·obtain ⟨g,rfl,hgB,hgE,hfz,hat⟩:=(uH HC).blk hlt
   have hjl:q<cs.length:=by have:=uH HN4;omega
   obtain ⟨c0,c1,c2,c3,c4⟩:=hat q hjl
   have hnm:=uH HF cs[q] (yM hjl)
   obtain ⟨⟨ci,cap,cn,me,cp⟩,hm⟩:∃m,cs[q]=m:=⟨_,rfl⟩
   rw [hm] at c0 c1 c2 c3 c4 hnm
   simp only at c0 c1 c2 c3 c4 hnm
   have HW:=hide (yA (yH _ wr) (.cells #[.int .i64 ci,.int .i64 cap,.string (bs cn),.int .i64 me,.int .i64 cp] 74))
   have XC:=hide ((uH HC).below (uH HW))
   have XB:=hide (yB (uH HB) (uH HW))
   have XO:=hide ((uH HO).grow (uH HW) (yJ _))
   have XA:=hide (yD wr #[.int .i64 ci,.int .i64 cap,.string (bs cn),.int .i64 me,.int .i64 cp] 74)
   have D0:=hide (cellBel c0 (uH HW))
   have D1:=hide (cellBel c1 (uH HW))
   have D2:=hide (cellBel c2 (uH HW))
   have D3:=hide (cellBel c3 (uH HW))
   have D4:=hide (cellBel c4 (uH HW))
   have CL:=hide (fun wx=>copyOfCont_any ⟨ci,cap,cn,me,cp⟩ wx hnm)
   have j0:(0:Int)≤q:=by omega
   have j1:(q:Int)<n4:=by omega
   clear hat hm hjl hfz hnm
   obtain ⟨W,hW⟩:∃W,wr.alloc (.cells #[.int .i64 ci,.int .i64 cap,.string (bs cn),.int .i64 me,.int .i64 cp] 74)=W:=⟨_,rfl⟩
   have XA1:=uH XA
   rw [hW] at XC XB XO D0 D1 D2 D3 D4 XA1
   have xa0:=(uH XA).at 0
   have xa1:=(uH XA).at 1
   have xa2:=(uH XA).at 2
   have xa3:=(uH XA).at 3
   have xa4:=(uH XA).at 4
   simp at xa0 xa1 xa2 xa3 xa4
   have HWW:=hide hW
   clear hW HW HC HB HO XA XA1
   go_wp2_with fail
   refine (uH CL _).mono ?_
   rintro e w6 ⟨rfl,hb⟩
   rw [uH HWW] at hb
   have HB6:=hide (yB (yH _ W) hb)
   clear c0 c1 c2 c3 c4
   have c0:=cellBel (uH D0) (uH HB6);have c1:=cellBel (uH D1) (uH HB6);have c2:=cellBel (uH D2) (uH HB6);have c3:=cellBel (uH D3) (uH HB6);have c4:=cellBel (uH D4) (uH HB6)
   have s0:=sc_same c0;have s1:=sc_same c1;have s2:=sc_same c2;have s3:=sc_same c3;have s4:=sc_same c4
   obtain ⟨g',e',_,_,hfz,_⟩:=((uH XC).below (uH HB6)).blk hlt
   cases e'
   have z0:=hfz (q*5);have z1:=hfz (q*5+1);have z2:=hfz (q*5+2);have z3:=hfz (q*5+3);have z4:=hfz (q*5+4)
   clear hb hfz
   go_wp2
   go_roundw
   case rel=>exact ⟨q+1,by omega,by go_num,hide ((uH XC).below (uH HB6)),hide ((uH XO).grow (uH HB6) (yJ _)),hide (yB (uH XB) (uH HB6))⟩
   case measure=>simp [intOf];omega
  ·obtain rfl:q=n4:=by omega
   have j1:¬(q:Int)<q:=by omega
   clear hlt
   go_wp2
   go_ret
   rw [uH HN4]
   exact ⟨co,cd,rfl,hcd,uH HC,uH HO,uH HB⟩
structure Rpl where
 code:Int
 app:Int
 cs:List Con
 kill:List Int
abbrev rplv (code:Int) (app:Int) (xo:Option Addr) (xl xc:Nat) (yo:Option Addr) (yl yc:Nat):Value:=.agg #[.int .i64 code,.int .i64 app,.slice xo xl xc,.slice yo yl yc]
def RplAt (w:World) (b p:Nat) (q:Rpl) (xo:Option Addr) (xl xc:Nat) (yo:Option Addr) (yl yc:Nat):Prop:=
 w.cell? ⟨b,p,none⟩=some (.int .i64 q.code)∧w.cell? ⟨b,p+1,none⟩=some (.int .i64 q.app)∧w.cell? ⟨b,p+2,none⟩=some (.slice xo xl xc)∧w.cell? ⟨b,p+3,none⟩=some (.slice yo yl yc)∧ConRow w xo xl q.cs∧NRow w yo yl q.kill
def RplRow (w:World) (ao:Option Addr) (len:Nat) (l:List Rpl):Prop:=
 len=l.length∧(len=0∨∃b off,ao=some ⟨b,off,none⟩∧∀i (h:i<l.length),∃(xo:Option Addr) (xl xc:Nat) (yo:Option Addr) (yl yc:Nat),RplAt w b (off+i*4) l[i] xo xl xc yo yl yc)
theorem RplAt.lt {w:World} {b p:Nat} {q:Rpl} {xo:Option Addr} {xl xc:Nat} {yo:Option Addr} {yl yc:Nat} (h:RplAt w b p q xo xl xc yo yl yc):b<w.heap.size:=yG h.1
theorem RplAt.below {w w':World} {b p:Nat} {q:Rpl} {xo:Option Addr} {xl xc:Nat} {yo:Option Addr} {yl yc:Nat} (h:RplAt w b p q xo xl xc yo yl yc) (hb:Below w.heap.size w w'):RplAt w' b p q xo xl xc yo yl yc:=
 ⟨(hb.cell h.lt).trans h.1,(hb.cell h.lt).trans h.2.1,(hb.cell h.lt).trans h.2.2.1,(hb.cell h.lt).trans h.2.2.2.1,h.2.2.2.2.1.below hb,h.2.2.2.2.2.below hb⟩
theorem RplRow.below {w w':World} {ao:Option Addr} {len:Nat} {l:List Rpl} (h:RplRow w ao len l) (hb:Below w.heap.size w w'):RplRow w' ao len l:=by
 obtain ⟨h1,h2⟩:=h
 refine ⟨h1,?_⟩
 rcases h2 with h2 | ⟨b,off,h3,h4⟩
 ·exact .inl h2
 ·exact .inr ⟨b,off,h3,fun i h=>let ⟨xo,xl,xc,yo,yl,yc,hh⟩:=h4 i h;⟨xo,xl,xc,yo,yl,yc,hh.below hb⟩⟩
theorem RplRow.nil (w:World) (ao:Option Addr):RplRow w ao 0 []:=⟨rfl,.inl rfl⟩
theorem RplRow.at {w:World} {ao:Option Addr} {len:Nat} {l:List Rpl} (h:RplRow w ao len l) {i:Nat} (hi:i<len):∃b off,ao=some ⟨b,off,none⟩∧∀(h:i<l.length),∃(xo:Option Addr) (xl xc:Nat) (yo:Option Addr) (yl yc:Nat),RplAt w b (off+i*4) l[i] xo xl xc yo yl yc:=by
 obtain ⟨h1,h2⟩:=h
 rcases h2 with h2 | ⟨b,off,h3,h4⟩
 ·omega
 ·exact ⟨b,off,h3,fun hi=>h4 i hi⟩
def RplBlk (w:World) (t:TypeId) (g n k:Nat) (l:List Rpl):Prop:=
 ∃arr:Array Value,w.heap[g]? = some (.cells arr t (0,0))∧arr.size=n*4∧∀i (h:i<l.length),i<k→arr[i*4]? = some (.int .i64 l[i].code)∧arr[i*4+1]? = some (.int .i64 l[i].app)∧∃(xo:Option Addr) (xl xc:Nat) (yo:Option Addr) (yl yc:Nat),arr[i*4+2]? = some (.slice xo xl xc)∧arr[i*4+3]? = some (.slice yo yl yc)∧CsOwn w g xo xl xc l[i].cs∧KlOwn w g yo yl yc l[i].kill
theorem RplBlk.lt {w:World} {t:TypeId} {g n k:Nat} {l:List Rpl} (h:RplBlk w t g n k l):g<w.heap.size:=let ⟨_,h,_⟩:=h;lt_of_block h
theorem RplBlk.below {w w':World} {t:TypeId} {g n k:Nat} {l:List Rpl} (h:RplBlk w t g n k l) (hb:Below w.heap.size w w'):RplBlk w' t g n k l:=by
 have hlt:=h.lt
 obtain ⟨arr,h1,h2,h3⟩:=h
 exact ⟨arr,(hb.block g hlt).trans h1,h2,fun i h hk=>let ⟨s0,s1,xo,xl,xc,yo,yl,yc,t0,t1,o0,o1⟩:=h3 i h hk;⟨s0,s1,xo,xl,xc,yo,yl,yc,t0,t1,o0.below hb,o1.below hb⟩⟩
theorem RplBlk.cell {w:World} {t:TypeId} {g n k:Nat} {l:List Rpl} (h:RplBlk w t g n k l) {j:Nat} (hj:j<n*4):∃v,w.cell? ⟨g,j,none⟩=some v:=by
 obtain ⟨arr,h1,h2,_⟩:=h
 exact ⟨arr[j]'(by omega),by simp [World.cell?,h1,Array.getElem?_eq_getElem (show j<arr.size by omega)]⟩
theorem RplBlk.frozen {w:World} {t:TypeId} {g n k:Nat} {l:List Rpl} (h:RplBlk w t g n k l) (j:Nat):w.frozen? ⟨g,j,none⟩=false:=by
 obtain ⟨arr,h1,h2,_⟩:=h
 simp [World.frozen?,h1]
theorem RplBlk.row {w:World} {t:TypeId} {g n:Nat} {l:List Rpl} (h:RplBlk w t g n n l) (hl:n=l.length):RplRow w (some ⟨g,0,none⟩) n l:=by
 obtain ⟨arr,h1,h2,h3⟩:=h
 refine ⟨hl,.inr ⟨g,0,rfl,fun i hi=>?_⟩⟩
 obtain ⟨s0,s1,xo,xl,xc,yo,yl,yc,t0,t1,o0,o1⟩:=h3 i hi (by omega)
 refine ⟨xo,xl,xc,yo,yl,yc,?_⟩
 unfold RplAt
 simp only [Nat.zero_add]
 exact ⟨by simp [World.cell?,h1,s0],by simp [World.cell?,h1,s1],by simp [World.cell?,h1,t0],by simp [World.cell?,h1,t1],o0.1,o1.1⟩
def putRpl (w:World) (g p:Nat) (code:Int) (app:Int) (xo:Option Addr) (xl xc:Nat) (yo:Option Addr) (yl yc:Nat):World:=((((w.setCell ⟨g,p,none⟩ (.int .i64 code)).setCell ⟨g,p+1,none⟩ (.int .i64 app)).setCell ⟨g,p+2,none⟩ (.slice xo xl xc)).setCell ⟨g,p+3,none⟩ (.slice yo yl yc))
theorem RplBlk.step {w:World} {t:TypeId} {g n k:Nat} {l:List Rpl} (h:RplBlk w t g n k l) (hk:k<n) (hl:k<l.length) (xo:Option Addr) (xl xc:Nat) (yo:Option Addr) (yl yc:Nat) (ow0:CsOwn w g xo xl xc l[k].cs) (ow1:KlOwn w g yo yl yc l[k].kill):RplBlk (putRpl w g (k*4) l[k].code l[k].app xo xl xc yo yl yc) t g n (k+1) l:=by
 obtain ⟨arr,h1,h2,h3⟩:=h
 have e1:=heap_setCell_same w g (k*4) _ _ (.int .i64 l[k].code) h1
 have e2:=heap_setCell_same _ g (k*4+1) _ _ (.int .i64 l[k].app) e1
 have e3:=heap_setCell_same _ g (k*4+2) _ _ (.slice xo xl xc) e2
 have e4:=heap_setCell_same _ g (k*4+3) _ _ (.slice yo yl yc) e3
 refine ⟨_,e4,by simp [h2],fun i hi hik=>?_⟩
 by_cases e:i=k
 ·subst e
  have q1:i*4+3<arr.size:=by omega
  refine ⟨?_,?_,xo,xl,xc,yo,yl,yc,?_,?_,((((ow0.put (i*4) (.int .i64 l[i].code)).put (i*4+1) (.int .i64 l[i].app)).put (i*4+2) (.slice xo xl xc)).put (i*4+3) (.slice yo yl yc)),((((ow1.put (i*4) (.int .i64 l[i].code)).put (i*4+1) (.int .i64 l[i].app)).put (i*4+2) (.slice xo xl xc)).put (i*4+3) (.slice yo yl yc))⟩<;>simp [Array.getElem?_setIfInBounds,h2]<;>omega
 ·obtain ⟨s0,s1,z0,z1,z2,z3,z4,z5,t0,t1,o0,o1⟩:=h3 i hi (by omega)
  refine ⟨?_,?_,z0,z1,z2,z3,z4,z5,?_,?_,((((o0.put (k*4) (.int .i64 l[k].code)).put (k*4+1) (.int .i64 l[k].app)).put (k*4+2) (.slice xo xl xc)).put (k*4+3) (.slice yo yl yc)),((((o1.put (k*4) (.int .i64 l[k].code)).put (k*4+1) (.int .i64 l[k].app)).put (k*4+2) (.slice xo xl xc)).put (k*4+3) (.slice yo yl yc))⟩
  ·rw [←s0];simp only [Array.getElem?_setIfInBounds];repeat rw [if_neg (by omega)]
  ·rw [←s1];simp only [Array.getElem?_setIfInBounds];repeat rw [if_neg (by omega)]
  ·rw [←t0];simp only [Array.getElem?_setIfInBounds];repeat rw [if_neg (by omega)]
  ·rw [←t1];simp only [Array.getElem?_setIfInBounds];repeat rw [if_neg (by omega)]
def imarks (k:Int) (n:Nat):List Int:=(List.range n).map (fun i:Nat=>k+(i:Int))
def IAns (B E:Nat) (w:World) (v:Value) (l:List Int):Prop:=∃ao cap,v=.slice ao l.length cap∧(l≠[]→∃g M,ao=some ⟨g,0,none⟩∧l.length≤M∧IBlk w 3 g M l.length l∧B≤g∧g<E)
theorem IAns.below {B E:Nat} {w w':World} {v:Value} {l:List Int} (h:IAns B E w v l) (hb:Below w.heap.size w w'):IAns B E w' v l:=by
 obtain ⟨ao,c,rfl,k⟩:=h
 exact ⟨ao,c,rfl,fun hp=>let ⟨g,M,e,hM,hs,h1,h2⟩:=k hp;⟨g,M,e,hM,hs.below hb,h1,h2⟩⟩
theorem IAns.mkd {B E B' E':Nat} {w w':World} {v:Value} {l:List Int} (h:IAns B E w v l) (hm:Mkd B' E' w w') (hd:E≤B'∨E'≤B):IAns B E w' v l:=by
 obtain ⟨ao,c,rfl,k⟩:=h
 exact ⟨ao,c,rfl,fun hp=>let ⟨g,M,e,hM,hs,h1,h2⟩:=k hp;⟨g,M,e,hM,hs.mkd hm (by omega),h1,h2⟩⟩
theorem iblk_nrow {w:World} {t:TypeId} {g M:Nat} {l:List Int} (h:IBlk w t g M l.length l):NRow w (some ⟨g,0,none⟩) l.length l:=by
 obtain ⟨arr,h1,h2,h3⟩:=h
 refine ⟨rfl,.inr ⟨g,0,rfl,fun i hi=>?_⟩⟩
 have a:=h3 i hi hi
 simp only [Nat.zero_add]
 simp [World.cell?,h1,a]
theorem IAns.row {B E:Nat} {w:World} {v:Value} {l:List Int} (h:IAns B E w v l):∃ao cap,v=.slice ao l.length cap∧NRow w ao l.length l:=by
 obtain ⟨ao,c,rfl,k⟩:=h
 refine ⟨ao,c,rfl,?_⟩
 by_cases hp:l=[]
 ·subst hp
  exact ⟨rfl,.inl rfl⟩
 ·obtain ⟨g,M,rfl,hM,hs,_⟩:=k hp
  exact iblk_nrow hs
def IMk (B E:Nat) (w:World) (v:Value) (n:Nat):Prop:=∃ao cap,v=.slice ao n cap∧NRow w ao n (imarks 1 n)
theorem IMk.below {B E:Nat} {w w':World} {v:Value} {n:Nat} (h:IMk B E w v n) (hb:Below w.heap.size w w'):IMk B E w' v n:=by
 obtain ⟨ao,c,rfl,k⟩:=h
 exact ⟨ao,c,rfl,k.below hb⟩
def RmL (B:Nat) (w:World) (l:List (TypeId×Nat×Option Addr×Nat)):Prop:=∀p ∈ l,Own1 B w.heap.size w p.1 p.2.1 p.2.2.1 p.2.2.2
theorem RmL.nil (B:Nat) (w:World):RmL B w []:=fun p hp=>absurd hp (by simp)
theorem RmL.cons {B:Nat} {w:World} {l:List (TypeId×Nat×Option Addr×Nat)} {t:TypeId} {sz c:Nat} {ao:Option Addr} (h:Own1 B w.heap.size w t sz ao c) (hl:RmL B w l):RmL B w ((t,sz,ao,c)::l):=fun p hp=>by
 rcases List.mem_cons.1 hp with rfl | hp
 ·exact h
 ·exact hl p hp
theorem RmL.sub {B:Nat} {w:World} {l l':List (TypeId×Nat×Option Addr×Nat)} (h:RmL B w l) (hs:∀p ∈ l',p ∈ l):RmL B w l':=fun p hp=>h p (hs p hp)
theorem RmL.below {B:Nat} {w w':World} {l:List (TypeId×Nat×Option Addr×Nat)} (h:RmL B w l) (hb:Below w.heap.size w w'):RmL B w' l:=fun p hp=>((h p hp).below hb).mono (yJ _) hb.size
theorem own1_sc {B:Nat} {w:World} {t:TypeId} {sz n:Nat} {ao:Option Addr} (h:Own1 B w.heap.size w t sz ao n) (k j:Nat) (v:Value):Own1 B (w.setCell ⟨k,j,none⟩ v).heap.size (w.setCell ⟨k,j,none⟩ v) t sz ao n:=(h.sc k j v).mono (yJ _) (by rw [set_size];exact yJ _)
theorem RmL.sc {B:Nat} {w:World} {l:List (TypeId×Nat×Option Addr×Nat)} (h:RmL B w l) (k j:Nat) (v:Value):RmL B (w.setCell ⟨k,j,none⟩ v) l:=fun p hp=>own1_sc (h p hp) k j v
theorem RmL.grown {B:Nat} {w w':World} {l:List (TypeId×Nat×Option Addr×Nat)} {t':TypeId} {r:Option Nat} (h:RmL B w l) (hg:w.grownBy w' r) (hr:∀k,r=some k→∃N,Cel w t' k N) (ht:∀p ∈ l,t'≠p.1):RmL B w' l:=fun p hp=>by
 rcases h p hp with e | ⟨g,M,e,h1,h2,h3,h4⟩
 ·exact .inl e
 ·refine .inr ⟨g,M,e,h1,Nat.lt_of_lt_of_le h2 hg.size,h3.of_block (hg.block g h2 (fun e2=>?_)),h4⟩
  obtain ⟨N,hc⟩:=hr g e2.symm
  exact ht p hp (hc.type h3)
def RL4 (co:Option Addr) (cd:Nat) (mo:Option Addr) (md:Nat) (qo:Option Addr) (qd:Nat) (ns:List AV):List (TypeId×Nat×Option Addr×Nat):=(74,5,co,cd)::(177,4,mo,md)::(95,4,qo,qd)::ns.map (fun v=>(198,5,v.ao,v.cap))
theorem rl4_snoc (co:Option Addr) (cd:Nat) (mo:Option Addr) (md:Nat) (qo:Option Addr) (qd:Nat) (ns:List AV) (v:AV):∀p ∈ RL4 co cd mo md qo qd (ns++[v]),p ∈ (198,5,v.ao,v.cap)::RL4 co cd mo md qo qd ns:=fun p hp=>by
 simp only [RL4,List.map_append,List.map_cons,List.map_nil,List.mem_cons,List.mem_append,List.not_mem_nil,or_false] at hp ⊢
 rcases hp with h | h | h | h | h<;>simp [h]
theorem rl4_app (co:Option Addr) (cd:Nat) (mo:Option Addr) (md:Nat) (qo:Option Addr) (qd:Nat) (ns:List AV):∀p ∈ RL4 co cd mo md qo qd ns,174≠p.1:=fun p hp=>by
 simp only [RL4,List.mem_cons,List.mem_map] at hp
 rcases hp with rfl | rfl | rfl | ⟨v,_,rfl⟩<;>(simp only;decide)
theorem rms_of {B:Nat} {w:World} {x:Sls} {hs:List AV} (h:RmL B w (RL4 x.ca x.cc x.ma x.mc x.qa x.qc hs)) (ha:Own1 B w.heap.size w 174 3 x.aa x.ac):RmS B w.heap.size w x hs:=
 ⟨h (95,4,x.qa,x.qc) (by simp [RL4]),ha,h (177,4,x.ma,x.mc) (by simp [RL4]),h (74,5,x.ca,x.cc) (by simp [RL4]),fun v hv=>h (198,5,v.ao,v.cap) (by simp only [RL4,List.mem_cons,List.mem_map];exact .inr (.inr (.inr ⟨v,hv,rfl⟩)))⟩
theorem PHas.blk {B n k:Nat} {w:World} {ao:Option Addr} {l:List AV} (h:PHas B w ao n l) (hk:k<n):∃g M,ao=some ⟨g,0,none⟩∧B≤g∧g<w.heap.size∧AVBlk w g M l:=by
 obtain ⟨⟨h1,h2⟩,h3⟩:=h
 rcases h3 with e | ⟨g,M,rfl,hB,hE,hc,hn⟩
 ·omega
 ·rcases h2 with e | ⟨b,off,e,hh⟩
  ·omega
  ·cases e
   exact ⟨g,M,rfl,hB,hE,hc,by omega,fun i hi=>by have:=hh i hi;rwa [Nat.zero_add] at this⟩
theorem AVBlk.asks {w:World} {g M i:Nat} {l:List AV} (h:AVBlk w g M l) (hi:i<l.length) (ao:Option Addr) (len cap:Nat):AVBlk (w.setCell ⟨g,i*3+2,none⟩ (.slice ao len cap)) g M (l.set i ⟨l[i].id,l[i].queue,ao,len,cap⟩):=by
 refine ⟨h.1.set _ _ _,by simpa using h.2.1,fun j hj=>?_⟩
 have hj':j<l.length:=by simpa using hj
 obtain ⟨a,b,c⟩:=h.2.2 j hj'
 by_cases e:i=j
 ·subst e
  simp only [List.getElem_set_self]
  exact ⟨cellKeep a (by omega),cellKeep b (by omega),World.cell?_setCell_same _ ⟨g,i*3+2,none⟩ _ c⟩
 ·rw [List.getElem_set_ne e]
  exact ⟨cellKeep a (by omega),cellKeep b (by omega),cellKeep c (by omega)⟩
theorem AVBlk.has {B w g M n l} (h:AVBlk w g M l) (hB:B≤g) (hn:n=l.length):PHas B w (some ⟨g,0,none⟩) n l:=by
 subst hn
 exact ⟨h.row,.inr ⟨g,M,rfl,hB,h.1.lt,h.1,h.2.1⟩⟩
structure CpSt (w:World) (arr:Array Value) (qo:Option Addr) (qs:List Q) (po:Option Addr) (n2:Nat) (ns:List AV) (apps:List Appl) (wr:World):Prop where
 r0:Blk wr w.heap.size arr 42
 r1:Blk wr (w.heap.size+1) #[.slice none 0 0,.int .i64 0,.int .i64 0,.int .i64 0,.int .i64 0,.slice none 0 0,.slice none 0 0,.slice none 0 0] 42
 q:QHas (w.heap.size+2) wr qo qs.length qs
 p:PHas (w.heap.size+2) wr po n2 ns
 k:KHas (w.heap.size+2) wr ns apps
 b:Below w.heap.size w wr
 z:w.heap.size+2≤wr.heap.size
theorem CpSt.below {w:World} {arr:Array Value} {qo:Option Addr} {qs:List Q} {po:Option Addr} {n2:Nat} {ns:List AV} {apps:List Appl} {wr wy:World} (h:CpSt w arr qo qs po n2 ns apps wr) (hb:Below wr.heap.size wr wy):CpSt w arr qo qs po n2 ns apps wy:=
 ⟨h.r0.below hb,h.r1.below hb,h.q.below hb,h.p.below hb,h.k.below hb,yB h.b hb,Nat.le_trans h.z hb.size⟩
theorem CpSt.sc {w:World} {arr:Array Value} {qo:Option Addr} {qs:List Q} {po:Option Addr} {n2:Nat} {ns:List AV} {apps:List Appl} {wr:World} (h:CpSt w arr qo qs po n2 ns apps wr) (j:Nat) (v:Value):CpSt w (arr.setIfInBounds j v) qo qs po n2 ns apps (wr.setCell ⟨w.heap.size,j,none⟩ v):=
 ⟨h.r0.set j v,h.r1.other _ _ _ (by omega),h.q.sc (by omega),h.p.sc (by omega),h.k.sc (.inl (by omega)),yC h.b _ _ _ (yJ _),by rw [set_size];exact h.z⟩
theorem MHas.blk {B n k:Nat} {w:World} {ao:Option Addr} {l:List Mac} (h:MHas B w ao n l) (hk:k<n):∃g,ao=some ⟨g,0,none⟩∧B≤g∧g<w.heap.size∧(∀j,w.frozen? ⟨g,j,none⟩=false)∧∀i (hi:i<l.length),MacAt w g (i*4) l[i]:=by
 obtain ⟨⟨h1,h2⟩,h3⟩:=h
 rcases h3 with e | ⟨g,M,rfl,hB,hE,hc,hn⟩
 ·omega
 ·rcases h2 with e | ⟨b,off,e,hh⟩
  ·omega
  ·cases e
   exact ⟨g,rfl,hB,hE,fun j=>hc.frozen j,fun i hi=>by have:=hh i hi;rwa [Nat.zero_add] at this⟩
theorem cellEq {w w':World} {b p:Nat} {u:Value} (h:w.cell? ⟨b,p,none⟩=some u) (hb:w'.heap[b]? = w.heap[b]?):w'.cell? ⟨b,p,none⟩=some u:=(World.cell?_of_block (w:=w) (a:=⟨b,p,none⟩) hb).trans h
theorem QRow.kept {w w':World} {ao:Option Addr} {len:Nat} {l:List Q} (h:QRow w ao len l) (hs:∀k,inR ao len k→w'.heap[k]? = w.heap[k]?):QRow w' ao len l:=by
 obtain ⟨h1,h2⟩:=h
 refine ⟨h1,?_⟩
 rcases h2 with h2 | ⟨b,off,h3,h4⟩
 ·exact .inl h2
 ·by_cases hz:len=0
  ·exact .inl hz
  ·have hb:=hs b ⟨hz,off,h3⟩
   exact .inr ⟨b,off,h3,fun i h=>let ⟨a,c,d,e⟩:=h4 i h;⟨cellEq a hb,cellEq c hb,cellEq d hb,cellEq e hb⟩⟩
theorem MacRow.kept {w w':World} {ao:Option Addr} {len:Nat} {l:List Mac} (h:MacRow w ao len l) (hs:∀k,inR ao len k→w'.heap[k]? = w.heap[k]?):MacRow w' ao len l:=by
 obtain ⟨h1,h2⟩:=h
 refine ⟨h1,?_⟩
 rcases h2 with h2 | ⟨b,off,h3,h4⟩
 ·exact .inl h2
 ·by_cases hz:len=0
  ·exact .inl hz
  ·have hb:=hs b ⟨hz,off,h3⟩
   exact .inr ⟨b,off,h3,fun i h=>let ⟨a,c,d,e⟩:=h4 i h;⟨cellEq a hb,cellEq c hb,cellEq d hb,cellEq e hb⟩⟩
theorem ConRow.kept {w w':World} {ao:Option Addr} {len:Nat} {l:List Con} (h:ConRow w ao len l) (hs:∀k,inR ao len k→w'.heap[k]? = w.heap[k]?):ConRow w' ao len l:=by
 obtain ⟨h1,h2⟩:=h
 refine ⟨h1,?_⟩
 rcases h2 with h2 | ⟨b,off,h3,h4⟩
 ·exact .inl h2
 ·by_cases hz:len=0
  ·exact .inl hz
  ·have hb:=hs b ⟨hz,off,h3⟩
   exact .inr ⟨b,off,h3,fun i h=>let ⟨a,c,d,e,f⟩:=h4 i h;⟨cellEq a hb,cellEq c hb,cellEq d hb,cellEq e hb,cellEq f hb⟩⟩
theorem AskRow.kept {w w':World} {ao:Option Addr} {len:Nat} {l:List Ask} (h:AskRow w ao len l) (hs:∀k,inR ao len k→w'.heap[k]? = w.heap[k]?):AskRow w' ao len l:=by
 obtain ⟨h1,h2⟩:=h
 refine ⟨h1,?_⟩
 rcases h2 with h2 | ⟨b,off,h3,h4⟩
 ·exact .inl h2
 ·by_cases hz:len=0
  ·exact .inl hz
  ·have hb:=hs b ⟨hz,off,h3⟩
   exact .inr ⟨b,off,h3,fun i h=>let ⟨a,c,d,e,f⟩:=h4 i h;⟨cellEq a hb,cellEq c hb,cellEq d hb,cellEq e hb,cellEq f hb⟩⟩
theorem AVRow.kept {w w':World} {ao:Option Addr} {len:Nat} {l:List AV} (h:AVRow w ao len l) (hs:∀k,inR ao len k→w'.heap[k]? = w.heap[k]?):AVRow w' ao len l:=by
 obtain ⟨h1,h2⟩:=h
 refine ⟨h1,?_⟩
 rcases h2 with h2 | ⟨b,off,h3,h4⟩
 ·exact .inl h2
 ·by_cases hz:len=0
  ·exact .inl hz
  ·have hb:=hs b ⟨hz,off,h3⟩
   exact .inr ⟨b,off,h3,fun i h=>let ⟨a,c,d⟩:=h4 i h;⟨cellEq a hb,cellEq c hb,cellEq d hb⟩⟩
theorem own_grown {B:Nat} {w w':World} {t t':TypeId} {sz n:Nat} {ao:Option Addr} {r:Option Nat} (h:Own1 B w.heap.size w t sz ao n) (hg:w.grownBy w' r) (hr:∀k,r=some k→∃N,Cel w t' k N) (ht:t'≠t):(∀k,inR ao n k→w'.heap[k]? = w.heap[k]?)∧Own1 B w'.heap.size w' t sz ao n:=by
 have key:∀k,inR ao n k→w'.heap[k]? = w.heap[k]?:=fun k hk=>by
  obtain ⟨_,h2,N,h3⟩:=h.lies k hk
  refine hg.block k h2 (fun e=>?_)
  obtain ⟨N',h4⟩:=hr k e.symm
  exact ht (h4.type h3)
 refine ⟨key,?_⟩
 rcases h with e | ⟨g,M,e,h1,h2,h3,h4⟩
 ·exact .inl e
 ·by_cases hz:n=0
  ·exact .inl hz
  ·exact .inr ⟨g,M,e,h1,Nat.lt_of_lt_of_le h2 hg.size,h3.of_block (key g ⟨hz,0,e⟩),h4⟩
theorem QHas.grown {B n:Nat} {w w':World} {t':TypeId} {ao:Option Addr} {l:List Q} {r:Option Nat} (h:QHas B w ao n l) (hg:w.grownBy w' r) (hr:∀k,r=some k→∃N,Cel w t' k N) (ht:t'≠95):QHas B w' ao n l:=⟨h.1.kept (own_grown h.2 hg hr ht).1,(own_grown h.2 hg hr ht).2⟩
theorem MHas.grown {B n:Nat} {w w':World} {t':TypeId} {ao:Option Addr} {l:List Mac} {r:Option Nat} (h:MHas B w ao n l) (hg:w.grownBy w' r) (hr:∀k,r=some k→∃N,Cel w t' k N) (ht:t'≠177):MHas B w' ao n l:=⟨h.1.kept (own_grown h.2 hg hr ht).1,(own_grown h.2 hg hr ht).2⟩
theorem CHas.grown {B n:Nat} {w w':World} {t':TypeId} {ao:Option Addr} {l:List Con} {r:Option Nat} (h:CHas B w ao n l) (hg:w.grownBy w' r) (hr:∀k,r=some k→∃N,Cel w t' k N) (ht:t'≠74):CHas B w' ao n l:=⟨h.1.kept (own_grown h.2 hg hr ht).1,(own_grown h.2 hg hr ht).2⟩
theorem PHas.grown {B n:Nat} {w w':World} {t':TypeId} {ao:Option Addr} {l:List AV} {r:Option Nat} (h:PHas B w ao n l) (hg:w.grownBy w' r) (hr:∀k,r=some k→∃N,Cel w t' k N) (ht:t'≠174):PHas B w' ao n l:=⟨h.1.kept (own_grown h.2 hg hr ht).1,(own_grown h.2 hg hr ht).2⟩
theorem KHas.grown {B:Nat} {w w':World} {t':TypeId} {hs:List AV} {l:List Appl} {r:Option Nat} (h:KHas B w hs l) (hg:w.grownBy w' r) (hr:∀k,r=some k→∃N,Cel w t' k N) (ht:t'≠198):KHas B w' hs l:=
 ⟨⟨h.heads.1,fun i h1 h2=>let ⟨a,b,c,d⟩:=h.heads.2 i h1 h2;⟨a,b,c.kept (own_grown (h.own _ (yM h1)) hg hr ht).1,d⟩⟩,fun v hv=>(own_grown (h.own v hv) hg hr ht).2,h.apart⟩
theorem owns_cel {w:World} {B sz n:Nat} {e:TypeId} {v:Value} {xs:List Value} (h:w.ownsRow B e sz v n xs):∀k,v.ownBlock=some k→∃N,Cel w e k N:=fun k hk=>by
 rcases h.2 with ⟨rfl,_⟩ | ⟨g,cap,cur,rfl,_,h2,_⟩
 ·simp [Value.ownBlock] at hk
 ·obtain rfl:g=k:=by simpa [Value.ownBlock] using hk
  exact ⟨_,cur,h2,rfl⟩
theorem Blk.grown {w w':World} {g:Nat} {arr:Array Value} {t t':TypeId} {r:Option Nat} (h:Blk w g arr t) (hg:w.grownBy w' r) (hr:∀k,r=some k→∃N,Cel w t' k N) (ht:t'≠t):Blk w' g arr t:=
 (hg.block g h.lt (fun e=>by obtain ⟨N,h4⟩:=hr g e.symm;exact ht (h4.type ⟨arr,h,rfl⟩))).trans h
theorem grown_sc (w:World) (g j:Nat) (v:Value):w.grownBy (w.setCell ⟨g,j,none⟩ v) (some g):=⟨rfl,rfl,rfl,by simp [World.setCell],fun k _ hne=>Below.heap_setCell _ _ _ _ (by show k≠g;intro e;exact hne (by rw [e]))⟩
structure SSome (x:Sls) (hs:List AV):Prop where
 q:x.qa=none→x.ql=0∧x.qc=0
 m:x.ma=none→x.ml=0∧x.mc=0
 c:x.ca=none→x.cl=0∧x.cc=0
 k:∀v ∈ hs,v.ao=none→v.len=0∧v.cap=0
theorem none_cap {B E:Nat} {w:World} {t:TypeId} {sz c n:Nat} {ao:Option Addr} (h:Own1 B E w t sz ao c) (hn:n≤c) (e:ao=none):n=0∧c=0:=by
 rcases h with h | ⟨g,M,h1,_⟩
 ·omega
 ·rw [e] at h1;cases h1
theorem SAns.some {B E:Nat} {w:World} {x:Sls} {s:St} {hs:List AV} (h:SAns B E w x s hs):SSome x hs:=
 ⟨none_cap h.rm.1 h.cap.q,none_cap h.rm.2.2.1 h.cap.m,none_cap h.rm.2.2.2.1 h.cap.c,fun v hv=>none_cap (h.rm.2.2.2.2 v hv) (by
  obtain ⟨i,hi,rfl⟩:=List.getElem_of_mem hv
  exact (h.heads.2 i hi (by rw [←h.heads.1];exact hi)).2.2.2)⟩
end
end Go.Proofs.YtmkedfdnokmglaaGreat
