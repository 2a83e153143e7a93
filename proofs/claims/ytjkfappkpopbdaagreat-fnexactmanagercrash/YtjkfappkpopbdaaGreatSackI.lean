/-
  Texts in one: KKey, AKey, OwnP, OkA, MKey, HasI, WfS, FindAp, MacAt.
-/
import Derived.Test.YtjkfappkpopbdaaGreatSackF
import Derived.Maps.OwnSet
import Derived.Maps.Views
import Derived.DeepKeys4
set_option maxRecDepth 100000
set_option maxHeartbeats 16000000
set_option linter.unusedVariables false
set_option linter.unusedSimpArgs false
namespace Go.Proofs.YtjkfappkpopbdaaGreat
section
open Go.RowKit Go.Maps
abbrev keyv (nm:List UInt8) (k:Int):Value:=.agg #[.string (bs nm),.int .i64 k]
theorem keyLaidOut:laidOutB Tryz.prog=true:=by kernel_rfl
theorem keyRow:(259:TypeId)<Tryz.prog.types.size:=of_decide_eq_true (by kernel_rfl)
theorem keyWide:(match Tryz.prog.underlying 259 with | some (.array _ _) | some (.struct _)=>true | _=>false)=true:=by kernel_rfl
theorem keyLaw:Keyed Tryz.prog 259:=Keyed.of_law (deep_law_laid keyLaidOut (m:=3) (by omega) keyRow (by kernel_rfl) keyWide)
theorem keyKeyType:Tryz.prog.keyType 259=true:=by kernel_rfl
theorem keyCells:Tryz.prog.cellsOf 259=2:=by kernel_rfl
theorem keyIntCells:Tryz.prog.cellsOf 3=1:=by kernel_rfl
theorem keyStrCells:Tryz.prog.cellsOf 9=1:=by kernel_rfl
theorem keyTypesMany:∃m,Tryz.prog.types.size+1=m+2:=⟨Tryz.prog.types.size - 1,by have:3≤Tryz.prog.types.size:=of_decide_eq_true (by kernel_rfl);omega⟩
theorem klits_int (n:Nat) {a:Int} (h:(Lit.int .i64 a).wf=true):Tryz.prog.keyLits (n+1) 3 [.int .i64 a]=some [.int .i64 a]:=by
 simp [Program.keyLits,Tryz.underlying3,h]
theorem klits_str (n:Nat) {s:ByteArray} (h:s.size≤maxLen):Tryz.prog.keyLits (n+1) 9 [.string s]=some [.string s.data.toList]:=by
 simp [Program.keyLits,Tryz.underlying9,h]
theorem keyKey {nm:List UInt8} {k:Int} (hn:nm.length≤9223372036854775807) (hk:(Lit.int .i64 k).wf=true):∃kl,keyOf Tryz.prog 259 (keyv nm k)=some kl:=by
 obtain ⟨m,hm⟩:=keyTypesMany
 have hs:(bs nm).size≤maxLen:=by rw [bs_size];exact hn
 have h:Tryz.prog.keyLits (m+2) 259 [.string (bs nm),.int .i64 k]=some [.string (bs nm).data.toList,.int .i64 k]:=by
  have h:=Tryz.underlying259
  unfold Program.keyLits
  simp [h,keyCells,keyIntCells,keyStrCells,klits_int m hk,klits_str m hs]
 have hu:=Tryz.underlying259
 have hk:keyOf Tryz.prog 259 (keyv nm k)=if Tryz.prog.keyType 259&&(keyv nm k).formed Tryz.prog 259 then (Tryz.prog.keyLits (Tryz.prog.types.size+1) 259 (keyv nm k).cells.toList).map (fun ls=>.string (keyBytes ls)) else none:=by
  unfold keyOf
  rw [hu]
 rw [hk,if_pos (by simp [keyKeyType,Value.formed,hu,keyCells]),hm,show (keyv nm k).cells.toList=[.string (bs nm),.int .i64 k] from rfl,h]
 exact ⟨_,rfl⟩
theorem bs_data (s:ByteArray):bs s.data.toList=s:=by simp [bs]
structure AV where
 id:Int
 queue:List UInt8
 ao:Option Addr
 len:Nat
 cap:Nat
abbrev avv (v:AV):Value:=.agg #[.int .i64 v.id,.string (bs v.queue),.slice v.ao v.len v.cap]
def AVAt (w:World) (b p:Nat) (v:AV):Prop:=
 w.cell? ⟨b,p,none⟩=some (.int .i64 v.id)∧w.cell? ⟨b,p+1,none⟩=some (.string (bs v.queue))∧w.cell? ⟨b,p+2,none⟩=some (.slice v.ao v.len v.cap)
theorem AVAt.lt {w:World} {b p:Nat} {v:AV} (h:AVAt w b p v):b<w.heap.size:=yG h.1
theorem AVAt.below {w w':World} {b p:Nat} {v:AV} (h:AVAt w b p v) (hb:Below w.heap.size w w'):AVAt w' b p v:=
 ⟨(hb.cell h.lt).trans h.1,(hb.cell h.lt).trans h.2.1,(hb.cell h.lt).trans h.2.2⟩
def AVRow (w:World) (ao:Option Addr) (len:Nat) (l:List AV):Prop:=
 len=l.length∧(len=0∨∃b off,ao=some ⟨b,off,none⟩∧∀i (h:i<l.length),AVAt w b (off+i*3) l[i])
theorem AVRow.below {w w':World} {ao:Option Addr} {len:Nat} {l:List AV} (h:AVRow w ao len l) (hb:Below w.heap.size w w'):AVRow w' ao len l:=by
 obtain ⟨h1,h2⟩:=h
 refine ⟨h1,?_⟩
 rcases h2 with h2 | ⟨b,off,h3,h4⟩
 ·exact .inl h2
 ·exact .inr ⟨b,off,h3,fun i h=>(h4 i h).below hb⟩
theorem AVRow.at {w:World} {ao:Option Addr} {len:Nat} {l:List AV} (h:AVRow w ao len l) {i:Nat} (hi:i<len):∃b off,ao=some ⟨b,off,none⟩∧∀(h:i<l.length),AVAt w b (off+i*3) l[i]:=by
 obtain ⟨h1,h2⟩:=h
 rcases h2 with h2 | ⟨b,off,h3,h4⟩
 ·omega
 ·exact ⟨b,off,h3,fun hi=>h4 i hi⟩
def Heads (w:World) (hs:List AV) (l:List Appl):Prop:=
 hs.length=l.length∧∀i (h:i<hs.length) (h':i<l.length),hs[i].id=l[i].id∧hs[i].queue=l[i].queue∧AskRow w hs[i].ao hs[i].len l[i].asks∧hs[i].len≤hs[i].cap
theorem ApplRow.heads {w:World} {ao:Option Addr} {len:Nat} {l:List Appl} (h:ApplRow w ao len l):∃hs,AVRow w ao len hs∧Heads w hs l:=by
 obtain ⟨h1,h2⟩:=h
 by_cases h0:len=0
 ·have hl:l=[]:=List.length_eq_zero_iff.1 (by omega)
  subst hl
  exact ⟨[],⟨by simpa using h0,.inl h0⟩,rfl,fun i h=>by simp at h⟩
 ·rcases h2 with h2 | ⟨b,off,h3,h4⟩
  ·exact absurd h2 h0
  ·have inh:Inhabited AV:=⟨⟨0,[],none,0,0⟩⟩
   obtain ⟨F,hF⟩:=Go.Deep.choose_lt (α:=AV) (n:=l.length) (p:=fun i v=>∀hi:i<l.length,AVAt w b (off+i*3) v∧v.id=l[i].id∧v.queue=l[i].queue∧AskRow w v.ao v.len l[i].asks∧v.len≤v.cap) (fun i hi=>by
    obtain ⟨x,y,z,a,c,d,e,f⟩:=h4 i hi
    exact ⟨⟨l[i].id,l[i].queue,x,y,z⟩,fun _=>⟨⟨a,c,d⟩,rfl,rfl,e,f⟩⟩)
   refine ⟨(List.range l.length).map F,⟨by simpa using h1,.inr ⟨b,off,h3,fun i hi=>?_⟩⟩,by simp,fun i hi hi'=>?_⟩
   ·have hi':i<l.length:=by simpa using hi
    simpa using (hF i hi' hi').1
   ·simpa using (hF i hi' hi').2
def addrD:Option Addr→DataW Unit
 | none=>.agg []
 | some ⟨b,o,none⟩=>.agg [.lit (.int .i64 b),.lit (.int .i64 o)]
 | some ⟨b,o,some k⟩=>.agg [.lit (.int .i64 b),.lit (.int .i64 o),.lit (.int .i64 k)]
theorem addrD_inj {a b:Option Addr} (h:addrD a=addrD b):a=b:=by
 match a,b with
 | none,none=>rfl
 | none,some ⟨x,y,none⟩=>simp [addrD] at h
 | none,some ⟨x,y,some z⟩=>simp [addrD] at h
 | some ⟨x,y,none⟩,none=>simp [addrD] at h
 | some ⟨x,y,some z⟩,none=>simp [addrD] at h
 | some ⟨x,y,none⟩,some ⟨x',y',none⟩=>simp [addrD] at h;obtain ⟨h1,h2⟩:=h;(have e1:x=x':=(by omega));(have e2:y=y':=(by omega));subst e1 e2;rfl
 | some ⟨x,y,none⟩,some ⟨x',y',some z'⟩=>simp [addrD] at h
 | some ⟨x,y,some z⟩,some ⟨x',y',none⟩=>simp [addrD] at h
 | some ⟨x,y,some z⟩,some ⟨x',y',some z'⟩=>simp [addrD] at h;obtain ⟨h1,h2,h3⟩:=h;(have e1:x=x':=(by omega));(have e2:y=y':=(by omega));(have e3:z=z':=(by omega));subst e1 e2 e3;rfl
def ad (v:AV):DataW Unit:=.agg [.lit (.int .i64 v.id),.lit (.string v.queue),addrD v.ao,.lit (.int .i64 v.len),.lit (.int .i64 v.cap)]
theorem ad_inj {a b:AV} (h:ad a=ad b):a=b:=by
 obtain ⟨a1,a2,a3,a4,a5⟩:=a
 obtain ⟨b1,b2,b3,b4,b5⟩:=b
 simp [ad] at h
 obtain ⟨h1,h2,h3,h4,h5⟩:=h
 have e3:=addrD_inj h3
 have e4:a4=b4:=by omega
 have e5:a5=b5:=by omega
 subst h1 h2 e3 e4 e5
 rfl
def appElem:Value→Option (DataW Unit×List MemPlace)
 | .agg cs=>match cs.toList with
  | [.int .i64 x,.string s,.slice ao len cap]=>some (ad ⟨x,s.data.toList,ao,len,cap⟩,[])
  | _=>none
 | _=>none
theorem appElem_mk (v:AV):appElem (avv v)=some (ad v,[]):=by
 obtain ⟨x,qu,ao,len,cap⟩:=v
 simp [appElem,bs]
theorem appElem_shape {v:Value} {y:DataW Unit×List MemPlace} (h:appElem v=some y):∃c,v=avv c:=by
 unfold appElem at h
 split at h
 ·rename_i cs
  split at h
  ·rename_i x s ao len cap e
   have e2:cs=#[.int .i64 x,.string s,.slice ao len cap]:=by cases cs;simpa using e
   exact ⟨⟨x,s.data.toList,ao,len,cap⟩,by rw [e2];simp [avv,bs_data]⟩
  ·cases h
 ·cases h
theorem appElem_inv {v:Value} {m:AV} {ps:List MemPlace} (h:appElem v=some (ad m,ps)):v=avv m:=by
 obtain ⟨c,rfl⟩:=appElem_shape h
 rw [appElem_mk] at h
 have:=ad_inj (congrArg Prod.fst (Option.some.inj h))
 rw [show c=m from this]
def findA (id:Int) (l:List AV):Option AV:=l.find? (fun v=>decide (v.id=id))
theorem findA_id {id:Int} {l:List AV} {v:AV} (h:findA id l=some v):v.id=id:=by simpa using List.find?_some h
def KnownA (l:List AV) (keep:Lit→AV→Bool) (D:DataW Unit):Prop:=
 (∀kl,Maps.has D kl=true→∃v,findA v.id l=some v∧keyOf Tryz.prog 259 (keyv [] v.id)=some kl∧∀zd,D.atKey kl zd=ad v)∧
 (∀v kl,findA v.id l=some v→keyOf Tryz.prog 259 (keyv [] v.id)=some kl→Maps.has D kl=keep kl v)
abbrev allA:Lit→AV→Bool:=fun _ _=>true
theorem knownA_empty:KnownA [] allA (.map []):=⟨fun kl h=>by simp [Maps.has] at h,fun v kl h=>by simp [findA] at h⟩
theorem KnownA.put {l:List AV} {D:DataW Unit} (h:KnownA l allA D) (hD:IsMap D) {m:AV} {kl:Lit} (hk:keyOf Tryz.prog 259 (keyv [] m.id)=some kl):KnownA (m::l) allA (D.put kl (ad m)):=by
 have hne:∀(kl':Lit) (v:AV),kl'≠kl→keyOf Tryz.prog 259 (keyv [] v.id)=some kl'→¬m.id=v.id:=fun kl' v e hv e'=>e (by rw [←e'] at hv;rw [hk] at hv;exact (Option.some.inj hv).symm)
 refine ⟨fun kl' hh=>?_,fun v kl' h1 h2=>?_⟩
 ·by_cases e:kl'=kl
  ·subst e
   exact ⟨m,by simp [findA],hk,fun zd=>atKey_put_same hD (keyLaw.key hk) _ _⟩
  ·rw [has_put_other e] at hh
   obtain ⟨v,h1,h2,h3⟩:=h.1 kl' hh
   exact ⟨v,by have:=hne kl' v e h2;simpa [findA,this] using h1,h2,fun zd=>by rw [atKey_put_other e];exact h3 zd⟩
 ·by_cases e:kl'=kl
  ·subst e
   exact has_put_same hD (keyLaw.key hk) _
  ·rw [has_put_other e]
   exact h.2 v kl' (by have:=hne kl' v e h2;simpa [findA,this] using h1) h2
theorem keyv_inj {a b:Int} {kl:Lit} (h1:keyOf Tryz.prog 259 (keyv [] a)=some kl) (h2:keyOf Tryz.prog 259 (keyv [] b)=some kl):a=b:=by
 have:=keyLaw.inj h1 h2
 simpa [keyv] using this
theorem KnownA.look {l:List AV} {keep:Lit→AV→Bool} {D:DataW Unit} (h:KnownA l keep D) {id:Int} {kl:Lit} (hk:keyOf Tryz.prog 259 (keyv [] id)=some kl) :
  (findA id l=none→Maps.has D kl=false)∧∀v,findA id l=some v→Maps.has D kl=keep kl v∧(Maps.has D kl=true→∀zd,D.atKey kl zd=ad v):=by
 refine ⟨fun hf=>?_,fun v hf=>?_⟩
 ·cases hh:Maps.has D kl with
  | false=>rfl
  | true=>
   obtain ⟨v,h1,h2,_⟩:=h.1 kl hh
   rw [←keyv_inj hk h2] at h1
   rw [hf] at h1
   cases h1
 ·have hv:=findA_id hf
  rw [←hv] at hf hk
  refine ⟨h.2 v kl hf hk,fun hh=>?_⟩
  obtain ⟨u,h1,h2,h3⟩:=h.1 kl hh
  have e:=keyv_inj hk h2
  rw [←e,hf] at h1
  cases h1
  exact h3
def optB (o:Option AV) (f:AV→Bool):Bool:=match o with
 | none=>false
 | some v=>f v
theorem appZero (w:World):(zeroValue 139).run Tryz.prog w=.ok (avv ⟨0,[],none,0,0⟩) w:=by kernel_rfl
theorem lookA {w:World} {bm n:Nat} {l:List AV} {keep:Lit→AV→Bool} {D:DataW Unit} (hown:w.ownsMap Tryz.prog 259 appElem bm n D) (hk:KnownA l keep D) {id:Int} {kl:Lit} (hkey:keyOf Tryz.prog 259 (keyv [] id)=some kl) :
  ∃v:AV,(Instr.lookup 252 (.map (some bm)) (keyv [] id) true).run Tryz.prog w=.ok (.tuple #[avv v,.bool (optB (findA id l) (keep kl))]) w∧(∀u,findA id l=some u→keep kl u=true→v=u)∧(findA id l=none→v=⟨0,[],none,0,0⟩):=by
 obtain ⟨v,ps,hrun,hv⟩:=hown.look_ok keyLaw Tryz.underlying252 (appZero w) (appElem_mk ⟨0,[],none,0,0⟩) hkey
 obtain ⟨h1,h2⟩:=hk.look hkey
 cases hf:findA id l with
 | none=>
  have hh:=h1 hf
  rw [atKey_of_not_has hh] at hv
  rw [appElem_inv hv,hh] at hrun
  exact ⟨_,hrun,(fun u e=>by cases e),fun _=>rfl⟩
 | some u=>
  obtain ⟨ha,hb⟩:=h2 u hf
  obtain ⟨c,rfl⟩:=appElem_shape hv
  rw [ha] at hrun
  refine ⟨c,hrun,fun u' e hu=>?_,(fun e=>by cases e)⟩
  cases e
  rw [hb (ha.trans hu)] at hv
  rw [appElem_mk] at hv
  exact ad_inj (congrArg Prod.fst (Option.some.inj hv))
end
section
open Go.RowKit
abbrev pcell (q:AV):List Value:=[.int .i64 q.id,.string (bs q.queue),.slice q.ao q.len q.cap]
def pcells:List AV→List Value
 | []=>[]
 | q::t=>pcell q++pcells t
theorem pcells_app (a:List AV) (q:AV):pcells (a++[q])=pcells a++pcell q:=by
 induction a with
 | nil=>rfl
 | cons x t ih=>rw [List.cons_append,pcells,pcells,ih,List.append_assoc]
theorem pcells_len:∀l:List AV,(pcells l).length=l.length*3
 | []=>rfl
 | q::t=>by rw [pcells,List.length_append,pcells_len t];simp;omega
theorem pcells_at:∀(l:List AV) (i:Nat) (h:i<l.length),(pcells l)[i*3]? = some (.int .i64 l[i].id)∧(pcells l)[i*3+1]? = some (.string (bs l[i].queue))∧(pcells l)[i*3+2]? = some (.slice l[i].ao l[i].len l[i].cap)
 | q::t,0,_=>⟨rfl,rfl,rfl⟩
 | q::t,i+1,h=>by
  have e:=pcells_at t i (by simpa using h)
  have k:∀j,(pcells (q::t))[(i+1)*3+j]? = (pcells t)[i*3+j]?:=fun j=>by
   rw [pcells,show (i+1)*3+j=(pcell q).length+(i*3+j) by simp;omega,List.getElem?_append_right (by omega)]
   congr 1
   omega
  have k0:=k 0
  simp only [Nat.add_zero] at k0
  rw [k0,k 1,k 2]
  simpa using e
theorem pcells_row {w:World} {b off len:Nat} {l:List AV} (h:AVRow w (some ⟨b,off,none⟩) len l):∀j u,(pcells l)[j]? = some u→w.cell? ⟨b,off+j,none⟩=some u:=fun j u hj=>by
 have hjl:j<l.length*3:=by rw [←pcells_len];exact (List.getElem?_eq_some_iff.1 hj).1
 obtain ⟨h1,h2⟩:=h
 rcases h2 with h2 | ⟨b',off',e,h4⟩
 ·omega
 ·cases e
  have hi:j / 3<l.length:=by omega
  obtain ⟨a0,a1,a2⟩:=pcells_at l (j / 3) hi
  obtain ⟨c0,c1,c2⟩:=h4 (j / 3) hi
  rcases (show j % 3=0∨j % 3=1∨j % 3=2 by omega) with e | e | e
  ·rw [show j=j / 3*3 by omega] at hj ⊢;rw [a0] at hj;cases hj;exact c0
  ·rw [show j=j / 3*3+1 by omega] at hj ⊢;rw [a1] at hj;cases hj;rw [←Nat.add_assoc];exact c1
  ·rw [show j=j / 3*3+2 by omega] at hj ⊢;rw [a2] at hj;cases hj;rw [←Nat.add_assoc];exact c2
theorem pcells_one:∀(l:List AV),∀u ∈ pcells l,u.oneCell'=true
 | [],u,h=>by simp [pcells] at h
 | q::t,u,h=>by
  rw [pcells,List.mem_append] at h
  rcases h with h | h
  ·simp at h
   rcases h with rfl | rfl | rfl<;>rfl
  ·exact pcells_one t u h
def POwn (B:Nat) (w:World) (v:Value) (l:List AV):Prop:=w.ownsRow B 139 3 v l.length (pcells l)
theorem pown_nil (B:Nat) (w:World):POwn B w (.slice none 0 0) []:=World.ownsRow_nil _ _ _ _
theorem pown_empty (w:World):w.alloc (.cells #[] 139) |>.ownsRow w.heap.size 139 3 (.slice (some ⟨w.heap.size,0,none⟩) 0 0) 0 []:=
 ⟨rfl,.inr ⟨w.heap.size,0,#[],rfl,yJ _,by show (w.heap.push _)[w.heap.size]? = _;simp,yJ _,by unfold maxLen;omega,rfl,rfl⟩⟩
theorem pown_below {w w':World} {B:Nat} {v:Value} {l:List AV} (h:POwn B w v l) (hb:Below w.heap.size w w'):POwn B w' v l:=
 World.ownsRow.kept h (grownBy_below (grownBy_refl w none) hb) (by by_cases e:v.ownBlock=none;exact .inl e;exact .inr e)
theorem pown_base {w:World} {B B':Nat} {v:Value} {l:List AV} (h:POwn B w v l) (hb:B'≤B):POwn B' w v l:=by
 obtain ⟨h1,h2⟩:=h
 refine ⟨h1,?_⟩
 rcases h2 with h2 | ⟨g,cap,cur,a,b,c⟩
 ·exact .inl h2
 ·exact .inr ⟨g,cap,cur,a,Nat.le_trans hb b,c⟩
theorem pown_row {w:World} {B:Nat} {v:Value} {l:List AV} (h:POwn B w v l):∃ao cap,v=.slice ao l.length cap∧AVRow w ao l.length l∧l.length≤cap∧(l≠[]→∃g cur,ao=some ⟨g,0,none⟩∧B≤g∧w.heap[g]? = some (.cells cur 139 (0,0))∧cur.size=cap*3):=by
 rcases h.2 with ⟨rfl,h0⟩ | ⟨g,cap,cur,rfl,h1,h2,h3,h4,h5,h6⟩
 ·exact ⟨none,0,by rw [h0],⟨rfl,.inl h0⟩,by omega,fun hn=>absurd (List.length_eq_zero_iff.1 h0) hn⟩
 ·refine ⟨some ⟨g,0,none⟩,cap,rfl,⟨rfl,.inr ⟨g,0,rfl,fun i hi=>?_⟩⟩,h3,fun _=>⟨g,cur,rfl,h1,h2,h5⟩⟩
  obtain ⟨a,b,c⟩:=pcells_at l i hi
  have k:∀j (v:Value),j<l.length*3→(pcells l)[j]? = some v→w.cell? ⟨g,j,none⟩=some v:=fun j v hj hv=>by
   rw [←h6,List.getElem?_take_of_lt hj] at hv
   simp [World.cell?,h2]
   simpa using hv
  unfold AVAt
  rw [Nat.zero_add]
  exact ⟨k _ _ (by omega) a,k _ _ (by omega) b,k _ _ (by omega) c⟩
theorem pown_other {w:World} {B:Nat} {v:Value} {l:List AV} (h:POwn B w v l) (k j:Nat) (x:Value) (hk:k<B):POwn B (w.setCell ⟨k,j,none⟩ x) v l:=by
 obtain ⟨h1,h2⟩:=h
 refine ⟨h1,?_⟩
 rcases h2 with h2 | ⟨g,cap,cur,a,b,c,d⟩
 ·exact .inl h2
 ·exact .inr ⟨g,cap,cur,a,b,(heap_setCell_other w ⟨k,j,none⟩ g x (show g≠k by omega)).trans c,d⟩
theorem Tryz.infoApp:(Tryz.prog.info? 139).map (fun i=>(i.zero,i.size,i.bytes))=some (some (.agg #[.int .i64 0,.string ByteArray.empty,.slice none 0 0]),3,48):=by kernel_rfl
theorem cloneApp_any (ao:Option Addr) (len cap:Nat) (l:List AV) (w:World) (h:AVRow w ao len l) (hl:len≤1048576) :
  Calls Tryz.prog 87 #[.slice ao len cap] w fun e w'=>∃v,e=.returned v∧POwn w.heap.size w' v l∧Below w.heap.size w w':=by
 obtain ⟨i0,hi,hz0,hz1,hz2⟩:=info_parts Tryz.infoApp
 cases ao with
 | none=>
  have hn:len=0:=by rcases h.2 with h | ⟨b,off,e,_⟩;exact h;cases e
  subst hn
  have hl0:l=[]:=List.length_eq_zero_iff.1 h.1.symm
  subst hl0
  have hnl:∀wx,(binOp .eql 33 (.slice none 0 cap) (.slice none 0 0)).run Tryz.prog wx=.ok (.bool true) wx:=fun wx=>Lib.run_eql_slice_nil wx _ _ none 0 cap 0 0 Tryz.underlying33
  clear h hl
  go_enter Tryz.func87,Tryz.ntmps87
  go_wp2
  go_ret
  exact ⟨_,rfl,pown_nil _ _,yH _ _⟩
 | some ad=>
  have hnew:∀j u,(pcells l)[j]? = some u→(w.alloc (.cells #[] 139)).cell? (ad.add j)=some u:=fun j u hj=>by
   have hjl:j<l.length*3:=by rw [←pcells_len];exact (List.getElem?_eq_some_iff.1 hj).1
   rcases h.2 with h0 | ⟨b,off,e,_⟩
   ·have:=h.1;omega
   ·cases e
    have:=pcells_row (h.below (yA (yH _ w) (.cells #[] 139))) j u hj
    rw [Lib.add_plain]
    exact this
  have HNW:=hide hnew
  have HLN:=hide h.1
  have hown:=pown_empty w
  have hll:(pcells l).length=len*3:=by rw [pcells_len,h.1]
  have hone:=pcells_one l
  have hnl:∀wx,(binOp .eql 33 (.slice (some ad) len cap) (.slice none 0 0)).run Tryz.prog wx=.ok (.bool false) wx:=fun wx=>Lib.run_eql_slice_nil wx _ _ (some ad) len cap 0 0 Tryz.underlying33
  clear h hnew
  go_enter Tryz.func87,Tryz.ntmps87
  go_wp2_with (at_builtin;refine wpList_append_own _ rfl _ _ 33 rfl w.heap.size 139 i0 (.agg #[.int .i64 0,.string ByteArray.empty,.slice none 0 0]) 3 48 Tryz.underlying33 hi hz0 hz1 hz2 rfl (by decide) _ _ _ rfl hown ad len cap (pcells l) rfl hll (uH HNW) hone ?c3 ?c4 ?c5 ?_)
  case c3=>unfold maxLen;omega
  case c4=>omega
  case c5=>simp
  intro v' w3 hown' hgrow _
  have HO:=hide (show POwn w.heap.size w3 v' l by
   unfold POwn
   rw [←uH HLN]
   simpa using hown')
  have HB:=hide (show Below w.heap.size w w3 from (yA (yH _ w) (.cells #[] 139)).grown hgrow (by simp) (fun k e=>by simp [Value.ownBlock] at e;omega))
  clear hown' hgrow hown hone hll
  go_wp2
  go_ret
  exact ⟨_,rfl,uH HO,uH HB⟩
def someR (a b:Int):Bool:=resOk a b&&!(decide (a=0)&&decide (b=0))
theorem something_any (a b:Int) (w:World) :
  Calls Tryz.prog 209 #[rv a b] w fun e w'=>e=.returned (.bool (someR a b))∧Below w.heap.size w w':=by
 have HB0:=hide (yA (yH _ w) (.cells #[.int .i64 a,.int .i64 b] 145))
 have P0:=hide (yD w #[.int .i64 a,.int .i64 b] 145)
 obtain ⟨r,hr⟩:∃r,resOk a b=r:=⟨_,rfl⟩
 have C:=hide (fun wx=>by have:=ok_bel a b wx;rw [hr] at this;exact this)
 have HS:=hide (show someR a b=(r&&!(decide (a=0)&&decide (b=0))) by rw [someR,hr])
 obtain ⟨o,ho⟩:∃o,someR a b=o:=⟨_,rfl⟩
 rw [ho] at HS ⊢
 clear hr ho
 go_enter Tryz.func209,Tryz.ntmps209
 go_wp2_with fail
 refine (uH C _).mono ?_
 rintro e w1 ⟨rfl,hb⟩
 have HB1:=hide (yB (uH HB0) hb)
 have P1:=(uH P0).below hb
 have p0:=P1.at 0
 have p1:=P1.at 1
 simp at p0 p1
 clear hb P1 P0 HB0 C
 cases r with
 | false=>
  go_wp2
  go_ret
  exact ⟨yF (by rw [uH HS];simp),uH HB1⟩
 | true=>
  by_cases ha:a=0
  ·by_cases hbz:b=0
   ·subst ha hbz
    go_wp2
    go_ret
    exact ⟨yF (by rw [uH HS];simp),uH HB1⟩
   ·subst ha
    go_wp2
    go_ret
    exact ⟨yF (by rw [uH HS];simp [hbz]),uH HB1⟩
  ·go_wp2
   go_ret
   exact ⟨yF (by rw [uH HS];simp [ha]),uH HB1⟩
theorem specOk_bel (a b:Int) (w:World) :
  Calls Tryz.prog 154 #[rv a b] w fun e w'=>e=.returned (.bool (resOk a b))∧Below w.heap.size w w':=
 (specResOk_any a b w).mono fun e w' h=>⟨h.1,by rw [h.2];exact yA (yH _ _) _⟩
theorem l04Some_any (a b:Int) (w:World) :
  Calls Tryz.prog 119 #[rv a b] w fun e w'=>e=.returned (.bool (someR a b))∧Below w.heap.size w w':=by
 have HB0:=hide (yA (yH _ w) (.cells #[.int .i64 a,.int .i64 b] 145))
 have P0:=hide (yD w #[.int .i64 a,.int .i64 b] 145)
 obtain ⟨r,hr⟩:∃r,resOk a b=r:=⟨_,rfl⟩
 have C:=hide (fun wx=>by have:=specOk_bel a b wx;rw [hr] at this;exact this)
 have HS:=hide (show someR a b=(r&&!(decide (a=0)&&decide (b=0))) by rw [someR,hr])
 obtain ⟨o,ho⟩:∃o,someR a b=o:=⟨_,rfl⟩
 rw [ho] at HS ⊢
 clear hr ho
 go_enter Tryz.func119,Tryz.ntmps119
 go_wp2_with fail
 refine (uH C _).mono ?_
 rintro e w1 ⟨rfl,hb⟩
 have HB1:=hide (yB (uH HB0) hb)
 have P1:=(uH P0).below hb
 have p0:=P1.at 0
 have p1:=P1.at 1
 simp at p0 p1
 clear hb P1 P0 HB0 C
 cases r with
 | false=>
  go_wp2
  go_ret
  exact ⟨yF (by rw [uH HS];simp),uH HB1⟩
 | true=>
  by_cases ha:a=0
  ·by_cases hbz:b=0
   ·subst ha hbz
    go_wp2
    go_ret
    exact ⟨yF (by rw [uH HS];simp),uH HB1⟩
   ·subst ha
    go_wp2
    go_ret
    exact ⟨yF (by rw [uH HS];simp [hbz]),uH HB1⟩
  ·go_wp2
   go_ret
   exact ⟨yF (by rw [uH HS];simp [ha]),uH HB1⟩
def askOk (q:Ask):Bool:=someR q.mem q.cpu&&(inB q.count 1 1000&&((decide (q.node=[])||nameOk q.node)&&inB q.missed 0 1000))
theorem askOk_any (q:Ask) (w:World) (hn:q.node.length≤1048576) :
  Calls Tryz.prog 223 #[askv q] w fun e w'=>e=.returned (.bool (askOk q))∧Below w.heap.size w w':=by
 obtain ⟨x0,x1,ct,nd,ms⟩:=q
 simp only at hn
 have HB0:=hide (yA (yH _ w) (.cells #[.int .i64 x0,.int .i64 x1,.int .i64 ct,.string (bs nd),.int .i64 ms] 193))
 have P0:=hide (yD w #[.int .i64 x0,.int .i64 x1,.int .i64 ct,.string (bs nd),.int .i64 ms] 193)
 obtain ⟨sm,hsm⟩:∃r,someR x0 x1=r:=⟨_,rfl⟩
 obtain ⟨nk,hnk⟩:∃r,nameOk nd=r:=⟨_,rfl⟩
 have C:=hide (fun wx=>by have:=something_any x0 x1 wx;rw [hsm] at this;exact this)
 have CN:=hide (fun wx=>by have:=implNameOk_any (bs nd) wx (by rw [bs_size];exact hn);rw [show nameOk (bs nd).data.toList=nk by rw [←hnk];simp [bs]] at this;exact this)
 have HS:=hide (show askOk ⟨x0,x1,ct,nd,ms⟩=(sm&&(inB ct 1 1000&&((decide (nd=[])||nk)&&inB ms 0 1000))) by rw [askOk];simp only [hsm,hnk])
 obtain ⟨o,ho⟩:∃o,askOk ⟨x0,x1,ct,nd,ms⟩=o:=⟨_,rfl⟩
 have hbz:=bs_empty nd
 rw [ho] at HS ⊢
 clear hsm hnk ho hn
 go_enter Tryz.func223,Tryz.ntmps223
 go_wp2_with fail
 refine (uH C _).mono ?_
 rintro e w1 ⟨rfl,hb⟩
 have HB1:=hide (yB (uH HB0) hb)
 have P1:=(uH P0).below hb
 have p2:=P1.at 2
 have p3:=P1.at 3
 have p4:=P1.at 4
 simp at p2 p3 p4
 clear hb P1 P0 HB0 C
 cases sm with
 | false=>
  go_wp2
  go_ret
  exact ⟨yF (by rw [uH HS];simp),uH HB1⟩
 | true=>
 by_cases h1:1≤ct
 case neg=>
  go_wp2
  go_ret
  exact ⟨yF (by rw [uH HS,inB_false (by omega)];simp),uH HB1⟩
 by_cases h2:ct≤1000
 case neg=>
  go_wp2
  go_ret
  exact ⟨yF (by rw [uH HS,inB_false (by omega)];simp),uH HB1⟩
 by_cases hz:nd=[]
 ·rw [decide_eq_true hz] at hbz HS
  clear hz
  by_cases m1:0≤ms
  case neg=>
   go_wp2
   go_ret
   exact ⟨yF (by rw [uH HS,inB_true h1 h2,inB_false (by omega)];simp),uH HB1⟩
  by_cases m2:ms≤1000
  case neg=>
   go_wp2
   go_ret
   exact ⟨yF (by rw [uH HS,inB_true h1 h2,inB_false (x:=ms) (by omega)];simp;omega),uH HB1⟩
  go_wp2
  go_ret
  exact ⟨yF (by rw [uH HS,inB_true h1 h2,inB_true m1 m2];simp),uH HB1⟩
 ·rw [decide_eq_false hz] at hbz HS
  clear hz
  go_wp2_with fail
  refine (uH CN _).mono ?_
  rintro e w2 ⟨rfl,rfl⟩
  clear CN
  cases nk with
  | false=>
   go_wp2
   go_ret
   exact ⟨yF (by rw [uH HS];simp),uH HB1⟩
  | true=>
  by_cases m1:0≤ms
  case neg=>
   go_wp2
   go_ret
   exact ⟨yF (by rw [uH HS,inB_true h1 h2,inB_false (by omega)];simp),uH HB1⟩
  by_cases m2:ms≤1000
  case neg=>
   go_wp2
   go_ret
   exact ⟨yF (by rw [uH HS,inB_true h1 h2,inB_false (by omega)];simp;omega),uH HB1⟩
  go_wp2
  go_ret
  exact ⟨yF (by rw [uH HS,inB_true h1 h2,inB_true m1 m2];simp),uH HB1⟩
theorem l04Ask_any (q:Ask) (w:World) (hn:q.node.length≤1048576) :
  Calls Tryz.prog 151 #[askv q] w fun e w'=>e=.returned (.bool (askOk q))∧Below w.heap.size w w':=by
 obtain ⟨x0,x1,ct,nd,ms⟩:=q
 simp only at hn
 have HB0:=hide (yA (yH _ w) (.cells #[.int .i64 x0,.int .i64 x1,.int .i64 ct,.string (bs nd),.int .i64 ms] 193))
 have P0:=hide (yD w #[.int .i64 x0,.int .i64 x1,.int .i64 ct,.string (bs nd),.int .i64 ms] 193)
 obtain ⟨sm,hsm⟩:∃r,someR x0 x1=r:=⟨_,rfl⟩
 obtain ⟨nk,hnk⟩:∃r,nameOk nd=r:=⟨_,rfl⟩
 obtain ⟨ic,hic⟩:∃r,inB ct 1 1000=r:=⟨_,rfl⟩
 obtain ⟨im,him⟩:∃r,inB ms 0 1000=r:=⟨_,rfl⟩
 have C:=hide (fun wx=>by have:=l04Some_any x0 x1 wx;rw [hsm] at this;exact this)
 have CN:=hide (fun wx=>by have:=specNameOk_any (bs nd) wx (by rw [bs_size];exact hn);rw [show nameOk (bs nd).data.toList=nk by rw [←hnk];simp [bs]] at this;exact this)
 have CC:=hide (fun wx=>by have:=l01In_any ct 1 1000 wx;rw [hic] at this;exact this)
 have CD:=hide (fun wx=>by have:=l01In_any ms 0 1000 wx;rw [him] at this;exact this)
 have HS:=hide (show askOk ⟨x0,x1,ct,nd,ms⟩=(sm&&(ic&&((decide (nd=[])||nk)&&im))) by rw [askOk];simp only [hsm,hnk,hic,him])
 obtain ⟨o,ho⟩:∃o,askOk ⟨x0,x1,ct,nd,ms⟩=o:=⟨_,rfl⟩
 have hbz:=bs_empty nd
 rw [ho] at HS ⊢
 clear hsm hnk ho hn hic him
 go_enter Tryz.func151,Tryz.ntmps151
 go_wp2_with fail
 refine (uH C _).mono ?_
 rintro e w1 ⟨rfl,hb⟩
 have HB1:=hide (yB (uH HB0) hb)
 have P1:=(uH P0).below hb
 have p2:=P1.at 2
 have p3:=P1.at 3
 have p4:=P1.at 4
 simp at p2 p3 p4
 clear hb P1 P0 HB0 C
 cases sm with
 | false=>
  go_wp2
  go_ret
  exact ⟨yF (by rw [uH HS];simp),uH HB1⟩
 | true=>
 go_wp2_with fail
 refine (uH CC _).mono ?_
 rintro e w2 ⟨rfl,rfl⟩
 clear CC
 cases ic with
 | false=>
  go_wp2
  go_ret
  exact ⟨yF (by rw [uH HS];simp),uH HB1⟩
 | true=>
 by_cases hz:nd=[]
 ·rw [decide_eq_true hz] at hbz HS
  clear hz CN
  go_wp2_with fail
  refine (uH CD _).mono ?_
  rintro e w3 ⟨rfl,rfl⟩
  clear CD
  go_wp2
  go_ret
  exact ⟨yF (by rw [uH HS];simp),uH HB1⟩
 ·rw [decide_eq_false hz] at hbz HS
  clear hz
  go_wp2_with fail
  refine (uH CN _).mono ?_
  rintro e w3 ⟨rfl,rfl⟩
  clear CN
  cases nk with
  | false=>
   go_wp2
   go_ret
   exact ⟨yF (by rw [uH HS];simp),uH HB1⟩
  | true=>
  go_wp2_with fail
  refine (uH CD _).mono ?_
  rintro e w4 ⟨rfl,rfl⟩
  clear CD
  go_wp2
  go_ret
  exact ⟨yF (by rw [uH HS];simp),uH HB1⟩
end
section
open Go.RowKit Go.Maps
def md (m:Mac):DataW Unit:=.agg [.lit (.string m.name),.lit (.int .i64 m.mem),.lit (.int .i64 m.cpu),.lit (.int .i64 m.seen)]
def macElem:Value→Option (DataW Unit×List MemPlace)
 | .agg cs=>match cs.toList with
  | [.string s,.int .i64 x,.int .i64 y,.int .i64 z]=>some (md ⟨s.data.toList,x,y,z⟩,[])
  | _=>none
 | _=>none
theorem macElem_mk (m:Mac):macElem (macv m)=some (md m,[]):=by
 obtain ⟨nm,x,y,z⟩:=m
 simp [macElem,bs]
theorem macElem_inv {v:Value} {m:Mac} {ps:List MemPlace} (h:macElem v=some (md m,ps)):v=macv m:=by
 unfold macElem at h
 split at h
 ·rename_i cs
  split at h
  ·rename_i s x y z e
   have e2:cs=#[.string s,.int .i64 x,.int .i64 y,.int .i64 z]:=by cases cs;simpa using e
   obtain ⟨nm,a,b,c⟩:=m
   simp [md] at h
   obtain ⟨⟨h1,h2,h3,h4⟩,_⟩:=h
   subst h1 h2 h3 h4
   rw [e2]
   simp [macv,bs_data]
  ·cases h
 ·cases h
def findM (nm:List UInt8) (l:List Mac):Option Mac:=l.find? (fun m=>decide (m.name=nm))
def KnownM (l:List Mac) (D:DataW Unit):Prop:=∀nm kl,keyOf Tryz.prog 259 (keyv nm 0)=some kl→Maps.has D kl=(findM nm l).isSome∧∀m,findM nm l=some m→∀zd,D.atKey kl zd=md m
theorem knownM_empty:KnownM [] (.map []):=fun nm kl _=>⟨by simp [Maps.has,findM],fun m h=>by simp [findM] at h⟩
theorem KnownM.put {l:List Mac} {D:DataW Unit} (h:KnownM l D) (hD:IsMap D) {m:Mac} {kl:Lit} (hk:keyOf Tryz.prog 259 (keyv m.name 0)=some kl):KnownM (m::l) (D.put kl (md m)):=fun nm kl' hk'=>by
 by_cases e:kl'=kl
 ·subst e
  have:=keyLaw.inj hk hk'
  simp [keyv] at this
  have hn:m.name=nm:=by
   have h1:=congrArg (fun b:ByteArray=>b.data.toList) this
   simpa [bs] using h1
  have hf:findM nm (m::l)=some m:=by simp [findM,hn]
  rw [hf]
  refine ⟨?_,fun m' h' zd=>?_⟩
  ·rw [has_put_same hD (keyLaw.key hk)];rfl
  ·cases h'
   exact atKey_put_same hD (keyLaw.key hk) _ _
 ·have hn:¬m.name=nm:=fun hn=>e (by subst hn;rw [hk] at hk';exact (Option.some.inj hk').symm)
  have hf:findM nm (m::l)=findM nm l:=by simp [findM,hn]
  rw [hf,has_put_other e]
  refine ⟨(h nm kl' hk').1,fun m' h' zd=>?_⟩
  rw [atKey_put_other e]
  exact (h nm kl' hk').2 m' h' zd
theorem macZero (w:World):(zeroValue 147).run Tryz.prog w=.ok (macv ⟨[],0,0,0⟩) w:=by kernel_rfl
theorem lookM {w:World} {bm n:Nat} {l:List Mac} {D:DataW Unit} (hown:w.ownsMap Tryz.prog 259 macElem bm n D) (hk:KnownM l D) {nm:List UInt8} {kl:Lit} (hkey:keyOf Tryz.prog 259 (keyv nm 0)=some kl) :
  (Instr.lookup 255 (.map (some bm)) (keyv nm 0) true).run Tryz.prog w=.ok (.tuple #[macv ((findM nm l).getD ⟨[],0,0,0⟩),.bool (findM nm l).isSome]) w:=by
 obtain ⟨v,ps,hrun,hv⟩:=hown.look_ok keyLaw Tryz.underlying255 (macZero w) (macElem_mk ⟨[],0,0,0⟩) hkey
 obtain ⟨h1,h2⟩:=hk nm kl hkey
 rw [hrun,h1]
 cases hf:findM nm l with
 | none=>
  rw [hf] at h1
  rw [atKey_of_not_has h1] at hv
  rw [macElem_inv hv]
  rfl
 | some m=>
  rw [h2 m hf] at hv
  rw [macElem_inv hv]
  rfl
def hasB (hs:List AV) (keep:AV→Bool) (q:Con):Bool:=optB (findA q.app hs) keep
theorem ofApp_any (q:Con) (w:World) :
  Calls Tryz.prog 232 #[conv q] w fun e w'=>e=.returned (.agg #[.string (bs []),.int .i64 q.app])∧Below w.heap.size w w':=by
 obtain ⟨id,ap,nd,me,cp⟩:=q
 go_enter Tryz.func232,Tryz.ntmps232
 go_wp2
 refine bodyPost_ret (v:=.agg #[.string (bs []),.int .i64 ap]) (by simp [results,Tryz.results232,go_sem];rfl) rfl ⟨rfl,?_⟩
 repeat (first | exact yH _ _ | refine yA ?_ _ | refine Below.drew ?_ | refine yC ?_ _ _ _ (by omega))
theorem ownsMap_below {w w':World} {k:TypeId} {R:Value→Option (DataW Unit×List MemPlace)} {b n:Nat} {D:DataW Unit} (h:w.ownsMap Tryz.prog k R b n D) (hb:Below w.heap.size w w'):w'.ownsMap Tryz.prog k R b n D:=h.kept (grownBy_below (grownBy_refl w none) hb) (by simp)
theorem has_any (bm n:Nat) (D:DataW Unit) (hs:List AV) (keep:AV→Bool) (q:Con) (w:World) (hown:w.ownsMap Tryz.prog 259 appElem bm n D) (hk:KnownA hs (fun _ v=>keep v) D) (hwf:(Lit.int .i64 q.app).wf=true) :
  Calls Tryz.prog 210 #[.map (some bm),conv q] w fun e w'=>e=.returned (.bool (hasB hs keep q))∧Below w.heap.size w w':=by
 obtain ⟨kl,hkey⟩:=keyKey (nm:=[]) (k:=q.app) (by decide) hwf
 have HL:=hide (fun wx (hb:Below w.heap.size w wx)=>lookA (ownsMap_below hown hb) hk hkey)
 obtain ⟨o,ho⟩:∃o,hasB hs keep q=o:=⟨_,rfl⟩
 have HO:=hide (show optB (findA q.app hs) keep=o from ho)
 rw [ho]
 clear ho hkey hown hk hwf
 have CO:=hide (fun wx=>ofApp_any q wx)
 obtain ⟨id,ap,nd,me,cp⟩:=q
 simp only at HL HO
 have HB0:=hide (yA (yH _ w) (.cells #[.int .i64 id,.int .i64 ap,.string (bs nd),.int .i64 me,.int .i64 cp] 150))
 go_enter Tryz.func210,Tryz.ntmps210
 go_wp2_with fail
 refine (uH CO _).mono ?_
 rintro e w1 ⟨rfl,hb⟩
 have HB1:=hide (yB (uH HB0) hb)
 obtain ⟨v,hlk,_,_⟩:=uH HL _ (uH HB1)
 rw [show optB (findA ap hs) (fun v=>keep v)=o from uH HO] at hlk
 obtain ⟨v1,v2,v3,v4,v5⟩:=v
 clear hb HB0 HL HO
 go_wp2
 go_ret
 refine ⟨rfl,?_⟩
 repeat (first | exact uH HB1 | refine yA ?_ _ | refine Below.drew ?_ | refine yC ?_ _ _ _ (by omega))
def WfSt (s:St):Prop:=(∀a ∈ s.apps,(Lit.int .i64 a.id).wf=true)∧(∀c ∈ s.cs,(Lit.int .i64 c.app).wf=true)
theorem heads_wf {w:World} {hs:List AV} {l:List Appl} (hh:Heads w hs l) (h:∀a ∈ l,(Lit.int .i64 a.id).wf=true):∀v ∈ hs,(Lit.int .i64 v.id).wf=true:=fun v hv=>by
 obtain ⟨i,hi,rfl⟩:=List.mem_iff_getElem.1 hv
 have hi':i<l.length:=by rw [←hh.1];exact hi
 rw [(hh.2 i hi hi').1]
 exact h _ (yM _)
def findAp (id:Int) (l:List Appl):Option Appl:=l.find? (fun a=>decide (a.id=id))
def apFrom (id:Int):List Appl→Nat→Int
 | [],_=>-1
 | q::t,k=>if q.id=id then k else apFrom id t (k+1)
def apAt (l:List Appl) (id:Int):Int:=apFrom id l 0
theorem apFrom_step {id:Int} {l:List Appl} {k:Nat} (h:k<l.length):apFrom id (l.drop k) k=if l[k].id=id then (k:Int) else apFrom id (l.drop (k+1)) (k+1):=by
 rw [List.drop_eq_getElem_cons h,apFrom]
theorem apFrom_end {id:Int} {l:List Appl} {k:Nat} (h:l.length≤k):apFrom id (l.drop k) k = -1:=by
 rw [List.drop_of_length_le h];rfl
theorem apFrom_find (id:Int):∀(l:List Appl) (k:Nat),(findAp id l=none∧apFrom id l k = -1)∨(∃(j:Nat) (h:j<l.length),findAp id l=some l[j]∧apFrom id l k=((k+j:Nat):Int))
 | [],k=>.inl ⟨rfl,rfl⟩
 | q::t,k=>by
  by_cases h:q.id=id
  ·right
   exact ⟨0,by simp,by simp [findAp,h],by rw [apFrom,if_pos h];simp⟩
  ·have hf:findAp id (q::t)=findAp id t:=by simp [findAp,h]
   rw [hf,apFrom,if_neg h]
   rcases apFrom_find id t (k+1) with ⟨a,b⟩ | ⟨j,hj,a,b⟩
   ·exact .inl ⟨a,b⟩
   ·exact .inr ⟨j+1,by simpa using hj,by simpa using a,by rw [b];congr 1;omega⟩
theorem apAt_find (id:Int) (l:List Appl):(findAp id l=none∧apAt l id = -1)∨(∃(j:Nat) (h:j<l.length),findAp id l=some l[j]∧apAt l id=(j:Int)):=by
 rcases apFrom_find id l 0 with h | ⟨j,h,a,b⟩
 ·exact .inl h
 ·exact .inr ⟨j,h,a,by rw [apAt,b];congr 1;omega⟩
theorem heads_find {hs:List AV} {l:List Appl} {id:Int}:hs.length=l.length→(∀i (h:i<hs.length) (h':i<l.length),hs[i].id=l[i].id∧hs[i].queue=l[i].queue)→(findA id hs).map AV.queue=(findAp id l).map Appl.queue:=by
 induction hs generalizing l with
 | nil=>
  intro h _
  have:l=[]:=List.length_eq_zero_iff.1 h.symm
  subst this
  rfl
 | cons v t ih=>
  intro h1 h2
  cases l with
  | nil=>simp at h1
  | cons a r=>
   have h0:=h2 0 (by simp) (by simp)
   simp only [List.getElem_cons_zero] at h0
   by_cases e:a.id=id
   ·have e':v.id=id:=h0.1.trans e
    simp [findA,findAp,e,e',h0.2]
   ·have e':¬v.id=id:=fun x=>e (h0.1.symm.trans x)
    have:=ih (l:=r) (by simpa using h1) (fun i a b=>by have:=h2 (i+1) (by simpa using a) (by simpa using b);simpa using this)
    simpa [findA,findAp,e,e'] using this
theorem l04App_any (x:Sls) (s:St) (id:Int) (w:World) (h:ApplRow w x.aa x.al s.apps) (hl:x.al≤1048576) :
  Calls Tryz.prog 117 #[sv x s,.int .i64 id] w fun e w'=>e=.returned (.int .i64 (apAt s.apps id))∧Below w.heap.size w w':=by
 have HR:=hide h
 have HL:=hide h.1
 have HB0:=hide (yA (yH _ w) (.cells (svc x s) 37))
 have P0:=hide (yD w (svc x s) 37)
 clear h
 obtain ⟨qa,ql,qc,aa,al,ac,ma,ml,mc,ca,cl,cc⟩:=x
 obtain ⟨qs,clock,epoch,next,serial,apps,ms,cs⟩:=s
 simp only at hl HR HL ⊢
 go_enter Tryz.func117,Tryz.ntmps117
 go_wp2
 go_loopw [5] (fun i wr=>∃(k:Nat),k≤al∧i=.int .i64 k∧Hid (apAt apps id=apFrom id (apps.drop k) k)∧Hid (Blk wr w.heap.size (svc ⟨qa,ql,qc,aa,al,ac,ma,ml,mc,ca,cl,cc⟩ ⟨qs,clock,epoch,next,serial,apps,ms,cs⟩) 37)∧Hid (Below w.heap.size w wr)) (fun i _=>al - (intOf i).toNat)
 case atStart=>exact ⟨0,Nat.zero_le _,rfl,hide (by simp [apAt]),P0,HB0⟩
 case round=>
  obtain ⟨k,hk,rfl,HQ,HP,HB⟩:=hrel
  have p5:=(uH HP).at 5
  simp at p5
  by_cases hlt:k<al
  ·obtain ⟨b,off,rfl,hq⟩:=((uH HR).below (uH HB)).at hlt
   have hkl:k<apps.length:=by have:=uH HL;omega
   have hst:=hide (apFrom_step (id:=id) hkl)
   obtain ⟨xo,xl,xc,hxx⟩:=hq hkl
   have c0:=hxx.1
   clear hq hxx
   obtain ⟨s,hs⟩:∃s,apps[k].id=s:=⟨_,rfl⟩
   rw [hs] at c0 hst
   clear hs hkl
   by_cases he:s=id
   ·have HE:=hide he
    have hbe:(s==id)=true:=by simp [he]
    clear he
    go_wp2
    go_ret
    exact ⟨ret_int (by rw [uH HQ,uH hst,if_pos (uH HE)]),uH HB⟩
   ·have HE:=hide he
    have hbe:(s==id)=false:=by simp [he]
    clear he
    go_wp2
    go_roundw
    case rel=>exact ⟨k+1,by omega,by go_num,hide (by rw [uH HQ,uH hst,if_neg (uH HE)]),HP,HB⟩
    case measure=>simp [intOf];omega
  ·go_wp2
   go_ret
   exact ⟨ret_int (by rw [uH HQ,apFrom_end (by have:=uH HL;omega)]),uH HB⟩
def macFrom (nm:List UInt8):List Mac→Nat→Int
 | [],_=>-1
 | q::t,k=>if q.name=nm then k else macFrom nm t (k+1)
def macAt (l:List Mac) (nm:List UInt8):Int:=macFrom nm l 0
theorem macFrom_step {nm:List UInt8} {l:List Mac} {k:Nat} (h:k<l.length):macFrom nm (l.drop k) k=if l[k].name=nm then (k:Int) else macFrom nm (l.drop (k+1)) (k+1):=by
 rw [List.drop_eq_getElem_cons h,macFrom]
theorem macFrom_end {nm:List UInt8} {l:List Mac} {k:Nat} (h:l.length≤k):macFrom nm (l.drop k) k = -1:=by
 rw [List.drop_of_length_le h];rfl
theorem macFrom_find (nm:List UInt8):∀(l:List Mac) (k:Nat),(findM nm l=none∧macFrom nm l k = -1)∨(∃(j:Nat) (h:j<l.length),findM nm l=some l[j]∧macFrom nm l k=((k+j:Nat):Int))
 | [],k=>.inl ⟨rfl,rfl⟩
 | q::t,k=>by
  by_cases h:q.name=nm
  ·right
   exact ⟨0,by simp,by simp [findM,h],by rw [macFrom,if_pos h];simp⟩
  ·have hf:findM nm (q::t)=findM nm t:=by simp [findM,h]
   rw [hf,macFrom,if_neg h]
   rcases macFrom_find nm t (k+1) with ⟨a,b⟩ | ⟨j,hj,a,b⟩
   ·exact .inl ⟨a,b⟩
   ·exact .inr ⟨j+1,by simpa using hj,by simpa using a,by rw [b];congr 1;omega⟩
theorem macAt_find (nm:List UInt8) (l:List Mac):(findM nm l=none∧macAt l nm = -1)∨(∃(j:Nat) (h:j<l.length),findM nm l=some l[j]∧macAt l nm=(j:Int)):=by
 rcases macFrom_find nm l 0 with h | ⟨j,h,a,b⟩
 ·exact .inl h
 ·exact .inr ⟨j,h,a,by rw [macAt,b];congr 1;omega⟩
theorem l04Machine_any (x:Sls) (s:St) (nm:List UInt8) (w:World) (h:MacRow w x.ma x.ml s.ms) (hl:x.ml≤1048576) :
  Calls Tryz.prog 118 #[sv x s,.string (bs nm)] w fun e w'=>e=.returned (.int .i64 (macAt s.ms nm))∧Below w.heap.size w w':=by
 have HR:=hide h
 have HL:=hide h.1
 have HB0:=hide (yA (yH _ w) (.cells (svc x s) 37))
 have P0:=hide (yD w (svc x s) 37)
 clear h
 obtain ⟨qa,ql,qc,aa,al,ac,ma,ml,mc,ca,cl,cc⟩:=x
 obtain ⟨qs,clock,epoch,next,serial,apps,ms,cs⟩:=s
 simp only at hl HR HL ⊢
 go_enter Tryz.func118,Tryz.ntmps118
 go_wp2
 go_loopw [5] (fun i wr=>∃(k:Nat),k≤ml∧i=.int .i64 k∧Hid (macAt ms nm=macFrom nm (ms.drop k) k)∧Hid (Blk wr w.heap.size (svc ⟨qa,ql,qc,aa,al,ac,ma,ml,mc,ca,cl,cc⟩ ⟨qs,clock,epoch,next,serial,apps,ms,cs⟩) 37)∧Hid (Below w.heap.size w wr)) (fun i _=>ml - (intOf i).toNat)
 case atStart=>exact ⟨0,Nat.zero_le _,rfl,hide (by simp [macAt]),P0,HB0⟩
 case round=>
  obtain ⟨k,hk,rfl,HQ,HP,HB⟩:=hrel
  have p6:=(uH HP).at 6
  simp at p6
  by_cases hlt:k<ml
  ·obtain ⟨b,off,rfl,hq⟩:=((uH HR).below (uH HB)).at hlt
   have hkl:k<ms.length:=by have:=uH HL;omega
   have hst:=hide (macFrom_step (nm:=nm) hkl)
   have c0:=(hq hkl).1
   clear hq
   obtain ⟨s,hs⟩:∃s,ms[k].name=s:=⟨_,rfl⟩
   rw [hs] at c0 hst
   have hbe:=bs_eq s nm
   clear hs hkl
   by_cases he:s=nm
   ·have HE:=hide he
    rw [decide_eq_true he] at hbe
    clear he
    go_wp2
    go_ret
    exact ⟨ret_int (by rw [uH HQ,uH hst,if_pos (uH HE)]),uH HB⟩
   ·have HE:=hide he
    rw [decide_eq_false he] at hbe
    clear he
    go_wp2
    go_roundw
    case rel=>exact ⟨k+1,by omega,by go_num,hide (by rw [uH HQ,uH hst,if_neg (uH HE)]),HP,HB⟩
    case measure=>simp [intOf];omega
  ·go_wp2
   go_ret
   exact ⟨ret_int (by rw [uH HQ,macFrom_end (by have:=uH HL;omega)]),uH HB⟩
end
end Go.Proofs.YtjkfappkpopbdaaGreat
