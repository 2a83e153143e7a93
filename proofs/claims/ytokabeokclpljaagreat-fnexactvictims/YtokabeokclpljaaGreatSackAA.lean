/-
  Texts in one: OkM, VicM, VicR, VicK, GrM, SrvU, SrvI, AddC, GrI, GrJ, GrS, VicB, VicL, IntLaw.
-/
import Derived.Test.YtokabeokclpljaaGreatSackR
import Derived.Test.YtokabeokclpljaaGreatSackY
import Derived.WalkMore
import Derived.Test.YtokabeokclpljaaGreatSackZ
set_option maxRecDepth 100000
set_option maxHeartbeats 16000000
set_option linter.unusedVariables false
set_option linter.unusedSimpArgs false
namespace Go.Proofs.YtokabeokclpljaaGreat
section
open Go.RowKit
def subsOk:Int→Int→List (Int×Int)→Bool
 | _,_,[]=>true
 | x,y,r::t=>bothOk (-1) x y r.1 r.2&&subsOk (x + -1*r.1) (y + -1*r.2) t
theorem okSum:∀(l:List (Int×Int)) (x y:Int),resOk x y=true→resOk (sumFrom l x y).1 (sumFrom l x y).2.1=true
 | [],x,y,h=>h
 | r::t,x,y,h=>by
  rw [sumFrom]
  by_cases hb:bothOk 1 x y r.1 r.2=true
  ·rw [if_pos hb]
   refine okSum t _ _ ?_
   simp only [bothOk,yK] at hb
   exact hb.2
  ·rw [if_neg hb];decide
theorem sumFrom_each:∀(l:List (Int×Int)) (x y:Int),(sumFrom l x y).2.2=true→∀r ∈ l,resOk r.1 r.2=true
 | [],x,y,_,r,h=>by simp at h
 | q::t,x,y,h,r,hr=>by
  rw [sumFrom] at h
  by_cases hb:bothOk 1 x y q.1 q.2=true
  ·rw [if_pos hb] at h
   rcases List.mem_cons.1 hr with rfl | hr
   ·simp only [bothOk,yK] at hb;exact hb.1.2
   ·exact sumFrom_each t _ _ h r hr
  ·rw [if_neg hb] at h;cases h
theorem sumFrom_ge:∀(l:List (Int×Int)) (x y:Int),(sumFrom l x y).2.2=true→x≤(sumFrom l x y).1∧y≤(sumFrom l x y).2.1
 | [],x,y,_=>⟨Int.le_refl _,Int.le_refl _⟩
 | r::t,x,y,h=>by
  rw [sumFrom] at h ⊢
  by_cases hb:bothOk 1 x y r.1 r.2=true
  ·rw [if_pos hb] at h ⊢
   have:=sumFrom_ge t _ _ h
   have hr:resOk r.1 r.2=true:=by simp only [bothOk,yK] at hb;exact hb.1.2
   have:=resOk_bd hr
   omega
  ·rw [if_neg hb] at h;cases h
theorem subs_sum {X Y:Int} (hX:resOk X Y=true):∀(l:List (Int×Int)) (x y:Int),resOk x y=true→x≤X→y≤Y→(subsOk (X + -1*x) (Y + -1*y) l=true↔(sumFrom l x y).2.2=true∧(sumFrom l x y).1≤X∧(sumFrom l x y).2.1≤Y)
 | [],x,y,h,h1,h2=>by simp [subsOk,sumFrom,h1,h2]
 | r::t,x,y,h,h1,h2=>by
  have bX:=resOk_bd hX
  have bx:=resOk_bd h
  rw [subsOk,sumFrom,yK]
  by_cases hs:bothOk (-1) (X + -1*x) (Y + -1*y) r.1 r.2=true
  ·have hs':=hs
   simp only [bothOk,yK] at hs'
   have br:=resOk_bd hs'.1.2
   have bs':=resOk_bd hs'.2
   have hr2:resOk (x+1*r.1) (y+1*r.2)=true:=by simp only [resOk,inB,yK,yL];omega
   have hp:bothOk 1 x y r.1 r.2=true:=by simp only [bothOk,yK];exact ⟨⟨h,hs'.1.2⟩,hr2⟩
   rw [if_pos hp]
   have ih:=subs_sum hX t (x+1*r.1) (y+1*r.2) hr2 (by omega) (by omega)
   rw [←ih]
   have e1:X + -1*(x+1*r.1)=X + -1*x + -1*r.1:=by omega
   have e2:Y + -1*(y+1*r.2)=Y + -1*y + -1*r.2:=by omega
   rw [e1,e2]
   exact ⟨fun hh=>hh.2,fun hh=>⟨hs,hh⟩⟩
  ·refine ⟨fun hh=>absurd hh.1 hs,fun ⟨g1,g2,g3⟩=>absurd ?_ hs⟩
   by_cases hp:bothOk 1 x y r.1 r.2=true
   ·rw [if_pos hp] at g1 g2 g3
    have ge:=sumFrom_ge t _ _ g1
    have hp':=hp
    simp only [bothOk,yK] at hp'
    have br:=resOk_bd hp'.1.2
    simp only [bothOk,yK]
    refine ⟨⟨?_,hp'.1.2⟩,?_⟩<;>simp only [resOk,inB,yK,yL]<;>omega
   ·rw [if_neg hp] at g1;cases g1
theorem hold_subs {cs:List Con} {m:Mac} (hr:resOk m.mem m.cpu=true):holdM cs m=true↔subsOk m.mem m.cpu (usedL (fun q=>decide (q.node=m.name)) cs)=true:=by
 have h:=subs_sum hr (usedL (fun q=>decide (q.node=m.name)) cs) 0 0 (by decide) (resOk_bd hr).1 (resOk_bd hr).2.2.1
 rw [show m.mem + -1*0=m.mem by omega,show m.cpu + -1*0=m.cpu by omega] at h
 rw [h]
 simp only [holdM,hr,Bool.true_and,yK,sumR,within]
 refine ⟨fun ⟨a,b⟩=>⟨a,of_decide_eq_true b.1.2,of_decide_eq_true b.2⟩,fun ⟨a,b,c⟩=>⟨a,⟨⟨⟨okSum _ 0 0 (by decide),trivial⟩,decide_eq_true b⟩,decide_eq_true c⟩⟩⟩
theorem leT_lt {a b:List UInt8} (h:leT a b=false):Op.bytesLess (bs b).toList (bs a).toList=true:=by
 simp only [leT,Bool.or_eq_false_iff] at h
 exact bl_tri _ _ h.1 (fun e=>by rw [e] at h;simp at h)
theorem machs_above {ck:Int}:∀(l:List Mac) (last:List UInt8),machsFrom ck last l=true→∀m ∈ l,Op.bytesLess (bs last).toList (bs m.name).toList=true
 | [],_,_,m,h=>by simp at h
 | q::t,last,h,m,hm=>by
  simp only [machsFrom,yK,Bool.not_eq_true'] at h
  have h1:=leT_lt h.1
  rcases List.mem_cons.1 hm with rfl | hm
  ·exact h1
  ·exact bl_trans _ _ _ h1 (machs_above t q.name h.2.2.2.2 m hm)
theorem machs_find {ck:Int}:∀(l:List Mac) (last:List UInt8),machsFrom ck last l=true→∀m ∈ l,findM m.name l=some m
 | [],_,_,m,h=>by simp at h
 | q::t,last,h,m,hm=>by
  simp only [machsFrom,yK,Bool.not_eq_true'] at h
  rcases List.mem_cons.1 hm with rfl | hm
  ·simp [findM]
  ·have hab:=machs_above t q.name h.2.2.2.2 m hm
   have hne:¬q.name=m.name:=fun e=>by rw [e,bl_irr] at hab;cases hab
   have:=machs_find t q.name h.2.2.2.2 m hm
   simp only [findM] at this ⊢
   rw [List.find?_cons_of_neg (by simpa using hne)]
   exact this
theorem machsS_iff {ck:Int} {cs:List Con}:∀(l:List Mac) (last:List UInt8),machsS ck cs last l=true↔machsFrom ck last l=true∧∀m ∈ l,holdM cs m=true
 | [],_=>by simp [machsS,machsFrom]
 | q::t,last=>by
  simp only [machsS,machsFrom,yK,machsS_iff t q.name,List.mem_cons,forall_eq_or_imp]
  exact ⟨fun ⟨a,b,c,d,e,f,g⟩=>⟨⟨a,b,c,d,f⟩,e,g⟩,fun ⟨⟨a,b,c,d,f⟩,e,g⟩=>⟨a,b,c,d,e,f,g⟩⟩
theorem contsS_congr {apps:List Appl} {l l':List Mac} (h:∀nm,(findM nm l').isSome=(findM nm l).isSome):∀(cs:List Con) (last:Int),contsS apps l' last cs=contsS apps l last cs
 | [],_=>rfl
 | c::t,last=>by rw [contsS,contsS,h,contsS_congr h t]
theorem used_cons {nm:List UInt8} {c:Con} {t:List Con}:usedL (fun q=>decide (q.node=nm)) (c::t)=if c.node=nm then (c.mem,c.cpu)::usedL (fun q=>decide (q.node=nm)) t else usedL (fun q=>decide (q.node=nm)) t:=by
 by_cases h:c.node=nm
 ·simp [usedL,h]
 ·simp [usedL,h]
theorem conts_iff {apps:List Appl}:∀(cs:List Con) (l:List Mac) (last:Int),contsFrom apps l last cs=true↔contsS apps l last cs=true∧∀nm m,findM nm l=some m→subsOk m.mem m.cpu (usedL (fun q=>decide (q.node=nm)) cs)=true
 | [],l,last=>by simp [contsFrom,contsS,usedL,subsOk]
 | c::t,l,last=>by
  cases hf:findM c.node l with
  | none=>simp [contsFrom,contsS,hf]
  | some m=>
   have hn:=findM_name hf
   have ih:=conts_iff (apps:=apps) t (⟨m.name,m.mem + -1*c.mem,m.cpu + -1*c.cpu,m.seen⟩::l) c.id
   have hfind:∀nm,findM nm (⟨m.name,m.mem + -1*c.mem,m.cpu + -1*c.cpu,m.seen⟩::l)=if c.node=nm then some ⟨m.name,m.mem + -1*c.mem,m.cpu + -1*c.cpu,m.seen⟩ else findM nm l:=fun nm=>by
    by_cases e:c.node=nm
    ·rw [if_pos e];simp [findM,hn,e]
    ·rw [if_neg e];simp [findM,hn,e]
   have hsome:∀nm,(findM nm (⟨m.name,m.mem + -1*c.mem,m.cpu + -1*c.cpu,m.seen⟩::l)).isSome=(findM nm l).isSome:=fun nm=>by
    rw [hfind]
    by_cases e:c.node=nm
    ·rw [if_pos e,←e,hf]
     rfl
    ·rw [if_neg e]
   rw [contsS_congr hsome] at ih
   simp only [contsFrom,contsS,hf,Option.isSome_some,Option.getD_some,Bool.true_and,yK,ih]
   constructor
   ·rintro ⟨a,b,c1,d,e,f,g⟩
    refine ⟨⟨a,b,d,c1,f⟩,fun nm m2 hm2=>?_⟩
    rw [used_cons]
    by_cases en:c.node=nm
    ·rw [if_pos en]
     rw [←en,hf] at hm2
     cases hm2
     rw [subsOk,yK]
     exact ⟨e,g nm ⟨m.name,m.mem + -1*c.mem,m.cpu + -1*c.cpu,m.seen⟩ (by rw [hfind,if_pos en])⟩
    ·rw [if_neg en]
     exact g nm m2 (by rw [hfind,if_neg en];exact hm2)
   ·rintro ⟨⟨a,b,d,c1,f⟩,g⟩
    have g0:=g c.node m hf
    rw [used_cons,if_pos rfl,subsOk,yK] at g0
    refine ⟨a,b,c1,d,g0.1,f,fun nm m2 hm2=>?_⟩
    rw [hfind] at hm2
    by_cases en:c.node=nm
    ·rw [if_pos en] at hm2
     cases hm2
     rw [←en]
     exact g0.2
    ·rw [if_neg en] at hm2
     have:=g nm m2 hm2
     rwa [used_cons,if_neg en] at this
theorem state_same (s:St):stateOkI s=stateOkS s:=by
 rw [Bool.eq_iff_iff]
 simp only [stateOkI,stateOkS,numsOk,machsOkV,machsOkS,contsOkV,yK,conts_iff,machsS_iff]
 have key:machsFrom s.clock [] s.ms=true→(sumR (capsOf s.ms)).2.2=true→((∀nm m,findM nm s.ms=some m→subsOk m.mem m.cpu (usedL (fun q=>decide (q.node=nm)) s.cs)=true)↔∀m ∈ s.ms,holdM s.cs m=true):=fun h1 h2=>by
  have hr:∀m ∈ s.ms,resOk m.mem m.cpu=true:=fun m hm=>sumFrom_each _ 0 0 h2 (m.mem,m.cpu) (by simp only [capsOf,List.mem_map];exact ⟨m,hm,rfl⟩)
  constructor
  ·intro h m hm
   exact (hold_subs (hr m hm)).2 (h m.name m (machs_find _ _ h1 m hm))
  ·intro h nm m hf
   have hm:m ∈ s.ms:=List.mem_of_find?_eq_some hf
   have hn:=findM_name hf
   have:=(hold_subs (hr m hm)).1 (h m hm)
   rwa [hn] at this
 constructor
 ·rintro ⟨a,⟨b1,b2,b3,b4⟩,c,⟨d1,d2,d3⟩,e1,e2,e3⟩
  exact ⟨a,b1,b2,b3,b4,c,⟨⟨d2,(key d2 d3).1 e3⟩,d3,d1⟩,e1,e2⟩
 ·rintro ⟨a,b1,b2,b3,b4,c,⟨⟨d2,hh⟩,d3,d1⟩,e1,e2⟩
  exact ⟨a,⟨b1,b2,b3,b4⟩,c,⟨d1,d2,d3⟩,e1,e2,(key d2 d3).2 hh⟩
def stateOkV (s:St):Bool:=stateOkS s
theorem specStateOk_any (x:Sls) (s:St) (w:World) (h:SRow w x s) (hf:FitSt s) :
  Calls Tryz.prog 17 #[sv x s] w fun e w'=>e=.returned (.bool (stateOkV s))∧Below w.heap.size w w':=stateOkS_any x s w h hf
theorem implStateOk_any (x:Sls) (s:St) (w:World) (h:SRow w x s) (hf:FitSt s) (hc:x.ql≤x.qc) (hw:WfSt s) :
  Calls Tryz.prog 29 #[sv x s] w fun e w'=>e=.returned (.bool (stateOkV s))∧Below w.heap.size w w':=by
 have:=stateOkI_any x s w h hf hc hw
 rwa [state_same] at this
def queOf (s:St) (c:Con):List UInt8:=(appOfV s c.app).1.queue
def onQ (s:St) (q:List UInt8) (c:Con):Bool:=decide (queOf s c=q)
def lastIdx (p:Con→Bool):List Con→Option Nat
 | []=>none
 | c::t=>match lastIdx p t with
  | some i=>some (i+1)
  | none=>if p c=true then some 0 else none
theorem lastIdx_none {p:Con→Bool}:∀{l:List Con},(∀c ∈ l,p c=false)→lastIdx p l=none
 | [],_=>rfl
 | c::t,h=>by
  rw [lastIdx,lastIdx_none (fun x hx=>h x (List.mem_cons_of_mem _ hx))]
  simp [h c List.mem_cons_self]
theorem lastIdx_is {p:Con→Bool}:∀{l:List Con} {i:Nat} (h:i<l.length),p l[i]=true→(∀j (hj:j<l.length),i<j→p l[j]=false)→lastIdx p l=some i
 | [],i,h,_,_=>by simp at h
 | c::t,0,h,h1,h2=>by
  have:lastIdx p t=none:=lastIdx_none (fun x hx=>by
   obtain ⟨j,hj,rfl⟩:=List.mem_iff_getElem.1 hx
   have:=h2 (j+1) (by simpa using hj) (by omega)
   simpa using this)
  rw [lastIdx,this]
  simp only [List.getElem_cons_zero] at h1
  simp [h1]
 | c::t,i+1,h,h1,h2=>by
  rw [lastIdx,lastIdx_is (l:=t) (i:=i) (by simpa using h) (by simpa using h1) (fun j hj hij=>by have:=h2 (j+1) (by simpa using hj) (by omega);simpa using this)]
theorem lastIdx_at {p:Con→Bool}:∀{l:List Con} {i:Nat},lastIdx p l=some i→∃h:i<l.length,p l[i]=true
 | [],i,h=>by simp [lastIdx] at h
 | c::t,i,h=>by
  rw [lastIdx] at h
  cases ht:lastIdx p t with
  | some j=>
   rw [ht] at h
   obtain rfl:=Option.some.inj h
   obtain ⟨hj,hp⟩:=lastIdx_at ht
   exact ⟨by simpa using hj,by simpa using hp⟩
  | none=>
   rw [ht] at h
   simp only at h
   split at h
   ·obtain rfl:=Option.some.inj h
    rename_i hp
    exact ⟨by simp,by simpa using hp⟩
   ·cases h
theorem lastIdx_some {p:Con→Bool} {l:List Con} (h:∃c ∈ l,p c=true):lastIdx p l≠none:=by
 induction l with
 | nil=>obtain ⟨c,hc,_⟩:=h;cases hc
 | cons c t ih=>
  rw [lastIdx]
  cases ht:lastIdx p t with
  | some i=>simp
  | none=>
   obtain ⟨d,hd,hp⟩:=h
   rcases List.mem_cons.1 hd with rfl | hd
   ·simp [hp]
   ·exact absurd ht (ih ⟨d,hd,hp⟩)
def lastF (s:St):List (List UInt8)→Option Nat
 | []=>none
 | q::t=>if overV s q=true then (match lastIdx (onQ s q) s.cs with | some i=>some i | none=>lastF s t) else lastF s t
def lastS (s:St):Option Nat:=lastF s (orderV s).reverse
def lastG (s:St):List (List UInt8)→Option Nat
 | []=>none
 | q::t=>if overV s q=true then lastIdx (onQ s q) s.cs else lastG s t
def plL:Option Nat→Int
 | some i=>(i:Int)
 | none=>-1
theorem way_kids {l:List Q} (h:queuesOk l=true) {nm:List UInt8}:∀(n k:Nat),k≤n→(hk:k<l.length)→nm ∈ wayUp l k→nm=l[k].name∨∃j,∃hj:j<l.length,l[j].parent=nm
 | n,k,hn,hk,hm=>by
  rw [way_step h hk] at hm
  rcases List.mem_cons.1 hm with e | hm
  ·exact .inl e
  ·have hp:=parent_ahead h hk
   by_cases h0:place l l[k].parent<0
   ·rw [way_none h0] at hm;simp at hm
   ·obtain ⟨p,hpe⟩:=Int.eq_ofNat_of_zero_le (Int.not_lt.1 h0)
    rw [hpe] at hm hp
    cases n with
    | zero=>omega
    | succ n=>
     have hpl:p<l.length:=by omega
     rcases way_kids h n p (by omega) hpl hm with e | e
     ·obtain ⟨_,e2⟩:=place_at hpe
      exact .inr ⟨k,hk,by rw [e,e2]⟩
     ·exact .inr e
theorem noKid_all {nm:List UInt8}:∀{l:List Q},noKid nm l=true→∀q ∈ l,q.parent≠nm
 | [],_,q,hq=>by cases hq
 | x::t,h,q,hq=>by
  rw [noKid] at h
  simp only [yK,yL] at h
  rcases List.mem_cons.1 hq with rfl | hq
  ·exact h.1
  ·exact noKid_all h.2 q hq
theorem leaf_by {s:St} {nm:List UInt8} (hl:leaf s.qs nm=true) {c:Con} (h:byQ s nm c=true):queOf s c=nm:=by
 simp only [leaf,yK,yL] at hl
 obtain ⟨hk,ho,_⟩:=hl
 unfold byQ at h
 unfold queOf appOfV
 cases hf:findAp c.app s.apps with
 | none=>rw [hf] at h;cases h
 | some a=>
  rw [hf] at h
  simp only at h ⊢
  rw [List.any_eq_true] at h
  obtain ⟨x,hx,e⟩:=h
  simp only [yL] at e
  subst e
  rw [path,if_pos ho] at hx
  by_cases h0:place s.qs a.queue<0
  ·rw [show pathAt s.qs (s.qs.length+1) (place s.qs a.queue)=[] from way_none h0] at hx
   cases hx
  ·obtain ⟨p,hpe⟩:=Int.eq_ofNat_of_zero_le (Int.not_lt.1 h0)
   obtain ⟨hp,e2⟩:=place_at hpe
   rw [hpe] at hx
   rcases way_kids ho p p (yJ _) hp hx with e3 | ⟨j,hj,e3⟩
   ·rw [e3,e2]
   ·exact absurd e3 (noKid_all hk _ (yM hj))
theorem over_has {s:St} {q:List UInt8} (h:overV s q=true):∃c ∈ s.cs,onQ s q c=true:=by
 simp only [overV,yK,Bool.not_eq_true'] at h
 obtain ⟨hl,hw⟩:=h
 have hd:=due_ok s q
 have hu:=used_ok s q
 by_cases he:∃c ∈ s.cs,byQ s q c=true
 ·obtain ⟨c,hc,hb⟩:=he
  exact ⟨c,hc,decide_eq_true (leaf_by hl hb)⟩
 ·exfalso
  have hn:usedL (byQ s q) s.cs=[]:=by
   unfold usedL
   rw [List.map_eq_nil_iff,List.filter_eq_nil_iff]
   exact fun c hc hb=>he ⟨c,hc,hb⟩
  have hz:usedByV s q=(0,0):=by unfold usedByV;rw [hn];rfl
  rw [hz] at hw
  have hb:=resOk_bd hd
  have:within 0 0 (dueV s q).1 (dueV s q).2=true:=by
   simp only [within,yK,yL]
   exact ⟨⟨⟨by decide,hd⟩,by omega⟩,by omega⟩
  rw [this] at hw
  cases hw
theorem lastG_is (s:St):∀l,lastG s l=lastF s l
 | []=>rfl
 | q::t=>by
  rw [lastG,lastF,lastG_is s t]
  split
  ·rename_i h
   cases hi:lastIdx (onQ s q) s.cs with
   | some i=>rfl
   | none=>exact absurd hi (lastIdx_some (over_has h))
  ·rfl
theorem lastF_at {s:St}:∀{l:List (List UInt8)} {i:Nat},lastF s l=some i→i<s.cs.length
 | [],i,h=>by cases h
 | q::t,i,h=>by
  rw [lastF] at h
  split at h
  ·cases hi:lastIdx (onQ s q) s.cs with
   | some j=>
    rw [hi] at h
    obtain rfl:=Option.some.inj h
    exact (lastIdx_at hi).1
   | none=>rw [hi] at h;exact lastF_at h
  ·exact lastF_at h
theorem ord_len (s:St):(orderV s).length≤s.qs.length:=by
 rw [(orderV_perm s).length_eq]
 exact leavesOf_len _
def withC (s:St) (cs:List Con):St:=⟨s.qs,s.clock,s.epoch,s.next,s.serial,s.apps,s.ms,cs⟩
def addV (g:Int×Int) (c:Con):Int×Int:=if bothOk 1 g.1 g.2 c.mem c.cpu=true then (g.1+c.mem,g.2+c.cpu) else (0,0)
def vicF (s:St) (lk:Int×Int):Nat→List Con→Int×Int→List Con
 | 0,_,_=>[]
 | n+1,cs,g=>if within lk.1 lk.2 g.1 g.2=true then [] else match lastS (withC s cs) with
  | none=>[]
  | some i=>match cs[i]? with
   | none=>[]
   | some c=>c::vicF s lk n (cs.eraseIdx i) (addV g c)
def victimsC (s:St) (q:List UInt8):List Con:=if stateOkV s=true∧(starveV s).any (fun x=>decide (x=q))=true then vicF s (lackV s q) (s.cs.length+1) s.cs (0,0) else []
def victimsV (s:St) (q:List UInt8):List Int:=(victimsC s q).map (·.id)
theorem vic_enough {s:St} {lk g:Int×Int} {n:Nat} {cs:List Con} (h:within lk.1 lk.2 g.1 g.2=true):vicF s lk n cs g=[]:=by
 cases n with
 | zero=>rfl
 | succ n=>rw [vicF,if_pos h]
theorem vic_none {s:St} {lk g:Int×Int} {n:Nat} {cs:List Con} (h:lastS (withC s cs)=none):vicF s lk n cs g=[]:=by
 cases n with
 | zero=>rfl
 | succ n=>
  rw [vicF,h]
  split<;>rfl
theorem vic_some {s:St} {lk g:Int×Int} {n i:Nat} {cs:List Con} (h:within lk.1 lk.2 g.1 g.2=false) (hi:lastS (withC s cs)=some i):∃hc:i<cs.length,vicF s lk (n+1) cs g=cs[i]::vicF s lk n (cs.eraseIdx i) (addV g cs[i]):=by
 have hc:i<cs.length:=lastF_at hi
 refine ⟨hc,?_⟩
 rw [vicF,if_neg (by simp [h]),hi]
 simp only
 rw [List.getElem?_eq_getElem hc]
structure VRel (s:St) (lk:Int×Int) (n:Nat) (L G:List Con) (g:Int×Int):Prop where
 eq:vicF s lk (s.cs.length+1) s.cs (0,0)=G++vicF s lk n L g
 len:L.length<n
 sub:∀c ∈ L,c ∈ s.cs
 tot:L.length+G.length=s.cs.length
theorem VRel.start (s:St) (lk:Int×Int):VRel s lk (s.cs.length+1) s.cs [] (0,0):=⟨rfl,Nat.lt_succ_self _,fun _ h=>h,by simp⟩
theorem VRel.enough {s:St} {lk g:Int×Int} {n:Nat} {L G:List Con} (h:VRel s lk n L G g) (hw:within lk.1 lk.2 g.1 g.2=true):vicF s lk (s.cs.length+1) s.cs (0,0)=G:=by rw [h.eq,vic_enough hw,List.append_nil]
theorem VRel.over {s:St} {lk g:Int×Int} {n:Nat} {L G:List Con} (h:VRel s lk n L G g) (hw:lastS (withC s L)=none):vicF s lk (s.cs.length+1) s.cs (0,0)=G:=by rw [h.eq,vic_none hw,List.append_nil]
theorem VRel.step {s:St} {lk g:Int×Int} {n i:Nat} {L G:List Con} (h:VRel s lk n L G g) (hw:within lk.1 lk.2 g.1 g.2=false) (hi:lastS (withC s L)=some i):∃hc:i<L.length,VRel s lk (n - 1) (L.eraseIdx i) (G++[L[i]]) (addV g L[i]):=by
 obtain ⟨m,rfl⟩:∃m,n=m+1:=⟨n - 1,by have:=h.len;omega⟩
 obtain ⟨hc,he⟩:=vic_some (n:=m) hw hi
 refine ⟨hc,?_,?_,fun c hm=>h.sub c (List.mem_of_mem_eraseIdx hm),?_⟩
 ·rw [h.eq,he,List.append_assoc];rfl
 ·rw [List.length_eraseIdx_of_lt hc];have:=h.len;omega
 ·rw [List.length_eraseIdx_of_lt hc,List.length_append];have:=h.tot;simp;omega
theorem stv_len (s:St):(starveV s).length≤s.qs.length:=by
 rw [starveV,List.length_mergeSort]
 exact Nat.le_trans (List.length_filter_le _ _) (leavesOf_len _)
theorem wf_withC {s:St} {L:List Con} (h:WfSt s) (hs:∀c ∈ L,c ∈ s.cs):WfSt (withC s L):=⟨h.1,fun c hc=>h.2 c (hs c hc)⟩
theorem fit_withC {s:St} {L:List Con} (h:FitSt s) (hl:L.length≤s.cs.length) (hs:∀c ∈ L,c ∈ s.cs):FitSt (withC s L):=by
 refine ⟨h.1,h.2.1,h.2.2.1,⟨Nat.le_trans hl h.2.2.2.1,fun c hc=>h.2.2.2.2 c (hs c hc)⟩⟩
theorem srow_withC {w w':World} {x:Sls} {s:St} {L:List Con} {ca:Option Addr} {cc:Nat} (h:SRow w x s) (hb:Below w.heap.size w w') (hr:ConRow w' ca L.length L):SRow w' ⟨x.qa,x.ql,x.qc,x.aa,x.al,x.ac,x.ma,x.ml,x.mc,ca,L.length,cc⟩ (withC s L):=by
 have:=h.below hb
 exact ⟨this.1,this.2.1,this.2.2.1,hr⟩
theorem addV_both (a b:Int) (c:Con):bothV 1 a b c.mem c.cpu=rv (addV (a,b) c).1 (addV (a,b) c).2:=by
 unfold bothV addV
 simp only
 split
 ·rw [Int.one_mul,Int.one_mul]
 ·rfl
end
section
open Go.RowKit Go.Maps
attribute [local go_sem] Oper.semAt_some
theorem fieldA (i:Int) (q:List UInt8) (ao:Option Addr) (len cap:Nat) (wx:World):(Instr.field 106 (.agg #[.int .i64 i,.string (bs q),.slice ao len cap]) 1).run Tryz.prog wx=.ok (.string (bs q)) wx:=by
 simp [Instr.field,go_sem,asAgg]
theorem lookA1 {w:World} {bm n:Nat} {l:List AV} {D:DataW Unit} (hown:w.ownsMap Tryz.prog 160 appElem bm n D) (hk:KnownA l allA D) {id:Int} {kl:Lit} (hkey:keyOf Tryz.prog 160 (keyv [] id)=some kl) :
  ∃v:AV,(Instr.lookup 153 (.map (some bm)) (keyv [] id) false).run Tryz.prog w=.ok (avv v) w∧(∀u,findA id l=some u→v=u)∧(findA id l=none→v=⟨0,[],none,0,0⟩):=by
 obtain ⟨v,ps,hrun,hv⟩:=hown.lookup keyLaw Tryz.underlying153 (appZero w) (appElem_mk ⟨0,[],none,0,0⟩) hkey
 obtain ⟨h1,h2⟩:=hk.look hkey
 cases hf:findA id l with
 | none=>
  have hh:=h1 hf
  rw [atKey_of_not_has hh] at hv
  rw [appElem_inv hv] at hrun
  exact ⟨_,hrun,(fun u e=>by cases e),fun _=>rfl⟩
 | some u=>
  obtain ⟨ha,hb⟩:=h2 u hf
  obtain ⟨c,rfl⟩:=appElem_shape hv
  refine ⟨c,hrun,fun u' e=>?_,(fun e=>by cases e)⟩
  cases e
  rw [hb ha] at hv
  rw [appElem_mk] at hv
  exact ad_inj (congrArg Prod.fst (Option.some.inj hv))
theorem par_ap {id:Int}:∀(hs:List AV) (l:List Appl),hs.length=l.length→(∀i (h:i<hs.length) (h':i<l.length),hs[i].id=l[i].id∧hs[i].queue=l[i].queue)→
  (findA id hs=none∧findAp id l=none)∨∃v a,findA id hs=some v∧findAp id l=some a∧v.queue=a.queue
 | [],[],_,_=>.inl ⟨rfl,rfl⟩
 | v::t,a::r,h1,h2=>by
  have h0:=h2 0 (by simp) (by simp)
  simp only [List.getElem_cons_zero] at h0
  by_cases e:a.id=id
  ·have e':v.id=id:=h0.1.trans e
   exact .inr ⟨v,a,by simp [findA,e'],by simp [findAp,e],h0.2⟩
  ·have e':¬v.id=id:=fun x=>e (h0.1.symm.trans x)
   rcases par_ap t r (by simpa using h1) (fun i a b=>by have:=h2 (i+1) (by simpa using a) (by simpa using b);simpa using this) with ⟨x,y⟩ | ⟨v',a',x,y,z⟩
   ·exact .inl ⟨by simpa [findA,e'] using x,by simpa [findAp,e] using y⟩
   ·exact .inr ⟨v',a',by simpa [findA,e'] using x,by simpa [findAp,e] using y,z⟩
 | [],a::r,h1,_=>by simp at h1
 | v::t,[],h1,_=>by simp at h1
theorem lookQ {wa w:World} {s:St} {hs:List AV} {bm n:Nat} {D:DataW Unit} (hh:Heads wa hs s.apps) (hown:w.ownsMap Tryz.prog 160 appElem bm n D) (hk:KnownA hs allA D) (c:Con) (hc:(Lit.int .i64 c.app).wf=true) :
  ∃v:AV,(Instr.lookup 153 (.map (some bm)) (.agg #[.string (bs []),.int .i64 c.app]) false).run Tryz.prog w=.ok (.agg #[.int .i64 v.id,.string (bs v.queue),.slice v.ao v.len v.cap]) w∧v.queue=queOf s c:=by
 obtain ⟨kl,hkey⟩:=keyKey (nm:=[]) (k:=c.app) (by decide) hc
 obtain ⟨v,h1,h2,h3⟩:=lookA1 hown hk hkey
 refine ⟨v,h1,?_⟩
 rcases par_ap (id:=c.app) hs s.apps hh.1 (fun i a b=>let ⟨x,y,_⟩:=hh.2 i a b;⟨x,y⟩) with ⟨hf1,hf2⟩ | ⟨u,a,hf1,hf2,hu2⟩
 ·rw [h3 hf1];simp [queOf,appOfV,hf2]
 ·rw [h2 u hf1,hu2];simp [queOf,appOfV,hf2]
theorem map_ownF {β:Type} {A:Nat} (bm n:Nat) (hs:List AV) (h:bm<A):OwnFrom A (fun (_:β) W=>∃D,W.ownsMap Tryz.prog 160 appElem bm n D∧KnownA hs allA D):=fun s X Y row hs hg hr=>by
 obtain ⟨D,h1,h2⟩:=hs
 exact ⟨D,h1.kept hg (fun e=>by have:=(hr _ e.symm).1;omega),h2⟩
theorem blk_ownC {β:Type} (g:Nat) (f:β→Array Value) (t:TypeId):Own (fun (s:β) W=>Blk W g (f s) t):=fun s X Y row hs hg hr=>
 (hg.block g (show Blk X g (f s) t from hs).lt (fun e=>by
  obtain ⟨o,ho,hc⟩:=hr g e.symm
  rw [show X.heap[g]? = _ from hs] at ho
  cases ho
  cases hc)).trans hs
theorem fall_all {n k j:Nat} {a:List Nat} (h:List.IsPrefix (a++[k]) (List.range n).reverse) (hk:k<j) (hj:j<n):j ∈ a:=by
 obtain ⟨b,hb⟩:=h
 have hm:j ∈ (List.range n).reverse:=by simp [hj]
 have hp:((List.range n).reverse).Pairwise (fun x y=>y<x):=List.pairwise_reverse.2 List.pairwise_lt_range
 rw [←hb,List.append_assoc] at hp hm
 rcases List.mem_append.1 hm with hm | hm
 ·exact hm
 ·rcases List.mem_cons.1 hm with rfl | hm
  ·omega
  ·have:=(List.pairwise_append.1 hp).2.1
   have:=(List.pairwise_cons.1 this).1 j hm
   omega
def valC {ms:List Con} (pre:List (CIx ms)):Int:=match pre.getLast? with
 | some y=>y.1.1
 | none=>0
theorem last_stop {ms:List Con} {p:Con→Bool} {pre ini:List (CIx ms)} {last:CIx ms} (hp:List.IsPrefix (cpl pre) (List.range ms.length).reverse) (e:pre=ini++[last]) (hy:∀y ∈ ini,p y.1.2=false) (hl:p last.1.2=true):plL (lastIdx p ms)=valC pre:=by
 subst e
 obtain ⟨⟨i,c⟩,k,hk,he⟩:=last
 simp only [Prod.mk.injEq] at he
 obtain ⟨rfl,rfl⟩:=he
 have e2:valC (ini++[(⟨((k:Int),ms[k]),k,hk,rfl⟩:CIx ms)])=(k:Int):=by rw [valC,List.getLast?_append];rfl
 rw [e2,lastIdx_is hk hl (fun j hj hkj=>?_)]
 ·rfl
 ·have e3:cpl (ini++[(⟨((k:Int),ms[k]),k,hk,rfl⟩:CIx ms)])=cpl ini++[k]:=by rw [cpl,List.map_append];simp [cpl]
  rw [e3] at hp
  have:=fall_all hp hkj hj
  obtain ⟨⟨⟨yi,yc⟩,ky,hky,hye⟩,hym,hyj⟩:=List.mem_map.1 this
  simp only [Prod.mk.injEq] at hye
  obtain ⟨rfl,rfl⟩:=hye
  have hyj:ky=j:=by simpa using hyj
  subst hyj
  exact hy _ hym
theorem last_end {ms:List Con} {p:Con→Bool} {ys:List (CIx ms)} (hp:cpl ys=(List.range ms.length).reverse) (hy:∀y ∈ ys,p y.1.2=false):plL (lastIdx p ms) = -1:=by
 rw [lastIdx_none (fun c hc=>?_)]
 ·rfl
 ·obtain ⟨j,hj,rfl⟩:=List.mem_iff_getElem.1 hc
  have:j ∈ cpl ys:=by rw [hp];simp [hj]
  obtain ⟨⟨⟨yi,yc⟩,ky,hky,hye⟩,hym,hyj⟩:=List.mem_map.1 this
  simp only [Prod.mk.injEq] at hye
  obtain ⟨rfl,rfl⟩:=hye
  have hyj:ky=j:=by simpa using hyj
  subst hyj
  exact hy _ hym
theorem lastCont_any (x:Sls) (s:St) (wt:List UInt8) (w:World) (h:SRow w x s) (hf:FitSt s) (hw:WfSt s) :
  Calls Tryz.prog 93 #[sv x s,.string (bs wt)] w fun e w'=>e=.returned (.int .i64 (plL (lastIdx (onQ s wt) s.cs)))∧Below w.heap.size w w':=by
 have hal:x.al≤1048576:=by have:=h.len.2.1;have:=hf.2.1.1;omega
 have hcl:x.cl≤1048576:=by have:=h.2.2.2.1;have:=hf.2.2.2.1;omega
 obtain ⟨hs,hav,hh⟩:=h.2.1.heads
 have CM:=hide (fun wx (hb:Below w.heap.size w wx)=>apps_ex x s hs wx (hav.below hb) hal (heads_wf hh hw.1))
 have CROW:=hide (fun wx (hb:Below w.heap.size w wx)=>h.2.2.2.below hb)
 obtain ⟨pq,hpq⟩:∃f:Con→Bool,onQ s wt=f:=⟨_,rfl⟩
 obtain ⟨qf,hqf⟩:∃f:Con→List UInt8,queOf s=f:=⟨_,rfl⟩
 have HPQ:=hide (show ∀c,pq c=decide (qf c=wt) from fun c=>by rw [←hpq,←hqf];rfl)
 have LK:=hide (show ∀c,c ∈ s.cs→∀(wx:World) (bm:Nat) (D:DataW Unit),wx.ownsMap Tryz.prog 160 appElem bm hs.length D→KnownA hs allA D→∃v:AV,(Instr.lookup 153 (.map (some bm)) (.agg #[.string (bs []),.int .i64 c.app]) false).run Tryz.prog wx=.ok (.agg #[.int .i64 v.id,.string (bs v.queue),.slice v.ao v.len v.cap]) wx∧v.queue=qf c from
  fun c hc wx bm D h1 h2=>by rw [←hqf];exact lookQ hh h1 h2 c (hw.2 c hc))
 rw [hpq]
 obtain ⟨r,hr⟩:∃r,plL (lastIdx pq s.cs)=r:=⟨_,rfl⟩
 have HR:=hide hr
 rw [hr]
 clear h hf hw hav hh hpq hqf hr
 obtain ⟨qa,ql,qc,aa,al,ac,ma,ml,mc,ca,cl,cc⟩:=x
 obtain ⟨qs,clock,epoch,next,serial,apps,ms,cs⟩:=s
 simp only at CM CROW LK HR hal hcl
 have hB0:=yA (yA (yA (yH _ w) (.cells (svc ⟨qa,ql,qc,aa,al,ac,ma,ml,mc,ca,cl,cc⟩ ⟨qs,clock,epoch,next,serial,apps,ms,cs⟩) 36)) (.cells #[.string (bs wt)] 9)) (.cells #[.int .i64 0] 3)
 have P0:=hide (((yD w (svc ⟨qa,ql,qc,aa,al,ac,ma,ml,mc,ca,cl,cc⟩ ⟨qs,clock,epoch,next,serial,apps,ms,cs⟩) 36).al (.cells #[.string (bs wt)] 9)).al (.cells #[.int .i64 0] 3))
 have Q0:=(yD (w.alloc (.cells (svc ⟨qa,ql,qc,aa,al,ac,ma,ml,mc,ca,cl,cc⟩ ⟨qs,clock,epoch,next,serial,apps,ms,cs⟩) 36)) #[.string (bs wt)] 9).al (.cells #[.int .i64 0] 3)
 have R0:=yD ((w.alloc (.cells (svc ⟨qa,ql,qc,aa,al,ac,ma,ml,mc,ca,cl,cc⟩ ⟨qs,clock,epoch,next,serial,apps,ms,cs⟩) 36)).alloc (.cells #[.string (bs wt)] 9)) #[.int .i64 0] 3
 have hsz:(((w.alloc (.cells (svc ⟨qa,ql,qc,aa,al,ac,ma,ml,mc,ca,cl,cc⟩ ⟨qs,clock,epoch,next,serial,apps,ms,cs⟩) 36)).alloc (.cells #[.string (bs wt)] 9)).alloc (.cells #[.int .i64 0] 3)).heap.size=w.heap.size+3:=by simp only [yE]
 rw [yE] at Q0
 rw [yE,yE] at R0
 have HQ0:=hide Q0
 have HR0:=hide R0
 have HB0:=hide hB0
 clear hB0 Q0 R0
 obtain ⟨x0,x1,x2,x3,x4,x5,x6,x7⟩:=zq (uH P0)
 have hmx:Tryz.prog.follows .mixedOrders=true:=by kernel_rfl
 refine (callsIn_wide (n:=3)).1 ?_
 refine callsIn_of_wp_marks Tryz.func93 rfl trivial ?_ rfl
 simp only [Tryz.ntmps93,List.size_toArray,List.length_cons,List.length_nil,Nat.reduceAdd,Nat.reduceSub,Array.replicate_succ,Array.replicate_zero,List.push_toArray,List.append_toArray,List.nil_append,List.cons_append]
 gi_wp2_with fail
 first | refine ⟨trivial,?_⟩ | skip
 first | refine ⟨(by intro e;cases e),?_⟩ | skip
 refine (callsIn_wide.2 (uH CM _ (uH HB0))).mono ?_
 rintro e w1 ⟨bm,rfl,⟨hbm,D,hown,hk⟩,hb⟩
 have HB1:=hide (yB (uH HB0) hb)
 have Q1:=hide ((uH HQ0).below hb)
 have R1:=hide ((uH HR0).below hb)
 have y7:=((uH P0).below hb).at 7
 have y8:=(((uH P0).below hb).al (.cells #[.map (some bm)] 153)).at 7
 simp at y7 y8
 have KN1:=hide (show ∃D,w1.ownsMap Tryz.prog 160 appElem bm hs.length D∧KnownA hs allA D from ⟨D,hown,hk⟩)
 rw [hsz] at hbm
 have hw1:w.heap.size+2<w1.heap.size:=(uH R1).lt
 have hbw:bm<w1.heap.size:=by obtain ⟨es,ck,hm',_⟩:=hown;exact lt_of_block hm'
 clear hb hown hk HB0 HQ0 HR0 P0 CM x0 x1 x2 x3 x4 x5 x6 x7 hsz
 gi_wp2_with fail
 first | refine ⟨trivial,?_⟩ | skip
 first | refine ⟨(by intro e;cases e),?_⟩ | skip
 refine (callsIn_wide.2 (backC_any (.slice ca cl cc) _ rfl)).mono ?_
 rintro e w4 ⟨rfl,rfl⟩
 have hBs:=(yD (w1.alloc (.cells #[.map (some bm)] 153)) #[.slice ca cl cc] 34).at 0
 rw [yE] at hBs
 have hb2:=yA (yA (yH _ w1) (.cells #[.map (some bm)] 153)) (.cells #[.slice ca cl cc] 34)
 have HB2:=hide (yB (uH HB1) hb2)
 have Q2:=hide ((uH Q1).below hb2)
 have R2:=hide ((uH R1).below hb2)
 have V2:=(yD w1 #[.map (some bm)] 153).al (.cells #[.slice ca cl cc] 34)
 have KN2:=hide (show ∃D,((w1.alloc (.cells #[.map (some bm)] 153)).alloc (.cells #[.slice ca cl cc] 34)).ownsMap Tryz.prog 160 appElem bm hs.length D∧KnownA hs allA D from let ⟨D,a,b⟩:=uH KN1;⟨D,(a.alloc _).alloc _,b⟩)
 obtain ⟨g3,hg3⟩:∃g,w1.heap.size=g:=⟨_,rfl⟩
 rw [hg3] at hw1 hbw V2 hBs
 have HV2:=hide V2
 clear V2
 try rw [yE]
 try rw [hg3]
 gi_wp2
 try rw [yE]
 try rw [hg3]
 obtain ⟨W0,hW0⟩:∃W0,(w1.alloc (.cells #[.map (some bm)] 153)).alloc (.cells #[.slice ca cl cc] 34)=W0:=⟨_,rfl⟩
 have hsz2:W0.heap.size=g3+2:=by rw [←hW0,yE,yE,hg3]
 rw [hW0] at HB2 Q2 R2 hBs HV2 KN2 ⊢
 try rw [hg3]
 have HC:=hide (backC_stops (3 - 1) (g3+1) cl cc ca cs W0 hBs (uH CROW _ (uH HB2)) hcl)
 clear hW0 hBs hb2 HB1 Q1 R1 KN1 y7 y8 hg3 CROW
 refine wpIn_rangeFunc_ownH rfl (by omega) (gf:=186) (lb:=#[.pointer (some ⟨g3+1,0,none⟩)]) rfl trivial (enters_of Tryz.func186 (by kernel_rfl) rfl)
  (uH HC) kpa_t kpa_b (yH _ _) (fun _=>rfl)
  (fun pre W=>(((((Blk W (w.heap.size+1) #[.string (bs wt)] 9∧Blk W (w.heap.size+1+1) #[.int .i64 0] 3)∧Blk W g3 #[.map (some bm)] 153)∧∃D,W.ownsMap Tryz.prog 160 appElem bm hs.length D∧KnownA hs allA D)∧(∀y ∈ pre,pq y.1.2=false))∧Below w.heap.size w W))
  (fun c pre W=>((Blk W (w.heap.size+1+1) #[.int .i64 (valC pre)] 3∧(c=.ret∧∃ini last,pre=ini++[last]∧(∀y ∈ ini,pq y.1.2=false)∧pq last.1.2=true))∧Below w.heap.size w W))
  (OwnFrom.and (OwnFrom.and (OwnFrom.and (Own.from (own_and2 (own_and2 (blk_own _ _ _) (blk_own _ _ _)) (blk_own _ _ _)) _) (map_ownF _ _ _ (by omega))) (Own.from (own_prop (fun pre:List (CIx cs)=>∀y ∈ pre,pq y.1.2=false)) _)) (ownFrom_below (yJ _) (by omega)))
  (fun c=>OwnFrom.and (Own.from (own_and2 (blk_ownC _ (fun pre:List (CIx cs)=>#[Value.int .i64 (valC pre)]) _) (own_prop (fun pre:List (CIx cs)=>c=.ret∧∃ini last,pre=ini++[last]∧(∀y ∈ ini,pq y.1.2=false)∧pq last.1.2=true))) _) (ownFrom_below (yJ _) (by omega)))
  ⟨⟨⟨⟨⟨uH Q2,uH R2⟩,uH HV2⟩,uH KN2⟩,by simp⟩,uH HB2⟩
  (fun x a' W=>∃Bx,g3<Bx∧Blk W Bx #[.int .i64 x.1.2.id,.int .i64 x.1.2.app,.string (bs x.1.2.node),.int .i64 x.1.2.mem,.int .i64 x.1.2.cpu] 58∧a' = { tmps:=#[sv ⟨qa,ql,qc,aa,al,ac,ma,ml,mc,ca,cl,cc⟩ ⟨qs,clock,epoch,next,serial,apps,ms,cs⟩,.string (bs wt),.pointer (some ⟨w.heap.size,0,none⟩),.pointer (some ⟨w.heap.size+1,0,none⟩),.pointer (some ⟨w.heap.size+1+1,0,none⟩),.pointer (some ⟨g3,0,none⟩),.int .i64 x.1.1,.pointer (some ⟨Bx,0,none⟩),sv ⟨qa,ql,qc,aa,al,ac,ma,ml,mc,ca,cl,cc⟩ ⟨qs,clock,epoch,next,serial,apps,ms,cs⟩,.map (some bm),.pointer (some ⟨w.heap.size,7,none⟩),.slice ca cl cc,.func (.func 186) #[] #[.pointer (some ⟨g3+1,0,none⟩)],.int .i64 x.1.1,conv x.1.2,undef,undef,undef,undef,undef,undef,undef,undef],defers:=[] })
  (fun x a' _ X Y row hs hg hr=>by
   obtain ⟨Bx,h1,h2,h3⟩:=hs
   refine ⟨Bx,h1,(hg.block Bx h2.lt (fun e=>?_)).trans h2,h3⟩
   obtain ⟨_,o,ho,hc⟩:=hr Bx e.symm
   rw [show X.heap[Bx]? = _ from h2] at ho
   cases ho
   cases hc)
  ?assign ?body ?done ?stop
 case assign=>
  rintro lq pre ⟨⟨i,id,ap,nd,me,cp⟩,hx⟩ W K ⟨⟨⟨⟨⟨k5,k6⟩,k7⟩,hk8⟩,hne⟩,hB⟩ hK
  have hlt:=k7.lt
  gi_wp2
  exact hK _ _ ((KeepsOthers.alloc _ _).from _) (kpa_below (yA (yH _ W) _)) ⟨⟨⟨⟨⟨k5.al _,k6.al _⟩,k7.al _⟩,let ⟨D,a,b⟩:=hk8;⟨D,a.alloc _,b⟩⟩,hne⟩,yA hB _⟩ ⟨W.heap.size,hlt,yD W _ _,rfl⟩
 case body=>
  rintro lq pre ⟨⟨i,id,ap,nd,me,cp⟩,hx⟩ a' W hlq _ ⟨⟨⟨⟨⟨k5,k6⟩,k7⟩,k8⟩,hne⟩,hB⟩ ⟨Bx,hBx,hX,rfl⟩ hlt
  have hmem:(⟨id,ap,nd,me,cp⟩:Con) ∈ cs:=by
   obtain ⟨k,hk,e⟩:=hx
   rw [(Prod.mk.inj e).2]
   exact yM _
  obtain ⟨x0,x1,x2,x3,x4⟩:=zp hX
  have q0:=k5.at 0
  have v0:=k7.at 0
  simp at q0 v0
  have K5:=hide k5
  have K6:=hide k6
  have K7:=hide k7
  have K8:=hide k8
  have HX:=hide hX
  have HNE:=hide hne
  have HB:=hide hB
  have LKc:=hide (uH LK ⟨id,ap,nd,me,cp⟩ hmem)
  obtain ⟨pc,hpc⟩:∃z,pq ⟨id,ap,nd,me,cp⟩=z:=⟨_,rfl⟩
  have hpd:=uH HPQ ⟨id,ap,nd,me,cp⟩
  obtain ⟨qq,hqq⟩:∃z,qf ⟨id,ap,nd,me,cp⟩=z:=⟨_,rfl⟩
  rw [hqq] at LKc hpd
  rw [hpc] at hpd
  have hbe:=bs_eq qq wt
  rw [←hpd] at hbe
  have HPC:=hide hpc
  clear k5 k6 k7 k8 hX hne hB hqq hpd hpc hmem
  cases pc with
  | true=>
   gi_wp2_with fail
   gi_region_with_o (first | (first | refine ⟨trivial,?_⟩ | skip);(first | refine ⟨(by intro e;cases e),?_⟩ | skip);refine (CallsIn.inRound lq (callsIn_wide.2 (ofApp_any ⟨id,ap,nd,me,cp⟩ _))).mono ?_;rintro e wc ⟨rfl,hbc⟩;have HW3:=hide (yB (yH _ W).drew hbc);have z0:=((uH K5).below (uH HW3)).at 0;have u0:=((uH K7).below (uH HW3)).at 0;have y0:=((uH HX).below (uH HW3)).at 0;have y1:=((uH HX).below (uH HW3)).at 1;have y2:=((uH HX).below (uH HW3)).at 2;have y3:=((uH HX).below (uH HW3)).at 3;have y4:=((uH HX).below (uH HW3)).at 4;have p6:=((uH K6).below (uH HW3)).at 0;have f6:=((uH K6).below (uH HW3)).f 0;simp at z0 u0 y0 y1 y2 y3 y4 p6;obtain ⟨D,hown,hk⟩:=uH K8;obtain ⟨⟨v1,v2,v3,v4,v5⟩,hlk,hvq⟩:=uH LKc wc bm D (ownsMap_below hown (uH HW3)) hk;simp only at hlk hvq;subst hvq;have hfl:=fieldA v1 v2 v3 v4 v5 wc;clear hown hk hbc)
   all_goals gi_wp2
   all_goals
    refine ⟨((keepsO_below (uH HW3)).from _).trans ((KeepsOthers.setCell _ _ _).from _),⟨?_,rfl,pre,⟨(i,⟨id,ap,nd,me,cp⟩),hx⟩,rfl,uH HNE,uH HPC⟩,yC (yB (uH HB) (uH HW3)) _ _ _ (by omega)⟩
    have:=((uH K6).below (uH HW3)).set 0 (.int .i64 i)
    have e2:valC (pre++[⟨(i,⟨id,ap,nd,me,cp⟩),hx⟩])=i:=by rw [valC,List.getLast?_append];rfl
    rw [e2]
    simpa using this
  | false=>
   gi_wp2_with fail
   gi_region_with_o (first | (first | refine ⟨trivial,?_⟩ | skip);(first | refine ⟨(by intro e;cases e),?_⟩ | skip);refine (CallsIn.inRound lq (callsIn_wide.2 (ofApp_any ⟨id,ap,nd,me,cp⟩ _))).mono ?_;rintro e wc ⟨rfl,hbc⟩;have HW3:=hide (yB (yH _ W).drew hbc);have z0:=((uH K5).below (uH HW3)).at 0;have u0:=((uH K7).below (uH HW3)).at 0;have y0:=((uH HX).below (uH HW3)).at 0;have y1:=((uH HX).below (uH HW3)).at 1;have y2:=((uH HX).below (uH HW3)).at 2;have y3:=((uH HX).below (uH HW3)).at 3;have y4:=((uH HX).below (uH HW3)).at 4;have p6:=((uH K6).below (uH HW3)).at 0;have f6:=((uH K6).below (uH HW3)).f 0;simp at z0 u0 y0 y1 y2 y3 y4 p6;obtain ⟨D,hown,hk⟩:=uH K8;obtain ⟨⟨v1,v2,v3,v4,v5⟩,hlk,hvq⟩:=uH LKc wc bm D (ownsMap_below hown (uH HW3)) hk;simp only at hlk hvq;subst hvq;have hfl:=fieldA v1 v2 v3 v4 v5 wc;clear hown hk hbc)
   all_goals gi_wp2
   all_goals
    refine ⟨(keepsO_below (uH HW3)).from _,kpa_below (uH HW3),⟨⟨⟨⟨(uH K5).below (uH HW3),(uH K6).below (uH HW3)⟩,(uH K7).below (uH HW3)⟩,let ⟨D,a,b⟩:=uH K8;⟨D,ownsMap_below a (uH HW3),b⟩⟩,?_⟩,yB (uH HB) (uH HW3)⟩
    intro z hz
    rcases List.mem_append.1 hz with hz | hz
    ·exact uH HNE z hz
    ·have:z=⟨(i,⟨id,ap,nd,me,cp⟩),hx⟩:=by simpa using hz
     rw [this]
     exact uH HPC
 case done=>
  rintro D ys W hD hys ⟨⟨⟨⟨⟨k5,k6⟩,k7⟩,k8⟩,hne⟩,hB⟩ hK
  have hres:r = -1:=by rw [←uH HR];exact last_end (uH hys) hne
  subst hres
  have K6:=hide k6
  have HB:=hide hB
  have HK:=hide hK
  have c6:=k6.at 0
  have f6:=k6.f 0
  simp at c6
  have hDW:D≠w.heap.size+1+1:=by omega
  clear k5 k6 k7 k8 hne hB hK
  gi_wp2
  have e2:=(KeepsOthers.setCell W ⟨w.heap.size+1+1,0,none⟩ (.int .i64 (-1))).same D _ (uH HK) rfl
  refine ⟨by simp,.inl ⟨_,_,rfl,run_takeDeferred e2,?_⟩⟩
  have KF:Blk _ (w.heap.size+1+1) _ _:=(World.putObj_heap_other (o:=.deferred none) (w:=W.setCell ⟨w.heap.size+1+1,0,none⟩ (.int .i64 (-1))) (Ne.symm hDW)).trans ((uH K6).set 0 (.int .i64 (-1)))
  have r0:=KF.at 0
  simp at r0
  exact ⟨.int .i64 (-1),(by simp [results,Tryz.results93,go_sem,r0]),rfl,(yC (uH HB) _ _ _ (by omega)).trans (belowK_b (w:=w) (yJ _) _ D _ _ (by omega) e2 rfl rfl)⟩
 case stop=>
  rintro D c pre W hD hpre ⟨⟨k6,rfl,ini,last,he,hne,hov⟩,hB⟩ hK
  have hres:r=valC pre:=by rw [←uH HR];exact last_stop (uH hpre) he hne hov
  obtain ⟨v,hv⟩:∃v,valC pre=v:=⟨_,rfl⟩
  rw [hv] at k6 hres
  subst hres
  have K6:=hide k6
  have HB:=hide hB
  have HK:=hide hK
  have hDW:D≠w.heap.size+1+1:=by omega
  clear k6 hB hK hv he
  gi_wp2
  refine ⟨by simp,.inl ⟨_,_,rfl,run_takeDeferred (uH HK),?_⟩⟩
  have KF:Blk _ (w.heap.size+1+1) _ _:=(World.putObj_heap_other (o:=.deferred none) (w:=W) (Ne.symm hDW)).trans (uH K6)
  have r0:=KF.at 0
  simp at r0
  exact ⟨.int .i64 r,(by simp [results,Tryz.results93,go_sem,r0]),rfl,(uH HB).trans (belowK_b (w:=w) (yJ _) _ D _ _ (by omega) (uH HK) rfl rfl)⟩
end
section
open Go.RowKit
def lessA (a:Ask):Ask:=⟨a.mem,a.cpu,a.count - 1,a.node,a.missed⟩
def servedL (l:List Ask) (k:Nat):List Ask:=match l[k]? with
 | none=>l
 | some a=>if 1<a.count then l.set k (lessA a) else l.eraseIdx k
def servedA (a:Appl) (k:Nat):Appl:=⟨a.id,a.queue,servedL a.asks k⟩
def serveAt (l:List Appl) (r:Nat×Nat):List Appl:=l.modify r.1 (fun a=>servedA a r.2)
theorem Lay.len {w:World} {t:TypeId} {g M:Nat} {cs:List Value} (h:Lay w t g M cs):cs.length≤M:=by
 obtain ⟨R,_,h2⟩:=h
 rw [List.length_append] at h2
 omega
theorem lay_set {w:World} {t:TypeId} {g M:Nat} {cs:List Value} (h:Lay w t g M cs) {p:Nat} (hp:p<cs.length) (v:Value):Lay (w.setCell ⟨g,p,none⟩ v) t g M (cs.set p v):=by
 have hl:=h.len
 refine h.cells p [v] (by simp;omega) (cs.set p v) (by rw [List.length_set];exact hl) (fun j u hj=>⟨fun e=>?_,fun e=>?_⟩)
 ·obtain rfl:j=p:=by simp at e;omega
  rw [List.getElem?_set_self hp] at hj
  simpa using hj
 ·rw [List.getElem?_set_ne (by simp at e;omega)] at hj
  exact h.cell hj
theorem pcells_set:∀(l:List AV) (k:Nat) (h:k<l.length) (ao:Option Addr) (n c:Nat),pcells (l.set k ⟨l[k].id,l[k].queue,ao,n,c⟩)=(pcells l).set (k*3+2) (.slice ao n c)
 | [],k,h,_,_,_=>by simp at h
 | q::t,0,_,ao,n,c=>by simp [pcells,pcell]
 | q::t,k+1,h,ao,n,c=>by
  have ih:=pcells_set t k (by simpa using h) ao n c
  simp only [sC,List.getElem_cons_succ,pcells,pcell] at ih ⊢
  rw [ih,show (k+1)*3+2=k*3+2+1+1+1 by omega]
  simp
theorem PHas.lay {B n:Nat} {w:World} {pg:Nat} {hs:List AV} (h:PHas B w (some ⟨pg,0,none⟩) n hs) (hn:n≠0):∃M,B≤pg∧pg<w.heap.size∧Lay w 106 pg (M*3) (pcells hs)∧n≤M∧n=hs.length:=by
 rcases h.2 with e | ⟨g,M,e,h1,h2,h3,h4⟩
 ·exact absurd e hn
 ·cases e
  refine ⟨M,h1,h2,lay_of h3 (fun j u hj=>by have:=pcells_row h.1 j u hj;rwa [Nat.zero_add] at this) (by rw [pcells_len,←h.1.1];exact Nat.mul_le_mul_right _ h4),h4,h.1.1⟩
theorem Lay.phas {B n M:Nat} {w:World} {pg:Nat} {hs:List AV} (h:Lay w 106 pg (M*3) (pcells hs)) (hB:B≤pg) (hn:n=hs.length) (hM:n≤M):PHas B w (some ⟨pg,0,none⟩) n hs:=by
 subst hn
 exact ⟨h.rowP,.inr ⟨pg,M,rfl,hB,h.lt,h.cel,hM⟩⟩
theorem PHas.upd {B n:Nat} {w:World} {pg i:Nat} {hs:List AV} (h:PHas B w (some ⟨pg,0,none⟩) n hs) (hi:i<hs.length) (ao:Option Addr) (m c:Nat) :
  PHas B (w.setCell ⟨pg,i*3+2,none⟩ (.slice ao m c)) (some ⟨pg,0,none⟩) n (hs.set i ⟨hs[i].id,hs[i].queue,ao,m,c⟩):=by
 obtain ⟨M,h1,_,h2,h3,h4⟩:=h.lay (by have:=h.1.1;omega)
 refine Lay.phas (M:=M) ?_ h1 (by rw [List.length_set];exact h4) h3
 rw [pcells_set hs i hi]
 exact lay_set h2 (by rw [pcells_len];omega) _
theorem AskRow.off {w w':World} {ao:Option Addr} {n ga:Nat} {l:List Ask} (h:AskRow w ao n l) (hm:Mks (fun k=>k=ga) w w') (ho:∀o,n≠0→ao≠some ⟨ga,o,none⟩):AskRow w' ao n l:=
 h.mks hm (fun k hk e=>by subst e;obtain ⟨h1,o,h2⟩:=hk;exact ho o h1 h2)
theorem KHas.upd {B:Nat} {w w':World} {hs:List AV} {l:List Appl} (h:KHas B w hs l) {i ga n':Nat} {ak:List Ask} (hi:i<hs.length) (hl:i<l.length) (hga:hs[i].ao=some ⟨ga,0,none⟩) (hlen:hs[i].len≠0) (hm:Mks (fun k=>k=ga) w w')
  (hr:AskRow w' (some ⟨ga,0,none⟩) n' ak) (hn:n'≤hs[i].len):KHas B w' (hs.set i ⟨hs[i].id,hs[i].queue,some ⟨ga,0,none⟩,n',hs[i].cap⟩) (l.modify i (fun a=>⟨a.id,a.queue,ak⟩)):=by
 have hne:∀j (hj:j<hs.length),j≠i→∀o,hs[j].len≠0→hs[j].ao≠some ⟨ga,o,none⟩:=fun j hj hji o h0 e=>by
  have hap:Apart hs[i] hs[j]∨Apart hs[j] hs[i]:=by
   rcases Nat.lt_or_gt_of_ne hji with hlt | hlt
   ·exact .inr (List.pairwise_iff_getElem.1 h.apart j i hj hi hlt)
   ·exact .inl (List.pairwise_iff_getElem.1 h.apart i j hi hj hlt)
  have ho:o=0:=by
   rcases h.own _ (yM hj) with e2 | ⟨g,M,e2,_⟩
   ·exact absurd e2 h0
   ·rw [e] at e2;cases e2;rfl
  subst ho
  rcases hap with (a | a | a) | (a | a | a)
  ·exact hlen a
  ·exact h0 a
  ·exact a (by rw [hga,e])
  ·exact h0 a
  ·exact hlen a
  ·exact a (by rw [hga,e])
 refine ⟨⟨by simp [h.heads.1],fun j h1 h2=>?_⟩,fun v hv=>?_,?_⟩
 ·have hj:j<hs.length:=by simpa using h1
  have hj':j<l.length:=by simpa using h2
  obtain ⟨a,b,c,d⟩:=h.heads.2 j hj hj'
  rw [List.getElem_set,List.getElem_modify]
  by_cases e:i=j
  ·subst e
   rw [if_pos rfl,if_pos rfl]
   exact ⟨a,b,hr,Nat.le_trans hn d⟩
  ·rw [if_neg e,if_neg e]
   exact ⟨a,b,c.off hm (hne j hj (fun e2=>e e2.symm)),d⟩
 ·rcases List.mem_or_eq_of_mem_set hv with hv | rfl
  ·exact ((h.own v hv).mks hm).mono (yJ _) hm.size
  ·have:=((h.own _ (yM hi)).mks hm).mono (yJ _) hm.size
   rw [hga] at this
   exact this.le hn
 ·rw [List.pairwise_iff_getElem]
  intro a b ha hb hab
  have ha':a<hs.length:=by simpa using ha
  have hb':b<hs.length:=by simpa using hb
  have h0:=List.pairwise_iff_getElem.1 h.apart a b ha' hb' hab
  rw [List.getElem_set,List.getElem_set]
  by_cases e1:i=a
  ·subst e1
   rw [if_pos rfl,if_neg (by omega)]
   by_cases e2:hs[b].len=0
   ·exact .inr (.inl e2)
   ·exact .inr (.inr (fun e=>hne b hb' (by omega) 0 e2 e.symm))
  ·rw [if_neg e1]
   by_cases e2:i=b
   ·subst e2
    rw [if_pos rfl]
    by_cases e3:hs[a].len=0
    ·exact .inl e3
    ·exact .inr (.inr (hne a ha' (fun e=>e1 e.symm) 0 e3))
   ·rw [if_neg e2]
    exact h0
section
variable {B:Nat} {S:Nat→Prop} {w w':World} {t':TypeId}
theorem QHas.mkg {n:Nat} {ao:Option Addr} {l:List Q} (h:QHas B w ao n l) (hm:Mks S w w') (hS:∀k,S k→∃N,Cel w t' k N) (ht:t'≠99):QHas B w' ao n l:=⟨h.1.mks hm (own_mkc h.2 hm hS ht).1,(own_mkc h.2 hm hS ht).2⟩
theorem MHas.mkg {n:Nat} {ao:Option Addr} {l:List Mac} (h:MHas B w ao n l) (hm:Mks S w w') (hS:∀k,S k→∃N,Cel w t' k N) (ht:t'≠113):MHas B w' ao n l:=⟨h.1.mks hm (own_mkc h.2 hm hS ht).1,(own_mkc h.2 hm hS ht).2⟩
theorem CHas.mkg {n:Nat} {ao:Option Addr} {l:List Con} (h:CHas B w ao n l) (hm:Mks S w w') (hS:∀k,S k→∃N,Cel w t' k N) (ht:t'≠58):CHas B w' ao n l:=⟨h.1.mks hm (own_mkc h.2 hm hS ht).1,(own_mkc h.2 hm hS ht).2⟩
theorem PHas.mkg {n:Nat} {ao:Option Addr} {l:List AV} (h:PHas B w ao n l) (hm:Mks S w w') (hS:∀k,S k→∃N,Cel w t' k N) (ht:t'≠106):PHas B w' ao n l:=⟨h.1.mks hm (own_mkc h.2 hm hS ht).1,(own_mkc h.2 hm hS ht).2⟩
theorem KHas.mkg {hs:List AV} {l:List Appl} (h:KHas B w hs l) (hm:Mks S w w') (hS:∀k,S k→∃N,Cel w t' k N) (ht:t'≠140):KHas B w' hs l:=
 ⟨⟨h.heads.1,fun i h1 h2=>let ⟨a,b',c,d⟩:=h.heads.2 i h1 h2;⟨a,b',c.mks hm (own_mkc (h.own _ (yM h1)) hm hS ht).1,d⟩⟩,fun v hv=>(own_mkc (h.own v hv) hm hS ht).2,h.apart⟩
theorem Mks.wide {S T:Nat→Prop} (h:Mks S w w') (hi:∀k,S k→T k):Mks T w w':=⟨h.os,h.tape,h.output,h.size,fun k hk hn=>h.block k hk (fun e=>hn (hi k e)),h.cel⟩
end
def serveSt (s:St) (r:Nat×Nat):St:=⟨s.qs,s.clock,s.epoch,s.next,s.serial,serveAt s.apps r,s.ms,s.cs⟩
theorem served_mod (l:List Appl) (i k:Nat) (h:i<l.length):serveAt l (i,k)=l.modify i (fun a=>⟨a.id,a.queue,servedL l[i].asks k⟩):=by
 unfold serveAt
 apply List.ext_getElem
 ·simp
 ·intro j h1 h2
  rw [List.getElem_modify,List.getElem_modify]
  by_cases e:i=j
  ·subst e
   rw [if_pos rfl,if_pos rfl]
   rfl
  ·rw [if_neg e,if_neg e]
theorem cutC_lo (g n cap k:Nat) (hk:k≤cap) (wx:World):(Instr.slice 34 (.slice (some ⟨g,0,none⟩) n cap) none (some (.int .i64 (k:Int))) none).run Tryz.prog wx=.ok (.slice (some ⟨g,0,none⟩) k cap) wx:=by
 rw [run_slice_h (P:=Tryz.prog) (w:=wx) 34 (some ⟨g,0,none⟩) n cap Tryz.underlying34 .i64 (k:Int) (by omega) (by omega)]
 rw [show (sizeOf (Tryz.prog.elem 34)).run Tryz.prog wx=.ok 5 wx from by kernel_rfl]
 simp [Result.andThen,sliced,Addr.add]
theorem cutC_hi (g n cap k:Nat) (hk:k≤n) (wx:World):(Instr.slice 34 (.slice (some ⟨g,0,none⟩) n cap) (some (.int .i64 (k:Int))) none none).run Tryz.prog wx=.ok (.slice (some (hiA g cap k 5)) (n - k) (cap - k)) wx:=by
 rw [run_slice_l (P:=Tryz.prog) (w:=wx) 34 (some ⟨g,0,none⟩) n cap Tryz.underlying34 .i64 (k:Int) (by omega) (by omega)]
 rw [show (sizeOf (Tryz.prog.elem 34)).run Tryz.prog wx=.ok 5 wx from by kernel_rfl]
 simp only [Result.andThen,sliced,Int.toNat_natCast,hiA]
 by_cases h:cap=k
 ·rw [if_pos h,if_pos h]
 ·rw [if_neg h,if_neg h]
  simp [Addr.add]
  try omega
theorem SHas.other {B b:Nat} {w w':World} {y:Sls} {s:St} {hs:List AV} {arr:Array Value} (h:SHas B w y s hs) (hm:Mks (fun k=>k=b) w w') (hc:Blk w b arr 36):SHas B w' y s hs:=by
 have hS:∀k,k=b→∃N,Cel w 36 k N:=fun k e=>by subst e;exact ⟨_,arr,hc,rfl⟩
 exact ⟨h.q.mkg hm hS (by decide),h.p.mkg hm hS (by decide),h.k.mkg hm hS (by decide),h.m.mkg hm hS (by decide),h.c.mkg hm hS (by decide),h.cap,(h.rm.mks hm).mono (yJ _) hm.size⟩
theorem SHas.ins {B n:Nat} {w w':World} {y:Sls} {s:St} {hs:List AV} (h:SHas B w y s hs) {ao':Option Addr} {cap':Nat} {l:List Con} (hc:CRm B w' ao' n cap' l) (hm:Mks (fun k=>y.cc≠0∧∃N,Cel w 58 k N∧B≤k∧∃o,y.ca=some ⟨k,o,none⟩) w w') :
  SHas B w' ⟨y.qa,y.ql,y.qc,y.aa,y.al,y.ac,y.ma,y.ml,y.mc,ao',n,cap'⟩ ⟨s.qs,s.clock,s.epoch,s.next,s.serial,s.apps,s.ms,l⟩ hs:=by
 have hS:∀k,(y.cc≠0∧∃N,Cel w 58 k N∧B≤k∧∃o,y.ca=some ⟨k,o,none⟩)→∃N,Cel w 58 k N:=fun k ⟨_,N,h,_⟩=>⟨N,h⟩
 have hr:=(h.rm.mks hm).mono (yJ B) hm.size
 exact ⟨h.q.mkg hm hS (by decide),h.p.mkg hm hS (by decide),h.k.mkg hm hS (by decide),h.m.mkg hm hS (by decide),⟨hc.1,hc.2.own⟩,⟨h.cap.q,h.cap.a,h.cap.m,hc.2.1⟩,hr.1,hr.2.1,hr.2.2.1,hc.2.all,hr.2.2.2.2⟩
theorem SHas.low {B g:Nat} {w w':World} {y:Sls} {s:St} {hs:List AV} (h:SHas B w y s hs) (hm:Mks (fun k=>k=g) w w') (hg:g<B):SHas B w' y s hs:=
 ⟨⟨h.q.1.mks hm (not_in h.q.2 (.inl hg)),(h.q.2.mks hm).mono (yJ _) hm.size⟩,⟨h.p.1.mks hm (not_in h.p.2 (.inl hg)),(h.p.2.mks hm).mono (yJ _) hm.size⟩,
  ⟨⟨h.k.heads.1,fun i h1 h2=>let ⟨a,b',c,d⟩:=h.k.heads.2 i h1 h2;⟨a,b',c.mks hm (not_in (h.k.own _ (yM h1)) (.inl hg)),d⟩⟩,fun v hv=>((h.k.own v hv).mks hm).mono (yJ _) hm.size,h.k.apart⟩,
  ⟨h.m.1.mks hm (not_in h.m.2 (.inl hg)),(h.m.2.mks hm).mono (yJ _) hm.size⟩,⟨h.c.1.mks hm (not_in h.c.2 (.inl hg)),(h.c.2.mks hm).mono (yJ _) hm.size⟩,h.cap,(h.rm.mks hm).mono (yJ _) hm.size⟩
theorem KHas.swap {B:Nat} {w w':World} {hs:List AV} {l:List Appl} (h:KHas B w hs l) (hB:B≤w.heap.size) {i n' c':Nat} {ao':Option Addr} {ak:List Ask} (hi:i<hs.length) (hl:i<l.length) (hb:Below w.heap.size w w')
  (hr:AskRow w' ao' n' ak) (ho:Own1 w.heap.size w'.heap.size w' 140 5 ao' n') (hc:n'≤c'):KHas B w' (hs.set i ⟨hs[i].id,hs[i].queue,ao',n',c'⟩) (l.modify i (fun a=>⟨a.id,a.queue,ak⟩)):=by
 have hne:∀j (hj:j<hs.length),hs[j].len≠0→n'≠0→hs[j].ao≠ao':=fun j hj h0 h1 e=>by
  rcases h.own _ (yM hj) with e2 | ⟨g,M,e2,_,e4,_⟩
  ·exact h0 e2
  ·rcases ho with e3 | ⟨g',M',e3,e5,_⟩
   ·exact h1 e3
   ·rw [e2,e3] at e
    cases e
    omega
 refine ⟨⟨by simp [h.heads.1],fun j h1 h2=>?_⟩,fun v hv=>?_,?_⟩
 ·have hj:j<hs.length:=by simpa using h1
  have hj':j<l.length:=by simpa using h2
  obtain ⟨a,b,c,d⟩:=h.heads.2 j hj hj'
  rw [List.getElem_set,List.getElem_modify]
  by_cases e:i=j
  ·subst e
   rw [if_pos rfl,if_pos rfl]
   exact ⟨a,b,hr,hc⟩
  ·rw [if_neg e,if_neg e]
   exact ⟨a,b,c.below hb,d⟩
 ·rcases List.mem_or_eq_of_mem_set hv with hv | rfl
  ·exact (h.own v hv).grow hb (yJ _)
  ·exact ho.mono hB (yJ _)
 ·rw [List.pairwise_iff_getElem]
  intro a b ha hb' hab
  have ha':a<hs.length:=by simpa using ha
  have hb2:b<hs.length:=by simpa using hb'
  have h0:=List.pairwise_iff_getElem.1 h.apart a b ha' hb2 hab
  rw [List.getElem_set,List.getElem_set]
  by_cases e1:i=a
  ·subst e1
   rw [if_pos rfl,if_neg (by omega)]
   by_cases e2:hs[b].len=0
   ·exact .inr (.inl e2)
   ·by_cases e3:n'=0
    ·exact .inl e3
    ·exact .inr (.inr (fun e=>hne b hb2 e2 e3 e.symm))
  ·rw [if_neg e1]
   by_cases e2:i=b
   ·subst e2
    rw [if_pos rfl]
    by_cases e3:hs[a].len=0
    ·exact .inl e3
    ·by_cases e4:n'=0
     ·exact .inr (.inl e4)
     ·exact .inr (.inr (hne a ha' e3 e4))
   ·rw [if_neg e2]
    exact h0
theorem SHas.conts {B n c:Nat} {w:World} {y:Sls} {s:St} {hs:List AV} (h:SHas B w y s hs) {ao:Option Addr} {l:List Con} (hc:CHas B w ao n l) (hn:n≤c) (ho:Own1 B w.heap.size w 58 5 ao c) :
  SHas B w ⟨y.qa,y.ql,y.qc,y.aa,y.al,y.ac,y.ma,y.ml,y.mc,ao,n,c⟩ ⟨s.qs,s.clock,s.epoch,s.next,s.serial,s.apps,s.ms,l⟩ hs:=
 ⟨h.q,h.p,h.k,h.m,hc,⟨h.cap.q,h.cap.a,h.cap.m,hn⟩,h.rm.1,h.rm.2.1,h.rm.2.2.1,ho,h.rm.2.2.2.2⟩
theorem SHas.swap {B pg:Nat} {w w':World} {y:Sls} {s:St} {hs:List AV} (h:SHas B w y s hs) (hB:B≤w.heap.size) (hpa:y.aa=some ⟨pg,0,none⟩) {i k n' c':Nat} {ao':Option Addr} (hi:i<s.apps.length) (hb:Below w.heap.size w w')
  (hr:AskRow w' ao' n' (servedL s.apps[i].asks k)) (ho:Own1 w.heap.size w'.heap.size w' 140 5 ao' n') (hoc:Own1 w.heap.size w'.heap.size w' 140 5 ao' c') (hc:n'≤c') :
  ∃hs',SHas B (w'.setCell ⟨pg,i*3+2,none⟩ (.slice ao' n' c')) y (serveSt s (i,k)) hs'∧Mks (fun q=>q=pg) w' (w'.setCell ⟨pg,i*3+2,none⟩ (.slice ao' n' c'))∧B≤pg∧pg<w.heap.size∧∃N,Cel w' 106 pg N∧i*3+2<N:=by
 have hih:i<hs.length:=by rw [h.k.heads.1];exact hi
 have hk:=h.k.swap hB hih hi hb hr ho hc
 have hp:=h.p
 rw [hpa] at hp
 obtain ⟨M,hBp,hpl,hlay,hM,_⟩:=hp.lay (by have:=hp.1.1;omega)
 have hcel:=(hlay.below hb).cel
 have hm:Mks (fun q=>q=pg) w' (w'.setCell ⟨pg,i*3+2,none⟩ (.slice ao' n' c')):=Mks.one _ _ _ _ _ rfl
 have hS:∀q,q=pg→∃N,Cel w' 106 q N:=fun q e=>by subst e;exact ⟨_,hcel⟩
 have hrm:=((h.rm.below hb).mono (yJ B) hb.size).mks hm
 refine ⟨_,⟨(h.q.below hb).mkg hm hS (by decide),by rw [hpa];exact (hp.below hb).upd hih ao' n' c',?_,(h.m.below hb).mkg hm hS (by decide),(h.c.below hb).mkg hm hS (by decide),h.cap,?_⟩,hm,hBp,hpl,_,hcel,by have:=Nat.mul_le_mul_right 3 (show i+1≤M by have:=hp.1.1;omega);omega⟩
 ·show KHas B _ _ (serveAt s.apps (i,k))
  rw [served_mod _ _ _ hi]
  exact hk.mkg hm hS (by decide)
 ·have h2:=hrm.mono (yJ B) hm.size
  refine ⟨h2.1,h2.2.1,h2.2.2.1,h2.2.2.2.1,fun v hv=>?_⟩
  rcases List.mem_or_eq_of_mem_set hv with hv | rfl
  ·exact h2.2.2.2.2 v hv
  ·exact (hoc.mks hm).mono hB hm.size
theorem SHas.grownI {B:Nat} {w w':World} {x:Sls} {s:St} {hs:List AV} {r:Option Nat} (h:SHas B w x s hs) (hg:w.grownBy w' r) (hr:∀k,r=some k→∃N,Cel w 3 k N):SHas B w' x s hs:=
 ⟨h.q.grown hg hr (by decide),h.p.grown hg hr (by decide),h.k.grown hg hr (by decide),h.m.grown hg hr (by decide),h.c.grown hg hr (by decide),h.cap,(own_grown h.rm.1 hg hr (by decide)).2,(own_grown h.rm.2.1 hg hr (by decide)).2,(own_grown h.rm.2.2.1 hg hr (by decide)).2,(own_grown h.rm.2.2.2.1 hg hr (by decide)).2,fun v hv=>(own_grown (h.rm.2.2.2.2 v hv) hg hr (by decide)).2⟩
theorem SHas.mkR {B:Nat} {S:Nat→Prop} {w w':World} {x:Sls} {s:St} {hs:List AV} (h:SHas B w x s hs) (hm:Mks S w w') (hS:∀k,S k→∃N,Cel w 52 k N):SHas B w' x s hs:=
 ⟨h.q.mkg hm hS (by decide),h.p.mkg hm hS (by decide),h.k.mkg hm hS (by decide),h.m.mkg hm hS (by decide),h.c.mkg hm hS (by decide),h.cap,(h.rm.mks hm).mono (yJ _) hm.size⟩
theorem iown_off {B b:Nat} {w w':World} {v:Value} {l:List Int} {arr:Array Value} {t:TypeId} (h:IOwn B w v l) (hm:Mks (fun k=>k=b) w w') (hb:Blk w b arr t) (ht:t≠3):IOwn B w' v l:=
 World.ownsRow.kept h hm.grown (.inr (fun e=>by
  obtain ⟨N,hc⟩:=owns_cel h b e
  first | exact ht (hc.type ⟨arr,hb,rfl⟩) | exact ht (hc.type ⟨arr,hb,rfl⟩).symm))
def ccLen (w:World) (g:Nat):Nat:=match w.cell? ⟨g,7,none⟩ with
 | some (.slice _ n _)=>n
 | _=>0
theorem ccLen_is {w:World} {g:Nat} {x:Sls} {s:St} (h:Blk w g (svc x s) 36):ccLen w g=x.cl:=by
 unfold ccLen
 rw [h.at]
 rfl
end
section
open Go.RowKit Go.Maps
theorem lastF_step {s:St} {ord:List (List UInt8)} {k:Nat} (h:k<ord.length):lastF s (ord.take (k+1)).reverse=if overV s ord[k]=true then (match lastIdx (onQ s ord[k]) s.cs with | some i=>some i | none=>lastF s (ord.take k).reverse) else lastF s (ord.take k).reverse:=by
 rw [List.take_succ_eq_append_getElem h,List.reverse_append]
 rfl
theorem below_on_mks {w a b:World} {g:Nat} (h:Kp w a) (hm:Mks (fun k=>k=g) a b) (hg:w.heap.size≤g):Kp w b:=Below.trans h (hm.below (fun k e=>by subst e;exact hg) h.size)
theorem l06Last_any (x:Sls) (s:St) (hs0:List AV) (w:World) (h:SRow w x s) (hav:AVRow w x.aa x.al hs0) (hhd:Heads w hs0 s.apps) (hss:SSome x hs0) (hf:FitSt s) :
  Calls Tryz.prog 23 #[sv x s] w fun e w'=>e=.returned (.int .i64 (plL (lastS s)))∧Below w.heap.size w w':=by
 have hcl:x.cl≤1048576:=by have h1:x.cl=s.cs.length:=h.2.2.2.1;have:=hf.2.2.2.1;omega
 have CO:=hide (fun wx (hb:Below w.heap.size w wx)=>specQueueOrder_any x s wx (h.below hb) hf)
 have CV:=hide (fun q wx (hb:Below w.heap.size w wx)=>specOver_any x s q wx (h.below hb) hf)
 have CA:=hide (fun id wx (hb:Below w.heap.size w wx)=>specAppOf_dr x s hs0 id wx (h.below hb) (hav.below hb) (hhd.below hb) hss hf)
 have HR:=hide h.2.2.2
 have HOL:=hide (show (orderV s).length≤1048576 from by have:=ord_len s;have:=h.1.1;have:=h.ql hf;omega)
 have HST:=hide (fun k (hk:k<(orderV s).length)=>lastF_step (s:=s) hk)
 obtain ⟨r,hr⟩:∃r,lastS s=r:=⟨_,rfl⟩
 have HP0:=hide (show lastF s ((orderV s).take (orderV s).length).reverse=r by rw [List.take_length];exact hr)
 have HZ:=hide (show lastF s []=none from rfl)
 rw [hr]
 obtain ⟨ord,hord⟩:∃p,orderV s=p:=⟨_,rfl⟩
 rw [hord] at CO HOL HST HP0
 obtain ⟨lf,hlf⟩:∃p,lastF s=p:=⟨_,rfl⟩
 rw [hlf] at HST HP0 HZ
 have HQO:=hide (show ∀c q,onQ s q c=decide ((appOfV s c.app).1.queue=q) from fun _ _=>rfl)
 obtain ⟨onq,hon⟩:∃f,onQ s=f:=⟨_,rfl⟩
 obtain ⟨ovf,hov⟩:∃f,overV s=f:=⟨_,rfl⟩
 obtain ⟨apf,hap⟩:∃f,appOfV s=f:=⟨_,rfl⟩
 rw [hon,hov] at HST
 rw [hon,hap] at HQO
 rw [hov] at CV
 rw [hap] at CA
 clear h hav hhd hss hf hr hord hlf hon hov hap
 obtain ⟨qa,ql,qc,aa,al,ac,ma,ml,mc,ca,cl,cc⟩:=x
 obtain ⟨qs,clock,epoch,next,serial,apps,ms,cs⟩:=s
 simp only at CO CV CA HR HST hcl
 have hol:ord.length≤1048576:=uH HOL
 have HB0:=hide (yA (yH _ w) (.cells (svc ⟨qa,ql,qc,aa,al,ac,ma,ml,mc,ca,cl,cc⟩ ⟨qs,clock,epoch,next,serial,apps,ms,cs⟩) 36))
 have P0:=hide (yD w (svc ⟨qa,ql,qc,aa,al,ac,ma,ml,mc,ca,cl,cc⟩ ⟨qs,clock,epoch,next,serial,apps,ms,cs⟩) 36)
 obtain ⟨x0,x1,x2,x3,x4,x5,x6,x7⟩:=zq (uH P0)
 go_enter Tryz.func23,Tryz.ntmps23
 go_wp2_with fail
 refine (uH CO _ (uH HB0)).mono ?_
 rintro e w1 ⟨v0,rfl,ht,hb⟩
 obtain ⟨vo,vc,rfl,hrow⟩:=ht.open
 have HROW:=hide hrow
 have HB1:=hide (yB (uH HB0) hb)
 have P1:=hide ((uH P0).below hb)
 clear hb ht hrow HB0 P0 CO x0 x1 x2 x3 x4 x5 x6 x7
 go_wp2_with fail
 go_loopw [4,5,6,7] (fun i _ _ _ wr=>∃k:Nat,k≤ord.length∧i=.int .i64 ((k:Int) - 1)∧Hid (lf (ord.take k).reverse=r)∧Hid (Below w1.heap.size w1 wr)) (fun i _ _ _ _=>(intOf i+1).toNat)
 case atStart=>exact ⟨ord.length,yJ _,by go_num,HP0,hide (yH _ _)⟩
 case round=>
  obtain ⟨k,hk,rfl,HK,HW⟩:=hrel
  obtain ⟨wq,rfl⟩:∃wo:World,wo=wr:=⟨_,rfl⟩
  clear HP0
  have HBq:=hide (yB (uH HB1) (uH HW))
  have Pq:=hide ((uH P1).below (uH HW))
  cases k with
  | zero=>
   have HE:=hide (show r=none by rw [←uH HK,←uH HZ];rfl)
   go_wp2
   go_ret
   exact ⟨by rw [uH HE];rfl,uH HBq⟩
  | succ k=>
   have hlt:k<ord.length:=by omega
   obtain ⟨gv,rfl,hcv0⟩:=uH HROW k hlt
   have HCV:=hide (Kp.cell (uH HW) hcv0)
   have HC0:=hide hcv0
   have hst:=uH HST k hlt
   obtain ⟨qn,hqn⟩:∃n,ord[k]=n:=⟨_,rfl⟩
   rw [hqn] at HCV HC0 hst
   rw [uH HK] at hst
   have CV1:=hide (uH CV qn)
   obtain ⟨ov,hov⟩:∃b,ovf qn=b:=⟨_,rfl⟩
   rw [hov] at CV1 hst
   have HSQ:=hide hst
   rw [show ((k+1:Nat):Int) - 1=(k:Int) by omega]
   have m0:(0:Int)≤k:=by omega
   have m1:(k:Int)<ord.length:=by omega
   clear hcv0 hst hqn hov HK
   go_upto_region 5 with fail
   refine wp_region_held_drew (S:=fun wx=>Kp wq wx) (by kernel_rfl) ((kp_holds wq).drew (Kp.new wq)) (fun S0=>?_)
   generalize wq.drew=wn at S0 ⊢
   refine takeW 0 17 (sv ⟨qa,ql,qc,aa,al,ac,ma,ml,mc,ca,cl,cc⟩ ⟨qs,clock,epoch,next,serial,apps,ms,cs⟩) rfl rfl S0 ?_ (hy:=Or.inl ⟨by rfl,fun wz hz=>run_v (state_load ((uH Pq).below hz) rfl)⟩)
   try simp only [zW]
   refine tW 1 18 (.slice (some ⟨gv,0,none⟩) ord.length vc) S0 ?_
   try simp only [zW]
   refine tW 2 19 (.int .i64 (k:Int)) S0 ?_
   try simp only [zW]
   refine tW 3 20 (.pointer (some ⟨gv,k,none⟩)) S0 ?_
   try simp only [zW]
   refine takeW 4 21 (.string (bs qn)) rfl rfl S0 ?_ (hy:=Or.inl ⟨by rfl,fun wz hz=>by have c:=Kp.cell hz (uH HCV);go_simp;try with_reducible rfl⟩)
   try simp only [zW]
   refine wpAnyH_ready (rs:=[5]) (by kernel_rfl) (by simp) (AllReadyH.cons rfl (fun K hK=>?_) AllReadyH.nil)
   go_simp
   refine (uH CV1 _ (yB (uH HBq) S0)).mono ?_
   rintro e wt ⟨rfl,hb⟩
   have S1:=yB S0 hb
   go_wp2_with fail
   refine hK.out _ _ S1 (fun S0=>?_)
   clear hK K S1 hb
   try simp only [zW]
   refine tW 6 23 (.bool (!ov)) S0 ?_
   try simp only [zW]
   refine wpAnyH_done (by kernel_rfl) ?_ _
   have HW5:=hide (yB (uH HW) S0)
   clear S0 CV1 HCV
   cases ov with
   | false=>
    have HN:=hide (show lf (ord.take k).reverse=r by have:=uH HSQ;rw [if_neg (by decide)] at this;exact this.symm)
    clear HSQ HW
    go_wp2
    go_roundw
    case rel=>exact ⟨k,by omega,by go_num,HN,HW5⟩
    case measure=>simp [intOf]
   | true=>
    have hso:=uH HSQ
    rw [if_pos rfl] at hso
    have HSO:=hide hso
    have HBt:=hide (yB (uH HB1) (uH HW5))
    have Pt:=hide ((uH P1).below (uH HW5))
    have c7:=(uH Pt).at 7
    simp at c7
    have HCL:=hide (show cl=cs.length from (uH HR).1)
    clear hso HSQ HW
    go_wp2_with fail
    clear c7
    go_loopw [5,6,7] (fun i _ _ wr=>∃j:Nat,j≤cl∧i=.int .i64 ((j:Int) - 1)∧Hid (∀m (hm:m<cs.length),j≤m→onq qn cs[m]=false)∧Hid (Below w1.heap.size w1 wr)) (fun i _ _ _=>(intOf i+1).toNat)
    case atStart=>exact ⟨cl,yJ _,by go_num,hide (fun m hm hj=>by have:=uH HCL;omega),HW5⟩
    case round=>
     obtain ⟨j,hj,rfl,HJ,HWi⟩:=hrel
     obtain ⟨wi,rfl⟩:∃wo:World,wo=wr:=⟨_,rfl⟩
     have HBi:=hide (yB (uH HB1) (uH HWi))
     have Pi:=hide ((uH P1).below (uH HWi))
     clear HW5 HBt Pt HBq Pq
     cases j with
     | zero=>
      have HN:=hide (show lf (ord.take k).reverse=r by
       have h1:=uH HSO
       rw [lastIdx_none (fun c hc=>by obtain ⟨m,hm,rfl⟩:=List.mem_iff_getElem.1 hc;exact uH HJ m hm (Nat.zero_le _))] at h1
       exact h1.symm)
      clear HJ HSO
      go_wp2
      go_roundw
      case rel=>exact ⟨k,by omega,by go_num,HN,HWi⟩
      case measure=>simp [intOf]
     | succ j=>
      have hjc:j<cs.length:=by have:=uH HCL;omega
      obtain ⟨cb,off,rfl,hca⟩:∃b off,ca=some ⟨b,off,none⟩∧∀i (h:i<cs.length),ConAt w b (off+i*5) cs[i]:=by
       rcases (uH HR).2 with e | e
       ·have:=uH HCL;omega
       ·exact e
      obtain ⟨hc00,hc1,hc99⟩:=hca j hjc
      have HC1:=hide (Kp.cell (uH HBi) hc1)
      have CA1:=hide (uH CA cs[j].app)
      have HQJ:=hide (uH HQO cs[j] qn)
      obtain ⟨c,hcj⟩:∃c,cs[j]=c:=⟨_,rfl⟩
      have HCJ:=hide hcj
      rw [hcj] at HC1 CA1 HQJ
      obtain ⟨ap,hapn⟩:∃a,c.app=a:=⟨_,rfl⟩
      rw [hapn] at HC1 CA1 HQJ
      obtain ⟨⟨⟨ai,aq,aks⟩,ab⟩,haa⟩:∃a,apf ap=a:=⟨_,rfl⟩
      rw [haa] at CA1 HQJ
      simp only at CA1 HQJ
      rw [show ((j+1:Nat):Int) - 1=(j:Int) by omega]
      have n0:(0:Int)≤j:=by omega
      have n1:(j:Int)<cl:=by omega
      have HJL:=hide hjc
      have HCW0:=hide (Kp.cell (uH HWi) (uH HC0))
      clear hca hc00 hc99 hc1 hcj hapn haa
      go_upto_region 9 with fail
      go_cut [6] from 32 to 42 (fun v6 wx=>∃ba vo2 vl2 vc2,v6=.pointer (some ⟨ba,0,none⟩)∧Hid (Blk wx ba #[.int .i64 ai,.string (bs aq),.slice vo2 vl2 vc2] 106)∧Hid (Kp wi wx))
      case first=>
       refine wp_region_held_drew (S:=fun wx=>Kp wi wx) (by kernel_rfl) ((kp_holds wi).drew (Kp.new wi)) (fun S0=>?_)
       generalize wi.drew=wn at S0 ⊢
       refine takeW 0 33 (sv ⟨qa,ql,qc,aa,al,ac,ma,ml,mc,some ⟨cb,off,none⟩,cl,cc⟩ ⟨qs,clock,epoch,next,serial,apps,ms,cs⟩) rfl rfl S0 ?_ (hy:=Or.inl ⟨by rfl,fun wz hz=>run_v (state_load ((uH Pi).below hz) rfl)⟩)
       try simp only [zW]
       refine tW 1 34 (.pointer (some ⟨w.heap.size,7,none⟩)) S0 ?_
       try simp only [zW]
       refine takeW 2 35 (.slice (some ⟨cb,off,none⟩) cl cc) rfl rfl S0 ?_ (hy:=Or.inl ⟨by rfl,fun wz hz=>by (have c7:=((uH Pi).below hz).at 7;simp at c7;go_simp;try with_reducible rfl)⟩)
       try simp only [zW]
       refine tW 3 36 (.int .i64 (j:Int)) S0 ?_
       try simp only [zW]
       refine tW 4 37 (.pointer (some ⟨cb,off+j*5,none⟩)) S0 ?_
       try simp only [zW]
       refine tW 5 38 (.pointer (some ⟨cb,off+j*5+1,none⟩)) S0 ?_
       try simp only [zW]
       refine takeW 6 39 (.int .i64 ap) rfl rfl S0 ?_ (hy:=Or.inl ⟨by rfl,fun wz hz=>by (have c:=Kp.cell hz (uH HC1);go_simp;try with_reducible rfl)⟩)
       try simp only [zW]
       refine wpAnyH_ready (rs:=[7,11]) (by kernel_rfl) (by simp) (AllReadyH.cons rfl (fun K hK=>?_) (AllReadyH.cons rfl (fun K hK=>readyV 6 (by rfl) rfl (run_v (run_allocv _ 106 #[.int .i64 0,.string ⟨#[]⟩,.slice none 0 0] (by kernel_rfl))) ?_) AllReadyH.nil))
       ·go_simp
        refine (uH CA1 _ (yB (uH HBi) S0)).mono ?_
        rintro e wt ⟨v,rfl,hv⟩
        obtain ⟨vo2,vc2,rfl,-⟩:=(uH hv).1.row
        obtain ⟨vl2,hvl2⟩:∃n,aks.length=n:=⟨_,rfl⟩
        have S1:=yB S0 (uH hv).2
        rw [hvl2]
        clear hv hvl2
        go_wp2_with fail
        refine hK.out _ _ S1 (fun S0=>?_)
        clear hK K S1
        try simp only [zW]
        refine tW 8 32 (.tuple #[.agg #[.int .i64 ai,.string (bs aq),.slice vo2 vl2 vc2],.bool ab]) S0 ?_
        try simp only [zW]
        refine tW 9 41 (.agg #[.int .i64 ai,.string (bs aq),.slice vo2 vl2 vc2]) S0 ?_
        try simp only [zW]
        refine tW 10 42 (.bool ab) S0 ?_
        try simp only [zW]
        have S1:=yA S0 (.cells #[.int .i64 0,.string ⟨#[]⟩,.slice none 0 0] 106)
        refine wpAnyH_ready (rs:=[11]) (by kernel_rfl) (by simp) (AllReadyH.cons rfl (fun K hK=>readyV 6 (by rfl) rfl (run_v (run_allocv _ 106 #[.int .i64 0,.string ⟨#[]⟩,.slice none 0 0] (by kernel_rfl))) ?_) AllReadyH.nil)
        have G0:=yD wt #[.int .i64 0,.string ⟨#[]⟩,.slice none 0 0] 106
        have hg:wi.heap.size≤wt.heap.size:=S0.size
        clear S0
        refine hK.out _ _ S1 (fun S0=>?_)
        clear hK K S1
        try simp only [zW]
        generalize wt.alloc (.cells #[.int .i64 0,.string ⟨#[]⟩,.slice none 0 0] 106)=wu at S0 G0 ⊢
        have hb12:=mks_row G0 #[.int .i64 ai,.string (bs aq),.slice vo2 vl2 vc2] rfl
        have S1:=below_on_mks S0 hb12 hg
        refine wpAnyH_ready (rs:=[12]) (by kernel_rfl) (by simp) (AllReadyH.cons rfl (fun K hK=>readyU (by rfl) rfl (run_u (blk_store 106 (arr:=#[.int .i64 ai,.string (bs aq),.slice vo2 vl2 vc2]) G0 (by kernel_rfl) rfl (by kernel_rfl))) ?_) AllReadyH.nil)
        clear S0
        refine hK.out _ _ S1 (fun S0=>?_)
        have G9:=hide (blk_row G0 #[.int .i64 ai,.string (bs aq),.slice vo2 vl2 vc2])
        clear hK K S1 hb12 G0
        try simp only [zW]
        refine tW 13 7 (.bool ab) S0 ?_
        try simp only [zW]
        refine wpAnyH_done (by kernel_rfl) ?_ _
        go_wp2_with fail
        go_meet
        exact ⟨_,_,_,_,rfl,G9,hide S0⟩
       ·have S1:=yA S0 (.cells #[.int .i64 0,.string ⟨#[]⟩,.slice none 0 0] 106)
        have G0:=yD wn #[.int .i64 0,.string ⟨#[]⟩,.slice none 0 0] 106
        have hg:wi.heap.size≤wn.heap.size:=S0.size
        clear S0
        refine hK.out _ _ S1 (fun S0=>?_)
        clear hK K S1
        try simp only [zW]
        generalize wn.alloc (.cells #[.int .i64 0,.string ⟨#[]⟩,.slice none 0 0] 106)=wu at S0 G0 ⊢
        refine wpAnyH_ready (rs:=[7]) (by kernel_rfl) (by simp) (AllReadyH.cons rfl (fun K hK=>?_) AllReadyH.nil)
        go_simp
        refine (uH CA1 _ (yB (uH HBi) S0)).mono ?_
        rintro e wt ⟨v,rfl,hv⟩
        obtain ⟨vo2,vc2,rfl,-⟩:=(uH hv).1.row
        obtain ⟨vl2,hvl2⟩:∃n,aks.length=n:=⟨_,rfl⟩
        have S1:=yB S0 (uH hv).2
        have G1:=G0.below (uH hv).2
        rw [hvl2]
        clear hv hvl2 G0
        go_wp2_with fail
        refine hK.out _ _ S1 (fun S0=>?_)
        clear hK K S1
        try simp only [zW]
        have G0:=G1
        clear G1
        refine tW 8 32 (.tuple #[.agg #[.int .i64 ai,.string (bs aq),.slice vo2 vl2 vc2],.bool ab]) S0 ?_
        try simp only [zW]
        refine tW 9 41 (.agg #[.int .i64 ai,.string (bs aq),.slice vo2 vl2 vc2]) S0 ?_
        try simp only [zW]
        refine tW 10 42 (.bool ab) S0 ?_
        try simp only [zW]
        have hb12:=mks_row G0 #[.int .i64 ai,.string (bs aq),.slice vo2 vl2 vc2] rfl
        have S1:=below_on_mks S0 hb12 hg
        refine wpAnyH_ready (rs:=[12]) (by kernel_rfl) (by simp) (AllReadyH.cons rfl (fun K hK=>readyU (by rfl) rfl (run_u (blk_store 106 (arr:=#[.int .i64 ai,.string (bs aq),.slice vo2 vl2 vc2]) G0 (by kernel_rfl) rfl (by kernel_rfl))) ?_) AllReadyH.nil)
        clear S0
        refine hK.out _ _ S1 (fun S0=>?_)
        have G9:=hide (blk_row G0 #[.int .i64 ai,.string (bs aq),.slice vo2 vl2 vc2])
        clear hK K S1 hb12 G0
        try simp only [zW]
        refine tW 13 7 (.bool ab) S0 ?_
        try simp only [zW]
        refine wpAnyH_done (by kernel_rfl) ?_ _
        go_wp2_with fail
        go_meet
        exact ⟨_,_,_,_,rfl,G9,hide S0⟩
      case rest=>
       obtain ⟨ba,vo2,vl2,vc2,rfl,G9,HK9⟩:=hcut
       obtain ⟨eq,heq⟩:∃b,onq qn c=b:=⟨_,rfl⟩
       have HEQ:=hide (show ((bs aq).toList==(bs qn).toList)=eq from by
        have h1:=uH HQJ
        rw [heq] at h1
        have h2:=bs_eq aq qn
        rw [h1]
        exact h2)
       have HCW:=hide (Kp.cell (uH HK9) (uH HCW0))
       have HWC:=hide (yB (uH HWi) (uH HK9))
       have HEO:=hide heq
       clear heq HQJ CA1 HC1
       go_upto_region 10 with fail
       refine wp_region_held_drew (S:=fun wx=>Kp wc wx) (by kernel_rfl) ((kp_holds wc).drew (Kp.new wc)) (fun S0=>?_)
       generalize wc.drew=wn at S0 ⊢
       refine tW 0 43 (.pointer (some ⟨ba,1,none⟩)) S0 ?_
       try simp only [zW]
       refine takeW 1 44 (.string (bs aq)) rfl rfl S0 ?_ (hy:=Or.inl ⟨by rfl,fun wz hz=>by (have c:=((uH G9).below hz).at 1;simp at c;go_simp;try with_reducible rfl)⟩)
       try simp only [zW]
       refine tW 2 45 (.slice (some ⟨gv,0,none⟩) ord.length vc) S0 ?_
       try simp only [zW]
       refine tW 3 46 (.int .i64 (k:Int)) S0 ?_
       try simp only [zW]
       refine tW 4 47 (.pointer (some ⟨gv,k,none⟩)) S0 ?_
       try simp only [zW]
       refine takeW 5 48 (.string (bs qn)) rfl rfl S0 ?_ (hy:=Or.inl ⟨by rfl,fun wz hz=>by (have c:=Kp.cell hz (uH HCW);go_simp;try with_reducible rfl)⟩)
       try simp only [zW]
       refine takeW 6 49 (.bool eq) rfl rfl S0 ?_ (hy:=Or.inl ⟨by rfl,fun wz hz=>by go_simp;first | exact congrArg (fun b=>Result.ok (Next.value (Value.bool b)) wz) (uH HEQ) | (rw [uH HEQ]) | (simp [uH HEQ])⟩)
       try simp only [zW]
       refine wpAnyH_done (by kernel_rfl) ?_ _
       have HWD:=hide (yB (uH HWC) S0)
       clear S0 HCW HEQ G9 HK9
       cases eq with
       | true=>
        have HRJ:=hide (show r=some j by
         have h1:=uH HSO
         rw [lastIdx_is (i:=j) (uH HJL) (by rw [uH HCJ];exact uH HEO) (fun m hm hjm=>uH HJ m hm (by omega))] at h1
         exact h1)
        have HBZ:=hide (yB (uH HB1) (uH HWD))
        clear HJ HSO
        go_wp2
        go_ret
        exact ⟨by rw [uH HRJ];rfl,uH HBZ⟩
       | false=>
        have HN:=hide (show ∀m (hm:m<cs.length),j≤m→onq qn cs[m]=false from fun m hm hjm=>by
         by_cases e:m=j
         ·subst e;rw [uH HCJ];exact uH HEO
         ·exact uH HJ m hm (by omega))
        clear HJ
        go_wp2
        go_roundw
        case rel=>exact ⟨j,by omega,by go_num,HN,HWD⟩
        case measure=>simp [intOf]
end
section
open Go.RowKit
theorem vicF_len (s:St) (lk:Int×Int):∀(n:Nat) (L:List Con) (g:Int×Int),(vicF s lk n L g).length≤L.length
 | 0,L,g=>by simp [vicF]
 | n+1,L,g=>by
  by_cases hw:within lk.1 lk.2 g.1 g.2=true
  ·rw [vic_enough hw];simp
  ·cases hl:lastS (withC s L) with
   | none=>rw [vic_none hl];simp
   | some i=>
    obtain ⟨hc,e⟩:=vic_some (n:=n) (g:=g) (lk:=lk) (by simpa using hw) hl
    rw [e,List.length_cons]
    have:=vicF_len s lk n (L.eraseIdx i) (addV g L[i])
    rw [List.length_eraseIdx_of_lt hc] at this
    omega
theorem victims_len (s:St) (q:List UInt8):(victimsV s q).length≤s.cs.length:=by
 unfold victimsV victimsC
 rw [List.length_map]
 split
 ·exact vicF_len _ _ _ _ _
 ·simp
def imarks (k:Int) (n:Nat):List Int:=(List.range n).map (fun i:Nat=>k+(i:Int))
theorem imarks_len (k:Int) (n:Nat):(imarks k n).length=n:=by simp [imarks]
theorem imarks_at {k:Int} {n i:Nat} (h:i<(imarks k n).length):(imarks k n)[i]=k+(i:Int):=by simp [imarks]
def IAns (B E:Nat) (w:World) (v:Value) (l:List Int):Prop:=∃ao cap,v=.slice ao l.length cap∧(l≠[]→∃g M,ao=some ⟨g,0,none⟩∧l.length≤M∧IBlk w 3 g M l.length l∧B≤g∧g<E)
theorem IOwn.ans {B:Nat} {w:World} {v:Value} {l:List Int} (h:IOwn B w v l):IAns B w.heap.size w v l:=by
 rcases h.2 with ⟨rfl,h0⟩ | ⟨g,cap,cur,rfl,h1,h2,h3,h4,h5,h6⟩
 ·exact ⟨none,0,by rw [h0],fun e=>absurd (List.length_eq_zero_iff.1 h0) e⟩
 ·refine ⟨_,cap,rfl,fun _=>⟨g,cap,rfl,h3,⟨cur,h2,by omega,fun i hi _=>?_⟩,h1,lt_of_block h2⟩⟩
  have hv:(icells l)[i]? = some (.int .i64 l[i]):=by simp [icells,hi]
  rw [←h6,List.getElem?_take_of_lt (by simpa using hi)] at hv
  simpa using hv
theorem IAns.below {B E:Nat} {w w':World} {v:Value} {l:List Int} (h:IAns B E w v l) (hb:Below w.heap.size w w'):IAns B E w' v l:=by
 obtain ⟨ao,c,rfl,k⟩:=h
 exact ⟨ao,c,rfl,fun hp=>let ⟨g,M,e,hM,hs,h1,h2⟩:=k hp;⟨g,M,e,hM,hs.below hb,h1,h2⟩⟩
theorem IAns.mkd {B E B' E':Nat} {w w':World} {v:Value} {l:List Int} (h:IAns B E w v l) (hm:Mkd B' E' w w') (hd:E≤B'∨E'≤B):IAns B E w' v l:=by
 obtain ⟨ao,c,rfl,k⟩:=h
 exact ⟨ao,c,rfl,fun hp=>let ⟨g,M,e,hM,hs,h1,h2⟩:=k hp;⟨g,M,e,hM,hs.mkd hm (by omega),h1,h2⟩⟩
theorem IAns.low {B E C:Nat} {w w':World} {v:Value} {l:List Int} (h:IAns B E w v l) (hb:Below C w w') (hE:E≤C):IAns B E w' v l:=by
 obtain ⟨ao,c,rfl,k⟩:=h
 refine ⟨ao,c,rfl,fun hp=>?_⟩
 obtain ⟨g,M,e,hM,⟨arr,a1,a2⟩,h1,h2⟩:=k hp
 exact ⟨g,M,e,hM,⟨arr,(hb.block g (by omega)).trans a1,a2⟩,h1,h2⟩
theorem iblk_nrow {w:World} {t:TypeId} {g M:Nat} {l:List Int} (h:IBlk w t g M l.length l):NRow w (some ⟨g,0,none⟩) l.length l:=by
 obtain ⟨arr,h1,h2,h3⟩:=h
 refine ⟨rfl,.inr ⟨g,0,rfl,fun i hi=>?_⟩⟩
 have a:=h3 i hi hi
 simp only [Nat.zero_add]
 simp [World.cell?,h1,a]
theorem IAns.row {B E:Nat} {w:World} {v:Value} {l:List Int} (h:IAns B E w v l):∃ao cap,v=.slice ao l.length cap∧NRow w ao l.length l:=by
 obtain ⟨ao,c,rfl,k⟩:=h
 refine ⟨ao,c,rfl,?_⟩
 by_cases hp:l=[]
 ·subst hp
  exact ⟨rfl,.inl rfl⟩
 ·obtain ⟨g,M,rfl,hM,hs,_⟩:=k hp
  exact iblk_nrow hs
def IMk (B E:Nat) (w:World) (v:Value) (n:Nat):Prop:=∃ao cap,v=.slice ao n cap∧NRow w ao n (imarks 1 n)
theorem IMk.below {B E:Nat} {w w':World} {v:Value} {n:Nat} (h:IMk B E w v n) (hb:Below w.heap.size w w'):IMk B E w' v n:=by
 obtain ⟨ao,c,rfl,k⟩:=h
 exact ⟨ao,c,rfl,k.below hb⟩
theorem eqI_any {B E B' E':Nat} {w:World} {v u:Value} {l:List Int} (h:IAns B E w v l) (k:IAns B' E' w u l) (hl:l.length≤1048576) :
  Calls Tryz.prog 8 #[v,u] w fun e w'=>e=.returned (.bool true)∧Below w.heap.size w w':=by
 obtain ⟨ao,c,rfl,h1⟩:=h.row
 obtain ⟨bo,d,rfl,k1⟩:=k.row
 exact eqIntS_same ao bo l.length c d l w h1 k1 hl
theorem markI_nil (a:Option Addr) (c:Nat) (k:Int) (w:World) :
  Calls Tryz.prog 11 #[.slice a 0 c,.int .i64 k] w fun e w'=>e=.returned (.int .i64 k)∧w=w':=by
 go_enter Tryz.func11,Tryz.ntmps11
 go_wp2
 refine wp_loop_rounds 1 ?_
 rw [rounds_succ]
 go_wp2
 go_ret
 exact ⟨rfl,rfl⟩
theorem markI_own (g M n c K:Nat) (l:List Int) (w:World) (h:IBlk w 3 g M 0 l) (hM:n≤M) (hn:n≤1048576) (hK:K≤4611686018427387904) :
  Calls Tryz.prog 11 #[.slice (some ⟨g,0,none⟩) n c,.int .i64 (K:Int)] w fun e w'=>e=.returned (.int .i64 ((K:Int)+(n:Int)))∧IBlk w' 3 g M n (imarks K n)∧Mks (fun k=>k=g) w w':=by
 have HI:=hide (show IBlk w 3 g M 0 (imarks K n) from (let ⟨arr,h1,h2,_⟩:=h;⟨arr,h1,h2,fun i _ hk=>absurd hk (by omega)⟩))
 clear h
 go_enter Tryz.func11,Tryz.ntmps11
 go_wp2
 go_loopw [1,5] (fun s i wr=>∃(j:Nat) (k:Int),j≤n∧i=.int .i64 j∧s=.int .i64 k∧Hid (k=(K:Int)+(j:Int))∧Hid (IBlk wr 3 g M j (imarks K n))∧Hid (Mks (fun k=>k=g) w wr)) (fun _ i _=>n - (intOf i).toNat)
 case atStart=>exact ⟨0,K,Nat.zero_le _,rfl,rfl,hide (by simp),HI,hide (Mks.refl _ _)⟩
 case round=>
  obtain ⟨j,k,hj,rfl,rfl,hk,HV,HM⟩:=hrel
  have hkk:=uH hk
  by_cases hlt:j<n
  ·obtain ⟨v0,d0⟩:=(uH HV).cell (j:=j) (by omega)
   have f0:=(uH HV).frozen j
   have hjl:j<(imarks (K:Int) n).length:=by rw [imarks_len];exact hlt
   have HS:=hide (show IBlk (wr.setCell ⟨g,j,none⟩ (.int .i64 ((K:Int)+(j:Int)))) 3 g M (j+1) (imarks K n) from by
    have:=(uH HV).step (by omega) hjl
    rwa [imarks_at hjl] at this)
   clear hjl
   go_wp2
   go_roundw
   case rel=>exact ⟨j+1,k+1,by omega,by go_num,by go_num,hide (by omega),HS,hide ((uH HM).sc _ _ _ rfl)⟩
   case measure=>simp [intOf];omega
  ·obtain rfl:j=n:=by omega
   rw [hkk]
   go_wp2
   go_ret
   exact ⟨rfl,uH HV,uH HM⟩
theorem markI_any {B E:Nat} {w:World} {v:Value} {l:List Int} (h:IAns B E w v l) (hE:E≤w.heap.size) (hB:B≤E) (hl:l.length≤1048576) :
  Calls Tryz.prog 11 #[v,.int .i64 1] w fun e w'=>e=.returned (.int .i64 (1+(l.length:Int)))∧IMk B E w' v l.length∧Below B w w'∧∀k,k<w.heap.size→(k<B∨E≤k)→w'.heap[k]? = w.heap[k]?:=by
 obtain ⟨ao,c,rfl,h1⟩:=h
 by_cases hp:l=[]
 ·subst hp
  refine (markI_nil ao c 1 w).mono ?_
  rintro e w' ⟨rfl,rfl⟩
  exact ⟨by simp,⟨ao,c,rfl,⟨by rw [imarks_len],.inl rfl⟩⟩,yH _ _,fun _ _ _=>rfl⟩
 ·obtain ⟨g,M,rfl,hM,hs,hb,he⟩:=h1 hp
  refine (markI_own g M l.length c 1 l w hs.none hM hl (by omega)).mono ?_
  rintro e w' ⟨rfl,hm,hg⟩
  refine ⟨by simp,⟨_,c,rfl,?_⟩,hg.below (fun k e=>by subst e;exact hb) (by omega),fun k hk hd=>hg.block k hk (by intro e;omega)⟩
  have:=imarks_len 1 l.length
  have r:NRow w' (some ⟨g,0,none⟩) (imarks 1 l.length).length (imarks 1 l.length):=iblk_nrow (M:=M) (by rw [this];exact hm)
  rw [this] at r
  exact r
theorem heldI_row (ao:Option Addr) (n c K:Nat) (w:World) (h:NRow w ao n (imarks K n)) (hn:n≤1048576) (hK:K≤4611686018427387904) :
  Calls Tryz.prog 12 #[.slice ao n c,.int .i64 (K:Int)] w fun e w'=>e=.returned (.int .i64 ((K:Int)+(n:Int)))∧Below w.heap.size w w':=by
 have HR:=hide h
 clear h
 go_enter Tryz.func12,Tryz.ntmps12
 go_wp2
 go_loopw [1,5] (fun s i wr=>∃(j:Nat) (k:Int),j≤n∧i=.int .i64 j∧s=.int .i64 k∧Hid (k=(K:Int)+(j:Int))∧Hid (Below w.heap.size w wr)) (fun _ i _=>n - (intOf i).toNat)
 case atStart=>exact ⟨0,K,Nat.zero_le _,rfl,rfl,hide (by simp),hide (yH _ _)⟩
 case round=>
  obtain ⟨j,k,hj,rfl,rfl,hk,HB⟩:=hrel
  have hkk:=uH hk
  by_cases hlt:j<n
  ·obtain ⟨b,off,rfl,hq⟩:=((uH HR).below (uH HB)).at hlt
   have hjl:j<(imarks (K:Int) n).length:=by rw [imarks_len];exact hlt
   have c0:=hq hjl
   rw [imarks_at hjl,←hkk] at c0
   clear hq hjl
   go_wp2
   go_roundw
   case rel=>exact ⟨j+1,k+1,by omega,by go_num,by go_num,hide (by omega),HB⟩
   case measure=>simp [intOf];omega
  ·obtain rfl:j=n:=by omega
   rw [hkk]
   go_wp2
   go_ret
   exact ⟨rfl,uH HB⟩
theorem heldI_any {B E:Nat} {w:World} {v:Value} {n:Nat} (h:IMk B E w v n) (hl:n≤1048576) :
  Calls Tryz.prog 12 #[v,.int .i64 1] w fun e w'=>e=.returned (.int .i64 (1+(n:Int)))∧Below w.heap.size w w':=by
 obtain ⟨ao,c,rfl,h1⟩:=h
 exact heldI_row ao n c 1 w h1 hl (by omega)
end
end Go.Proofs.YtokabeokclpljaaGreat
