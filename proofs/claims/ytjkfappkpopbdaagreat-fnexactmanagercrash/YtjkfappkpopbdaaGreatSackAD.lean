/-
  Texts in one: OkM, TakE, RcvM, RcvB, NewLaw, NewHas, TakS, MgN, MgA.
-/
import Derived.Test.YtjkfappkpopbdaaGreatSackY
import Derived.Test.YtjkfappkpopbdaaGreatSackAB
import Derived.Test.YtjkfappkpopbdaaGreatSackAC
import Derived.Test.YtjkfappkpopbdaaGreatSackQ
import Derived.Test.YtjkfappkpopbdaaGreatSackN
set_option maxRecDepth 100000
set_option maxHeartbeats 16000000
set_option linter.unusedVariables false
set_option linter.unusedSimpArgs false
namespace Go.Proofs.YtjkfappkpopbdaaGreat
section
open Go.RowKit
def subsOk:Int→Int→List (Int×Int)→Bool
 | _,_,[]=>true
 | x,y,r::t=>bothOk (-1) x y r.1 r.2&&subsOk (x + -1*r.1) (y + -1*r.2) t
theorem okSum:∀(l:List (Int×Int)) (x y:Int),resOk x y=true→resOk (sumFrom l x y).1 (sumFrom l x y).2.1=true
 | [],x,y,h=>h
 | r::t,x,y,h=>by
  rw [sumFrom]
  by_cases hb:bothOk 1 x y r.1 r.2=true
  ·rw [if_pos hb]
   refine okSum t _ _ ?_
   simp only [bothOk,yK] at hb
   exact hb.2
  ·rw [if_neg hb];decide
theorem sumFrom_each:∀(l:List (Int×Int)) (x y:Int),(sumFrom l x y).2.2=true→∀r ∈ l,resOk r.1 r.2=true
 | [],x,y,_,r,h=>by simp at h
 | q::t,x,y,h,r,hr=>by
  rw [sumFrom] at h
  by_cases hb:bothOk 1 x y q.1 q.2=true
  ·rw [if_pos hb] at h
   rcases List.mem_cons.1 hr with rfl | hr
   ·simp only [bothOk,yK] at hb;exact hb.1.2
   ·exact sumFrom_each t _ _ h r hr
  ·rw [if_neg hb] at h;cases h
theorem sumFrom_ge:∀(l:List (Int×Int)) (x y:Int),(sumFrom l x y).2.2=true→x≤(sumFrom l x y).1∧y≤(sumFrom l x y).2.1
 | [],x,y,_=>⟨Int.le_refl _,Int.le_refl _⟩
 | r::t,x,y,h=>by
  rw [sumFrom] at h ⊢
  by_cases hb:bothOk 1 x y r.1 r.2=true
  ·rw [if_pos hb] at h ⊢
   have:=sumFrom_ge t _ _ h
   have hr:resOk r.1 r.2=true:=by simp only [bothOk,yK] at hb;exact hb.1.2
   have:=resOk_bd hr
   omega
  ·rw [if_neg hb] at h;cases h
theorem subs_sum {X Y:Int} (hX:resOk X Y=true):∀(l:List (Int×Int)) (x y:Int),resOk x y=true→x≤X→y≤Y→(subsOk (X + -1*x) (Y + -1*y) l=true↔(sumFrom l x y).2.2=true∧(sumFrom l x y).1≤X∧(sumFrom l x y).2.1≤Y)
 | [],x,y,h,h1,h2=>by simp [subsOk,sumFrom,h1,h2]
 | r::t,x,y,h,h1,h2=>by
  have bX:=resOk_bd hX
  have bx:=resOk_bd h
  rw [subsOk,sumFrom,yK]
  by_cases hs:bothOk (-1) (X + -1*x) (Y + -1*y) r.1 r.2=true
  ·have hs':=hs
   simp only [bothOk,yK] at hs'
   have br:=resOk_bd hs'.1.2
   have bs':=resOk_bd hs'.2
   have hr2:resOk (x+1*r.1) (y+1*r.2)=true:=by simp only [resOk,inB,yK,yL];omega
   have hp:bothOk 1 x y r.1 r.2=true:=by simp only [bothOk,yK];exact ⟨⟨h,hs'.1.2⟩,hr2⟩
   rw [if_pos hp]
   have ih:=subs_sum hX t (x+1*r.1) (y+1*r.2) hr2 (by omega) (by omega)
   rw [←ih]
   have e1:X + -1*(x+1*r.1)=X + -1*x + -1*r.1:=by omega
   have e2:Y + -1*(y+1*r.2)=Y + -1*y + -1*r.2:=by omega
   rw [e1,e2]
   exact ⟨fun hh=>hh.2,fun hh=>⟨hs,hh⟩⟩
  ·refine ⟨fun hh=>absurd hh.1 hs,fun ⟨g1,g2,g3⟩=>absurd ?_ hs⟩
   by_cases hp:bothOk 1 x y r.1 r.2=true
   ·rw [if_pos hp] at g1 g2 g3
    have ge:=sumFrom_ge t _ _ g1
    have hp':=hp
    simp only [bothOk,yK] at hp'
    have br:=resOk_bd hp'.1.2
    simp only [bothOk,yK]
    refine ⟨⟨?_,hp'.1.2⟩,?_⟩<;>simp only [resOk,inB,yK,yL]<;>omega
   ·rw [if_neg hp] at g1;cases g1
theorem hold_subs {cs:List Con} {m:Mac} (hr:resOk m.mem m.cpu=true):holdM cs m=true↔subsOk m.mem m.cpu (usedL (fun q=>decide (q.node=m.name)) cs)=true:=by
 have h:=subs_sum hr (usedL (fun q=>decide (q.node=m.name)) cs) 0 0 (by decide) (resOk_bd hr).1 (resOk_bd hr).2.2.1
 rw [show m.mem + -1*0=m.mem by omega,show m.cpu + -1*0=m.cpu by omega] at h
 rw [h]
 simp only [holdM,hr,Bool.true_and,yK,sumR,within]
 refine ⟨fun ⟨a,b⟩=>⟨a,of_decide_eq_true b.1.2,of_decide_eq_true b.2⟩,fun ⟨a,b,c⟩=>⟨a,⟨⟨⟨okSum _ 0 0 (by decide),trivial⟩,decide_eq_true b⟩,decide_eq_true c⟩⟩⟩
theorem leT_lt {a b:List UInt8} (h:leT a b=false):Op.bytesLess (bs b).toList (bs a).toList=true:=by
 simp only [leT,Bool.or_eq_false_iff] at h
 exact bl_tri _ _ h.1 (fun e=>by rw [e] at h;simp at h)
theorem machs_above {ck:Int}:∀(l:List Mac) (last:List UInt8),machsFrom ck last l=true→∀m ∈ l,Op.bytesLess (bs last).toList (bs m.name).toList=true
 | [],_,_,m,h=>by simp at h
 | q::t,last,h,m,hm=>by
  simp only [machsFrom,yK,Bool.not_eq_true'] at h
  have h1:=leT_lt h.1
  rcases List.mem_cons.1 hm with rfl | hm
  ·exact h1
  ·exact bl_trans _ _ _ h1 (machs_above t q.name h.2.2.2.2 m hm)
theorem machs_find {ck:Int}:∀(l:List Mac) (last:List UInt8),machsFrom ck last l=true→∀m ∈ l,findM m.name l=some m
 | [],_,_,m,h=>by simp at h
 | q::t,last,h,m,hm=>by
  simp only [machsFrom,yK,Bool.not_eq_true'] at h
  rcases List.mem_cons.1 hm with rfl | hm
  ·simp [findM]
  ·have hab:=machs_above t q.name h.2.2.2.2 m hm
   have hne:¬q.name=m.name:=fun e=>by rw [e,bl_irr] at hab;cases hab
   have:=machs_find t q.name h.2.2.2.2 m hm
   simp only [findM] at this ⊢
   rw [List.find?_cons_of_neg (by simpa using hne)]
   exact this
theorem machsS_iff {ck:Int} {cs:List Con}:∀(l:List Mac) (last:List UInt8),machsS ck cs last l=true↔machsFrom ck last l=true∧∀m ∈ l,holdM cs m=true
 | [],_=>by simp [machsS,machsFrom]
 | q::t,last=>by
  simp only [machsS,machsFrom,yK,machsS_iff t q.name,List.mem_cons,forall_eq_or_imp]
  exact ⟨fun ⟨a,b,c,d,e,f,g⟩=>⟨⟨a,b,c,d,f⟩,e,g⟩,fun ⟨⟨a,b,c,d,f⟩,e,g⟩=>⟨a,b,c,d,e,f,g⟩⟩
theorem contsS_congr {apps:List Appl} {l l':List Mac} (h:∀nm,(findM nm l').isSome=(findM nm l).isSome):∀(cs:List Con) (last:Int),contsS apps l' last cs=contsS apps l last cs
 | [],_=>rfl
 | c::t,last=>by rw [contsS,contsS,h,contsS_congr h t]
theorem used_cons {nm:List UInt8} {c:Con} {t:List Con}:usedL (fun q=>decide (q.node=nm)) (c::t)=if c.node=nm then (c.mem,c.cpu)::usedL (fun q=>decide (q.node=nm)) t else usedL (fun q=>decide (q.node=nm)) t:=by
 by_cases h:c.node=nm
 ·simp [usedL,h]
 ·simp [usedL,h]
theorem conts_iff {apps:List Appl}:∀(cs:List Con) (l:List Mac) (last:Int),contsFrom apps l last cs=true↔contsS apps l last cs=true∧∀nm m,findM nm l=some m→subsOk m.mem m.cpu (usedL (fun q=>decide (q.node=nm)) cs)=true
 | [],l,last=>by simp [contsFrom,contsS,usedL,subsOk]
 | c::t,l,last=>by
  cases hf:findM c.node l with
  | none=>simp [contsFrom,contsS,hf]
  | some m=>
   have hn:=findM_name hf
   have ih:=conts_iff (apps:=apps) t (⟨m.name,m.mem + -1*c.mem,m.cpu + -1*c.cpu,m.seen⟩::l) c.id
   have hfind:∀nm,findM nm (⟨m.name,m.mem + -1*c.mem,m.cpu + -1*c.cpu,m.seen⟩::l)=if c.node=nm then some ⟨m.name,m.mem + -1*c.mem,m.cpu + -1*c.cpu,m.seen⟩ else findM nm l:=fun nm=>by
    by_cases e:c.node=nm
    ·rw [if_pos e];simp [findM,hn,e]
    ·rw [if_neg e];simp [findM,hn,e]
   have hsome:∀nm,(findM nm (⟨m.name,m.mem + -1*c.mem,m.cpu + -1*c.cpu,m.seen⟩::l)).isSome=(findM nm l).isSome:=fun nm=>by
    rw [hfind]
    by_cases e:c.node=nm
    ·rw [if_pos e,←e,hf]
     rfl
    ·rw [if_neg e]
   rw [contsS_congr hsome] at ih
   simp only [contsFrom,contsS,hf,Option.isSome_some,Option.getD_some,Bool.true_and,yK,ih]
   constructor
   ·rintro ⟨a,b,c1,d,e,f,g⟩
    refine ⟨⟨a,b,d,c1,f⟩,fun nm m2 hm2=>?_⟩
    rw [used_cons]
    by_cases en:c.node=nm
    ·rw [if_pos en]
     rw [←en,hf] at hm2
     cases hm2
     rw [subsOk,yK]
     exact ⟨e,g nm ⟨m.name,m.mem + -1*c.mem,m.cpu + -1*c.cpu,m.seen⟩ (by rw [hfind,if_pos en])⟩
    ·rw [if_neg en]
     exact g nm m2 (by rw [hfind,if_neg en];exact hm2)
   ·rintro ⟨⟨a,b,d,c1,f⟩,g⟩
    have g0:=g c.node m hf
    rw [used_cons,if_pos rfl,subsOk,yK] at g0
    refine ⟨a,b,c1,d,g0.1,f,fun nm m2 hm2=>?_⟩
    rw [hfind] at hm2
    by_cases en:c.node=nm
    ·rw [if_pos en] at hm2
     cases hm2
     rw [←en]
     exact g0.2
    ·rw [if_neg en] at hm2
     have:=g nm m2 hm2
     rwa [used_cons,if_neg en] at this
theorem state_same (s:St):stateOkI s=stateOkS s:=by
 rw [Bool.eq_iff_iff]
 simp only [stateOkI,stateOkS,numsOk,machsOkV,machsOkS,contsOkV,yK,conts_iff,machsS_iff]
 have key:machsFrom s.clock [] s.ms=true→(sumR (capsOf s.ms)).2.2=true→((∀nm m,findM nm s.ms=some m→subsOk m.mem m.cpu (usedL (fun q=>decide (q.node=nm)) s.cs)=true)↔∀m ∈ s.ms,holdM s.cs m=true):=fun h1 h2=>by
  have hr:∀m ∈ s.ms,resOk m.mem m.cpu=true:=fun m hm=>sumFrom_each _ 0 0 h2 (m.mem,m.cpu) (by simp only [capsOf,List.mem_map];exact ⟨m,hm,rfl⟩)
  constructor
  ·intro h m hm
   exact (hold_subs (hr m hm)).2 (h m.name m (machs_find _ _ h1 m hm))
  ·intro h nm m hf
   have hm:m ∈ s.ms:=List.mem_of_find?_eq_some hf
   have hn:=findM_name hf
   have:=(hold_subs (hr m hm)).1 (h m hm)
   rwa [hn] at this
 constructor
 ·rintro ⟨a,⟨b1,b2,b3,b4⟩,c,⟨d1,d2,d3⟩,e1,e2,e3⟩
  exact ⟨a,b1,b2,b3,b4,c,⟨⟨d2,(key d2 d3).1 e3⟩,d3,d1⟩,e1,e2⟩
 ·rintro ⟨a,b1,b2,b3,b4,c,⟨⟨d2,hh⟩,d3,d1⟩,e1,e2⟩
  exact ⟨a,⟨b1,b2,b3,b4⟩,c,⟨d1,d2,d3⟩,e1,e2,(key d2 d3).2 hh⟩
def stateOkV (s:St):Bool:=stateOkS s
theorem specStateOk_any (x:Sls) (s:St) (w:World) (h:SRow w x s) (hf:FitSt s) :
  Calls Tryz.prog 77 #[sv x s] w fun e w'=>e=.returned (.bool (stateOkV s))∧Below w.heap.size w w':=stateOkS_any x s w h hf
theorem implStateOk_any (x:Sls) (s:St) (w:World) (h:SRow w x s) (hf:FitSt s) (hc:x.ql≤x.qc) (hw:WfSt s) :
  Calls Tryz.prog 174 #[sv x s] w fun e w'=>e=.returned (.bool (stateOkV s))∧Below w.heap.size w w':=by
 have:=stateOkI_any x s w h hf hc hw
 rwa [state_same] at this
theorem SHas.sc {B k j:Nat} {v:Value} {w:World} {x:Sls} {s:St} {hs:List AV} (h:SHas B w x s hs) (hk:k<B):SHas B (w.setCell ⟨k,j,none⟩ v) x s hs:=⟨h.q.sc hk,h.p.sc hk,h.k.sc (.inl hk),h.m.sc hk,h.c.sc hk,h.cap,(h.rm.sc k j v).mono (yJ _) (by rw [set_size];exact yJ _)⟩
def StAns (w:World) (s:St) (gone:List Con) (e:Ending) (w':World):Prop:=
 ∃y hs go gn gc,e=.returned (.tuple #[sv y s,.slice go gn gc])∧SAns w.heap.size w'.heap.size w' y s hs∧CHas w.heap.size w' go gn gone∧(∀k,inR go gn k→¬inR y.ca y.cl k)∧Below w.heap.size w w'
def dropV (s:St) (app:Int):St×List Con:=
 if stateOkV s=true then (⟨s.qs,s.clock,s.epoch,s.next,s.serial,s.apps.filter (fun a=>!decide (a.id=app)),s.ms,s.cs.filter (fun q=>!decide (q.app=app))⟩,s.cs.filter (fun q=>decide (q.app=app))) else (s,[])
theorem dropV_eq (s:St) (app:Int):(stateOkV s=true→dropV s app=(⟨s.qs,s.clock,s.epoch,s.next,s.serial,s.apps.filter (fun a=>!decide (a.id=app)),s.ms,s.cs.filter (fun q=>!decide (q.app=app))⟩,s.cs.filter (fun q=>decide (q.app=app))))∧(stateOkV s=false→dropV s app=(s,[])):=
 ⟨fun h=>if_pos h,fun h=>if_neg (by simp [h])⟩
def applyV (s:St) (r:Rc):St:=
 if r.kind=2 then (if s.epoch<900000 then ⟨s.qs,s.clock,s.epoch+1,max s.next ((s.epoch+1)*1000+1),s.serial,s.apps,s.ms,s.cs⟩ else s)
 else if r.kind=0 then (if lone s.qs r.queue=true∧s.next≤r.app∧r.app≤s.epoch*1000+999∧s.apps.length<40 then ⟨s.qs,s.clock,s.epoch,r.app+1,s.serial,s.apps++[⟨r.app,r.queue,[]⟩],s.ms,s.cs⟩ else s)
 else if r.kind=1 then ⟨s.qs,s.clock,s.epoch,s.next,s.serial,s.apps.filter (fun a=>!decide (a.id=r.app)),s.ms,s.cs.filter (fun q=>!decide (q.app=r.app))⟩
 else s
theorem apply_epoch {s:St} {r:Rc} (hk:r.kind=2) (h:s.epoch<900000):applyV s r=⟨s.qs,s.clock,s.epoch+1,max s.next ((s.epoch+1)*1000+1),s.serial,s.apps,s.ms,s.cs⟩:=by rw [applyV,if_pos hk,if_pos h]
theorem apply_last {s:St} {r:Rc} (hk:r.kind=2) (h:¬s.epoch<900000):applyV s r=s:=by rw [applyV,if_pos hk,if_neg h]
theorem apply_app {s:St} {r:Rc} (hk:r.kind=0) (h:lone s.qs r.queue=true∧s.next≤r.app∧r.app≤s.epoch*1000+999∧s.apps.length<40):applyV s r=⟨s.qs,s.clock,s.epoch,r.app+1,s.serial,s.apps++[⟨r.app,r.queue,[]⟩],s.ms,s.cs⟩:=by rw [applyV,if_neg (by omega),if_pos hk,if_pos h]
theorem apply_not {s:St} {r:Rc} (hk:r.kind=0) (h:¬(lone s.qs r.queue=true∧s.next≤r.app∧r.app≤s.epoch*1000+999∧s.apps.length<40)):applyV s r=s:=by rw [applyV,if_neg (by omega),if_pos hk,if_neg h]
theorem apply_done {s:St} {r:Rc} (hk:r.kind=1):applyV s r=⟨s.qs,s.clock,s.epoch,s.next,s.serial,s.apps.filter (fun a=>!decide (a.id=r.app)),s.ms,s.cs.filter (fun q=>!decide (q.app=r.app))⟩:=by rw [applyV,if_neg (by omega),if_neg (by omega),if_pos hk]
theorem apply_else {s:St} {r:Rc} (h0:r.kind≠0) (h1:r.kind≠1) (h2:r.kind≠2):applyV s r=s:=by rw [applyV,if_neg h2,if_neg h0,if_neg h1]
theorem apps_mono {l:List Q} {nx nx':Int} (h:nx≤nx'):∀(t:List Appl) (last:Int),appsFrom l nx last t=true→appsFrom l nx' last t=true
 | [],_,_=>rfl
 | a::t,last,h1=>by
  simp only [appsFrom,yK,yL] at h1 ⊢
  exact ⟨h1.1,by omega,h1.2.2.1,h1.2.2.2.1,apps_mono h t a.id h1.2.2.2.2⟩
theorem apps_snoc {l:List Q} {nx app:Int} {q:List UInt8} (h:nx≤app) (hq:lone l q=true):∀(t:List Appl) (last:Int),last<app→appsFrom l nx last t=true→appsFrom l (app+1) last (t++[⟨app,q,[]⟩])=true
 | [],last,hl,_=>by
  simp only [List.nil_append,appsFrom,yK,yL]
  exact ⟨hl,by omega,hq,rfl,trivial⟩
 | a::t,last,hl,h1=>by
  simp only [List.cons_append,appsFrom,yK,yL] at h1 ⊢
  exact ⟨h1.1,by omega,h1.2.2.1,h1.2.2.2.1,apps_snoc h hq t a.id (by omega) h1.2.2.2.2⟩
theorem apps_filter {l:List Q} {nx:Int} (p:Appl→Bool):∀(t:List Appl) (last last':Int),last'≤last→appsFrom l nx last t=true→appsFrom l nx last' (t.filter p)=true
 | [],_,_,_,_=>rfl
 | a::t,last,last',hl,h1=>by
  simp only [appsFrom,yK,yL] at h1
  by_cases hp:p a=true
  ·rw [List.filter_cons_of_pos hp]
   simp only [appsFrom,yK,yL]
   exact ⟨by omega,h1.2.1,h1.2.2.1,h1.2.2.2.1,apps_filter p t a.id a.id (Int.le_refl _) h1.2.2.2.2⟩
  ·rw [List.filter_cons_of_neg hp]
   exact apps_filter p t a.id last' (by omega) h1.2.2.2.2
structure RInv (l:List Q) (s:St):Prop where
 qs:s.qs=l
 clock:s.clock=0
 serial:s.serial=1
 ms:s.ms=[]
 cs:s.cs=[]
 e1:1≤s.epoch
 e2:s.epoch≤900000
 n1:1≤s.next
 n2:s.next≤s.epoch*1000+1000
 len:s.apps.length≤40
 ap:appsFrom l s.next 0 s.apps=true
 fit:∀a ∈ s.apps,FitAppl1 a
theorem rinv_new (l:List Q):RInv l (newSt l 1 1001 1):=⟨rfl,rfl,rfl,rfl,rfl,by simp,by simp,by simp,by simp,by simp,rfl,by simp⟩
theorem rinv_step {l:List Q} {s:St} (h:RInv l s) (hf:FitQ l) (r:Rc):RInv l (applyV s r):=by
 obtain ⟨h1,h2,h3,h4,h5,h6,h7,h8,h9,h10,h11,h12⟩:=h
 by_cases k2:r.kind=2
 ·by_cases he:s.epoch<900000
  ·rw [apply_epoch k2 he]
   refine ⟨h1,h2,h3,h4,h5,?_,?_,?_,?_,h10,apps_mono ?_ _ _ h11,h12⟩<;>simp only<;>omega
  ·rw [apply_last k2 he];exact ⟨h1,h2,h3,h4,h5,h6,h7,h8,h9,h10,h11,h12⟩
 ·by_cases k0:r.kind=0
  ·by_cases hc:lone s.qs r.queue=true∧s.next≤r.app∧r.app≤s.epoch*1000+999∧s.apps.length<40
   ·rw [apply_app k0 hc]
    obtain ⟨c1,c2,c3,c4⟩:=hc
    rw [h1] at c1
    refine ⟨h1,h2,h3,h4,h5,h6,h7,?_,?_,?_,apps_snoc c2 c1 _ _ (by omega) h11,fun a ha=>?_⟩
    ·simp only;omega
    ·simp only;omega
    ·simp only [List.length_append,List.length_cons,List.length_nil];omega
    ·rcases List.mem_append.1 ha with ha | ha
     ·exact h12 a ha
     ·obtain rfl:=List.mem_singleton.1 ha
      have hp:0≤place l r.queue:=by
       simp only [lone,yK,yL] at c1
       exact c1.2
      obtain ⟨q,hq,e⟩:=place_has hp
      exact ⟨by rw [←e];exact (hf.2 q hq).1,by simp,by simp⟩
   ·rw [apply_not k0 hc];exact ⟨h1,h2,h3,h4,h5,h6,h7,h8,h9,h10,h11,h12⟩
  ·by_cases k1:r.kind=1
   ·rw [apply_done k1]
    refine ⟨h1,h2,h3,h4,by rw [h5];rfl,h6,h7,h8,h9,Nat.le_trans (List.length_filter_le _ _) h10,apps_filter _ _ _ _ (Int.le_refl _) h11,fun a ha=>h12 a (List.mem_filter.1 ha).1⟩
   ·rw [apply_else k0 k1 k2];exact ⟨h1,h2,h3,h4,h5,h6,h7,h8,h9,h10,h11,h12⟩
theorem rinv_ok {l:List Q} {s:St} (h:RInv l s) (hq:queuesOk l=true):stateOkV s=true:=by
 obtain ⟨qs,clock,epoch,next,serial,apps,ms,cs⟩:=s
 obtain ⟨h1,h2,h3,h4,h5,h6,h7,h8,h9,h10,h11,h12⟩:=h
 simp only at h1 h2 h3 h4 h5 h6 h7 h8 h9 h10 h11 h12
 subst h1 h2 h3 h4 h5
 simp only [stateOkV,stateOkS,yK]
 refine ⟨hq,rfl,inB_true h6 (by omega),inB_true h8 (by omega),rfl,?_,rfl,rfl,rfl⟩
 simp only [appsOkV,yK,yL]
 exact ⟨h10,h11⟩
theorem rinv_fit {l:List Q} {s:St} (h:RInv l s) (hf:FitQ l):FitSt s:=by
 refine ⟨by rw [h.qs];exact hf,⟨by have:=h.len;omega,h.fit⟩,?_,?_⟩
 ·rw [h.ms];exact ⟨by simp,by simp⟩
 ·rw [h.cs];exact ⟨by simp,by simp⟩
def recV (l:List Q) (rs:List Rc):St:=rs.foldl applyV (newSt l 1 1001 1)
theorem recV_take {l:List Q} {rs:List Rc} {k:Nat} (h:k<rs.length):recV l (rs.take (k+1))=applyV (recV l (rs.take k)) rs[k]:=by
 rw [List.take_succ_eq_append_getElem h,recV,List.foldl_append];rfl
theorem rinv_all {l:List Q} (hf:FitQ l):∀(rs:List Rc) (s:St),RInv l s→RInv l (rs.foldl applyV s)
 | [],s,h=>h
 | r::t,s,h=>rinv_all hf t (applyV s r) (rinv_step h hf r)
theorem rinv_rec {l:List Q} (hf:FitQ l) (rs:List Rc):RInv l (recV l rs):=rinv_all hf rs _ (rinv_new l)
def StIn (B b:Nat) (w:World) (s:St) (w':World):Prop:=∃y hs,Blk w' b (svc y s) 37∧SHas B w' y s hs∧Below B w w'
theorem lastAppOf_any (ep:Int) (w:World) (h1:0≤ep) (h2:ep≤900000) :
  Calls Tryz.prog 191 #[.int .i64 ep] w fun e w'=>e=.returned (.int .i64 (ep*1000+999))∧w=w':=by
 go_enter Tryz.func191,Tryz.ntmps191
 go_wp2
 go_ret
 exact ⟨ret_int (by omega),rfl⟩
theorem takeOn_st {B:Nat} (l:List Q) (b:Nat) (x:Sls) (s:St) (hs:List AV) (ra:Int) (rq:List UInt8) (w:World) (hk:Blk w b (svc x s) 37) (h:SHas B w x s hs) (hBb:B≤b) (hi:RInv l s) (hf:FitQ l) :
  Calls Tryz.prog 175 #[.pointer (some ⟨b,0,none⟩),.int .i64 ra,.string (bs rq)] w fun e w'=>e=.returned (.tuple #[])∧StIn B b w (applyV s ⟨0,ra,rq⟩) w':=by
 have hfs:=rinv_fit hi hf
 have hbs:=hk.lt
 have CL:=hide (fun wx (hb:Below w.heap.size w wx)=>lone_any x.qa x.ql x.qc s.qs rq wx (h.q.1.below hb) (by have:=h.q.1.1;have:=hfs.1.1;omega))
 obtain ⟨i0,hii,hz0,hz1,hz2⟩:=info_parts Tryz.infoApp
 have i6:=hi.e1
 have i7:=hi.e2
 have i8:=hi.n1
 have i9:=hi.n2
 have i10:=hi.len
 have hal:x.al=s.apps.length:=h.p.1.1.trans h.k.heads.1
 obtain ⟨S1,hS⟩:∃S,applyV s ⟨0,ra,rq⟩=S:=⟨_,rfl⟩
 rw [hS]
 obtain ⟨lo,hlo⟩:∃o,lone s.qs rq=o:=⟨_,rfl⟩
 rw [hlo] at CL
 have E0:=hide (fun (h1:lo=true) (h2:s.next≤ra) (h3:ra≤s.epoch*1000+999) (h4:s.apps.length<40)=>hS.symm.trans (apply_app (r:=⟨0,ra,rq⟩) rfl ⟨by rw [hlo];exact h1,h2,h3,h4⟩))
 have E0n:=hide (fun (hn:¬(lo=true∧s.next≤ra∧ra≤s.epoch*1000+999∧s.apps.length<40))=>hS.symm.trans (apply_not (r:=⟨0,ra,rq⟩) rfl (by rw [hlo];exact hn)))
 have HK:=hide hk
 have HH:=hide h
 have a0:=hk.at 0
 simp at a0
 clear hk h hi hfs hS hlo
 obtain ⟨qa,ql,qc,aa,al,ac,ma,ml,mc,ca,cl,cc⟩:=x
 obtain ⟨qs,clock,epoch,next,serial,apps,ms,cs⟩:=s
 simp only at *
 have CA:=hide (fun wx=>lastAppOf_any epoch wx (by omega) i7)
 have HAL:=hide hal
 clear hal
 by_cases hc:lo=true∧next≤ra∧ra≤epoch*1000+999∧apps.length<40
 case neg=>
  have hS:=uH E0n hc
  subst hS
  clear E0 E0n
  cases lo
  case false=>
   go_enter Tryz.func175,Tryz.ntmps175
   go_wp2_with fail
   refine (uH CL _ (yH _ _)).mono ?_
   rintro e w1 ⟨rfl,hb⟩
   have HF:=hide (show StIn B b w _ w1 from ⟨_,_,(uH HK).below hb,(uH HH).below hb,hb.mono (by omega)⟩)
   clear hb
   go_wp2
   refine bodyPost_ret (v:=.tuple #[]) (by simp [results,Tryz.results175,go_sem]) rfl ⟨rfl,uH HF⟩
  simp only [true_and] at hc
  have hc2:ra<next∨(next≤ra∧epoch*1000+999<ra)∨(next≤ra∧ra≤epoch*1000+999∧40≤al):=by have:=uH HAL;omega
  clear hc
  go_enter Tryz.func175,Tryz.ntmps175
  go_wp2_with fail
  refine (uH CL _ (yH _ _)).mono ?_
  rintro e w1 ⟨rfl,hb⟩
  have HF:=hide (show StIn B b w _ w1 from ⟨_,_,(uH HK).below hb,(uH HH).below hb,hb.mono (by omega)⟩)
  have a2:=((uH HK).below hb).at 2
  have a3:=((uH HK).below hb).at 3
  have a5:=((uH HK).below hb).at 5
  simp at a2 a3 a5
  clear hb a0
  rcases hc2 with h1 | ⟨h1,h2⟩ | ⟨h1,h2,h3⟩
  ·go_wp2
   refine bodyPost_ret (v:=.tuple #[]) (by simp [results,Tryz.results175,go_sem]) rfl ⟨rfl,uH HF⟩
  ·have h1':¬ra<next:=by omega
   go_wp2_with fail
   refine (uH CA _).mono ?_
   rintro e w2 ⟨rfl,rfl⟩
   go_wp2
   refine bodyPost_ret (v:=.tuple #[]) (by simp [results,Tryz.results175,go_sem]) rfl ⟨rfl,uH HF⟩
  ·have h1':¬ra<next:=by omega
   have h2':¬epoch*1000+999<ra:=by omega
   go_wp2_with fail
   refine (uH CA _).mono ?_
   rintro e w2 ⟨rfl,rfl⟩
   have h3':(40:Int)≤(al:Int):=by omega
   go_wp2
   refine bodyPost_ret (v:=.tuple #[]) (by simp [results,Tryz.results175,go_sem]) rfl ⟨rfl,uH HF⟩
 obtain ⟨h0,h1,h2,h3⟩:=hc
 have hS:=uH E0 h0 h1 h2 h3
 subst hS h0
 clear E0 E0n
 go_enter Tryz.func175,Tryz.ntmps175
 go_wp2_with fail
 refine (uH CL _ (yH _ _)).mono ?_
 rintro e w1 ⟨rfl,hb⟩
 have K1:=hide ((uH HK).below hb)
 have H1:=hide ((uH HH).below hb)
 have B1:=hide (show Below B w w1 from hb.mono (by omega))
 have a2:=(uH K1).at 2
 have a3:=(uH K1).at 3
 have a5:=(uH K1).at 5
 simp at a2 a3 a5
 have hb1:b<w1.heap.size:=(uH K1).lt
 clear hb a0
 have h1':¬ra<next:=by omega
 have h2':¬epoch*1000+999<ra:=by omega
 have h3':¬(40:Int)≤(al:Int):=by have:=uH HAL;omega
 go_wp2_with fail
 refine (uH CA _).mono ?_
 rintro e w2 ⟨rfl,rfl⟩
 have hbx:=yA (yH _ w1) (.cells #[.int .i64 ra,.string (bs rq),.slice none 0 0] 139)
 have H2:=hide ((uH H1).below hbx)
 have K2:=hide ((uH K1).below hbx)
 have B2:=hide (show Below B w _ from (uH B1).trans (hbx.mono (by omega)))
 have RW:=hide (uH H2).p.1
 have CP:=hide (uH H2).cap.a
 have RM:=hide (uH H2).rm.2.1
 have hl:al≤40:=by have:=uH HAL;omega
 have ALN:=hide (uH H2).p.1.1
 simp only at RW CP RM ALN
 go_wp2_with (at_builtin;refine wpList_append_rm _ rfl _ _ 33 rfl 139 i0 (.agg #[.int .i64 0,.string ByteArray.empty,.slice none 0 0]) 3 48 Tryz.underlying33 hii hz0 hz1 hz2 rfl (by decide) B _ aa al ac (pcells hs) rfl (uH RM) (uH CP) ?cB ?clo ?chs ⟨w1.heap.size,0,none⟩ 1 1 (pcell ⟨ra,rq,none,0,0⟩) rfl rfl ?c1 ?c2 (by decide) ?c3 ?c4 ?_)
 case cB=>simp;omega
 case clo=>rw [pcells_len,←uH ALN]
 case chs=>intro b' off e j u hj;subst e;exact pcells_row (uH RW) j u hj
 case c1=>exact World.news_of_block (yD w1 #[.int .i64 ra,.string (bs rq),.slice none 0 0] 139)
 case c2=>intro u hu;simp at hu;rcases hu with rfl | rfl | rfl<;>rfl
 case c3=>unfold maxLen;omega
 case c4=>omega
 intro g cap' w3 ha
 have hBx:B≤(w1.alloc (.cells #[.int .i64 ra,.string (bs rq),.slice none 0 0] 139)).heap.size:=by rw [yE];omega
 have H3:=hide ((uH H2).add hBx ra (ra+1) rq ha)
 have K3:=hide (show Blk w3 b _ 37 from ha.mks.blk (uH K2) (fun ⟨N,hc,_⟩=>absurd (hc.type ⟨_,uH K2,rfl⟩) (by decide)))
 have B3:=hide (show Below B w w3 from (uH B2).trans (ha.mks.below (fun k ⟨N,_,h⟩=>h) hBx))
 have d5:=(uH K3).at 5
 have d3:=(uH K3).at 3
 have f5:=(uH K3).f 5
 have f3:=(uH K3).f 3
 simp at d5 d3
 have hb3:b<w3.heap.size:=(uH K3).lt
 clear ha hBx H1 H2 K1 K2 B1 B2 RW CP RM ALN hbx a2 a3 a5 CA CL HH HK
 have m5:Mks (fun k=>k=b) w3 (w3.setCell ⟨b,5,none⟩ (.slice (some ⟨g,0,none⟩) (al+1) cap')):=Mks.one _ _ _ _ _ rfl
 have K4:=hide (show Blk (w3.setCell ⟨b,5,none⟩ (.slice (some ⟨g,0,none⟩) (al+1) cap')) b _ 37 from (uH K3).set 5 _)
 have m3:Mks (fun k=>k=b) (w3.setCell ⟨b,5,none⟩ (.slice (some ⟨g,0,none⟩) (al+1) cap')) ((w3.setCell ⟨b,5,none⟩ (.slice (some ⟨g,0,none⟩) (al+1) cap')).setCell ⟨b,3,none⟩ (.int .i64 (ra+1))):=Mks.one _ _ _ _ _ rfl
 have HF:=hide (show StIn B b w ⟨qs,clock,epoch,ra+1,serial,apps++[⟨ra,rq,[]⟩],ms,cs⟩ ((w3.setCell ⟨b,5,none⟩ (.slice (some ⟨g,0,none⟩) (al+1) cap')).setCell ⟨b,3,none⟩ (.int .i64 (ra+1))) from
  ⟨⟨qa,ql,qc,some ⟨g,0,none⟩,al+1,cap',ma,ml,mc,ca,cl,cc⟩,_,(uH K4).set 3 _,((uH H3).mkt m5 (uH K3)).mkt m3 (uH K4),(uH B3).trans ((m5.trans m3).below (fun k e=>by rw [e];exact hBb) (by omega))⟩)
 clear m5 m3 K4 K3 H3 B3
 go_wp2
 go_end0
 exact ⟨rfl,uH HF⟩
theorem max_runR (x y:Int) (wx:World):(Builtin.max_ #[3,3] 3 #[.int .i64 x,.int .i64 y]).run Tryz.prog wx=.ok (.int .i64 (max x y)) wx:=by
 have:(if x<y then y else x)=max x y:=by omega
 simp [go_sem,this]
theorem beginEpoch_st {B:Nat} (l:List Q) (b:Nat) (x:Sls) (s:St) (hs:List AV) (rr:Rc) (hrr:rr.kind=2) (w:World) (hk:Blk w b (svc x s) 37) (h:SHas B w x s hs) (hBb:B≤b) (hi:RInv l s) :
  Calls Tryz.prog 177 #[.pointer (some ⟨b,0,none⟩)] w fun e w'=>e=.returned (.tuple #[])∧StIn B b w (applyV s rr) w':=by
 have hbs:=hk.lt
 have i6:=hi.e1
 have i7:=hi.e2
 have i8:=hi.n1
 have i9:=hi.n2
 obtain ⟨S1,hS⟩:∃S,applyV s rr=S:=⟨_,rfl⟩
 rw [hS]
 have E2:=hide (fun (he:s.epoch<900000)=>hS.symm.trans (apply_epoch hrr he))
 have E2n:=hide (fun (he:¬s.epoch<900000)=>hS.symm.trans (apply_last hrr he))
 have HK:=hide hk
 have HH:=hide h
 have a2:=hk.at 2
 have a3:=hk.at 3
 have f2:=hk.f 2
 have f3:=hk.f 3
 simp at a2 a3
 clear hk h hi hS
 obtain ⟨qa,ql,qc,aa,al,ac,ma,ml,mc,ca,cl,cc⟩:=x
 obtain ⟨qs,clock,epoch,next,serial,apps,ms,cs⟩:=s
 simp only at *
 by_cases he:epoch<900000
 ·have hS:=uH E2 he
  subst hS
  have m2:Mks (fun k=>k=b) w (w.setCell ⟨b,2,none⟩ (.int .i64 (epoch+1))):=Mks.one _ _ _ _ _ rfl
  have K4:=hide (show Blk (w.setCell ⟨b,2,none⟩ (.int .i64 (epoch+1))) b _ 37 from (uH HK).set 2 _)
  have m3:Mks (fun k=>k=b) (w.setCell ⟨b,2,none⟩ (.int .i64 (epoch+1))) ((w.setCell ⟨b,2,none⟩ (.int .i64 (epoch+1))).setCell ⟨b,3,none⟩ (.int .i64 (max next ((epoch+1)*1000+1)))):=Mks.one _ _ _ _ _ rfl
  have HF:=hide (show StIn B b w ⟨qs,clock,epoch+1,max next ((epoch+1)*1000+1),serial,apps,ms,cs⟩ ((w.setCell ⟨b,2,none⟩ (.int .i64 (epoch+1))).setCell ⟨b,3,none⟩ (.int .i64 (max next ((epoch+1)*1000+1)))).drew from
   ⟨⟨qa,ql,qc,aa,al,ac,ma,ml,mc,ca,cl,cc⟩,hs,(uH K4).set 3 _,(fun z=>⟨z.q,z.p,z.k,z.m,z.c,z.cap,z.rm⟩) ((((uH HH).mkt m2 (uH HK)).mkt m3 (uH K4)).below ((yH _ _).drew)),((m2.trans m3).below (fun k e=>by rw [e];exact hBb) (by omega)).drew⟩)
  have g2:(w.setCell ⟨b,2,none⟩ (.int .i64 (epoch+1))).cell? ⟨b,2,none⟩=some (.int .i64 (epoch+1)):=by have:=(uH K4).at 2;simpa using this
  have g3:(w.setCell ⟨b,2,none⟩ (.int .i64 (epoch+1))).cell? ⟨b,3,none⟩=some (.int .i64 next):=by have:=(uH K4).at 3;simpa using this
  have hf3:(w.setCell ⟨b,2,none⟩ (.int .i64 (epoch+1))).frozen? ⟨b,3,none⟩=false:=(uH K4).f 3
  have hwr:IntKind.i64.wrap ((epoch+1)*1000)=(epoch+1)*1000:=by rw [IntKind.wrap_i64];omega
  have hwr2:IntKind.i64.wrap ((epoch+1)*1000+1)=(epoch+1)*1000+1:=by rw [IntKind.wrap_i64];omega
  have hmax:=max_runR next ((epoch+1)*1000+1)
  have he':¬(900000:Int)≤epoch:=by omega
  clear m2 m3 K4 E2 E2n HK HH
  go_enter Tryz.func177,Tryz.ntmps177
  go_upto_region 2 with fail
  go_region_with (fail)
  all_goals
   go_wp2
   go_end0
   exact ⟨rfl,uH HF⟩
 ·have hS:=uH E2n he
  subst hS
  have he':(900000:Int)≤epoch:=by omega
  have HF:=hide (show StIn B b w _ w from ⟨_,_,uH HK,uH HH,yH _ _⟩)
  clear E2 E2n HK HH
  go_enter Tryz.func177,Tryz.ntmps177
  go_wp2
  refine bodyPost_ret (v:=.tuple #[]) (by simp [results,Tryz.results177,go_sem]) rfl ⟨rfl,uH HF⟩
theorem StIn.of {B b:Nat} {w w1 w':World} {s:St} (h:StIn B b w1 s w') (hb:Below B w w1):StIn B b w s w':=let ⟨y,hs,h1,h2,h3⟩:=h;⟨y,hs,h1,h2,hb.trans h3⟩
theorem recall_st {B:Nat} (l:List Q) (b:Nat) (s:St) (r:Rc) (w0 w:World) (h:StIn B b w0 s w) (hBb:B≤b) (hi:RInv l s) (hf:FitQ l) :
  Calls Tryz.prog 146 #[.pointer (some ⟨b,0,none⟩),rcv r] w fun e w'=>e=.returned (.tuple #[])∧StIn B b w0 (applyV s r) w'∧w.heap.size≤w'.heap.size:=by
 obtain ⟨x,hs,hk,hh,hb0⟩:=h
 obtain ⟨rk,ra,rq⟩:=r
 have hbs:=hk.lt
 have hfs:=rinv_fit hi hf
 have hba:=yA (yH _ w) (.cells #[.int .i64 rk,.int .i64 ra,.string (bs rq)] 54)
 have KA:=hide (hk.below hba)
 have HA:=hide (hh.below hba)
 have BA:=hide (show Below B w0 _ from hb0.trans (hba.mono (by omega)))
 have hal:x.al≤1048576:=by have:=hh.p.1.1;have:=hh.k.heads.1;have:=hfs.2.1.1;omega
 have hcl:x.cl≤1048576:=by have:=hh.c.1.1;have:=hfs.2.2.2.1;omega
 have CT:=hide (takeOn_st l b x s hs ra rq _ (uH KA) (uH HA) hBb hi hf)
 have CE:=hide (fun h2=>beginEpoch_st l b x s hs ⟨rk,ra,rq⟩ h2 _ (uH KA) (uH HA) hBb hi)
 have CD:=hide (drop_st (B:=B) ra b x s hs _ (uH KA) (uH HA) (by rw [yE];omega) hcl hal)
 have E1:=hide (fun (h:rk=1)=>apply_done (s:=s) (r:=⟨rk,ra,rq⟩) h)
 have E0:=hide (fun (h0:rk≠0) (h1:rk≠1) (h2:rk≠2)=>apply_else (s:=s) (r:=⟨rk,ra,rq⟩) h0 h1 h2)
 have HST:=hide (show StIn B b w0 s _ from ⟨x,hs,uH KA,uH HA,uH BA⟩)
 clear hk hh hb0 hfs hi
 by_cases k0:rk=0
 ·subst k0
  go_enter Tryz.func146,Tryz.ntmps146
  go_wp2_with fail
  refine (uH CT).mono ?_
  rintro e w1 ⟨rfl,h1⟩
  have HF:=hide (h1.of (uH BA))
  have hz:w.heap.size≤w1.heap.size:=by obtain ⟨_,_,_,_,hb⟩:=h1;exact Nat.le_trans hba.size hb.size
  clear h1
  go_wp2
  go_end0
  exact ⟨rfl,uH HF,hz⟩
 by_cases k1:rk=1
 ·subst k1
  rw [uH E1 rfl]
  go_enter Tryz.func146,Tryz.ntmps146
  go_wp2_with fail
  refine (uH CD).mono ?_
  rintro e w1 ⟨y,go,gn,gc,rfl,h1,h2,h3,h4,h5⟩
  have HF:=hide (show StIn B b w0 ⟨s.qs,s.clock,s.epoch,s.next,s.serial,s.apps.filter (fun a=>!decide (a.id=ra)),s.ms,s.cs.filter (fun q=>!decide (q.app=ra))⟩ w1 from ⟨y,_,h1,h2,(uH BA).trans (h5.below (fun k e=>by rw [e];exact hBb) (by rw [yE];omega))⟩)
  have hz:w.heap.size≤w1.heap.size:=Nat.le_trans hba.size h5.size
  clear h1 h2 h3 h4 h5
  go_wp2
  go_end0
  exact ⟨rfl,uH HF,hz⟩
 by_cases k2:rk=2
 ·subst k2
  go_enter Tryz.func146,Tryz.ntmps146
  go_wp2_with fail
  refine (uH CE (by simp)).mono ?_
  rintro e w1 ⟨rfl,h1⟩
  have HF:=hide (h1.of (uH BA))
  have hz:w.heap.size≤w1.heap.size:=by obtain ⟨_,_,_,_,hb⟩:=h1;exact Nat.le_trans hba.size hb.size
  clear h1
  go_wp2
  go_end0
  exact ⟨rfl,uH HF,hz⟩
 rw [uH E0 k0 k1 k2]
 have k0':(rk==0)=false:=by simpa using k0
 have k1':(rk==1)=false:=by simpa using k1
 have k2':(rk==2)=false:=by simpa using k2
 have hz:=hba.size
 go_enter Tryz.func146,Tryz.ntmps146
 go_wp2
 go_end0
 exact ⟨rfl,uH HST,hz⟩
def qlN (l:List Q):List Q:=if queuesOk l=true then l else []
def epN (l:List Q):Int:=if queuesOk l=true then 1 else 0
def nxN (l:List Q):Int:=if queuesOk l=true then 1001 else 0
theorem new_ok (l:List Q):stateOkV (newSt l 1 1001 1)=queuesOk l:=by
 have h1:appsOkV (newSt l 1 1001 1)=true:=rfl
 have h2:machsOkS (newSt l 1 1001 1)=true:=rfl
 simp only [stateOkV,stateOkS,h1,h2]
 rw [show (inB 0 0 1000000000&&(inB 1 1 1000000000&&(inB 1001 1 1000000000&&(inB 1 1 1000000000&&(true&&(true&&(decide (([]:List Con).length≤150)&&contsS [] [] 0 [])))))))=true from rfl,Bool.and_true]
theorem NewAns.one {w w':World} {l:List Q} {e:Ending} (h:NewAns w l e w'):∃qo n c,e=.returned (.tuple #[.agg (svc (newX qo n c) (newSt (qlN l) (epN l) (nxN l) (epN l))),.bool (queuesOk l)])∧n=(qlN l).length∧QOwn (w.heap.size+1) w' (.slice qo n c) (qlN l)∧Below w.heap.size w w':=by
 obtain ⟨hb,⟨ho,rfl⟩ | ⟨ho,v,rfl,hown⟩⟩:=h
 ·refine ⟨none,0,0,?_,?_,?_,hb⟩
  ·simp [qlN,epN,nxN,ho]
  ·simp [qlN,ho]
  ·simp only [qlN,ho];exact qown_nil _ _
 ·obtain ⟨qo,qc,rfl,_⟩:=qown_rowx hown
  refine ⟨qo,l.length,qc,?_,?_,?_,hb⟩
  ·simp [qlN,epN,nxN,ho]
  ·simp [qlN,ho]
  ·simp only [qlN,ho];exact hown
def Marked (w:World) (qo:Option Addr) (n:Nat):Prop:=(n=0∨∃g,qo=some ⟨g,0,none⟩)∧QRow w qo n (marksQ n)
theorem Marked.below {w w':World} {qo:Option Addr} {n:Nat} (h:Marked w qo n) (hb:Below w.heap.size w w'):Marked w' qo n:=⟨h.1,h.2.below hb⟩
theorem new_has {B n c:Nat} {w:World} {qo:Option Addr} {l:List Q} (ep nx se:Int) (h:QOwn B w (.slice qo n c) l) (hn:n=l.length):SHas B w (newX qo n c) (newSt l ep nx se) []:=by
 obtain ⟨ao,cap,e,hc,hh⟩:=QOwn.has h
 cases e
 exact ⟨hh,⟨⟨rfl,.inl rfl⟩,.inl rfl⟩,KHas.nil _ _,⟨⟨rfl,.inl rfl⟩,.inl rfl⟩,⟨⟨rfl,.inl rfl⟩,.inl rfl⟩,⟨hc,yJ _,yJ _,yJ _⟩,own1_of h,.inl rfl,.inl rfl,.inl rfl,fun v hv=>absurd hv (by simp)⟩
def takeV (s:St) (ids:List Int):St×List Con:=
 if stateOkV s=true then (⟨s.qs,s.clock,s.epoch,s.next,s.serial,s.apps,s.ms,s.cs.filter (fun q=>!hasI q.id ids)⟩,s.cs.filter (fun q=>hasI q.id ids)) else (s,[])
theorem takeV_eq (s:St) (ids:List Int):(stateOkV s=true→takeV s ids=(⟨s.qs,s.clock,s.epoch,s.next,s.serial,s.apps,s.ms,s.cs.filter (fun q=>!hasI q.id ids)⟩,s.cs.filter (fun q=>hasI q.id ids)))∧(stateOkV s=false→takeV s ids=(s,[])):=
 ⟨fun h=>if_pos h,fun h=>if_neg (by simp [h])⟩
theorem inR_own {ao:Option Addr} {n c k:Nat} (h:inR ao n k):(Value.slice ao n c).ownBlock=some k:=by
 obtain ⟨_,o,rfl⟩:=h
 simp [Value.ownBlock]
theorem cown_grown {B:Nat} {w w':World} {v u:Value} {l:List Con} (h:COwn B w v l) (hg:w.grownBy w' u.ownBlock) (hd:∀k,v.ownBlock=some k→u.ownBlock≠some k):COwn B w' v l:=
 World.ownsRow.kept h hg (by
  cases hv:v.ownBlock with
  | none=>exact .inl rfl
  | some k=>exact .inr (fun e=>hd k hv e.symm))
theorem specTakeBack_any (x:Sls) (s:St) (hs0:List AV) (io:Option Addr) (il ic:Nat) (ids:List Int) (w:World) (h:SRow w x s) (hav:AVRow w x.aa x.al hs0) (hhd:Heads w hs0 s.apps) (hss:SSome x hs0) (hf:FitSt s) (hi:NRow w io il ids) (hil:il≤1048576) :
  Calls Tryz.prog 122 #[sv x s,.slice io il ic] w (StAns w (takeV s ids).1 (takeV s ids).2):=by
 obtain ⟨i0,hii,hz0,hz1,hz2⟩:=info_parts Tryz.infoCont
 have hlc:x.cl≤1048576:=by have:=hf.2.2.2.1;have:=h.2.2.2.1;omega
 obtain ⟨o,ho⟩:∃o,stateOkV s=o:=⟨_,rfl⟩
 have HO:=hide ho
 have HV:=hide (takeV_eq s ids)
 have hb0:=yA (yA (yH _ w) (.cells (svc x s) 37)) (.cells #[.slice none 0 0,.int .i64 0,.int .i64 0,.int .i64 0,.int .i64 0,.slice none 0 0,.slice none 0 0,.slice none 0 0] 37)
 have HB0:=hide hb0
 have P0:=hide ((yD w (svc x s) 37).al (.cells #[.slice none 0 0,.int .i64 0,.int .i64 0,.int .i64 0,.int .i64 0,.slice none 0 0,.slice none 0 0,.slice none 0 0] 37))
 have P1:=hide (show Blk _ (w.heap.size+1) #[.slice none 0 0,.int .i64 0,.int .i64 0,.int .i64 0,.int .i64 0,.slice none 0 0,.slice none 0 0,.slice none 0 0] 37 by have:=yD (w.alloc (.cells (svc x s) 37)) #[.slice none 0 0,.int .i64 0,.int .i64 0,.int .i64 0,.int .i64 0,.slice none 0 0,.slice none 0 0,.slice none 0 0] 37;rwa [yE] at this)
 have CC:=hide (l04Copy_any x s hs0 _ (h.below hb0) (hav.below hb0) (hhd.below hb0) hss hf)
 have CO:=hide (fun wx (hb:Below w.heap.size w wx)=>by have:=specStateOk_any x s wx (h.below hb) hf;rw [ho] at this;exact this)
 have CI:=hide (fun wx (q:Int) (hb:Below w.heap.size w wx)=>l06Id_any io il ic ids q wx (hi.below hb) hil)
 obtain ⟨qa,ql,qc,aa,al,ac,ma,ml,mc,ca,cl,cc⟩:=x
 obtain ⟨qs,clock,epoch,next,serial,apps,ms,cs⟩:=s
 simp only at *
 have RC:=hide (show ConRow w ca cl cs from h.2.2.2)
 have HLC:=hide (show cl=cs.length from h.2.2.2.1)
 clear h hb0 hf ho hav hhd hss hi hil
 go_enter Tryz.func122,Tryz.ntmps122
 go_wp2_with fail
 refine (uH CC).mono ?_
 rintro e w2 ⟨y,hs,rfl,ha,hb⟩
 obtain ⟨yqa,yql,yqc,yaa,yal,yac,yma,yml,ymc,yca,ycl,ycc⟩:=y
 rw [yE,yE] at ha
 have b3:=yA (yH _ w2) (.cells #[.slice yqa yql yqc,.int .i64 clock,.int .i64 epoch,.int .i64 next,.int .i64 serial,.slice yaa yal yac,.slice yma yml ymc,.slice yca ycl ycc] 37)
 have b4:=yA b3 (.cells #[] 150)
 have H3:=hide (ha.below b4)
 have P3:=hide ((((uH P0).below hb).al (.cells #[.slice yqa yql yqc,.int .i64 clock,.int .i64 epoch,.int .i64 next,.int .i64 serial,.slice yaa yal yac,.slice yma yml ymc,.slice yca ycl ycc] 37)).al (.cells #[] 150))
 have R3:=hide ((((uH P1).below hb).al (.cells #[.slice yqa yql yqc,.int .i64 clock,.int .i64 epoch,.int .i64 next,.int .i64 serial,.slice yaa yal yac,.slice yma yml ymc,.slice yca ycl ycc] 37)).al (.cells #[] 150))
 have O3:=hide ((yD w2 #[.slice yqa yql yqc,.int .i64 clock,.int .i64 epoch,.int .i64 next,.int .i64 serial,.slice yaa yal yac,.slice yma yml ymc,.slice yca ycl ycc] 37).al (.cells #[] 150))
 have G3:=hide (show COwn (w2.heap.size+1) _ (.slice (some ⟨w2.heap.size+1,0,none⟩) 0 0) [] by have:=cown_empty (w2.alloc (.cells #[.slice yqa yql yqc,.int .i64 clock,.int .i64 epoch,.int .i64 next,.int .i64 serial,.slice yaa yal yac,.slice yma yml ymc,.slice yca ycl ycc] 37));rw [yE] at this;exact this)
 have B3:=hide (yB (yB (uH HB0) hb) b4)
 have hz2':w.heap.size+2≤w2.heap.size:=by have:=hb.size;rw [yE,yE] at this;omega
 obtain ⟨b,hbb⟩:∃b,w2.heap.size=b:=⟨_,rfl⟩
 have HBB:=hide hbb
 obtain ⟨a0,a1,a2,a3,a4,a5,a6,a7⟩:=zq (uH P3)
 clear ha hb HB0 P0 P1 CC b3 b4 hbb
 go_wp2_with fail
 refine (uH CO _ (uH B3)).mono ?_
 rintro e w6 ⟨rfl,hb⟩
 have B6:=hide (yB (uH B3) hb)
 have H6:=hide (show SAns (w.heap.size+2) b w6 ⟨yqa,yql,yqc,yaa,yal,yac,yma,yml,ymc,yca,ycl,ycc⟩ ⟨qs,clock,epoch,next,serial,apps,ms,cs⟩ hs by have:=(uH H3).below hb;rw [uH HBB] at this;exact this)
 have P6:=hide ((uH P3).below hb)
 have R6:=hide ((uH R3).below hb)
 have O6:=hide (show Blk w6 b _ 37 by have:=(uH O3).below hb;rw [uH HBB] at this;exact this)
 have G6o:=hide (show COwn (b+1) w6 (.slice (some ⟨b+1,0,none⟩) 0 0) [] by have:=cown_below (uH G3) hb;rw [uH HBB] at this;exact this)
 have hz6:b<w6.heap.size:=(uH O6).lt
 have hb2:w.heap.size+2≤b:=by have:=uH HBB;omega
 rw [uH HBB]
 clear hb B3 H3 R3 O3 P3 G3 a0 a1 a2 a3 a4 a5 a6 a7 CO
 cases o
 case false=>
  have H6s:=hide ((uH H6).has (Nat.le_of_lt hz6))
  have G6:=hide (show CHas (w.heap.size+2) w6 (some ⟨b+1,0,none⟩) 0 [] from ⟨⟨rfl,.inl rfl⟩,.inl rfl⟩)
  obtain ⟨c0,c1,c2,c3,c4,c5,c6,c7⟩:=zq (uH R6)
  have f0:=(uH R6).f 0;have f1:=(uH R6).f 1;have f2:=(uH R6).f 2;have f3:=(uH R6).f 3;have f4:=(uH R6).f 4;have f5:=(uH R6).f 5;have f6:=(uH R6).f 6;have f7:=(uH R6).f 7
  obtain ⟨a0,a1,a2,a3,a4,a5,a6,a7⟩:=zq (uH O6)
  go_wp2
  have RR:=hide (show Blk ((((((((w6.setCell ⟨w.heap.size+1,0,none⟩ (.slice yqa yql yqc)).setCell ⟨w.heap.size+1,1,none⟩ (.int .i64 clock)).setCell ⟨w.heap.size+1,2,none⟩ (.int .i64 epoch)).setCell ⟨w.heap.size+1,3,none⟩ (.int .i64 next)).setCell ⟨w.heap.size+1,4,none⟩ (.int .i64 serial)).setCell ⟨w.heap.size+1,5,none⟩ (.slice yaa yal yac)).setCell ⟨w.heap.size+1,6,none⟩ (.slice yma yml ymc)).setCell ⟨w.heap.size+1,7,none⟩ (.slice yca ycl ycc)) (w.heap.size+1) #[.slice yqa yql yqc,.int .i64 clock,.int .i64 epoch,.int .i64 next,.int .i64 serial,.slice yaa yal yac,.slice yma yml ymc,.slice yca ycl ycc] 37 from (((((((((uH R6).set 0 (.slice yqa yql yqc)).set 1 (.int .i64 clock)).set 2 (.int .i64 epoch)).set 3 (.int .i64 next)).set 4 (.int .i64 serial)).set 5 (.slice yaa yal yac)).set 6 (.slice yma yml ymc)).set 7 (.slice yca ycl ycc)))
  have H9:=hide (((((((((uH H6s).sc (k:=w.heap.size+1) (j:=0) (v:=.slice yqa yql yqc) (by omega)).sc (k:=w.heap.size+1) (j:=1) (v:=.int .i64 clock) (by omega)).sc (k:=w.heap.size+1) (j:=2) (v:=.int .i64 epoch) (by omega)).sc (k:=w.heap.size+1) (j:=3) (v:=.int .i64 next) (by omega)).sc (k:=w.heap.size+1) (j:=4) (v:=.int .i64 serial) (by omega)).sc (k:=w.heap.size+1) (j:=5) (v:=.slice yaa yal yac) (by omega)).sc (k:=w.heap.size+1) (j:=6) (v:=.slice yma yml ymc) (by omega)).sc (k:=w.heap.size+1) (j:=7) (v:=.slice yca ycl ycc) (by omega))
  have B9:=hide (yC (yC (yC (yC (yC (yC (yC (yC (uH B6) (w.heap.size+1) 0 (.slice yqa yql yqc) (by omega)) (w.heap.size+1) 1 (.int .i64 clock) (by omega)) (w.heap.size+1) 2 (.int .i64 epoch) (by omega)) (w.heap.size+1) 3 (.int .i64 next) (by omega)) (w.heap.size+1) 4 (.int .i64 serial) (by omega)) (w.heap.size+1) 5 (.slice yaa yal yac) (by omega)) (w.heap.size+1) 6 (.slice yma yml ymc) (by omega)) (w.heap.size+1) 7 (.slice yca ycl ycc) (by omega))
  generalize ((((((((w6.setCell ⟨w.heap.size+1,0,none⟩ (.slice yqa yql yqc)).setCell ⟨w.heap.size+1,1,none⟩ (.int .i64 clock)).setCell ⟨w.heap.size+1,2,none⟩ (.int .i64 epoch)).setCell ⟨w.heap.size+1,3,none⟩ (.int .i64 next)).setCell ⟨w.heap.size+1,4,none⟩ (.int .i64 serial)).setCell ⟨w.heap.size+1,5,none⟩ (.slice yaa yal yac)).setCell ⟨w.heap.size+1,6,none⟩ (.slice yma yml ymc)).setCell ⟨w.heap.size+1,7,none⟩ (.slice yca ycl ycc))=W9 at RR H9 B9 ⊢
  obtain ⟨z0,z1,z2,z3,z4,z5,z6,z7⟩:=zq (uH RR)
  refine bodyPost_ret (v:=.tuple #[.agg #[.slice yqa yql yqc,.int .i64 clock,.int .i64 epoch,.int .i64 next,.int .i64 serial,.slice yaa yal yac,.slice yma yml ymc,.slice yca ycl ycc],.slice (some ⟨b+1,0,none⟩) 0 0]) (by simp [results,Tryz.results122,go_sem,z0,z1,z2,z3,z4,z5,z6,z7]) rfl ?_
  rw [(uH HV).2 (uH HO)]
  exact ⟨⟨yqa,yql,yqc,yaa,yal,yac,yma,yml,ymc,yca,ycl,ycc⟩,hs,some ⟨b+1,0,none⟩,0,0,rfl,(uH H9).ans.mono (by omega) (yJ _),⟨⟨rfl,.inl rfl⟩,.inl rfl⟩,fun k hk=>absurd rfl hk.1,uH B9⟩
 have hb1:=yA (yH _ w6) (.cells #[] 150)
 have L7:=hide (show COwn w6.heap.size (w6.alloc (.cells #[] 150)) (.slice (some ⟨w6.heap.size,0,none⟩) 0 0) [] from cown_empty w6)
 have H7:=hide ((uH H6).below hb1)
 have P7:=hide ((uH P6).below hb1)
 have R7:=hide ((uH R6).below hb1)
 have O7:=hide ((uH O6).below hb1)
 have G7:=hide (cown_below (uH G6o) hb1)
 have B7:=hide (yB (uH B6) hb1)
 have hLT:=hide (show ∀k,(Value.slice (some ⟨b+1,0,none⟩) 0 0).ownBlock=some k→k<w6.heap.size from fun k e=>(World.ownsRow.lt (uH G6o) k e).2)
 obtain ⟨gl,hgl⟩:∃g,w6.heap.size=g:=⟨_,rfl⟩
 have HGL:=hide hgl
 clear hb1 H6 P6 R6 O6 G6o B6 hgl
 go_upto_region 6 with fail
 generalize w6.alloc (.cells #[] 150)=w7 at L7 H7 P7 R7 O7 G7 B7 ⊢
 go_wp2
 go_loopw [7,8,9] (fun v u i wr=>∃(k:Nat),k≤cl∧i=.int .i64 k∧Hid (COwn (b+1) wr v ((cs.take k).filter (fun q=>hasI q.id ids))∧COwn (b+1) wr u ((cs.take k).filter (fun q=>!hasI q.id ids))∧∀k,v.ownBlock=some k→u.ownBlock≠some k)∧Hid (SAns (w.heap.size+2) b wr ⟨yqa,yql,yqc,yaa,yal,yac,yma,yml,ymc,yca,ycl,ycc⟩ ⟨qs,clock,epoch,next,serial,apps,ms,cs⟩ hs)∧Hid (Blk wr w.heap.size #[.slice qa ql qc,.int .i64 clock,.int .i64 epoch,.int .i64 next,.int .i64 serial,.slice aa al ac,.slice ma ml mc,.slice ca cl cc] 37∧Blk wr (w.heap.size+1) #[.slice none 0 0,.int .i64 0,.int .i64 0,.int .i64 0,.int .i64 0,.slice none 0 0,.slice none 0 0,.slice none 0 0] 37∧Blk wr b #[.slice yqa yql yqc,.int .i64 clock,.int .i64 epoch,.int .i64 next,.int .i64 serial,.slice yaa yal yac,.slice yma yml ymc,.slice yca ycl ycc] 37)∧Hid (Below w.heap.size w wr)∧b<wr.heap.size) (fun _ _ i _=>cl - (intOf i).toNat)
 case atStart=>
  refine ⟨0,Nat.zero_le _,rfl,hide ⟨by simpa using uH G7,by simpa using cown_base (uH L7) (by omega),fun k e e2=>?_⟩,H7,hide ⟨uH P7,uH R7,uH O7⟩,B7,(uH O7).lt⟩
  have h1:=uH hLT k e
  have h2:w6.heap.size=k:=by simpa [Value.ownBlock] using e2
  omega
 case round=>
  clear L7 H7 P7 R7 O7 G7 B7 hLT
  obtain ⟨k,hk,rfl,HO2,HH,HBK,HB,hzr⟩:=hrel
  obtain ⟨h1,h2,h3⟩:=uH HO2
  obtain ⟨vo,vc,rfl,_,hvh⟩:=cown_has h1
  obtain ⟨uo,uc,rfl,huc,huh⟩:=cown_has h2
  have p7:=(uH HBK).1.at 7
  simp at p7
  by_cases hlt:k<cl
  ·obtain ⟨b',off,rfl,hq⟩:=((uH RC).below (uH HB)).at hlt
   have hkl:k<cs.length:=by have:=uH HLC;omega
   obtain ⟨c0,c1,c2,c3,c4⟩:=hq hkl
   have htk:cs.take (k+1)=cs.take k++[cs[k]]:=List.take_succ_eq_append_getElem hkl
   obtain ⟨q,hqe⟩:∃q,cs[k]=q:=⟨_,rfl⟩
   rw [hqe] at c0 c1 c2 c3 c4 htk
   obtain ⟨id,ap,nd,me,cp⟩:=q
   simp only at c0 c1 c2 c3 c4
   have hst1:(cs.take (k+1)).filter (fun q=>hasI q.id ids)=(cs.take k).filter (fun q=>hasI q.id ids)++(if hasI id ids=true then [⟨id,ap,nd,me,cp⟩] else []):=by
    rw [htk,List.filter_append]
    cases hc:hasI id ids<;>simp [hc]
   have hst2:(cs.take (k+1)).filter (fun q=>!hasI q.id ids)=(cs.take k).filter (fun q=>!hasI q.id ids)++(if (!hasI id ids)=true then [⟨id,ap,nd,me,cp⟩] else []):=by
    rw [htk,List.filter_append]
    cases hc:hasI id ids<;>simp [hc]
   have hl1:((cs.take k).filter (fun q=>hasI q.id ids)).length≤1048576:=by have:=List.length_filter_le (fun q:Con=>hasI q.id ids) (cs.take k);rw [List.length_take] at this;omega
   have hl2:((cs.take k).filter (fun q=>!hasI q.id ids)).length≤1048576:=by have:=List.length_filter_le (fun q:Con=>!hasI q.id ids) (cs.take k);rw [List.length_take] at this;omega
   obtain ⟨VL,hVL⟩:∃l,(cs.take k).filter (fun q=>hasI q.id ids)=l:=⟨_,rfl⟩
   obtain ⟨UL,hUL⟩:∃l,(cs.take k).filter (fun q=>!hasI q.id ids)=l:=⟨_,rfl⟩
   rw [hVL] at h1 h3 hst1 hl1 ⊢
   rw [hUL] at h2 h3 hst2 hl2 ⊢
   obtain ⟨vn,hvn⟩:∃n,VL.length=n:=⟨_,rfl⟩
   obtain ⟨un,hun⟩:∃n,UL.length=n:=⟨_,rfl⟩
   rw [hvn] at h1 h3 hl1 ⊢
   rw [hun] at h2 h3 hl2 ⊢
   have HVLx:=hide hvn
   have HULx:=hide hun
   have Ch1:=hide h1
   have Ch2:=hide h2
   have Oh1:=hide (show wr.ownsRow (b+1) 150 5 (.slice vo vn vc) vn (ccells VL) by have:=h1;unfold COwn at this;rwa [hvn] at this)
   have Oh2:=hide (show wr.ownsRow (b+1) 150 5 (.slice uo un uc) un (ccells UL) by have:=h2;unfold COwn at this;rwa [hun] at this)
   have HDJ:=hide h3
   have HUL:=hide (fun k e=>(World.ownsRow.lt (uH Oh2) k e).2)
   have HVL:=hide (fun k e=>(World.ownsRow.lt (uH Oh1) k e).2)
   have HCI:=hide (uH CI wr id (uH HB))
   have j0:(0:Int)≤k:=by omega
   have j1:(k:Int)<cl:=by omega
   clear hq hqe hkl htk h1 h2 h3 hvh huh huc HO2 hVL hUL hvn hun
   cases hpq:hasI id ids with
   | true=>
    rw [hpq] at hst1 hst2 HCI
    simp only [Bool.not_true,Bool.not_false,if_true,if_false,List.append_nil,Bool.false_eq_true] at hst1 hst2
    have HST1:=hide hst1
    have HST2:=hide hst2
    clear hpq hst1 hst2
    go_wp2_with fail
    refine (uH HCI).mono ?_
    rintro e w1 ⟨rfl,rfl⟩
    clear HCI
    go_wp2_with (at_builtin;refine wpList_append_lies _ rfl _ _ 35 rfl (b+1) 150 i0 (.agg #[.int .i64 0,.int .i64 0,.string ByteArray.empty,.int .i64 0,.int .i64 0]) 5 48 Tryz.underlying35 hii hz0 hz1 hz2 rfl (by decide) _ _ _ rfl ((uH Oh1).alloc _) ⟨wr.heap.size,0,none⟩ 1 1 (ccell ⟨id,ap,nd,me,cp⟩) rfl rfl ?c1 ?c2 (by decide) ?c3 ?c4 ?c5 _ rfl ?_)
    case c1=>exact World.news_of_block (yD wr #[.int .i64 id,.int .i64 ap,.string (bs nd),.int .i64 me,.int .i64 cp] 150)
    case c2=>intro u hu;simp at hu;rcases hu with rfl | rfl | rfl | rfl | rfl<;>rfl
    case c3=>unfold maxLen;omega
    case c4=>omega
    case c5=>simp;omega
    intro ng nc w3 hown' hgrow hlies _
    have N1:=hide (show COwn (b+1) w3 (.slice (some ⟨ng,0,none⟩) (vn+1) nc) (VL++[⟨id,ap,nd,me,cp⟩]) by
     unfold COwn
     rw [ccells_app,List.length_append,uH HVLx]
     exact hown')
    have hbx:=yA (yH _ wr) (.cells #[.int .i64 id,.int .i64 ap,.string (bs nd),.int .i64 me,.int .i64 cp] 150)
    have N2:=hide (show COwn (b+1) w3 (.slice uo un uc) UL from cown_grown (cown_below (uH Ch2) hbx) hgrow (fun k e e2=>uH HDJ k e2 e))
    have N3:=hide (show ∀k,(Value.slice (some ⟨ng,0,none⟩) (vn+1) nc).ownBlock=some k→(Value.slice uo un uc).ownBlock≠some k from fun k e e2=>by
     have eg:ng=k:=by simpa [Value.ownBlock] using e
     subst eg
     rcases hlies with e3 | e3
     ·exact uH HDJ ng e3 e2
     ·have:=uH HUL ng e2
      omega)
    have hrow:∀k,(Value.slice vo vn vc).ownBlock=some k→b+1≤k∧∃N,Cel (wr.alloc (.cells #[.int .i64 id,.int .i64 ap,.string (bs nd),.int .i64 me,.int .i64 cp] 150)) 150 k N:=fun k e=>by
     obtain ⟨N,hc⟩:=owns_cel (uH Oh1) k e
     exact ⟨(World.ownsRow.lt (uH Oh1) k e).1,N,hc.below hbx⟩
    have HHn:=hide (((uH HH).below hbx).keep (w':=w3) (fun k h1 h2=>hgrow.block k (by have:=hbx.size;simp at this ⊢;omega) (fun e=>by have:=(hrow k e.symm).1;omega)))
    have HBKn:=hide (show Blk w3 w.heap.size _ 37∧Blk w3 (w.heap.size+1) #[.slice none 0 0,.int .i64 0,.int .i64 0,.int .i64 0,.int .i64 0,.slice none 0 0,.slice none 0 0,.slice none 0 0] 37∧Blk w3 b #[.slice yqa yql yqc,.int .i64 clock,.int .i64 epoch,.int .i64 next,.int .i64 serial,.slice yaa yal yac,.slice yma yml ymc,.slice yca ycl ycc] 37 from ⟨((uH HBK).1.below hbx).grown hgrow (fun k e=>(hrow k e).2) (by decide),((uH HBK).2.1.below hbx).grown hgrow (fun k e=>(hrow k e).2) (by decide),((uH HBK).2.2.below hbx).grown hgrow (fun k e=>(hrow k e).2) (by decide)⟩)
    have HBn:=hide (show Below w.heap.size w w3 from (yB (uH HB) hbx).grown hgrow (by have:=(uH HB).size;simp;omega) (fun k e=>by have:=(hrow k e).1;omega))
    have hzn:b<w3.heap.size:=(uH HBKn).2.2.lt
    clear hown' hgrow hlies hbx hrow c0 c1 c2 c3 c4 HH HBK HB
    go_wp2
    go_roundw
    case rel=>exact ⟨k+1,by omega,by go_num,hide ⟨by rw [uH HST1];exact uH N1,by rw [uH HST2];exact uH N2,uH N3⟩,HHn,HBKn,HBn,hzn⟩
    case measure=>simp [intOf];omega
   | false=>
    rw [hpq] at hst1 hst2 HCI
    simp only [Bool.not_true,Bool.not_false,if_true,if_false,List.append_nil,Bool.false_eq_true] at hst1 hst2
    have HST1:=hide hst1
    have HST2:=hide hst2
    clear hpq hst1 hst2
    go_wp2_with fail
    refine (uH HCI).mono ?_
    rintro e w1 ⟨rfl,rfl⟩
    clear HCI
    go_wp2_with (at_builtin;refine wpList_append_lies _ rfl _ _ 35 rfl (b+1) 150 i0 (.agg #[.int .i64 0,.int .i64 0,.string ByteArray.empty,.int .i64 0,.int .i64 0]) 5 48 Tryz.underlying35 hii hz0 hz1 hz2 rfl (by decide) _ _ _ rfl ((uH Oh2).alloc _) ⟨wr.heap.size,0,none⟩ 1 1 (ccell ⟨id,ap,nd,me,cp⟩) rfl rfl ?c1 ?c2 (by decide) ?c3 ?c4 ?c5 _ rfl ?_)
    case c1=>exact World.news_of_block (yD wr #[.int .i64 id,.int .i64 ap,.string (bs nd),.int .i64 me,.int .i64 cp] 150)
    case c2=>intro u hu;simp at hu;rcases hu with rfl | rfl | rfl | rfl | rfl<;>rfl
    case c3=>unfold maxLen;omega
    case c4=>omega
    case c5=>simp;omega
    intro ng nc w3 hown' hgrow hlies _
    have N1:=hide (show COwn (b+1) w3 (.slice (some ⟨ng,0,none⟩) (un+1) nc) (UL++[⟨id,ap,nd,me,cp⟩]) by
     unfold COwn
     rw [ccells_app,List.length_append,uH HULx]
     exact hown')
    have hbx:=yA (yH _ wr) (.cells #[.int .i64 id,.int .i64 ap,.string (bs nd),.int .i64 me,.int .i64 cp] 150)
    have N2:=hide (show COwn (b+1) w3 (.slice vo vn vc) VL from cown_grown (cown_below (uH Ch1) hbx) hgrow (fun k e e2=>uH HDJ k e e2))
    have N3:=hide (show ∀k,(Value.slice vo vn vc).ownBlock=some k→(Value.slice (some ⟨ng,0,none⟩) (un+1) nc).ownBlock≠some k from fun k e e2=>by
     have eg:ng=k:=by simpa [Value.ownBlock] using e2
     subst eg
     rcases hlies with e3 | e3
     ·exact uH HDJ ng e e3
     ·have:=uH HVL ng e
      omega)
    have hrow:∀k,(Value.slice uo un uc).ownBlock=some k→b+1≤k∧∃N,Cel (wr.alloc (.cells #[.int .i64 id,.int .i64 ap,.string (bs nd),.int .i64 me,.int .i64 cp] 150)) 150 k N:=fun k e=>by
     obtain ⟨N,hc⟩:=owns_cel (uH Oh2) k e
     exact ⟨(World.ownsRow.lt (uH Oh2) k e).1,N,hc.below hbx⟩
    have HHn:=hide (((uH HH).below hbx).keep (w':=w3) (fun k h1 h2=>hgrow.block k (by have:=hbx.size;simp at this ⊢;omega) (fun e=>by have:=(hrow k e.symm).1;omega)))
    have HBKn:=hide (show Blk w3 w.heap.size _ 37∧Blk w3 (w.heap.size+1) #[.slice none 0 0,.int .i64 0,.int .i64 0,.int .i64 0,.int .i64 0,.slice none 0 0,.slice none 0 0,.slice none 0 0] 37∧Blk w3 b #[.slice yqa yql yqc,.int .i64 clock,.int .i64 epoch,.int .i64 next,.int .i64 serial,.slice yaa yal yac,.slice yma yml ymc,.slice yca ycl ycc] 37 from ⟨((uH HBK).1.below hbx).grown hgrow (fun k e=>(hrow k e).2) (by decide),((uH HBK).2.1.below hbx).grown hgrow (fun k e=>(hrow k e).2) (by decide),((uH HBK).2.2.below hbx).grown hgrow (fun k e=>(hrow k e).2) (by decide)⟩)
    have HBn:=hide (show Below w.heap.size w w3 from (yB (uH HB) hbx).grown hgrow (by have:=(uH HB).size;simp;omega) (fun k e=>by have:=(hrow k e).1;omega))
    have hzn:b<w3.heap.size:=(uH HBKn).2.2.lt
    clear hown' hgrow hlies hbx hrow c0 c1 c2 c3 c4 HH HBK HB
    go_wp2
    go_roundw
    case rel=>exact ⟨k+1,by omega,by go_num,hide ⟨by rw [uH HST1];exact uH N2,by rw [uH HST2];exact uH N1,uH N3⟩,HHn,HBKn,HBn,hzn⟩
    case measure=>simp [intOf];omega
  ·obtain rfl:k=cl:=by omega
   have htk:cs.take k=cs:=List.take_of_length_le (by have:=uH HLC;omega)
   rw [htk] at h1 h2 h3 hvh huh huc ⊢
   obtain ⟨VL,hVL⟩:∃l,cs.filter (fun q=>hasI q.id ids)=l:=⟨_,rfl⟩
   obtain ⟨UL,hUL⟩:∃l,cs.filter (fun q=>!hasI q.id ids)=l:=⟨_,rfl⟩
   have HVLe:=hide hVL
   have HULe:=hide hUL
   rw [hVL] at h1 h3 hvh ⊢
   rw [hUL] at h2 h3 huh huc ⊢
   obtain ⟨gn,hgn⟩:∃n,VL.length=n:=⟨_,rfl⟩
   obtain ⟨nl,hnl⟩:∃n,UL.length=n:=⟨_,rfl⟩
   rw [hgn] at h1 h3 hvh ⊢
   rw [hnl] at h2 h3 huh huc ⊢
   have HUC:=hide huc
   have HG:=hide hvh
   have HL:=hide huh
   have HULo:=hide (own1_of h2)
   have HDJ:=hide h3
   have j1:¬(k:Int)<k:=by omega
   have e7:=(uH HBK).2.2.at 7
   have f7:=(uH HBK).2.2.f 7
   simp at e7
   clear h1 h2 h3 hvh huh huc htk hlt HO2 hVL hUL hgn hnl
   go_upto_region 13 with fail
   obtain ⟨lo,hlo⟩:∃l,uo=l:=⟨_,rfl⟩
   obtain ⟨lc,hlc'⟩:∃l,uc=l:=⟨_,rfl⟩
   subst hlo hlc'
   have hm:Mks (fun k=>k=b) wr (wr.setCell ⟨b,7,none⟩ (.slice uo nl uc)):=Mks.one _ _ _ _ _ rfl
   have H9:=hide (show SHas (w.heap.size+2) (wr.setCell ⟨b,7,none⟩ (.slice uo nl uc)) ⟨yqa,yql,yqc,yaa,yal,yac,yma,yml,ymc,uo,nl,uc⟩ ⟨qs,clock,epoch,next,serial,apps,ms,UL⟩ hs from by
    have hh:=(uH HH).has (Nat.le_of_lt hzr)
    have hx:=hh.mkt hm (uH HBK).2.2
    exact ⟨hx.q,hx.p,hx.k,hx.m,((uH HL).mkt hm (uH HBK).2.2).base (by omega),⟨hx.cap.q,hx.cap.a,hx.cap.m,uH HUC⟩,⟨hx.rm.1,hx.rm.2.1,hx.rm.2.2.1,((uH HULo).sc b 7 _).mono (by omega) (by rw [set_size];exact yJ _),hx.rm.2.2.2.2⟩⟩)
   have G9:=hide (((uH HG).mkt hm (uH HBK).2.2).base (B':=w.heap.size+2) (by omega))
   have R9:=hide ((uH HBK).2.1.other b 7 (.slice uo nl uc) (by omega))
   have O9:=hide (show Blk (wr.setCell ⟨b,7,none⟩ (.slice uo nl uc)) b #[.slice yqa yql yqc,.int .i64 clock,.int .i64 epoch,.int .i64 next,.int .i64 serial,.slice yaa yal yac,.slice yma yml ymc,.slice uo nl uc] 37 from (uH HBK).2.2.set 7 _)
   have B9:=hide (yC (uH HB) b 7 (.slice uo nl uc) (by omega))
   generalize wr.setCell ⟨b,7,none⟩ (.slice uo nl uc)=w9 at H9 G9 R9 O9 B9 ⊢
   clear hm e7 f7 HBK HB HH p7
   obtain ⟨c0,c1,c2,c3,c4,c5,c6,c7⟩:=zq (uH R9)
   have f0:=(uH R9).f 0;have f1:=(uH R9).f 1;have f2:=(uH R9).f 2;have f3:=(uH R9).f 3;have f4:=(uH R9).f 4;have f5:=(uH R9).f 5;have f6:=(uH R9).f 6;have f7:=(uH R9).f 7
   obtain ⟨a0,a1,a2,a3,a4,a5,a6,a7⟩:=zq (uH O9)
   go_wp2
   have RR:=hide (show Blk ((((((((w9.setCell ⟨w.heap.size+1,0,none⟩ (.slice yqa yql yqc)).setCell ⟨w.heap.size+1,1,none⟩ (.int .i64 clock)).setCell ⟨w.heap.size+1,2,none⟩ (.int .i64 epoch)).setCell ⟨w.heap.size+1,3,none⟩ (.int .i64 next)).setCell ⟨w.heap.size+1,4,none⟩ (.int .i64 serial)).setCell ⟨w.heap.size+1,5,none⟩ (.slice yaa yal yac)).setCell ⟨w.heap.size+1,6,none⟩ (.slice yma yml ymc)).setCell ⟨w.heap.size+1,7,none⟩ (.slice uo nl uc)) (w.heap.size+1) #[.slice yqa yql yqc,.int .i64 clock,.int .i64 epoch,.int .i64 next,.int .i64 serial,.slice yaa yal yac,.slice yma yml ymc,.slice uo nl uc] 37 from (((((((((uH R9).set 0 (.slice yqa yql yqc)).set 1 (.int .i64 clock)).set 2 (.int .i64 epoch)).set 3 (.int .i64 next)).set 4 (.int .i64 serial)).set 5 (.slice yaa yal yac)).set 6 (.slice yma yml ymc)).set 7 (.slice uo nl uc)))
   have HX:=hide (((((((((uH H9).sc (k:=w.heap.size+1) (j:=0) (v:=.slice yqa yql yqc) (by omega)).sc (k:=w.heap.size+1) (j:=1) (v:=.int .i64 clock) (by omega)).sc (k:=w.heap.size+1) (j:=2) (v:=.int .i64 epoch) (by omega)).sc (k:=w.heap.size+1) (j:=3) (v:=.int .i64 next) (by omega)).sc (k:=w.heap.size+1) (j:=4) (v:=.int .i64 serial) (by omega)).sc (k:=w.heap.size+1) (j:=5) (v:=.slice yaa yal yac) (by omega)).sc (k:=w.heap.size+1) (j:=6) (v:=.slice yma yml ymc) (by omega)).sc (k:=w.heap.size+1) (j:=7) (v:=.slice uo nl uc) (by omega))
   have GX:=hide (((((((((uH G9).sc (k:=w.heap.size+1) (j:=0) (v:=.slice yqa yql yqc) (by omega)).sc (k:=w.heap.size+1) (j:=1) (v:=.int .i64 clock) (by omega)).sc (k:=w.heap.size+1) (j:=2) (v:=.int .i64 epoch) (by omega)).sc (k:=w.heap.size+1) (j:=3) (v:=.int .i64 next) (by omega)).sc (k:=w.heap.size+1) (j:=4) (v:=.int .i64 serial) (by omega)).sc (k:=w.heap.size+1) (j:=5) (v:=.slice yaa yal yac) (by omega)).sc (k:=w.heap.size+1) (j:=6) (v:=.slice yma yml ymc) (by omega)).sc (k:=w.heap.size+1) (j:=7) (v:=.slice uo nl uc) (by omega))
   have BX:=hide (yC (yC (yC (yC (yC (yC (yC (yC (uH B9) (w.heap.size+1) 0 (.slice yqa yql yqc) (by omega)) (w.heap.size+1) 1 (.int .i64 clock) (by omega)) (w.heap.size+1) 2 (.int .i64 epoch) (by omega)) (w.heap.size+1) 3 (.int .i64 next) (by omega)) (w.heap.size+1) 4 (.int .i64 serial) (by omega)) (w.heap.size+1) 5 (.slice yaa yal yac) (by omega)) (w.heap.size+1) 6 (.slice yma yml ymc) (by omega)) (w.heap.size+1) 7 (.slice uo nl uc) (by omega))
   generalize ((((((((w9.setCell ⟨w.heap.size+1,0,none⟩ (.slice yqa yql yqc)).setCell ⟨w.heap.size+1,1,none⟩ (.int .i64 clock)).setCell ⟨w.heap.size+1,2,none⟩ (.int .i64 epoch)).setCell ⟨w.heap.size+1,3,none⟩ (.int .i64 next)).setCell ⟨w.heap.size+1,4,none⟩ (.int .i64 serial)).setCell ⟨w.heap.size+1,5,none⟩ (.slice yaa yal yac)).setCell ⟨w.heap.size+1,6,none⟩ (.slice yma yml ymc)).setCell ⟨w.heap.size+1,7,none⟩ (.slice uo nl uc))=W9 at RR HX GX BX ⊢
   obtain ⟨z0,z1,z2,z3,z4,z5,z6,z7⟩:=zq (uH RR)
   refine bodyPost_ret (v:=.tuple #[.agg #[.slice yqa yql yqc,.int .i64 clock,.int .i64 epoch,.int .i64 next,.int .i64 serial,.slice yaa yal yac,.slice yma yml ymc,.slice uo nl uc],.slice vo gn vc]) (by simp [results,Tryz.results122,go_sem,z0,z1,z2,z3,z4,z5,z6,z7]) rfl ?_
   rw [(uH HV).1 (uH HO)]
   simp only
   rw [uH HVLe,uH HULe]
   exact ⟨⟨yqa,yql,yqc,yaa,yal,yac,yma,yml,ymc,uo,nl,uc⟩,hs,vo,gn,vc,rfl,(uH HX).ans.mono (by omega) (yJ _),(uH GX).base (by omega),fun k h1 h2=>uH HDJ k (inR_own h1) (inR_own h2),uH BX⟩
theorem markReplyS_nil (K:Int) (w:World) :
  Calls Tryz.prog 24 #[.slice none 0 0,.int .i64 K] w fun e w'=>e=.returned (.int .i64 K)∧w=w':=by
 go_enter Tryz.func24,Tryz.ntmps24
 go_wp2
 go_loopw [1,5] (fun s i wr=>i=.int .i64 0∧s=.int .i64 K∧wr=w) (fun _ _ _=>0)
 case atStart=>exact ⟨rfl,rfl,rfl⟩
 case round=>
  obtain ⟨rfl,rfl,rfl⟩:=hrel
  go_wp2
  go_ret
  exact ⟨rfl,rfl⟩
theorem heldReplyS_nil (K:Int) (w:World) :
  Calls Tryz.prog 26 #[.slice none 0 0,.int .i64 K] w fun e w'=>e=.returned (.int .i64 K)∧w=w':=by
 go_enter Tryz.func26,Tryz.ntmps26
 go_wp2
 go_loopw [1,5] (fun s i wr=>i=.int .i64 0∧s=.int .i64 K∧wr=w) (fun _ _ _=>0)
 case atStart=>exact ⟨rfl,rfl,rfl⟩
 case round=>
  obtain ⟨rfl,rfl,rfl⟩:=hrel
  go_wp2
  go_ret
  exact ⟨rfl,rfl⟩
abbrev mgt (z:Sls) (t:St) (L:List UInt8):Array Value:=mgrc ⟨z,none,0,0⟩ ⟨t,L,L.length,[]⟩
structure MgA (B E:Nat) (w:World) (g:Nat) (z:Sls) (t:St) (L:List UInt8) (hs:List AV):Prop where
 box:Blk w g (mgt z t L) 40
 a:SAns B E w z t hs
 ge:E≤g
section
variable {B E g:Nat} {w w':World} {z:Sls} {t:St} {L:List UInt8} {hs:List AV}
theorem MgA.below (h:MgA B E w g z t L hs) (hb:Below w.heap.size w w'):MgA B E w' g z t L hs:=⟨h.box.below hb,h.a.below hb,h.ge⟩
theorem MgA.al (h:MgA B E w g z t L hs) (o:Obj):MgA B E (w.alloc o) g z t L hs:=h.below (yA (yH _ _) o)
theorem MgA.keep (h:MgA B E w g z t L hs) (hk:∀k,B≤k→k<E→w'.heap[k]? = w.heap[k]?) (hg:w'.heap[g]? = w.heap[g]?):MgA B E w' g z t L hs:=⟨hg.trans h.box,h.a.keep hk,h.ge⟩
theorem MgA.off {B' E':Nat} {S:Nat→Prop} (h:MgA B E w g z t L hs) (hm:Mks S w w') (hS:∀k,S k→B'≤k∧k<E') (h1:g<B'∨E'≤B) (h2:g<B'∨E'≤g):MgA B E w' g z t L hs:=
 h.keep (fun k hk1 hk2=>hm.block k (by have:=h.box.lt;have:=h.ge;omega) (fun hs=>by have:=hS k hs;have:=h.ge;omega)) (hm.block g h.box.lt (fun hs=>by have:=hS g hs;omega))
theorem MgA.offd {B' E':Nat} (h:MgA B E w g z t L hs) (hm:Mkd B' E' w w') (h1:g<B'∨E'≤B) (h2:g<B'∨E'≤g):MgA B E w' g z t L hs:=
 h.keep (fun k hk1 hk2=>hm.block k (by have:=h.box.lt;have:=h.ge;omega) (by have:=h.ge;omega)) (hm.block g h.box.lt h2)
theorem MgA.row (h:MgA B E w g z t L hs):MRow w ⟨z,none,0,0⟩ ⟨t,L,L.length,[]⟩:=⟨h.a.row,rfl,.inl rfl⟩
theorem mgt_read (h:Blk w g (mgt z t L) 40):w.cell? ⟨g,0,none⟩=some (.slice z.qa z.ql z.qc)∧w.cell? ⟨g,1,none⟩=some (.int .i64 t.clock)∧w.cell? ⟨g,2,none⟩=some (.int .i64 t.epoch)∧w.cell? ⟨g,3,none⟩=some (.int .i64 t.next)∧w.cell? ⟨g,4,none⟩=some (.int .i64 t.serial)∧w.cell? ⟨g,5,none⟩=some (.slice z.aa z.al z.ac)∧w.cell? ⟨g,6,none⟩=some (.slice z.ma z.ml z.mc)∧w.cell? ⟨g,7,none⟩=some (.slice z.ca z.cl z.cc)∧w.cell? ⟨g,8,none⟩=some (.string (bs L))∧w.cell? ⟨g,9,none⟩=some (.int .i64 (L.length:Int))∧w.cell? ⟨g,10,none⟩=some (.slice none 0 0):=
 ⟨h.at 0,h.at 1,h.at 2,h.at 3,h.at 4,h.at 5,h.at 6,h.at 7,h.at 8,h.at 9,h.at 10⟩
end
theorem mgr_read {w:World} {g:Nat} {y:Mgs} {m:Mgr} {ty:TypeId} (h:Blk w g (mgrc y m) ty):w.cell? ⟨g,0,none⟩=some (.slice y.x.qa y.x.ql y.x.qc)∧w.cell? ⟨g,1,none⟩=some (.int .i64 m.s.clock)∧w.cell? ⟨g,2,none⟩=some (.int .i64 m.s.epoch)∧w.cell? ⟨g,3,none⟩=some (.int .i64 m.s.next)∧w.cell? ⟨g,4,none⟩=some (.int .i64 m.s.serial)∧w.cell? ⟨g,5,none⟩=some (.slice y.x.aa y.x.al y.x.ac)∧w.cell? ⟨g,6,none⟩=some (.slice y.x.ma y.x.ml y.x.mc)∧w.cell? ⟨g,7,none⟩=some (.slice y.x.ca y.x.cl y.x.cc)∧w.cell? ⟨g,8,none⟩=some (.string (bs m.log))∧w.cell? ⟨g,9,none⟩=some (.int .i64 m.safe)∧w.cell? ⟨g,10,none⟩=some (.slice y.wo y.wl y.wc):=
 ⟨h.at 0,h.at 1,h.at 2,h.at 3,h.at 4,h.at 5,h.at 6,h.at 7,h.at 8,h.at 9,h.at 10⟩
def MgBox (w:World) (y:Mgs) (m:Mgr) (wx:World):Prop:=Blk wx w.heap.size (mgrc y m) 30∧Below w.heap.size w wx
theorem MgBox.new (w:World) (y:Mgs) (m:Mgr):MgBox w y m (w.alloc (.cells (mgrc y m) 30)):=⟨yD _ _ _,yA (yH _ _) _⟩
theorem MgBox.call {w wx wy:World} {y:Mgs} {m:Mgr} (h:MgBox w y m wx) (hb:Below wx.heap.size wx wy):MgBox w y m wy:=⟨h.1.below hb,yB h.2 hb⟩
theorem MgBox.al {w wx:World} {y:Mgs} {m:Mgr} (h:MgBox w y m wx) (o:Obj):MgBox w y m (wx.alloc o):=h.call (yA (yH _ _) o)
theorem MgBox.mkd {w wx wy:World} {y:Mgs} {m:Mgr} {B E:Nat} (h:MgBox w y m wx) (hm:Mkd B E wx wy) (h1:w.heap.size<B) (h2:B≤wx.heap.size):MgBox w y m wy:=⟨hm.blk h.1 (.inl h1),h.2.trans ((hm.below h2).mono (by omega))⟩
theorem MgBox.off {w wx wy:World} {y:Mgs} {m:Mgr} {B:Nat} {S:Nat→Prop} (h:MgBox w y m wx) (hm:Mks S wx wy) (hS:∀k,S k→B≤k) (h1:w.heap.size<B) (h2:B≤wx.heap.size):MgBox w y m wy:=
 ⟨((hm.below hS h2).block _ h1).trans h.1,h.2.trans ((hm.below hS h2).mono (by omega))⟩
def MgTwo (w9 w:World) (y:Mgs) (m:Mgr) (B E g:Nat) (y':Mgs) (wx:World):Prop:=MgBox w y m wx∧Blk wx g (mgrc y' m) 40∧MMd wx B E y' m∧Below w9.heap.size w9 wx
theorem MgTwo.call {w9 w wx wy:World} {y y':Mgs} {m:Mgr} {B E g:Nat} (h:MgTwo w9 w y m B E g y' wx) (hb:Below wx.heap.size wx wy):MgTwo w9 w y m B E g y' wy:=⟨h.1.call hb,h.2.1.below hb,h.2.2.1.below hb,yB h.2.2.2 hb⟩
theorem MMd.some {w:World} {B E:Nat} {y:Mgs} {m:Mgr} (h:MMd w B E y m):∃ad,y.x.qa=Option.some ad:=by
 obtain ⟨M,g1,g2,g3,g4,gw,e1,_⟩:=h
 exact ⟨_,by rw [e1]⟩
theorem markMgr_ans {B E:Nat} {w:World} {z:Sls} {t:St} {hs:List AV} (L:List UInt8) (h:SAns B E w z t hs) (hE:E≤w.heap.size) (hl:SLim z hs) :
  Calls Tryz.prog 9 #[mgrv ⟨z,none,0,0⟩ ⟨t,L,L.length,[]⟩,.int .i64 1] w fun e w'=>e=.returned (.int .i64 (endS z hs:Int))∧SMk w' z hs∧Mks (inS z hs) w w':=by
 obtain ⟨qa,ql,qc,aa,al,ac,ma,ml,mc,ca,cl,cc⟩:=z
 obtain ⟨qs,clock,epoch,next,serial,apps,ms,cs⟩:=t
 have hb0:=yA (yH _ w) (.cells (mgt ⟨qa,ql,qc,aa,al,ac,ma,ml,mc,ca,cl,cc⟩ ⟨qs,clock,epoch,next,serial,apps,ms,cs⟩ L) 40)
 have P0:=hide (yD w (mgt ⟨qa,ql,qc,aa,al,ac,ma,ml,mc,ca,cl,cc⟩ ⟨qs,clock,epoch,next,serial,apps,ms,cs⟩ L) 40)
 have C0:=hide (markState_ans (h.below hb0) (by rw [yE];omega) hl)
 have HG0:=hide (show Mks (inS ⟨qa,ql,qc,aa,al,ac,ma,ml,mc,ca,cl,cc⟩ hs) w _ from .of_below hb0)
 have HIN:=hide (fun k hk=>(h.ins k hk).2)
 clear h hb0
 obtain ⟨p0,p1,p2,p3,p4,p5,p6,p7,p8,p9,p10⟩:=mgt_read (uH P0)
 go_enter Tryz.func9,Tryz.ntmps9
 go_wp2_with fail
 refine (uH C0).mono ?_
 rintro e w1 ⟨rfl,hm,hg⟩
 have Q0:=hide (hg.blk (uH P0) (fun hk=>by have:=uH HIN _ hk;omega))
 have HM:=hide hm
 have HG:=hide ((uH HG0).trans hg)
 clear hm hg HG0 P0 C0 p0 p1 p2 p3 p4 p5 p6 p7 p8 p9 p10
 obtain ⟨_,_,_,_,_,_,_,_,_,_,q10⟩:=mgt_read (uH Q0)
 go_wp2_with fail
 refine (markReplyS_nil _ _).mono ?_
 rintro e w2 ⟨rfl,rfl⟩
 go_wp2
 go_ret
 exact ⟨rfl,uH HM,uH HG⟩
theorem heldMgr_ans {w:World} {z:Sls} {hs:List AV} (t:St) (L:List UInt8) (h:SMk w z hs) (hl:SLim z hs) :
  Calls Tryz.prog 10 #[mgrv ⟨z,none,0,0⟩ ⟨t,L,L.length,[]⟩,.int .i64 1] w fun e w'=>e=.returned (.int .i64 (endS z hs:Int))∧Below w.heap.size w w':=by
 have hend:=hl.end.1
 obtain ⟨qa,ql,qc,aa,al,ac,ma,ml,mc,ca,cl,cc⟩:=z
 obtain ⟨qs,clock,epoch,next,serial,apps,ms,cs⟩:=t
 have hb0:=yA (yH _ w) (.cells (mgt ⟨qa,ql,qc,aa,al,ac,ma,ml,mc,ca,cl,cc⟩ ⟨qs,clock,epoch,next,serial,apps,ms,cs⟩ L) 40)
 have P0:=hide (yD w (mgt ⟨qa,ql,qc,aa,al,ac,ma,ml,mc,ca,cl,cc⟩ ⟨qs,clock,epoch,next,serial,apps,ms,cs⟩ L) 40)
 have C0:=hide (heldState_ans ⟨qs,clock,epoch,next,serial,apps,ms,cs⟩ (h.below hb0) hl)
 have HB0:=hide hb0
 have he:¬((endS ⟨qa,ql,qc,aa,al,ac,ma,ml,mc,ca,cl,cc⟩ hs:Nat):Int)<0:=by omega
 clear h hb0
 obtain ⟨p0,p1,p2,p3,p4,p5,p6,p7,p8,p9,p10⟩:=mgt_read (uH P0)
 go_enter Tryz.func10,Tryz.ntmps10
 go_wp2_with fail
 refine (uH C0).mono ?_
 rintro e w1 ⟨rfl,hb⟩
 have Q0:=hide ((uH P0).below hb)
 have HB1:=hide (yB (uH HB0) hb)
 clear hb HB0 P0 C0 p0 p1 p2 p3 p4 p5 p6 p7 p8 p9 p10
 obtain ⟨_,_,_,_,_,_,_,_,_,_,q10⟩:=mgt_read (uH Q0)
 go_wp2_with fail
 refine (heldReplyS_nil _ _).mono ?_
 rintro e w2 ⟨rfl,rfl⟩
 go_wp2
 go_ret
 exact ⟨rfl,uH HB1⟩
end
end Go.Proofs.YtjkfappkpopbdaaGreat
