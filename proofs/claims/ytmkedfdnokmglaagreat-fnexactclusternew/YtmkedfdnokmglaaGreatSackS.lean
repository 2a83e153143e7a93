/-
  Texts in one: OkM, NewLaw, MgN, ClN.
-/
import Derived.Test.YtmkedfdnokmglaaGreatSackQ
import Derived.Test.YtmkedfdnokmglaaGreatSackR
import Derived.Test.YtmkedfdnokmglaaGreatSackI
import Derived.Test.YtmkedfdnokmglaaGreatSackJ
set_option maxRecDepth 100000
set_option maxHeartbeats 16000000
set_option linter.unusedVariables false
set_option linter.unusedSimpArgs false
namespace Go.Proofs.YtmkedfdnokmglaaGreat
section
open Go.RowKit
def subsOk:Int→Int→List (Int×Int)→Bool
 | _,_,[]=>true
 | x,y,r::t=>bothOk (-1) x y r.1 r.2&&subsOk (x + -1*r.1) (y + -1*r.2) t
theorem okSum:∀(l:List (Int×Int)) (x y:Int),resOk x y=true→resOk (sumFrom l x y).1 (sumFrom l x y).2.1=true
 | [],x,y,h=>h
 | r::t,x,y,h=>by
  rw [sumFrom]
  by_cases hb:bothOk 1 x y r.1 r.2=true
  ·rw [if_pos hb]
   refine okSum t _ _ ?_
   simp only [bothOk,yK] at hb
   exact hb.2
  ·rw [if_neg hb];decide
theorem sumFrom_each:∀(l:List (Int×Int)) (x y:Int),(sumFrom l x y).2.2=true→∀r ∈ l,resOk r.1 r.2=true
 | [],x,y,_,r,h=>by simp at h
 | q::t,x,y,h,r,hr=>by
  rw [sumFrom] at h
  by_cases hb:bothOk 1 x y q.1 q.2=true
  ·rw [if_pos hb] at h
   rcases List.mem_cons.1 hr with rfl | hr
   ·simp only [bothOk,yK] at hb;exact hb.1.2
   ·exact sumFrom_each t _ _ h r hr
  ·rw [if_neg hb] at h;cases h
theorem sumFrom_ge:∀(l:List (Int×Int)) (x y:Int),(sumFrom l x y).2.2=true→x≤(sumFrom l x y).1∧y≤(sumFrom l x y).2.1
 | [],x,y,_=>⟨Int.le_refl _,Int.le_refl _⟩
 | r::t,x,y,h=>by
  rw [sumFrom] at h ⊢
  by_cases hb:bothOk 1 x y r.1 r.2=true
  ·rw [if_pos hb] at h ⊢
   have:=sumFrom_ge t _ _ h
   have hr:resOk r.1 r.2=true:=by simp only [bothOk,yK] at hb;exact hb.1.2
   have:=resOk_bd hr
   omega
  ·rw [if_neg hb] at h;cases h
theorem subs_sum {X Y:Int} (hX:resOk X Y=true):∀(l:List (Int×Int)) (x y:Int),resOk x y=true→x≤X→y≤Y→(subsOk (X + -1*x) (Y + -1*y) l=true↔(sumFrom l x y).2.2=true∧(sumFrom l x y).1≤X∧(sumFrom l x y).2.1≤Y)
 | [],x,y,h,h1,h2=>by simp [subsOk,sumFrom,h1,h2]
 | r::t,x,y,h,h1,h2=>by
  have bX:=resOk_bd hX
  have bx:=resOk_bd h
  rw [subsOk,sumFrom,yK]
  by_cases hs:bothOk (-1) (X + -1*x) (Y + -1*y) r.1 r.2=true
  ·have hs':=hs
   simp only [bothOk,yK] at hs'
   have br:=resOk_bd hs'.1.2
   have bs':=resOk_bd hs'.2
   have hr2:resOk (x+1*r.1) (y+1*r.2)=true:=by simp only [resOk,inB,yK,yL];omega
   have hp:bothOk 1 x y r.1 r.2=true:=by simp only [bothOk,yK];exact ⟨⟨h,hs'.1.2⟩,hr2⟩
   rw [if_pos hp]
   have ih:=subs_sum hX t (x+1*r.1) (y+1*r.2) hr2 (by omega) (by omega)
   rw [←ih]
   have e1:X + -1*(x+1*r.1)=X + -1*x + -1*r.1:=by omega
   have e2:Y + -1*(y+1*r.2)=Y + -1*y + -1*r.2:=by omega
   rw [e1,e2]
   exact ⟨fun hh=>hh.2,fun hh=>⟨hs,hh⟩⟩
  ·refine ⟨fun hh=>absurd hh.1 hs,fun ⟨g1,g2,g3⟩=>absurd ?_ hs⟩
   by_cases hp:bothOk 1 x y r.1 r.2=true
   ·rw [if_pos hp] at g1 g2 g3
    have ge:=sumFrom_ge t _ _ g1
    have hp':=hp
    simp only [bothOk,yK] at hp'
    have br:=resOk_bd hp'.1.2
    simp only [bothOk,yK]
    refine ⟨⟨?_,hp'.1.2⟩,?_⟩<;>simp only [resOk,inB,yK,yL]<;>omega
   ·rw [if_neg hp] at g1;cases g1
theorem hold_subs {cs:List Con} {m:Mac} (hr:resOk m.mem m.cpu=true):holdM cs m=true↔subsOk m.mem m.cpu (usedL (fun q=>decide (q.node=m.name)) cs)=true:=by
 have h:=subs_sum hr (usedL (fun q=>decide (q.node=m.name)) cs) 0 0 (by decide) (resOk_bd hr).1 (resOk_bd hr).2.2.1
 rw [show m.mem + -1*0=m.mem by omega,show m.cpu + -1*0=m.cpu by omega] at h
 rw [h]
 simp only [holdM,hr,Bool.true_and,yK,sumR,within]
 refine ⟨fun ⟨a,b⟩=>⟨a,of_decide_eq_true b.1.2,of_decide_eq_true b.2⟩,fun ⟨a,b,c⟩=>⟨a,⟨⟨⟨okSum _ 0 0 (by decide),trivial⟩,decide_eq_true b⟩,decide_eq_true c⟩⟩⟩
theorem leT_lt {a b:List UInt8} (h:leT a b=false):Op.bytesLess (bs b).toList (bs a).toList=true:=by
 simp only [leT,Bool.or_eq_false_iff] at h
 exact bl_tri _ _ h.1 (fun e=>by rw [e] at h;simp at h)
theorem machs_above {ck:Int}:∀(l:List Mac) (last:List UInt8),machsFrom ck last l=true→∀m ∈ l,Op.bytesLess (bs last).toList (bs m.name).toList=true
 | [],_,_,m,h=>by simp at h
 | q::t,last,h,m,hm=>by
  simp only [machsFrom,yK,Bool.not_eq_true'] at h
  have h1:=leT_lt h.1
  rcases List.mem_cons.1 hm with rfl | hm
  ·exact h1
  ·exact bl_trans _ _ _ h1 (machs_above t q.name h.2.2.2.2 m hm)
theorem machs_find {ck:Int}:∀(l:List Mac) (last:List UInt8),machsFrom ck last l=true→∀m ∈ l,findM m.name l=some m
 | [],_,_,m,h=>by simp at h
 | q::t,last,h,m,hm=>by
  simp only [machsFrom,yK,Bool.not_eq_true'] at h
  rcases List.mem_cons.1 hm with rfl | hm
  ·simp [findM]
  ·have hab:=machs_above t q.name h.2.2.2.2 m hm
   have hne:¬q.name=m.name:=fun e=>by rw [e,bl_irr] at hab;cases hab
   have:=machs_find t q.name h.2.2.2.2 m hm
   simp only [findM] at this ⊢
   rw [List.find?_cons_of_neg (by simpa using hne)]
   exact this
theorem machsS_iff {ck:Int} {cs:List Con}:∀(l:List Mac) (last:List UInt8),machsS ck cs last l=true↔machsFrom ck last l=true∧∀m ∈ l,holdM cs m=true
 | [],_=>by simp [machsS,machsFrom]
 | q::t,last=>by
  simp only [machsS,machsFrom,yK,machsS_iff t q.name,List.mem_cons,forall_eq_or_imp]
  exact ⟨fun ⟨a,b,c,d,e,f,g⟩=>⟨⟨a,b,c,d,f⟩,e,g⟩,fun ⟨⟨a,b,c,d,f⟩,e,g⟩=>⟨a,b,c,d,e,f,g⟩⟩
theorem contsS_congr {apps:List Appl} {l l':List Mac} (h:∀nm,(findM nm l').isSome=(findM nm l).isSome):∀(cs:List Con) (last:Int),contsS apps l' last cs=contsS apps l last cs
 | [],_=>rfl
 | c::t,last=>by rw [contsS,contsS,h,contsS_congr h t]
theorem used_cons {nm:List UInt8} {c:Con} {t:List Con}:usedL (fun q=>decide (q.node=nm)) (c::t)=if c.node=nm then (c.mem,c.cpu)::usedL (fun q=>decide (q.node=nm)) t else usedL (fun q=>decide (q.node=nm)) t:=by
 by_cases h:c.node=nm
 ·simp [usedL,h]
 ·simp [usedL,h]
theorem conts_iff {apps:List Appl}:∀(cs:List Con) (l:List Mac) (last:Int),contsFrom apps l last cs=true↔contsS apps l last cs=true∧∀nm m,findM nm l=some m→subsOk m.mem m.cpu (usedL (fun q=>decide (q.node=nm)) cs)=true
 | [],l,last=>by simp [contsFrom,contsS,usedL,subsOk]
 | c::t,l,last=>by
  cases hf:findM c.node l with
  | none=>simp [contsFrom,contsS,hf]
  | some m=>
   have hn:=findM_name hf
   have ih:=conts_iff (apps:=apps) t (⟨m.name,m.mem + -1*c.mem,m.cpu + -1*c.cpu,m.seen⟩::l) c.id
   have hfind:∀nm,findM nm (⟨m.name,m.mem + -1*c.mem,m.cpu + -1*c.cpu,m.seen⟩::l)=if c.node=nm then some ⟨m.name,m.mem + -1*c.mem,m.cpu + -1*c.cpu,m.seen⟩ else findM nm l:=fun nm=>by
    by_cases e:c.node=nm
    ·rw [if_pos e];simp [findM,hn,e]
    ·rw [if_neg e];simp [findM,hn,e]
   have hsome:∀nm,(findM nm (⟨m.name,m.mem + -1*c.mem,m.cpu + -1*c.cpu,m.seen⟩::l)).isSome=(findM nm l).isSome:=fun nm=>by
    rw [hfind]
    by_cases e:c.node=nm
    ·rw [if_pos e,←e,hf]
     rfl
    ·rw [if_neg e]
   rw [contsS_congr hsome] at ih
   simp only [contsFrom,contsS,hf,Option.isSome_some,Option.getD_some,Bool.true_and,yK,ih]
   constructor
   ·rintro ⟨a,b,c1,d,e,f,g⟩
    refine ⟨⟨a,b,d,c1,f⟩,fun nm m2 hm2=>?_⟩
    rw [used_cons]
    by_cases en:c.node=nm
    ·rw [if_pos en]
     rw [←en,hf] at hm2
     cases hm2
     rw [subsOk,yK]
     exact ⟨e,g nm ⟨m.name,m.mem + -1*c.mem,m.cpu + -1*c.cpu,m.seen⟩ (by rw [hfind,if_pos en])⟩
    ·rw [if_neg en]
     exact g nm m2 (by rw [hfind,if_neg en];exact hm2)
   ·rintro ⟨⟨a,b,d,c1,f⟩,g⟩
    have g0:=g c.node m hf
    rw [used_cons,if_pos rfl,subsOk,yK] at g0
    refine ⟨a,b,c1,d,g0.1,f,fun nm m2 hm2=>?_⟩
    rw [hfind] at hm2
    by_cases en:c.node=nm
    ·rw [if_pos en] at hm2
     cases hm2
     rw [←en]
     exact g0.2
    ·rw [if_neg en] at hm2
     have:=g nm m2 hm2
     rwa [used_cons,if_neg en] at this
theorem state_same (s:St):stateOkI s=stateOkS s:=by
 rw [Bool.eq_iff_iff]
 simp only [stateOkI,stateOkS,numsOk,machsOkV,machsOkS,contsOkV,yK,conts_iff,machsS_iff]
 have key:machsFrom s.clock [] s.ms=true→(sumR (capsOf s.ms)).2.2=true→((∀nm m,findM nm s.ms=some m→subsOk m.mem m.cpu (usedL (fun q=>decide (q.node=nm)) s.cs)=true)↔∀m ∈ s.ms,holdM s.cs m=true):=fun h1 h2=>by
  have hr:∀m ∈ s.ms,resOk m.mem m.cpu=true:=fun m hm=>sumFrom_each _ 0 0 h2 (m.mem,m.cpu) (by simp only [capsOf,List.mem_map];exact ⟨m,hm,rfl⟩)
  constructor
  ·intro h m hm
   exact (hold_subs (hr m hm)).2 (h m.name m (machs_find _ _ h1 m hm))
  ·intro h nm m hf
   have hm:m ∈ s.ms:=List.mem_of_find?_eq_some hf
   have hn:=findM_name hf
   have:=(hold_subs (hr m hm)).1 (h m hm)
   rwa [hn] at this
 constructor
 ·rintro ⟨a,⟨b1,b2,b3,b4⟩,c,⟨d1,d2,d3⟩,e1,e2,e3⟩
  exact ⟨a,b1,b2,b3,b4,c,⟨⟨d2,(key d2 d3).1 e3⟩,d3,d1⟩,e1,e2⟩
 ·rintro ⟨a,b1,b2,b3,b4,c,⟨⟨d2,hh⟩,d3,d1⟩,e1,e2⟩
  exact ⟨a,⟨b1,b2,b3,b4⟩,c,⟨d1,d2,d3⟩,e1,e2,(key d2 d3).2 hh⟩
def stateOkV (s:St):Bool:=stateOkS s
theorem specStateOk_any (x:Sls) (s:St) (w:World) (h:SRow w x s) (hf:FitSt s) :
  Calls Tryz.prog 103 #[sv x s] w fun e w'=>e=.returned (.bool (stateOkV s))∧Below w.heap.size w w':=stateOkS_any x s w h hf
theorem implStateOk_any (x:Sls) (s:St) (w:World) (h:SRow w x s) (hf:FitSt s) (hc:x.ql≤x.qc) (hw:WfSt s) :
  Calls Tryz.prog 106 #[sv x s] w fun e w'=>e=.returned (.bool (stateOkV s))∧Below w.heap.size w w':=by
 have:=stateOkI_any x s w h hf hc hw
 rwa [state_same] at this
def qlN (l:List Q):List Q:=if queuesOk l=true then l else []
def epN (l:List Q):Int:=if queuesOk l=true then 1 else 0
def nxN (l:List Q):Int:=if queuesOk l=true then 1001 else 0
theorem new_ok (l:List Q):stateOkV (newSt l 1 1001 1)=queuesOk l:=by
 have h1:appsOkV (newSt l 1 1001 1)=true:=rfl
 have h2:machsOkS (newSt l 1 1001 1)=true:=rfl
 simp only [stateOkV,stateOkS,h1,h2]
 rw [show (inB 0 0 1000000000&&(inB 1 1 1000000000&&(inB 1001 1 1000000000&&(inB 1 1 1000000000&&(true&&(true&&(decide (([]:List Con).length≤150)&&contsS [] [] 0 [])))))))=true from rfl,Bool.and_true]
theorem NewAns.one {w w':World} {l:List Q} {e:Ending} (h:NewAns w l e w'):∃qo n c,e=.returned (.tuple #[.agg (svc (newX qo n c) (newSt (qlN l) (epN l) (nxN l) (epN l))),.bool (queuesOk l)])∧n=(qlN l).length∧QOwn (w.heap.size+1) w' (.slice qo n c) (qlN l)∧Below w.heap.size w w':=by
 obtain ⟨hb,⟨ho,rfl⟩ | ⟨ho,v,rfl,hown⟩⟩:=h
 ·refine ⟨none,0,0,?_,?_,?_,hb⟩
  ·simp [qlN,epN,nxN,ho]
  ·simp [qlN,ho]
  ·simp only [qlN,ho];exact qown_nil _ _
 ·obtain ⟨qo,qc,rfl,_⟩:=qown_rowx hown
  refine ⟨qo,l.length,qc,?_,?_,?_,hb⟩
  ·simp [qlN,epN,nxN,ho]
  ·simp [qlN,ho]
  ·simp only [qlN,ho];exact hown
def Marked (w:World) (qo:Option Addr) (n:Nat):Prop:=(n=0∨∃g,qo=some ⟨g,0,none⟩)∧QRow w qo n (marksQ n)
theorem Marked.below {w w':World} {qo:Option Addr} {n:Nat} (h:Marked w qo n) (hb:Below w.heap.size w w'):Marked w' qo n:=⟨h.1,h.2.below hb⟩
theorem own_lt {w:World} {B:Nat} {v:Value} {l:List Q} (h:QOwn B w v l):∀k,v.ownBlock=some k→B≤k∧k<w.heap.size:=fun k hk=>World.ownsRow.lt h k hk
theorem markQ_own {B n c:Nat} {qo:Option Addr} {l:List Q} {w:World} (h:QOwn B w (.slice qo n c) l) (hn:n=l.length) (hl:n≤1048576) :
  Calls Tryz.prog 22 #[.slice qo n c,.int .i64 1] w fun e w'=>e=.returned (.int .i64 (1+4*(n:Int)))∧Marked w' qo n∧w.grownBy w' (Value.slice qo n c).ownBlock:=by
 by_cases hz:n=0
 ·subst hz
  refine (markQueueS_zero qo c w).mono ?_
  rintro e w' ⟨rfl,rfl⟩
  exact ⟨rfl,⟨.inl rfl,⟨rfl,.inl rfl⟩⟩,grownBy_refl _ _⟩
 ·obtain ⟨g,cap,e,ha,_,hc,_⟩:=h.some (fun e=>hz (by rw [hn,e];rfl))
  simp only [Value.slice.injEq] at e
  obtain ⟨rfl,rfl,rfl⟩:=e
  refine (markQueueS_full g _ c w ha hc hl).mono ?_
  rintro e w' ⟨rfl,hq,hg⟩
  exact ⟨rfl,⟨.inr ⟨g,rfl⟩,hq.rowOf (marksQ_len _).symm⟩,hg⟩
theorem heldQ_own {n c:Nat} {qo:Option Addr} {w:World} (h:Marked w qo n) (hl:n≤1048576) :
  Calls Tryz.prog 114 #[.slice qo n c,.int .i64 1] w fun e w'=>e=.returned (.int .i64 (1+4*(n:Int)))∧Below w.heap.size w w':=by
 by_cases hz:n=0
 ·subst hz
  refine (heldQueueS_zero qo c w).mono ?_
  rintro e w' ⟨rfl,rfl⟩
  exact ⟨rfl,yH _ _⟩
 ·obtain ⟨h1,h2⟩:=h
  rcases h1 with h1 | ⟨g,rfl⟩
  ·exact absurd h1 hz
  ·exact heldQueueS_any g n c w h2 hl
theorem markSt_own {B n c:Nat} {qo:Option Addr} {l:List Q} {w:World} (ep nx se:Int) (h:QOwn B w (.slice qo n c) l) (hn:n=l.length) (hl:n≤1048576) :
  Calls Tryz.prog 63 #[.agg (svc (newX qo n c) (newSt l ep nx se)),.int .i64 1] w fun e w'=>e=.returned (.int .i64 (1+4*(n:Int)))∧Marked w' qo n∧w.grownBy w' (Value.slice qo n c).ownBlock:=by
 refine (markState_new qo n c l ep nx se (1+4*(n:Int)) (by omega) w (fun wx w'=>Marked w' qo n∧wx.grownBy w' (Value.slice qo n c).ownBlock) ?_ ?_).mono ?_
 ·intro wx w1 hb hr arr t hk
  exact (hr.2.block _ hk.lt (fun e=>by have:=(own_lt h _ e.symm).2;omega)).trans hk
 ·intro wx hb _
  exact markQ_own (h.below hb) hn hl
 ·rintro e w' ⟨rfl,hm,hg⟩
  exact ⟨rfl,hm,grownBy_trans (World.grownBy_alloc w _ _) hg⟩
theorem heldSt_own {n c:Nat} {qo:Option Addr} {w:World} (l:List Q) (ep nx se:Int) (h:Marked w qo n) (hl:n≤1048576) :
  Calls Tryz.prog 79 #[.agg (svc (newX qo n c) (newSt l ep nx se)),.int .i64 1] w fun e w'=>e=.returned (.int .i64 (1+4*(n:Int)))∧Below w.heap.size w w':=by
 refine (heldState_new qo n c l ep nx se (1+4*(n:Int)) (by omega) w (fun wx w'=>Below wx.heap.size wx w') ?_ ?_).mono ?_
 ·intro wx w1 hb hr arr t hk
  exact hk.below hr
 ·intro wx hb _
  exact heldQ_own (h.below hb) hl
 ·rintro e w' ⟨rfl,hb⟩
  exact ⟨rfl,yB (boxW_below w _) hb⟩
abbrev mgc (qo:Option Addr) (n c:Nat) (ep nx:Int):Array Value:=#[.slice qo n c,.int .i64 0,.int .i64 ep,.int .i64 nx,.int .i64 ep,.slice none 0 0,.slice none 0 0,.slice none 0 0,.string ⟨#[]⟩,.int .i64 0,.slice none 0 0]
def MgAns (w:World) (l:List Q) (e:Ending) (w':World):Prop:=∃qo n c,e=.returned (.tuple #[.agg (mgc qo n c (epN l) (nxN l)),.bool (queuesOk l)])∧n=(qlN l).length∧QOwn (w.heap.size+1) w' (.slice qo n c) (qlN l)∧Below w.heap.size w w'
theorem markReplyS_nil (K:Int) (w:World) :
  Calls Tryz.prog 36 #[.slice none 0 0,.int .i64 K] w fun e w'=>e=.returned (.int .i64 K)∧w=w':=by
 go_enter Tryz.func36,Tryz.ntmps36
 go_wp2
 go_loopw [1,5] (fun s i wr=>i=.int .i64 0∧s=.int .i64 K∧wr=w) (fun _ _ _=>0)
 case atStart=>exact ⟨rfl,rfl,rfl⟩
 case round=>
  obtain ⟨rfl,rfl,rfl⟩:=hrel
  go_wp2
  go_ret
  exact ⟨rfl,rfl⟩
theorem heldReplyS_nil (K:Int) (w:World) :
  Calls Tryz.prog 54 #[.slice none 0 0,.int .i64 K] w fun e w'=>e=.returned (.int .i64 K)∧w=w':=by
 go_enter Tryz.func54,Tryz.ntmps54
 go_wp2
 go_loopw [1,5] (fun s i wr=>i=.int .i64 0∧s=.int .i64 K∧wr=w) (fun _ _ _=>0)
 case atStart=>exact ⟨rfl,rfl,rfl⟩
 case round=>
  obtain ⟨rfl,rfl,rfl⟩:=hrel
  go_wp2
  go_ret
  exact ⟨rfl,rfl⟩
theorem markMg_own {B n c:Nat} {qo:Option Addr} {l:List Q} {w:World} (ep nx:Int) (h:QOwn B w (.slice qo n c) l) (hn:n=l.length) (hl:n≤1048576) :
  Calls Tryz.prog 35 #[.agg (mgc qo n c ep nx),.int .i64 1] w fun e w'=>e=.returned (.int .i64 (1+4*(n:Int)))∧Marked w' qo n∧w.grownBy w' (Value.slice qo n c).ownBlock:=by
 have LK:=hide (fun k hk=>(own_lt h k hk).2)
 have P0:=hide (yD w (mgc qo n c ep nx) 45)
 have C0:=hide (markSt_own ep nx ep (h.below (yA (yH _ w) (.cells (mgc qo n c ep nx) 45))) hn hl)
 have HG0:=hide (World.grownBy_alloc w (.cells (mgc qo n c ep nx) 45) (Value.slice qo n c).ownBlock)
 clear h hn
 go_enter Tryz.func35,Tryz.ntmps35
 go_wp2_with fail
 refine (uH C0).mono ?_
 rintro e w1 ⟨rfl,hm,hg⟩
 have Q0:=hide (show Blk w1 w.heap.size _ 45 from (hg.block _ (uH P0).lt (fun e=>by have:=uH LK _ e.symm;omega)).trans (uH P0))
 have HM:=hide hm
 have HG:=hide (grownBy_trans (uH HG0) hg)
 clear hm hg HG0 P0 C0
 have a10:=(uH Q0).at 10
 simp at a10
 go_wp2_with fail
 refine (markReplyS_nil _ _).mono ?_
 rintro e w2 ⟨rfl,rfl⟩
 go_wp2
 go_ret
 exact ⟨rfl,uH HM,uH HG⟩
theorem heldMg_own {n c:Nat} {qo:Option Addr} {w:World} (l:List Q) (ep nx:Int) (h:Marked w qo n) (hl:n≤1048576) :
  Calls Tryz.prog 52 #[.agg (mgc qo n c ep nx),.int .i64 1] w fun e w'=>e=.returned (.int .i64 (1+4*(n:Int)))∧Below w.heap.size w w':=by
 have P0:=hide (yD w (mgc qo n c ep nx) 45)
 have HB0:=hide (yA (yH _ w) (.cells (mgc qo n c ep nx) 45))
 have C0:=hide (heldSt_own (c:=c) l ep nx ep (h.below (uH HB0)) hl)
 have hk:¬(1+4*(n:Int))<0:=by omega
 clear h
 go_enter Tryz.func52,Tryz.ntmps52
 go_wp2_with fail
 refine (uH C0).mono ?_
 rintro e w1 ⟨rfl,hb⟩
 have Q0:=hide ((uH P0).below hb)
 have HB1:=hide (yB (uH HB0) hb)
 clear hb HB0 P0 C0
 have a10:=(uH Q0).at 10
 simp at a10
 go_wp2_with fail
 refine (heldReplyS_nil _ _).mono ?_
 rintro e w2 ⟨rfl,rfl⟩
 go_wp2
 go_ret
 exact ⟨rfl,uH HB1⟩
theorem implManagerNew_any (v:Value) (l:List Q) (w:World)
  (CO:∀wx,Below w.heap.size w wx→w.heap.size<wx.heap.size→Calls Tryz.prog 71 #[v] wx fun e w'=>∃qo n c,e=.returned (.tuple #[.agg (svc (newX qo n c) (newSt (qlN l) (epN l) (nxN l) (epN l))),.bool (queuesOk l)])∧n=(qlN l).length∧QOwn (wx.heap.size+1) w' (.slice qo n c) (qlN l)∧Below wx.heap.size wx w') :
  Calls Tryz.prog 45 #[v] w (MgAns w l):=by
 obtain ⟨o,ho⟩:∃o,queuesOk l=o:=⟨_,rfl⟩
 obtain ⟨ep,hep⟩:∃o,epN l=o:=⟨_,rfl⟩
 obtain ⟨nx,hnx⟩:∃o,nxN l=o:=⟨_,rfl⟩
 have HZ:=hide (fun (h:queuesOk l=false)=>show qlN l=[]∧epN l=0∧nxN l=0 by simp [qlN,epN,nxN,h])
 obtain ⟨ql,hql⟩:∃o,qlN l=o:=⟨_,rfl⟩
 have HF:=hide (fun (e:Ending) (w':World)=>(show MgAns w l e w'↔∃qo n c,e=.returned (.tuple #[.agg (mgc qo n c ep nx),.bool o])∧n=ql.length∧QOwn (w.heap.size+1) w' (.slice qo n c) ql∧Below w.heap.size w w' by unfold MgAns;rw [ho,hep,hnx,hql]))
 rw [ho,hep,hnx,hql] at CO
 rw [ho,hep,hnx,hql] at HZ
 have HB0:=hide (yA (yH _ w) (.cells #[.slice none 0 0,.int .i64 0,.int .i64 0,.int .i64 0,.int .i64 0,.slice none 0 0,.slice none 0 0,.slice none 0 0,.string ⟨#[]⟩,.int .i64 0,.slice none 0 0] 45))
 have P0:=hide (yD w #[.slice none 0 0,.int .i64 0,.int .i64 0,.int .i64 0,.int .i64 0,.slice none 0 0,.slice none 0 0,.slice none 0 0,.string ⟨#[]⟩,.int .i64 0,.slice none 0 0] 45)
 have C0:=hide (CO _ (uH HB0) (by rw [yE];omega))
 have hsz:=yE w (.cells #[.slice none 0 0,.int .i64 0,.int .i64 0,.int .i64 0,.int .i64 0,.slice none 0 0,.slice none 0 0,.slice none 0 0,.string ⟨#[]⟩,.int .i64 0,.slice none 0 0] 45)
 clear CO ho hep hnx hql
 go_enter Tryz.func45,Tryz.ntmps45
 go_wp2_with fail
 refine (uH C0).mono ?_
 rintro e w1 ⟨qo,n,c,rfl,hn,hown,hb⟩
 have HN:=hide hn
 have HB1:=hide (yA (yB (uH HB0) hb) (.cells (svc (newX qo n c) (newSt ql ep nx ep)) 42))
 have Q0:=hide (((uH P0).below hb).al (.cells (svc (newX qo n c) (newSt ql ep nx ep)) 42))
 have S1:=hide (yD w1 (svc (newX qo n c) (newSt ql ep nx ep)) 42)
 have HO:=hide (qown_base (hown.below (yA (yH _ w1) (.cells (svc (newX qo n c) (newSt ql ep nx ep)) 42))) (show w.heap.size+1≤_ by omega))
 clear hn hown hb HB0 P0 C0 hsz
 obtain ⟨a0,a1,a2,a3,a4,a5,a6,a7⟩:=zq (uH S1)
 have af0:=(uH S1).f 0;have af1:=(uH S1).f 1;have af2:=(uH S1).f 2;have af3:=(uH S1).f 3;have af4:=(uH S1).f 4;have af5:=(uH S1).f 5;have af6:=(uH S1).f 6;have af7:=(uH S1).f 7
 have c0:=(uH Q0).at 0;have c1:=(uH Q0).at 1;have c2:=(uH Q0).at 2;have c3:=(uH Q0).at 3;have c4:=(uH Q0).at 4;have c5:=(uH Q0).at 5;have c6:=(uH Q0).at 6;have c7:=(uH Q0).at 7;have c8:=(uH Q0).at 8;have c9:=(uH Q0).at 9;have c10:=(uH Q0).at 10
 have rf0:=(uH Q0).f 0;have rf1:=(uH Q0).f 1;have rf2:=(uH Q0).f 2;have rf3:=(uH Q0).f 3;have rf4:=(uH Q0).f 4;have rf5:=(uH Q0).f 5;have rf6:=(uH Q0).f 6;have rf7:=(uH Q0).f 7;have rf8:=(uH Q0).f 8;have rf9:=(uH Q0).f 9;have rf10:=(uH Q0).f 10
 simp at c0 c1 c2 c3 c4 c5 c6 c7 c8 c9 c10
 go_wp2
 have HB9:=hide (show Below w.heap.size w ((((((((((((w1.alloc (.cells (svc (newX qo n c) (newSt ql ep nx ep)) 42)).setCell ⟨w.heap.size,0,none⟩ (.slice qo n c)).setCell ⟨w.heap.size,1,none⟩ (.int .i64 0)).setCell ⟨w.heap.size,2,none⟩ (.int .i64 ep)).setCell ⟨w.heap.size,3,none⟩ (.int .i64 nx)).setCell ⟨w.heap.size,4,none⟩ (.int .i64 ep)).setCell ⟨w.heap.size,5,none⟩ (.slice none 0 0)).setCell ⟨w.heap.size,6,none⟩ (.slice none 0 0)).setCell ⟨w.heap.size,7,none⟩ (.slice none 0 0)).setCell ⟨w.heap.size,8,none⟩ (.string ⟨#[]⟩)).setCell ⟨w.heap.size,9,none⟩ (.int .i64 0)).setCell ⟨w.heap.size,10,none⟩ (.slice none 0 0)) from below_sets (uH HB1) (yJ _) 0 [.slice qo n c,.int .i64 0,.int .i64 ep,.int .i64 nx,.int .i64 ep,.slice none 0 0,.slice none 0 0,.slice none 0 0,.string ⟨#[]⟩,.int .i64 0,.slice none 0 0])
 have R9:=hide (show Blk ((((((((((((w1.alloc (.cells (svc (newX qo n c) (newSt ql ep nx ep)) 42)).setCell ⟨w.heap.size,0,none⟩ (.slice qo n c)).setCell ⟨w.heap.size,1,none⟩ (.int .i64 0)).setCell ⟨w.heap.size,2,none⟩ (.int .i64 ep)).setCell ⟨w.heap.size,3,none⟩ (.int .i64 nx)).setCell ⟨w.heap.size,4,none⟩ (.int .i64 ep)).setCell ⟨w.heap.size,5,none⟩ (.slice none 0 0)).setCell ⟨w.heap.size,6,none⟩ (.slice none 0 0)).setCell ⟨w.heap.size,7,none⟩ (.slice none 0 0)).setCell ⟨w.heap.size,8,none⟩ (.string ⟨#[]⟩)).setCell ⟨w.heap.size,9,none⟩ (.int .i64 0)).setCell ⟨w.heap.size,10,none⟩ (.slice none 0 0)) w.heap.size #[.slice qo n c,.int .i64 0,.int .i64 ep,.int .i64 nx,.int .i64 ep,.slice none 0 0,.slice none 0 0,.slice none 0 0,.string ⟨#[]⟩,.int .i64 0,.slice none 0 0] 45 from (uH Q0).sets [.slice qo n c,.int .i64 0,.int .i64 ep,.int .i64 nx,.int .i64 ep,.slice none 0 0,.slice none 0 0,.slice none 0 0,.string ⟨#[]⟩,.int .i64 0,.slice none 0 0] rfl)
 have O9:=hide (show QOwn (w.heap.size+1) ((((((((((((w1.alloc (.cells (svc (newX qo n c) (newSt ql ep nx ep)) 42)).setCell ⟨w.heap.size,0,none⟩ (.slice qo n c)).setCell ⟨w.heap.size,1,none⟩ (.int .i64 0)).setCell ⟨w.heap.size,2,none⟩ (.int .i64 ep)).setCell ⟨w.heap.size,3,none⟩ (.int .i64 nx)).setCell ⟨w.heap.size,4,none⟩ (.int .i64 ep)).setCell ⟨w.heap.size,5,none⟩ (.slice none 0 0)).setCell ⟨w.heap.size,6,none⟩ (.slice none 0 0)).setCell ⟨w.heap.size,7,none⟩ (.slice none 0 0)).setCell ⟨w.heap.size,8,none⟩ (.string ⟨#[]⟩)).setCell ⟨w.heap.size,9,none⟩ (.int .i64 0)).setCell ⟨w.heap.size,10,none⟩ (.slice none 0 0)) (.slice qo n c) ql from sets_keep (P:=fun wx=>QOwn (w.heap.size+1) wx (.slice qo n c) ql) (fun wx j v hx=>qown_other hx w.heap.size j v (Nat.lt_succ_self _)) [.slice qo n c,.int .i64 0,.int .i64 ep,.int .i64 nx,.int .i64 ep,.slice none 0 0,.slice none 0 0,.slice none 0 0,.string ⟨#[]⟩,.int .i64 0,.slice none 0 0] 0 _ (uH HO))
 generalize ((((((((((((w1.alloc (.cells (svc (newX qo n c) (newSt ql ep nx ep)) 42)).setCell ⟨w.heap.size,0,none⟩ (.slice qo n c)).setCell ⟨w.heap.size,1,none⟩ (.int .i64 0)).setCell ⟨w.heap.size,2,none⟩ (.int .i64 ep)).setCell ⟨w.heap.size,3,none⟩ (.int .i64 nx)).setCell ⟨w.heap.size,4,none⟩ (.int .i64 ep)).setCell ⟨w.heap.size,5,none⟩ (.slice none 0 0)).setCell ⟨w.heap.size,6,none⟩ (.slice none 0 0)).setCell ⟨w.heap.size,7,none⟩ (.slice none 0 0)).setCell ⟨w.heap.size,8,none⟩ (.string ⟨#[]⟩)).setCell ⟨w.heap.size,9,none⟩ (.int .i64 0)).setCell ⟨w.heap.size,10,none⟩ (.slice none 0 0))=W9 at HB9 R9 O9 ⊢
 clear c0 c1 c2 c3 c4 c5 c6 c7 c8 c9 c10 rf0 rf1 rf2 rf3 rf4 rf5 rf6 rf7 rf8 rf9 rf10
 have z0:=(uH R9).at 0;have z1:=(uH R9).at 1;have z2:=(uH R9).at 2;have z3:=(uH R9).at 3;have z4:=(uH R9).at 4;have z5:=(uH R9).at 5;have z6:=(uH R9).at 6;have z7:=(uH R9).at 7;have z8:=(uH R9).at 8;have z9:=(uH R9).at 9;have z10:=(uH R9).at 10
 simp at z0 z1 z2 z3 z4 z5 z6 z7 z8 z9 z10
 have HM:=hide ((uH HF (.returned (.tuple #[.agg #[.slice qo n c,.int .i64 0,.int .i64 ep,.int .i64 nx,.int .i64 ep,.slice none 0 0,.slice none 0 0,.slice none 0 0,.string ⟨#[]⟩,.int .i64 0,.slice none 0 0],.bool o])) W9).2 ⟨qo,n,c,rfl,uH HN,uH O9,uH HB9⟩)
 refine bodyPost_ret (v:=.tuple #[.agg #[.slice qo n c,.int .i64 0,.int .i64 ep,.int .i64 nx,.int .i64 ep,.slice none 0 0,.slice none 0 0,.slice none 0 0,.string ⟨#[]⟩,.int .i64 0,.slice none 0 0],.bool o]) (by simp [results,Tryz.results45,go_sem,z0,z1,z2,z3,z4,z5,z6,z7,z8,z9,z10]) rfl (uH HM)
theorem specManagerNew_any (v:Value) (l:List Q) (w:World)
  (CO:∀wx,Below w.heap.size w wx→w.heap.size<wx.heap.size→Calls Tryz.prog 65 #[v] wx fun e w'=>∃qo n c,e=.returned (.tuple #[.agg (svc (newX qo n c) (newSt (qlN l) (epN l) (nxN l) (epN l))),.bool (queuesOk l)])∧n=(qlN l).length∧QOwn (wx.heap.size+1) w' (.slice qo n c) (qlN l)∧Below wx.heap.size wx w') :
  Calls Tryz.prog 39 #[v] w (MgAns w l):=by
 obtain ⟨o,ho⟩:∃o,queuesOk l=o:=⟨_,rfl⟩
 obtain ⟨ep,hep⟩:∃o,epN l=o:=⟨_,rfl⟩
 obtain ⟨nx,hnx⟩:∃o,nxN l=o:=⟨_,rfl⟩
 have HZ:=hide (fun (h:queuesOk l=false)=>show qlN l=[]∧epN l=0∧nxN l=0 by simp [qlN,epN,nxN,h])
 obtain ⟨ql,hql⟩:∃o,qlN l=o:=⟨_,rfl⟩
 have HF:=hide (fun (e:Ending) (w':World)=>(show MgAns w l e w'↔∃qo n c,e=.returned (.tuple #[.agg (mgc qo n c ep nx),.bool o])∧n=ql.length∧QOwn (w.heap.size+1) w' (.slice qo n c) ql∧Below w.heap.size w w' by unfold MgAns;rw [ho,hep,hnx,hql]))
 rw [ho,hep,hnx,hql] at CO
 rw [ho,hep,hnx,hql] at HZ
 have HB0:=hide (yA (yH _ w) (.cells #[.slice none 0 0,.int .i64 0,.int .i64 0,.int .i64 0,.int .i64 0,.slice none 0 0,.slice none 0 0,.slice none 0 0,.string ⟨#[]⟩,.int .i64 0,.slice none 0 0] 45))
 have P0:=hide (yD w #[.slice none 0 0,.int .i64 0,.int .i64 0,.int .i64 0,.int .i64 0,.slice none 0 0,.slice none 0 0,.slice none 0 0,.string ⟨#[]⟩,.int .i64 0,.slice none 0 0] 45)
 have C0:=hide (CO _ (uH HB0) (by rw [yE];omega))
 have hsz:=yE w (.cells #[.slice none 0 0,.int .i64 0,.int .i64 0,.int .i64 0,.int .i64 0,.slice none 0 0,.slice none 0 0,.slice none 0 0,.string ⟨#[]⟩,.int .i64 0,.slice none 0 0] 45)
 clear CO ho hep hnx hql
 go_enter Tryz.func39,Tryz.ntmps39
 go_wp2_with fail
 refine (uH C0).mono ?_
 rintro e w1 ⟨qo,n,c,rfl,hn,hown,hb⟩
 have HN:=hide hn
 have HB1:=hide (yA (yB (uH HB0) hb) (.cells (svc (newX qo n c) (newSt ql ep nx ep)) 42))
 have Q0:=hide (((uH P0).below hb).al (.cells (svc (newX qo n c) (newSt ql ep nx ep)) 42))
 have S1:=hide (yD w1 (svc (newX qo n c) (newSt ql ep nx ep)) 42)
 have HO:=hide (qown_base (hown.below (yA (yH _ w1) (.cells (svc (newX qo n c) (newSt ql ep nx ep)) 42))) (show w.heap.size+1≤_ by omega))
 clear hn hown hb HB0 P0 C0 hsz
 cases o
 case false=>
  obtain ⟨rfl,rfl,rfl⟩:=uH HZ rfl
  have c0:=(uH Q0).at 0;have c1:=(uH Q0).at 1;have c2:=(uH Q0).at 2;have c3:=(uH Q0).at 3;have c4:=(uH Q0).at 4;have c5:=(uH Q0).at 5;have c6:=(uH Q0).at 6;have c7:=(uH Q0).at 7;have c8:=(uH Q0).at 8;have c9:=(uH Q0).at 9;have c10:=(uH Q0).at 10
  have rf0:=(uH Q0).f 0;have rf1:=(uH Q0).f 1;have rf2:=(uH Q0).f 2;have rf3:=(uH Q0).f 3;have rf4:=(uH Q0).f 4;have rf5:=(uH Q0).f 5;have rf6:=(uH Q0).f 6;have rf7:=(uH Q0).f 7;have rf8:=(uH Q0).f 8;have rf9:=(uH Q0).f 9;have rf10:=(uH Q0).f 10
  simp at c0 c1 c2 c3 c4 c5 c6 c7 c8 c9 c10
  go_wp2
  have HB9:=hide (show Below w.heap.size w ((((((((((((w1.alloc (.cells (svc (newX qo n c) (newSt [] 0 0 0)) 42)).setCell ⟨w.heap.size,0,none⟩ (.slice none 0 0)).setCell ⟨w.heap.size,1,none⟩ (.int .i64 0)).setCell ⟨w.heap.size,2,none⟩ (.int .i64 0)).setCell ⟨w.heap.size,3,none⟩ (.int .i64 0)).setCell ⟨w.heap.size,4,none⟩ (.int .i64 0)).setCell ⟨w.heap.size,5,none⟩ (.slice none 0 0)).setCell ⟨w.heap.size,6,none⟩ (.slice none 0 0)).setCell ⟨w.heap.size,7,none⟩ (.slice none 0 0)).setCell ⟨w.heap.size,8,none⟩ (.string ⟨#[]⟩)).setCell ⟨w.heap.size,9,none⟩ (.int .i64 0)).setCell ⟨w.heap.size,10,none⟩ (.slice none 0 0)) from below_sets (uH HB1) (yJ _) 0 [.slice none 0 0,.int .i64 0,.int .i64 0,.int .i64 0,.int .i64 0,.slice none 0 0,.slice none 0 0,.slice none 0 0,.string ⟨#[]⟩,.int .i64 0,.slice none 0 0])
  have R9:=hide (show Blk ((((((((((((w1.alloc (.cells (svc (newX qo n c) (newSt [] 0 0 0)) 42)).setCell ⟨w.heap.size,0,none⟩ (.slice none 0 0)).setCell ⟨w.heap.size,1,none⟩ (.int .i64 0)).setCell ⟨w.heap.size,2,none⟩ (.int .i64 0)).setCell ⟨w.heap.size,3,none⟩ (.int .i64 0)).setCell ⟨w.heap.size,4,none⟩ (.int .i64 0)).setCell ⟨w.heap.size,5,none⟩ (.slice none 0 0)).setCell ⟨w.heap.size,6,none⟩ (.slice none 0 0)).setCell ⟨w.heap.size,7,none⟩ (.slice none 0 0)).setCell ⟨w.heap.size,8,none⟩ (.string ⟨#[]⟩)).setCell ⟨w.heap.size,9,none⟩ (.int .i64 0)).setCell ⟨w.heap.size,10,none⟩ (.slice none 0 0)) w.heap.size #[.slice none 0 0,.int .i64 0,.int .i64 0,.int .i64 0,.int .i64 0,.slice none 0 0,.slice none 0 0,.slice none 0 0,.string ⟨#[]⟩,.int .i64 0,.slice none 0 0] 45 from (uH Q0).sets [.slice none 0 0,.int .i64 0,.int .i64 0,.int .i64 0,.int .i64 0,.slice none 0 0,.slice none 0 0,.slice none 0 0,.string ⟨#[]⟩,.int .i64 0,.slice none 0 0] rfl)
  generalize ((((((((((((w1.alloc (.cells (svc (newX qo n c) (newSt [] 0 0 0)) 42)).setCell ⟨w.heap.size,0,none⟩ (.slice none 0 0)).setCell ⟨w.heap.size,1,none⟩ (.int .i64 0)).setCell ⟨w.heap.size,2,none⟩ (.int .i64 0)).setCell ⟨w.heap.size,3,none⟩ (.int .i64 0)).setCell ⟨w.heap.size,4,none⟩ (.int .i64 0)).setCell ⟨w.heap.size,5,none⟩ (.slice none 0 0)).setCell ⟨w.heap.size,6,none⟩ (.slice none 0 0)).setCell ⟨w.heap.size,7,none⟩ (.slice none 0 0)).setCell ⟨w.heap.size,8,none⟩ (.string ⟨#[]⟩)).setCell ⟨w.heap.size,9,none⟩ (.int .i64 0)).setCell ⟨w.heap.size,10,none⟩ (.slice none 0 0))=W9 at HB9 R9 ⊢
  clear c0 c1 c2 c3 c4 c5 c6 c7 c8 c9 c10 rf0 rf1 rf2 rf3 rf4 rf5 rf6 rf7 rf8 rf9 rf10
  have z0:=(uH R9).at 0;have z1:=(uH R9).at 1;have z2:=(uH R9).at 2;have z3:=(uH R9).at 3;have z4:=(uH R9).at 4;have z5:=(uH R9).at 5;have z6:=(uH R9).at 6;have z7:=(uH R9).at 7;have z8:=(uH R9).at 8;have z9:=(uH R9).at 9;have z10:=(uH R9).at 10
  simp at z0 z1 z2 z3 z4 z5 z6 z7 z8 z9 z10
  have HM:=hide ((uH HF (.returned (.tuple #[.agg #[.slice none 0 0,.int .i64 0,.int .i64 0,.int .i64 0,.int .i64 0,.slice none 0 0,.slice none 0 0,.slice none 0 0,.string ⟨#[]⟩,.int .i64 0,.slice none 0 0],.bool false])) W9).2 ⟨none,0,0,rfl,rfl,qown_nil _ _,uH HB9⟩)
  refine bodyPost_ret (v:=.tuple #[.agg #[.slice none 0 0,.int .i64 0,.int .i64 0,.int .i64 0,.int .i64 0,.slice none 0 0,.slice none 0 0,.slice none 0 0,.string ⟨#[]⟩,.int .i64 0,.slice none 0 0],.bool false]) (by simp [results,Tryz.results39,go_sem,z0,z1,z2,z3,z4,z5,z6,z7,z8,z9,z10]) rfl (uH HM)
 obtain ⟨a0,a1,a2,a3,a4,a5,a6,a7⟩:=zq (uH S1)
 have af0:=(uH S1).f 0;have af1:=(uH S1).f 1;have af2:=(uH S1).f 2;have af3:=(uH S1).f 3;have af4:=(uH S1).f 4;have af5:=(uH S1).f 5;have af6:=(uH S1).f 6;have af7:=(uH S1).f 7
 have c0:=(uH Q0).at 0;have c1:=(uH Q0).at 1;have c2:=(uH Q0).at 2;have c3:=(uH Q0).at 3;have c4:=(uH Q0).at 4;have c5:=(uH Q0).at 5;have c6:=(uH Q0).at 6;have c7:=(uH Q0).at 7;have c8:=(uH Q0).at 8;have c9:=(uH Q0).at 9;have c10:=(uH Q0).at 10
 have rf0:=(uH Q0).f 0;have rf1:=(uH Q0).f 1;have rf2:=(uH Q0).f 2;have rf3:=(uH Q0).f 3;have rf4:=(uH Q0).f 4;have rf5:=(uH Q0).f 5;have rf6:=(uH Q0).f 6;have rf7:=(uH Q0).f 7;have rf8:=(uH Q0).f 8;have rf9:=(uH Q0).f 9;have rf10:=(uH Q0).f 10
 simp at c0 c1 c2 c3 c4 c5 c6 c7 c8 c9 c10
 go_wp2
 have HB9:=hide (show Below w.heap.size w ((((((((((((w1.alloc (.cells (svc (newX qo n c) (newSt ql ep nx ep)) 42)).setCell ⟨w.heap.size,0,none⟩ (.slice qo n c)).setCell ⟨w.heap.size,1,none⟩ (.int .i64 0)).setCell ⟨w.heap.size,2,none⟩ (.int .i64 ep)).setCell ⟨w.heap.size,3,none⟩ (.int .i64 nx)).setCell ⟨w.heap.size,4,none⟩ (.int .i64 ep)).setCell ⟨w.heap.size,5,none⟩ (.slice none 0 0)).setCell ⟨w.heap.size,6,none⟩ (.slice none 0 0)).setCell ⟨w.heap.size,7,none⟩ (.slice none 0 0)).setCell ⟨w.heap.size,8,none⟩ (.string ⟨#[]⟩)).setCell ⟨w.heap.size,9,none⟩ (.int .i64 0)).setCell ⟨w.heap.size,10,none⟩ (.slice none 0 0)) from below_sets (uH HB1) (yJ _) 0 [.slice qo n c,.int .i64 0,.int .i64 ep,.int .i64 nx,.int .i64 ep,.slice none 0 0,.slice none 0 0,.slice none 0 0,.string ⟨#[]⟩,.int .i64 0,.slice none 0 0])
 have R9:=hide (show Blk ((((((((((((w1.alloc (.cells (svc (newX qo n c) (newSt ql ep nx ep)) 42)).setCell ⟨w.heap.size,0,none⟩ (.slice qo n c)).setCell ⟨w.heap.size,1,none⟩ (.int .i64 0)).setCell ⟨w.heap.size,2,none⟩ (.int .i64 ep)).setCell ⟨w.heap.size,3,none⟩ (.int .i64 nx)).setCell ⟨w.heap.size,4,none⟩ (.int .i64 ep)).setCell ⟨w.heap.size,5,none⟩ (.slice none 0 0)).setCell ⟨w.heap.size,6,none⟩ (.slice none 0 0)).setCell ⟨w.heap.size,7,none⟩ (.slice none 0 0)).setCell ⟨w.heap.size,8,none⟩ (.string ⟨#[]⟩)).setCell ⟨w.heap.size,9,none⟩ (.int .i64 0)).setCell ⟨w.heap.size,10,none⟩ (.slice none 0 0)) w.heap.size #[.slice qo n c,.int .i64 0,.int .i64 ep,.int .i64 nx,.int .i64 ep,.slice none 0 0,.slice none 0 0,.slice none 0 0,.string ⟨#[]⟩,.int .i64 0,.slice none 0 0] 45 from (uH Q0).sets [.slice qo n c,.int .i64 0,.int .i64 ep,.int .i64 nx,.int .i64 ep,.slice none 0 0,.slice none 0 0,.slice none 0 0,.string ⟨#[]⟩,.int .i64 0,.slice none 0 0] rfl)
 have O9:=hide (show QOwn (w.heap.size+1) ((((((((((((w1.alloc (.cells (svc (newX qo n c) (newSt ql ep nx ep)) 42)).setCell ⟨w.heap.size,0,none⟩ (.slice qo n c)).setCell ⟨w.heap.size,1,none⟩ (.int .i64 0)).setCell ⟨w.heap.size,2,none⟩ (.int .i64 ep)).setCell ⟨w.heap.size,3,none⟩ (.int .i64 nx)).setCell ⟨w.heap.size,4,none⟩ (.int .i64 ep)).setCell ⟨w.heap.size,5,none⟩ (.slice none 0 0)).setCell ⟨w.heap.size,6,none⟩ (.slice none 0 0)).setCell ⟨w.heap.size,7,none⟩ (.slice none 0 0)).setCell ⟨w.heap.size,8,none⟩ (.string ⟨#[]⟩)).setCell ⟨w.heap.size,9,none⟩ (.int .i64 0)).setCell ⟨w.heap.size,10,none⟩ (.slice none 0 0)) (.slice qo n c) ql from sets_keep (P:=fun wx=>QOwn (w.heap.size+1) wx (.slice qo n c) ql) (fun wx j v hx=>qown_other hx w.heap.size j v (Nat.lt_succ_self _)) [.slice qo n c,.int .i64 0,.int .i64 ep,.int .i64 nx,.int .i64 ep,.slice none 0 0,.slice none 0 0,.slice none 0 0,.string ⟨#[]⟩,.int .i64 0,.slice none 0 0] 0 _ (uH HO))
 generalize ((((((((((((w1.alloc (.cells (svc (newX qo n c) (newSt ql ep nx ep)) 42)).setCell ⟨w.heap.size,0,none⟩ (.slice qo n c)).setCell ⟨w.heap.size,1,none⟩ (.int .i64 0)).setCell ⟨w.heap.size,2,none⟩ (.int .i64 ep)).setCell ⟨w.heap.size,3,none⟩ (.int .i64 nx)).setCell ⟨w.heap.size,4,none⟩ (.int .i64 ep)).setCell ⟨w.heap.size,5,none⟩ (.slice none 0 0)).setCell ⟨w.heap.size,6,none⟩ (.slice none 0 0)).setCell ⟨w.heap.size,7,none⟩ (.slice none 0 0)).setCell ⟨w.heap.size,8,none⟩ (.string ⟨#[]⟩)).setCell ⟨w.heap.size,9,none⟩ (.int .i64 0)).setCell ⟨w.heap.size,10,none⟩ (.slice none 0 0))=W9 at HB9 R9 O9 ⊢
 clear c0 c1 c2 c3 c4 c5 c6 c7 c8 c9 c10 rf0 rf1 rf2 rf3 rf4 rf5 rf6 rf7 rf8 rf9 rf10
 have z0:=(uH R9).at 0;have z1:=(uH R9).at 1;have z2:=(uH R9).at 2;have z3:=(uH R9).at 3;have z4:=(uH R9).at 4;have z5:=(uH R9).at 5;have z6:=(uH R9).at 6;have z7:=(uH R9).at 7;have z8:=(uH R9).at 8;have z9:=(uH R9).at 9;have z10:=(uH R9).at 10
 simp at z0 z1 z2 z3 z4 z5 z6 z7 z8 z9 z10
 have HM:=hide ((uH HF (.returned (.tuple #[.agg #[.slice qo n c,.int .i64 0,.int .i64 ep,.int .i64 nx,.int .i64 ep,.slice none 0 0,.slice none 0 0,.slice none 0 0,.string ⟨#[]⟩,.int .i64 0,.slice none 0 0],.bool true])) W9).2 ⟨qo,n,c,rfl,uH HN,uH O9,uH HB9⟩)
 refine bodyPost_ret (v:=.tuple #[.agg #[.slice qo n c,.int .i64 0,.int .i64 ep,.int .i64 nx,.int .i64 ep,.slice none 0 0,.slice none 0 0,.slice none 0 0,.string ⟨#[]⟩,.int .i64 0,.slice none 0 0],.bool true]) (by simp [results,Tryz.results39,go_sem,z0,z1,z2,z3,z4,z5,z6,z7,z8,z9,z10]) rfl (uH HM)
theorem op_none {P:Program} {ops:Array Oper} {Q:Exit→Act→World→Prop} {a:Act} {w w':World} {o:Oper} {K:Act→World→Prop} (hw:Region.wanted o (yielded ops a.tmps)=true) (hr:(execOp a.eval o).run P w=.ok .skip w') (h:K (a.put o.dst undef) w') :
  if Region.wanted o (yielded ops a.tmps)=true then Oper.wp P o a w K Q else K (a.put o.dst undef) w:=by
 rw [if_pos hw]
 unfold Oper.wp
 rw [hr]
 exact h
theorem qown_hi {b B:Nat} {w w':World} {v:Value} {l:List Q} (hh:Hi b w w') (hb:b<B) (h:QOwn B w v l):QOwn B w' v l:=by
 obtain ⟨h1,h2⟩:=h
 refine ⟨h1,?_⟩
 rcases h2 with h2 | ⟨g,cap,cur,a,b1,c,d⟩
 ·exact .inl h2
 ·exact .inr ⟨g,cap,cur,a,b1,(hh.2 g (by omega) (lt_of_block c)).trans c,d⟩
theorem qown_below {B:Nat} {w w':World} {v:Value} {l:List Q} (h:QOwn B w v l) (hb:Below w.heap.size w w'):QOwn B w' v l:=h.below hb
theorem AHBlk.hi {b:Nat} {w w':World} (hh:Hi b w w') {g M:Nat} {l:List AH} (hg:b<g) (h:AHBlk w g M l):AHBlk w' g M l:=
 ⟨h.1.hi hh hg,h.2.1,fun i hi=>let ⟨x0,x1,x2,x3⟩:=h.2.2 i hi;⟨hi_cell hh hg x0,hi_cell hh hg x1,hi_cell hh hg x2,hi_cell hh hg x3⟩⟩
theorem GHas.hi {b B:Nat} {w w':World} (hh:Hi b w w') {ao:Option Addr} {n cap:Nat} {hs:List AH} (hb:b<B) (h:GHas B w ao n cap hs):GHas B w' ao n cap hs:=by
 obtain ⟨h1,h2,h3⟩:=h
 rcases h3 with e | ⟨g,rfl,hB,hk⟩
 ·exact ⟨⟨h1.1,.inl e⟩,h2,.inl e⟩
 ·exact (hk.hi hh (by omega)).has hB h1.1
def clOk (lq:List Q) (la:List Agt):Bool:=queuesOk lq&&agsOk la
def cluN (lq:List Q) (la:List Agt):Clu:=if clOk lq la then ⟨⟨newSt (qlN lq) (epN lq) (nxN lq) (epN lq),[],0,[]⟩,la,[]⟩ else ⟨⟨newSt [] 0 0 0,[],0,[]⟩,[],[]⟩
abbrev clzN (qo:Option Addr) (n c:Nat) (go:Option Addr) (gl gc:Nat):Cls:=⟨⟨newX qo n c,none,0,0⟩,go,gl,gc,none,0,0⟩
def ClAns (w:World) (lq:List Q) (la:List Agt) (e:Ending) (w':World):Prop:=∃qo n c go gl gc hs,e=.returned (.tuple #[.agg (cluc (clzN qo n c go gl gc) (cluN lq la)),.bool (clOk lq la)])∧n=(cluN lq la).m.s.qs.length∧gl=(cluN lq la).ags.length∧QOwn (w.heap.size+1) w' (.slice qo n c) (cluN lq la).m.s.qs∧GHas (w.heap.size+1) w' go gl gc hs∧Thin hs (cluN lq la).ags∧Below w.heap.size w w'
theorem implClusterNew_any (v:Value) (lq:List Q) (ao:Option Addr) (len cap:Nat) (la:List Agt) (w:World) (h:AgtRow w ao len la) (hl:len≤1048576) (hk:∀q ∈ la,q.name.length≤1048576)
  (CO:∀wx,Below w.heap.size w wx→Calls Tryz.prog 45 #[v] wx (MgAns wx lq)) :
  Calls Tryz.prog 19 #[v,.slice ao len cap] w (ClAns w lq la):=by
 have hb0:=yA (yH _ w) (.cells #[.slice none 0 0,.int .i64 0,.int .i64 0,.int .i64 0,.int .i64 0,.slice none 0 0,.slice none 0 0,.slice none 0 0,.string ⟨#[]⟩,.int .i64 0,.slice none 0 0,.slice none 0 0,.slice none 0 0] 48)
 have P0:=hide (yD w #[.slice none 0 0,.int .i64 0,.int .i64 0,.int .i64 0,.int .i64 0,.slice none 0 0,.slice none 0 0,.slice none 0 0,.string ⟨#[]⟩,.int .i64 0,.slice none 0 0,.slice none 0 0,.slice none 0 0] 48)
 have C0:=hide (CO _ hb0)
 have HZ0:=yE w (.cells #[.slice none 0 0,.int .i64 0,.int .i64 0,.int .i64 0,.int .i64 0,.slice none 0 0,.slice none 0 0,.slice none 0 0,.string ⟨#[]⟩,.int .i64 0,.slice none 0 0,.slice none 0 0,.slice none 0 0] 48)
 have HB0:=hide hb0
 have CA:=hide (fun wx (hb:Below w.heap.size w wx)=>agentsOk_any ao len cap la wx (h.below hb) hl hk)
 have CP:=hide (fun (he:agsOk la=true) wx (hb:Below w.heap.size w wx)=>copyOfAgents_any ao len cap la wx (h.below hb) hl hk (agsFrom_none (last:=[]) (by simpa [agsOk] using (yK _ _ ▸ he:_∧_).2)))
 obtain ⟨b1,e1⟩:∃b,queuesOk lq=b:=⟨_,rfl⟩
 obtain ⟨b2,e2⟩:∃b,agsOk la=b:=⟨_,rfl⟩
 have HNO:=hide (fun (hh:(b1&&b2)=false)=>show clOk lq la=false∧cluN lq la=⟨⟨newSt [] 0 0 0,[],0,[]⟩,[],[]⟩ by
  have:clOk lq la=false:=by rw [clOk,e1,e2,hh]
  exact ⟨this,by rw [cluN,this];rfl⟩)
 have HYES:=hide (fun (hh:(b1&&b2)=true)=>show clOk lq la=true∧cluN lq la=⟨⟨newSt (qlN lq) (epN lq) (nxN lq) (epN lq),[],0,[]⟩,la,[]⟩ by
  have:clOk lq la=true:=by rw [clOk,e1,e2,hh]
  exact ⟨this,by rw [cluN,this];rfl⟩)
 unfold MgAns at C0
 rw [e1] at C0
 rw [e2] at CA CP
 obtain ⟨ql,hql⟩:∃q,qlN lq=q:=⟨_,rfl⟩
 obtain ⟨ep,hep⟩:∃q,epN lq=q:=⟨_,rfl⟩
 obtain ⟨nx,hnx⟩:∃q,nxN lq=q:=⟨_,rfl⟩
 rw [hql,hep,hnx] at C0 HYES
 clear h hk CO hb0 e1 e2 hql hep hnx
 go_enter Tryz.func19,Tryz.ntmps19
 go_wp2_with fail
 refine (uH C0).mono ?_
 rintro e w1 ⟨qo,n,c,rfl,hn,hown,hb⟩
 have hbm:=yA (yH _ w1) (.cells (mgc qo n c ep nx) 45)
 have P1:=hide (((uH P0).below hb).below hbm)
 have HB1:=hide (yB (yB (uH HB0) hb) hbm)
 have PM:=hide (yD w1 (mgc qo n c ep nx) 45)
 have HO:=hide (qown_base (hown.below hbm) (show w.heap.size+1≤_ by omega))
 have HN:=hide hn
 have hz1:w.heap.size+1≤w1.heap.size:=by have:=hb.size;omega
 clear C0 HB0 P0 hb hown hn HZ0
 go_upto_region 2 with fail
 obtain ⟨W1,hW1⟩:∃W,w1.alloc (.cells (mgc qo n c ep nx) 45)=W:=⟨_,rfl⟩
 obtain ⟨g1,hg1⟩:∃g,w1.heap.size=g:=⟨_,rfl⟩
 rw [hW1] at P1 HB1 PM HO ⊢
 rw [hg1] at PM hz1 ⊢
 clear hW1 hg1 hbm
 cases b1
 case false=>
  clear CA CP PM HO
  go_upto_region 3 with fail
  refine wp_region_lit ?_
  refine wpList_same (v:=.agg #[.slice none 0 0,.int .i64 0,.int .i64 0,.int .i64 0,.int .i64 0,.slice none 0 0,.slice none 0 0,.slice none 0 0,.string ⟨#[]⟩,.int .i64 0,.slice none 0 0,.slice none 0 0,.slice none 0 0]) rfl rfl (by go_simp;try with_reducible rfl) ?_
  simp only [zW]
  refine wpList_none (d:=none) rfl rfl (run_u (ns_store 48 (uH P1) (by kernel_rfl) rfl (by kernel_rfl))) ?_
  simp only [Act.put]
  have MM:=ns_mks (uH P1) #[.slice none 0 0,.int .i64 0,.int .i64 0,.int .i64 0,.int .i64 0,.slice none 0 0,.slice none 0 0,.slice none 0 0,.string ⟨#[]⟩,.int .i64 0,.slice none 0 0,.slice none 0 0,.slice none 0 0] rfl
  have R5:=hide (ns_blk (uH P1) #[.slice none 0 0,.int .i64 0,.int .i64 0,.int .i64 0,.int .i64 0,.slice none 0 0,.slice none 0 0,.slice none 0 0,.string ⟨#[]⟩,.int .i64 0,.slice none 0 0,.slice none 0 0,.slice none 0 0])
  have HB5:=hide ((uH HB1).trans (MM.below (fun k e=>by subst e;omega) (uH HB1).size))
  clear MM
  generalize World.setRow _ w.heap.size #[.slice none 0 0,.int .i64 0,.int .i64 0,.int .i64 0,.int .i64 0,.slice none 0 0,.slice none 0 0,.slice none 0 0,.string ⟨#[]⟩,.int .i64 0,.slice none 0 0,.slice none 0 0,.slice none 0 0]=w5 at R5 HB5 ⊢
  have r0:=(uH R5).at 0;have r1:=(uH R5).at 1;have r2:=(uH R5).at 2;have r3:=(uH R5).at 3;have r4:=(uH R5).at 4;have r5:=(uH R5).at 5;have r6:=(uH R5).at 6;have r7:=(uH R5).at 7;have r8:=(uH R5).at 8;have r9:=(uH R5).at 9;have r10:=(uH R5).at 10;have r11:=(uH R5).at 11;have r12:=(uH R5).at 12
  simp at r0 r1 r2 r3 r4 r5 r6 r7 r8 r9 r10 r11 r12
  obtain ⟨f1,f2⟩:=uH HNO rfl
  clear R5 HNO HYES
  have HE:=hide (show ClAns w lq la (.returned (.tuple #[.agg #[.slice none 0 0,.int .i64 0,.int .i64 0,.int .i64 0,.int .i64 0,.slice none 0 0,.slice none 0 0,.slice none 0 0,.string ⟨#[]⟩,.int .i64 0,.slice none 0 0,.slice none 0 0,.slice none 0 0],.bool false])) w5 from ⟨none,0,0,none,0,0,[],by rw [f1,f2];rfl,by rw [f2];rfl,by rw [f2];rfl,by rw [f2];exact World.ownsRow_nil _ _ _ _,GHas.nil _ _,by rw [f2];exact Thin.nil,uH HB5⟩)
  go_wp2
  exact bodyPost_ret (v:=.tuple #[.agg #[.slice none 0 0,.int .i64 0,.int .i64 0,.int .i64 0,.int .i64 0,.slice none 0 0,.slice none 0 0,.slice none 0 0,.string ⟨#[]⟩,.int .i64 0,.slice none 0 0,.slice none 0 0,.slice none 0 0],.bool false]) (by simp [results,Tryz.results19,go_sem,r0,r1,r2,r3,r4,r5,r6,r7,r8,r9,r10,r11,r12]) rfl (uH HE)
 case true=>
  go_wp2_with fail
  refine (uH CA _ (uH HB1)).mono ?_
  rintro e W2 ⟨rfl,hb⟩
  have P2:=hide ((uH P1).below hb)
  have hzW:g1<W1.heap.size:=(uH PM).lt
  have PM2:=hide ((uH PM).below hb)
  have HO2:=hide (qown_below (uH HO) hb)
  have HB2:=hide hb
  clear hb P1 PM HO
  cases b2
  case false=>
   have HBX:=hide (yB (uH HB1) (uH HB2))
   clear HB1 HB2 CP CA PM2 HO2
   go_upto_region 3 with fail
   refine wp_region_lit ?_
   refine wpList_same (v:=.agg #[.slice none 0 0,.int .i64 0,.int .i64 0,.int .i64 0,.int .i64 0,.slice none 0 0,.slice none 0 0,.slice none 0 0,.string ⟨#[]⟩,.int .i64 0,.slice none 0 0,.slice none 0 0,.slice none 0 0]) rfl rfl (by go_simp;try with_reducible rfl) ?_
   simp only [zW]
   refine wpList_none (d:=none) rfl rfl (run_u (ns_store 48 (uH P2) (by kernel_rfl) rfl (by kernel_rfl))) ?_
   simp only [Act.put]
   have MM:=ns_mks (uH P2) #[.slice none 0 0,.int .i64 0,.int .i64 0,.int .i64 0,.int .i64 0,.slice none 0 0,.slice none 0 0,.slice none 0 0,.string ⟨#[]⟩,.int .i64 0,.slice none 0 0,.slice none 0 0,.slice none 0 0] rfl
   have R5:=hide (ns_blk (uH P2) #[.slice none 0 0,.int .i64 0,.int .i64 0,.int .i64 0,.int .i64 0,.slice none 0 0,.slice none 0 0,.slice none 0 0,.string ⟨#[]⟩,.int .i64 0,.slice none 0 0,.slice none 0 0,.slice none 0 0])
   have HB5:=hide ((uH HBX).trans (MM.below (fun k e=>by subst e;omega) (uH HBX).size))
   clear MM
   generalize World.setRow _ w.heap.size #[.slice none 0 0,.int .i64 0,.int .i64 0,.int .i64 0,.int .i64 0,.slice none 0 0,.slice none 0 0,.slice none 0 0,.string ⟨#[]⟩,.int .i64 0,.slice none 0 0,.slice none 0 0,.slice none 0 0]=w5 at R5 HB5 ⊢
   have r0:=(uH R5).at 0;have r1:=(uH R5).at 1;have r2:=(uH R5).at 2;have r3:=(uH R5).at 3;have r4:=(uH R5).at 4;have r5:=(uH R5).at 5;have r6:=(uH R5).at 6;have r7:=(uH R5).at 7;have r8:=(uH R5).at 8;have r9:=(uH R5).at 9;have r10:=(uH R5).at 10;have r11:=(uH R5).at 11;have r12:=(uH R5).at 12
   simp at r0 r1 r2 r3 r4 r5 r6 r7 r8 r9 r10 r11 r12
   obtain ⟨f1,f2⟩:=uH HNO rfl
   clear R5 HNO HYES
   have HE:=hide (show ClAns w lq la (.returned (.tuple #[.agg #[.slice none 0 0,.int .i64 0,.int .i64 0,.int .i64 0,.int .i64 0,.slice none 0 0,.slice none 0 0,.slice none 0 0,.string ⟨#[]⟩,.int .i64 0,.slice none 0 0,.slice none 0 0,.slice none 0 0],.bool false])) w5 from ⟨none,0,0,none,0,0,[],by rw [f1,f2];rfl,by rw [f2];rfl,by rw [f2];rfl,by rw [f2];exact World.ownsRow_nil _ _ _ _,GHas.nil _ _,by rw [f2];exact Thin.nil,uH HB5⟩)
   go_wp2
   exact bodyPost_ret (v:=.tuple #[.agg #[.slice none 0 0,.int .i64 0,.int .i64 0,.int .i64 0,.int .i64 0,.slice none 0 0,.slice none 0 0,.slice none 0 0,.string ⟨#[]⟩,.int .i64 0,.slice none 0 0,.slice none 0 0,.slice none 0 0],.bool false]) (by simp [results,Tryz.results19,go_sem,r0,r1,r2,r3,r4,r5,r6,r7,r8,r9,r10,r11,r12]) rfl (uH HE)
  case true=>
   have he:=uH CP rfl
   have CC:=hide (fun wx (hb:Below W1.heap.size W1 wx)=>he wx (yB (uH HB1) hb))
   clear he CP CA
   have S1:(fun wx=>Blk wx g1 (mgc qo n c ep nx) 45∧Below W2.heap.size W2 wx) W2.drew:=⟨(uH PM2).below (yH _ _).drew,(yH _ _).drew⟩
   go_upto_region 4 with fail
   refine wp_region_held_drew (S:=fun wx=>Blk wx g1 (mgc qo n c ep nx) 45) (by kernel_rfl) ((uH PM2).below (yH _ _).drew) (fun S0=>?_)
   have hbd:Below W1.heap.size W1 W2.drew:=yB (uH HB2) (yH _ _).drew
   have P3:=hide ((uH P2).below (yH _ _).drew)
   have HO3:=hide ((uH HO2).below (yH _ _).drew)
   clear S1 PM2 P2 HO2
   generalize W2.drew=wn at S0 P3 HO3 hbd ⊢
   refine takeW 0 21 (.agg (mgc qo n c ep nx)) rfl rfl S0 ?_ (hy:=Or.inl ⟨by rfl,fun wz hz=>run_v (ns_load 45 hz Tryz.underlying45 rfl (by kernel_rfl))⟩)
   try simp only [zW]
   refine tW 1 22 (.slice ao len cap) S0 ?_
   try simp only [zW]
   refine wpAnyH_ready (rs:=[2]) (by kernel_rfl) (by simp) (AllReadyH.cons rfl (fun K hK=>?_) AllReadyH.nil)
   go_simp
   refine (uH CC _ hbd).mono ?_
   rintro e wt ⟨go,gc,hs,rfl,hg,ht,hb⟩
   have P4:=hide ((uH P3).below hb)
   have HO4:=hide (qown_below (uH HO3) hb)
   have HG4:=hide (hg.base (show w.heap.size+1≤_ by have:=hbd.size;omega))
   have HT:=hide ht
   have HB4:=hide (yB (yB (uH HB1) hbd) hb)
   have S1:Blk wt g1 (mgc qo n c ep nx) 45:=S0.below hb
   clear S0 hb hg ht hbd P3 HO3 CC HB1
   obtain ⟨gl,hgl⟩:∃n,la.length=n:=⟨_,rfl⟩
   have HGL:=hide hgl
   rw [hgl] at HG4 ⊢
   clear hgl
   go_wp2_with fail
   refine hK.out _ _ S1 (fun S0=>?_)
   clear hK K S1
   try simp only [zW]
   refine tW 3 24 (.agg #[.slice qo n c,.int .i64 0,.int .i64 ep,.int .i64 nx,.int .i64 ep,.slice none 0 0,.slice none 0 0,.slice none 0 0,.string ⟨#[]⟩,.int .i64 0,.slice none 0 0,.slice go gl gc,.slice none 0 0]) S0 ?_
   try simp only [zW]
   refine wpAnyH_ready (rs:=[4]) (by kernel_rfl) (by simp) (AllReadyH.cons rfl (fun K hK=>?_) AllReadyH.nil)
   refine op_none (by kernel_rfl) (run_u (ns_store 48 (uH P4) (by kernel_rfl) rfl (by kernel_rfl))) ?_
   have MM:=ns_mks (uH P4) #[.slice qo n c,.int .i64 0,.int .i64 ep,.int .i64 nx,.int .i64 ep,.slice none 0 0,.slice none 0 0,.slice none 0 0,.string ⟨#[]⟩,.int .i64 0,.slice none 0 0,.slice go gl gc,.slice none 0 0] rfl
   have hh:=hi_row wt w.heap.size #[.slice qo n c,.int .i64 0,.int .i64 ep,.int .i64 nx,.int .i64 ep,.slice none 0 0,.slice none 0 0,.slice none 0 0,.string ⟨#[]⟩,.int .i64 0,.slice none 0 0,.slice go gl gc,.slice none 0 0]
   have R5:=hide (ns_blk (uH P4) #[.slice qo n c,.int .i64 0,.int .i64 ep,.int .i64 nx,.int .i64 ep,.slice none 0 0,.slice none 0 0,.slice none 0 0,.string ⟨#[]⟩,.int .i64 0,.slice none 0 0,.slice go gl gc,.slice none 0 0])
   have HB5:=hide ((uH HB4).trans (MM.below (fun k e=>by subst e;omega) (uH HB4).size))
   have S1:Blk (World.setRow wt w.heap.size #[.slice qo n c,.int .i64 0,.int .i64 ep,.int .i64 nx,.int .i64 ep,.slice none 0 0,.slice none 0 0,.slice none 0 0,.string ⟨#[]⟩,.int .i64 0,.slice none 0 0,.slice go gl gc,.slice none 0 0]) g1 (mgc qo n c ep nx) 45:=MM.blk S0 (by omega)
   have HO5:=hide (qown_hi hh (by omega) (uH HO4))
   have HG5:=hide ((uH HG4).hi hh (by omega))
   clear MM hh S0 P4 HO4 HG4 HB4
   generalize World.setRow wt w.heap.size #[.slice qo n c,.int .i64 0,.int .i64 ep,.int .i64 nx,.int .i64 ep,.slice none 0 0,.slice none 0 0,.slice none 0 0,.string ⟨#[]⟩,.int .i64 0,.slice none 0 0,.slice go gl gc,.slice none 0 0]=w5 at R5 HB5 HO5 HG5 S1 ⊢
   refine hK.out _ _ S1 (fun S0=>?_)
   clear hK K S1
   try simp only [zW]
   refine tW 5 5 (.bool true) S0 ?_
   try simp only [zW]
   refine wpAnyH_done (by kernel_rfl) ?_ _
   clear S0
   have r0:=(uH R5).at 0;have r1:=(uH R5).at 1;have r2:=(uH R5).at 2;have r3:=(uH R5).at 3;have r4:=(uH R5).at 4;have r5:=(uH R5).at 5;have r6:=(uH R5).at 6;have r7:=(uH R5).at 7;have r8:=(uH R5).at 8;have r9:=(uH R5).at 9;have r10:=(uH R5).at 10;have r11:=(uH R5).at 11;have r12:=(uH R5).at 12
   simp at r0 r1 r2 r3 r4 r5 r6 r7 r8 r9 r10 r11 r12
   obtain ⟨f1,f2⟩:=uH HYES rfl
   clear R5 HNO HYES
   have HE:=hide (show ClAns w lq la (.returned (.tuple #[.agg #[.slice qo n c,.int .i64 0,.int .i64 ep,.int .i64 nx,.int .i64 ep,.slice none 0 0,.slice none 0 0,.slice none 0 0,.string ⟨#[]⟩,.int .i64 0,.slice none 0 0,.slice go gl gc,.slice none 0 0],.bool true])) w5 from ⟨qo,n,c,go,gl,gc,hs,by rw [f1,f2];rfl,by rw [f2];exact uH HN,by rw [f2];exact (uH HGL).symm,by rw [f2];exact uH HO5,uH HG5,by rw [f2];exact uH HT,uH HB5⟩)
   go_wp2
   exact bodyPost_ret (v:=.tuple #[.agg #[.slice qo n c,.int .i64 0,.int .i64 ep,.int .i64 nx,.int .i64 ep,.slice none 0 0,.slice none 0 0,.slice none 0 0,.string ⟨#[]⟩,.int .i64 0,.slice none 0 0,.slice go gl gc,.slice none 0 0],.bool true]) (by simp [results,Tryz.results19,go_sem,r0,r1,r2,r3,r4,r5,r6,r7,r8,r9,r10,r11,r12]) rfl (uH HE)
end
end Go.Proofs.YtmkedfdnokmglaaGreat
