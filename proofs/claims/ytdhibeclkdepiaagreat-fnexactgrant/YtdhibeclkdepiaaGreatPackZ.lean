/-
  Texts in one: AppR, StEnd, RowE, DelA, InsC, MarkS.
-/
import Derived.Test.YtdhibeclkdepiaaGreatPackY
import Derived.ArgAppend
import Derived.Laws.Rows
import Derived.Laws.Tables
import Derived.Lib.Overlaps
import Derived.Lib.AppendZerosOnto
import Derived.Lib.JoinLaws
import Derived.Deep.AppendSrc
import Derived.Deep.DeepAppendWide
import Derived.Laws.Externs
set_option maxRecDepth 100000
set_option maxHeartbeats 16000000
set_option linter.unusedVariables false
set_option linter.unusedSimpArgs false
namespace Go.Proofs.YtdhibeclkdepiaaGreat
section
open Go.RowKit
theorem lay_of {w:World} {t:TypeId} {g N:Nat} {cs:List Value} (hc:Cel w t g N) (h:∀j u,cs[j]? = some u→w.cell? ⟨g,j,none⟩=some u) (hl:cs.length≤N):Lay w t g N cs:=by
 obtain ⟨arr,h1,h2⟩:=hc
 refine ⟨arr.toList.drop cs.length,?_,by simp;omega⟩
 have e:cs++arr.toList.drop cs.length=arr.toList:=by
  apply List.ext_getElem?
  intro j
  by_cases hj:j<cs.length
  ·rw [List.getElem?_append_left hj]
   have h3:=h j cs[j] (List.getElem?_eq_getElem hj)
   simp [World.cell?,h1] at h3
   rw [List.getElem?_eq_getElem hj,Array.getElem?_toList]
   exact h3.symm
  ·rw [List.getElem?_append_right (by omega),List.getElem?_drop]
   congr 1
   omega
 rw [e]
 simpa using h1
theorem mks_cells {S:Nat→Prop} {g:Nat} (hg:S g):∀(vs:List Value) (o:Nat) (a w:World),Mks S a w→Mks S a (w.setCells g o vs)
 | [],_,_,_,h=>h
 | v::r,o,a,w,h=>mks_cells hg r (o+1) a _ (h.sc g o v hg)
theorem Cel.isThere {w:World} {t:TypeId} {g N:Nat} (h:Cel w t g N) {j:Nat} (hj:j<N):(w.cell? ⟨g,j,none⟩).isSome=true:=by
 obtain ⟨arr,h1,h2⟩:=h
 have h3:j<arr.size:=by omega
 simp [World.cell?,h1,h3]
theorem below_none {w w':World} (h:w.grownBy w' none):Below w.heap.size w w':=(Below.refl _ w).grown h (Nat.le_refl _) (fun k e=>by cases e)
structure AppR (B:Nat) (w:World) (e:TypeId) (sz:Nat) (ao:Option Addr) (n:Nat) (all:List Value) (g cap:Nat) (w':World):Prop where
 cells:∀j u,all[j]? = some u→w'.cell? ⟨g,j,none⟩=some u
 own:Own1 B w'.heap.size w' e sz (some ⟨g,0,none⟩) cap
 cap:n≤cap
 mks:Mks (fun k=>∃N,Cel w e k N∧B≤k) w w'
theorem wpList_append_rm {P:Program} (w:World) {ops:Array Oper} {rest:List Oper} {o:Oper} {a:Act} {Q:Exit→Act→World→Prop} (hgd:o.guard=none) (s x:Operand) (t:TypeId)
  (ho:o.op=.call { callee:=.builtin .append,args:=#[s,x],argTypes:=#[t,t] })
  (e:TypeId) (i:TypeInfo) (z:Value) (size bytes:Nat) (ht:P.underlying t=some (.slice e)) (hi:P.info? e=some i) (hz:i.zero=some z)
  (hsize:i.size=size) (hby:i.bytes=bytes) (hzs:z.cells.size=size) (hsz:0<size)
  (B E:Nat) (ao:Option Addr) (n cap:Nat) (olds:List Value) (hs:a.eval s=.slice ao n cap) (hrm:Own1 B E w e size ao cap) (hnc:n≤cap) (hB:B≤w.heap.size)
  (hlo:olds.length=n*size) (holds:∀b off,ao=some ⟨b,off,none⟩→∀j u,olds[j]? = some u→w.cell? ⟨b,off+j,none⟩=some u)
  (ad:Addr) (m c:Nat) (news:List Value) (hx:a.eval x=.slice (some ad) m c) (hn:news.length=m*size) (hc:∀j u,news[j]? = some u→w.cell? (ad.add j)=some u) (h1c:∀u ∈ news,u.oneCell'=true) (hm:0<m)
  (b1:n+m≤maxLen) (b2:(n+m)*bytes≤140737488355328)
  (h:∀g cap' w',AppR B w e size ao (n+m) (olds++news) g cap' w'→wpList P ops Q rest (a.put o.dst (.slice (some ⟨g,0,none⟩) (n+m) cap')) w'):wpList P ops Q (o::rest) a w:=by
 by_cases hr:n+m≤cap
 ·rcases hrm with e0 | ⟨g,M,rfl,h1,h2,h3,h4⟩
  ·omega
  ·have hle:(n+m)*size≤M*size:=Nat.mul_le_mul_right _ (by omega)
   rw [Nat.add_mul] at hle
   refine wpList_append_arg w hgd s x t ho e i z size bytes ht hi hz hsize hby hzs hsz g 0 n cap olds hs hlo (fun j u hj=>holds g 0 rfl j u hj) ad m c news hx hn hc h1c (fun _ j hj=>⟨h3.isThere (by omega),h3.frozen _⟩) b1 b2 (fun _=>h g cap _ ⟨fun j u hj=>?_,?_,hr,mks_cells ⟨_,h3,h1⟩ _ _ _ _ (Mks.refl _ _)⟩) (fun hlt=>by omega)
   ·by_cases hj2:j<olds.length
    ·rw [List.getElem?_append_left hj2] at hj
     rw [World.cell?_setCells_out g news (0+n*size) w ⟨g,j,none⟩ (fun _ _=>by left;show j<0+n*size;omega)]
     have:=holds g 0 rfl j u hj
     rwa [Nat.zero_add] at this
    ·rw [List.getElem?_append_right (by omega)] at hj
     have hjl:j - olds.length<news.length:=(List.getElem?_eq_some_iff.1 hj).1
     have:=World.cell?_setCells_in g news (0+n*size) w (fun k hk=>h3.isThere (by omega)) (j - olds.length) hjl
     rw [show 0+n*size+(j - olds.length)=j by omega] at this
     rw [this]
     rw [List.getElem?_eq_getElem hjl] at hj
     exact hj
   ·have hk:Mks (fun k=>k=g) w (w.setCells g (0+n*size) news):=mks_cells (S:=fun k=>k=g) rfl _ _ _ _ (Mks.refl _ _)
    exact .inr ⟨g,M,rfl,h1,Nat.lt_of_lt_of_le h3.lt hk.size,hk.cel _ _ _ h3,h4⟩
 ·have hnone:ao=none→n=0∧cap=0:=fun e0=>by
   rcases hrm with h0 | ⟨g,M,h1,_⟩
   ·omega
   ·rw [e0] at h1;cases h1
  refine wpList_append_grows w hgd s x t ho e i z size bytes ht hi hz hsize hby hzs hsz ao n cap olds hs hnone hlo (fun b hb j u hj=>?_) ad m c news hx hn hc h1c (by omega) b1 b2 (fun v' w' h1 h2=>?_)
  ·rcases hrm with h0 | ⟨g,M,h1,_⟩
   ·have hn0:n=0:=by omega
    rw [hn0,Nat.zero_mul] at hlo
    rw [List.eq_nil_of_length_eq_zero hlo] at hj
    simp at hj
   ·obtain rfl:=Option.some.inj (hb.symm.trans h1)
    rw [Addr.add_lit]
    exact holds g 0 hb j u hj
  ·obtain ⟨g,cap',rfl,hg1,hg2⟩:=h1.form (by omega)
   have hb:=below_none h2
   rcases h1.2 with ⟨e0,_⟩ | ⟨g',c',cur,e0,k1,k2,k3,k4,k5,k6⟩
   ·cases e0
   ·cases e0
    refine h g cap' w' ⟨fun j u hj=>?_,.inr ⟨g,cap',rfl,by omega,lt_of_block k2,⟨cur,k2,k5⟩,Nat.le_refl _⟩,k3,Mks.of_below hb⟩
    have hjl:j<(olds++news).length:=(List.getElem?_eq_some_iff.1 hj).1
    rw [←k6] at hj hjl
    rw [List.length_take] at hjl
    rw [List.getElem?_take_of_lt (by omega)] at hj
    simp [World.cell?,k2]
    simpa using hj
theorem st_info:(Tryz.prog.info? 34).map (·.size)=some 8:=by kernel_rfl
theorem st_load {w:World} {b:Nat} {arr:Array Value} (h:Blk w b arr 34) (hs:arr.size=8):(Instr.loadAt 34 (.pointer (some ⟨b,0,none⟩))).run Tryz.prog w=.ok (.agg arr) w:=by
 simp only [Instr.loadAt,Instr.sureAddr,Sem.run_bind,Sem.run_pure,Result.andThen]
 exact run_loadVar_row w b 34 34 arr (0,0) _ h Tryz.underlying34 rfl (by rw [st_info,hs])
theorem st_store {w:World} {b:Nat} {old arr:Array Value} (h:Blk w b old 34) (ho:old.size=8) (hs:arr.size=8) (h1:arr.all (·.oneCell')=true):(Instr.storeAt 34 (.pointer (some ⟨b,0,none⟩)) (.agg arr)).run Tryz.prog w=.ok () (w.setRow b arr):=by
 simp only [Instr.storeAt,Instr.sureAddr,Sem.run_bind,Sem.run_pure,Result.andThen]
 exact run_storeVar_row w b 34 34 old arr h (by rw [st_info,hs]) (by rw [ho,hs]) h1
theorem svc_one (x:Sls) (s:St):(svc x s).all (·.oneCell')=true:=by kernel_rfl
theorem blk_row {w:World} {b:Nat} {old:Array Value} {t:TypeId} (h:Blk w b old t) (arr:Array Value):Blk (w.setRow b arr) b arr t:=setRow_heap w b old arr t (0,0) h
theorem mks_row {w:World} {b:Nat} {old:Array Value} {t:TypeId} (h:Blk w b old t) (arr:Array Value) (hs:arr.size=old.size):Mks (fun k=>k=b) w (w.setRow b arr):=by
 refine ⟨rfl,rfl,rfl,by rw [setRow_size];exact Nat.le_refl _,fun k _ hk=>setRow_other w b k arr hk,fun t' g N hc=>?_⟩
 by_cases e:g=b
 ·subst e
  obtain ⟨c,h1,h2⟩:=hc
  rw [h] at h1
  cases h1
  exact ⟨arr,blk_row h arr,by omega⟩
 ·exact hc.of_block (setRow_other w b g arr e)
theorem own_mkc {B:Nat} {S:Nat→Prop} {w w':World} {t t':TypeId} {sz n:Nat} {ao:Option Addr} (h:Own1 B w.heap.size w t sz ao n) (hm:Mks S w w') (hS:∀k,S k→∃N,Cel w t' k N) (ht:t'≠t):(∀k,inR ao n k→¬S k)∧Own1 B w'.heap.size w' t sz ao n:=by
 refine ⟨fun k hk e=>?_,(h.mks hm).mono (Nat.le_refl _) hm.size⟩
 obtain ⟨_,_,N',h2⟩:=h.lies k hk
 obtain ⟨N,h3⟩:=hS k e
 exact ht (h3.type h2)
section
variable {B:Nat} {S:Nat→Prop} {w w':World}
theorem QHas.mkc {n:Nat} {ao:Option Addr} {l:List Q} (h:QHas B w ao n l) (hm:Mks S w w') (hS:∀k,S k→∃N,Cel w 74 k N):QHas B w' ao n l:=
 ⟨h.1.mks hm (own_mkc h.2 hm hS (by decide)).1,(own_mkc h.2 hm hS (by decide)).2⟩
theorem MHas.mkc {n:Nat} {ao:Option Addr} {l:List Mac} (h:MHas B w ao n l) (hm:Mks S w w') (hS:∀k,S k→∃N,Cel w 74 k N):MHas B w' ao n l:=
 ⟨h.1.mks hm (own_mkc h.2 hm hS (by decide)).1,(own_mkc h.2 hm hS (by decide)).2⟩
theorem CHas.mkc {n:Nat} {ao:Option Addr} {l:List Con} (h:CHas B w ao n l) (hm:Mks S w w') (hS:∀k,S k→∃N,Cel w 74 k N):CHas B w' ao n l:=
 ⟨h.1.mks hm (own_mkc h.2 hm hS (by decide)).1,(own_mkc h.2 hm hS (by decide)).2⟩
theorem KHas.mkc {hs:List AV} {l:List Appl} (h:KHas B w hs l) (hm:Mks S w w') (hS:∀k,S k→∃N,Cel w 74 k N):KHas B w' hs l:=
 ⟨⟨h.heads.1,fun i h1 h2=>let ⟨a,b',c,d⟩:=h.heads.2 i h1 h2;⟨a,b',c.mks hm (own_mkc (h.own _ (List.getElem_mem h1)) hm hS (by decide)).1,d⟩⟩,fun v hv=>(own_mkc (h.own v hv) hm hS (by decide)).2,h.apart⟩
end
theorem Own1.le {B E:Nat} {w:World} {t:TypeId} {sz n m:Nat} {ao:Option Addr} (h:Own1 B E w t sz ao n) (hm:m≤n):Own1 B E w t sz ao m:=by
 rcases h with h | ⟨g,M,h1,h2,h3,h4,h5⟩
 ·exact .inl (by omega)
 ·exact .inr ⟨g,M,h1,h2,h3,h4,by omega⟩
theorem SHas.add {B g cap:Nat} {w w':World} {x:Sls} {s:St} {hs:List AV} (h:SHas B w x s hs) (hB:B≤w.heap.size) (app nx:Int) (qu:List UInt8)
  (ha:AppR B w 74 3 x.aa (x.al+1) (pcells hs++pcell ⟨app,qu,none,0,0⟩) g cap w') :
  SHas B w' ⟨x.qa,x.ql,x.qc,some ⟨g,0,none⟩,x.al+1,cap,x.ma,x.ml,x.mc,x.ca,x.cl,x.cc⟩ ⟨s.qs,s.clock,s.epoch,nx,s.serial,s.apps++[⟨app,qu,[]⟩],s.ms,s.cs⟩ (hs++[⟨app,qu,none,0,0⟩]):=by
 have hS:∀k,(∃N,Cel w 74 k N∧B≤k)→∃N,Cel w 74 k N:=fun k hk=>let ⟨N,a,_⟩:=hk;⟨N,a⟩
 have hal:x.al=hs.length:=h.p.1.1
 have hrm:=(h.rm.mks ha.mks).mono (Nat.le_refl B) ha.mks.size
 have hk:=h.k.mkc ha.mks hS
 refine ⟨h.q.mkc ha.mks hS,⟨?_,ha.own.le ha.cap⟩,?_,h.m.mkc ha.mks hS,h.c.mkc ha.mks hS,⟨h.cap.q,ha.cap,h.cap.m,h.cap.c⟩,⟨hrm.1,ha.own,hrm.2.2.1,hrm.2.2.2.1,fun v hv=>?_⟩⟩
 ·rcases ha.own with e | ⟨g',M,e,_,_,hc,hM⟩
  ·have:=ha.cap;omega
  ·cases e
   have hl:(pcells (hs++[⟨app,qu,none,0,0⟩])).length≤M*3:=by
    rw [pcells_len,List.length_append]
    exact Nat.mul_le_mul_right _ (by have:=ha.cap;simp;omega)
   have:=(lay_of hc (cs:=pcells (hs++[⟨app,qu,none,0,0⟩])) (by rw [pcells_app];exact ha.cells) hl).rowP
   rw [List.length_append] at this
   rw [hal]
   exact this
 ·exact hk.snoc (Below.refl _ _) (Nat.le_trans hB ha.mks.size) app qu none 0 [] (Nat.le_refl _) ⟨rfl,.inl rfl⟩ (.inl rfl)
 ·rcases List.mem_append.1 hv with hv | hv
  ·exact hrm.2.2.2.2 v hv
  ·obtain rfl:=List.mem_singleton.1 hv
   exact .inl rfl
theorem Lay.frozen {w:World} {t:TypeId} {g M:Nat} {cs:List Value} (h:Lay w t g M cs) (j:Nat):w.frozen? ⟨g,j,none⟩=false:=h.cel.frozen j
theorem Lay.isThere {w:World} {t:TypeId} {g M:Nat} {cs:List Value} (h:Lay w t g M cs) {j:Nat} (hj:j<M):(w.cell? ⟨g,j,none⟩).isSome=true:=by
 obtain ⟨R,h1,h2⟩:=h
 have h3:j<(cs++R).length:=by omega
 simp [World.cell?,h1,List.getElem?_eq_getElem h3]
theorem Lay.drew {w:World} {t:TypeId} {g M:Nat} {cs:List Value} (h:Lay w t g M cs):Lay w.drew t g M cs:=h
theorem Lay.cells {w:World} {t:TypeId} {g M:Nat} {cs:List Value} (h:Lay w t g M cs) (o:Nat) (vs:List Value) (hf:o+vs.length≤M) (new:List Value) (hn:new.length≤M)
  (hi:∀j u,new[j]? = some u→(o≤j∧j<o+vs.length→vs[j - o]? = some u)∧(¬(o≤j∧j<o+vs.length)→w.cell? ⟨g,j,none⟩=some u)):Lay (w.setCells g o vs) t g M new:=by
 refine lay_of ?_ (fun j u hj=>?_) hn
 ·exact (mks_cells (S:=fun k=>k=g) rfl vs o w w (Mks.refl _ _)).cel _ _ _ h.cel
 ·by_cases e:o≤j∧j<o+vs.length
  ·have h1:=World.cell?_setCells_in g vs o w (fun k hk=>h.isThere (by omega)) (j - o) (by omega)
   rw [show o+(j - o)=j by omega] at h1
   rw [h1]
   have h2:=(hi j u hj).1 e
   rw [List.getElem?_eq_getElem (by omega)] at h2
   exact h2
  ·rw [World.cell?_setCells_out g vs o w ⟨g,j,none⟩ (fun _ _=>by show j<o∨o+vs.length≤j;omega)]
   exact (hi j u hj).2 e
theorem AskRow.lay {w:World} {g N n:Nat} {l:List Ask} (h:AskRow w (some ⟨g,0,none⟩) n l) (hc:Cel w 77 g N) (hn:l.length*5≤N):Lay w 77 g N (acells l):=
 lay_of hc (fun j u hj=>by have:=acells_row h j u hj;rwa [Nat.zero_add] at this) (by rw [acells_len];exact hn)
theorem Lay.rowA {w:World} {g M:Nat} {l:List Ask} (h:Lay w 77 g M (acells l)):AskRow w (some ⟨g,0,none⟩) l.length l:=by
 refine ⟨rfl,.inr ⟨g,0,rfl,fun i hi=>?_⟩⟩
 obtain ⟨a,b,c,d,e⟩:=acells_at l i hi
 rw [Nat.zero_add]
 exact ⟨h.cell a,h.cell b,h.cell c,h.cell d,h.cell e⟩
theorem ConRow.lay {w:World} {g N n:Nat} {l:List Con} (h:ConRow w (some ⟨g,0,none⟩) n l) (hc:Cel w 38 g N) (hn:l.length*5≤N):Lay w 38 g N (ccells l):=
 lay_of hc (fun j u hj=>by have:=ccells_row h j u hj;rwa [Nat.zero_add] at this) (by rw [ccells_len];exact hn)
def Room1 (B:Nat) (w:World) (t:TypeId) (sz:Nat) (ao:Option Addr) (n cap:Nat):Prop:=n≤cap∧(cap=0∨∃g M,ao=some ⟨g,0,none⟩∧B≤g∧Cel w t g (M*sz)∧cap≤M)
theorem Room1.mks {S:Nat→Prop} {B:Nat} {w w':World} {t:TypeId} {sz n cap:Nat} {ao:Option Addr} (h:Room1 B w t sz ao n cap) (hm:Mks S w w'):Room1 B w' t sz ao n cap:=by
 obtain ⟨h1,h3⟩:=h
 refine ⟨h1,?_⟩
 rcases h3 with h3 | ⟨g,M,e,hB,hc,hM⟩
 ·exact .inl h3
 ·exact .inr ⟨g,M,e,hB,hm.cel _ _ _ hc,hM⟩
theorem Room1.below {B:Nat} {w w':World} {t:TypeId} {sz n cap:Nat} {ao:Option Addr} (h:Room1 B w t sz ao n cap) (hb:Below w.heap.size w w'):Room1 B w' t sz ao n cap:=h.mks (S:=fun _=>False) (.of_below hb)
theorem Room1.own {B:Nat} {w:World} {t:TypeId} {sz n cap:Nat} {ao:Option Addr} (h:Room1 B w t sz ao n cap):Own1 B w.heap.size w t sz ao n:=by
 obtain ⟨h1,h3⟩:=h
 rcases h3 with h3 | ⟨g,M,e,hB,hc,hM⟩
 ·exact .inl (by omega)
 ·exact .inr ⟨g,M,e,hB,hc.lt,hc,by omega⟩
theorem Room1.all {B:Nat} {w:World} {t:TypeId} {sz n cap:Nat} {ao:Option Addr} (h:Room1 B w t sz ao n cap):Own1 B w.heap.size w t sz ao cap:=by
 rcases h.2 with h3 | ⟨g,M,e,hB,hc,hM⟩
 ·exact .inl h3
 ·exact .inr ⟨g,M,e,hB,hc.lt,hc,hM⟩
theorem room_of {B E:Nat} {w:World} {t:TypeId} {sz n cap:Nat} {ao:Option Addr} (h:Own1 B E w t sz ao cap) (hn:n≤cap):Room1 B w t sz ao n cap:=by
 refine ⟨hn,?_⟩
 rcases h with h | ⟨g,M,h1,h2,h3,h4,h5⟩
 ·exact .inl h
 ·exact .inr ⟨g,M,h1,h2,h4,h5⟩
theorem run_clear_one {P:Program} (w:World) (t e ty:TypeId) (z:Value) (ht:P.underlying t=some (.slice e)) (hv:∀w,(zeroValue e).run P w=.ok z w) (zs:List Value) (hz:(Builtin.zeroCells z.cells 1).toList=zs) (h1:∀v ∈ zs,v.oneCell'=true) (b o c:Nat)
  (hc:∀j,j<zs.length→(w.cell? ⟨b,o+j,none⟩).isSome=true) (hf:∀j,j<zs.length→w.frozen? ⟨b,o+j,none⟩=false) :
  (Builtin.clear_ #[t] ty #[.slice (some ⟨b,o,none⟩) 1 c]).run P w=.ok (.tuple #[]) (w.setCells b o zs):=by
 have hst:=run_storeCells_cells (P:=P) b o zs 0 w (by simpa using hc) (by simpa using hf) h1
 simp only [Nat.add_zero] at hst
 simp [Builtin.clear_,run_underlying ht,hv,hz,hst]
theorem acells_append:∀a b:List Ask,acells (a++b)=acells a++acells b
 | [],b=>rfl
 | q::t,b=>by rw [List.cons_append,acells,acells,acells_append t b,List.append_assoc]
theorem acells_take (l:List Ask) (i:Nat) (h:i≤l.length):(acells l).take (i*5)=acells (l.take i):=by
 conv=>lhs;rw [←List.take_append_drop i l,acells_append]
 rw [List.take_append_of_le_length (by rw [acells_len,List.length_take];omega),List.take_of_length_le (by rw [acells_len,List.length_take];omega)]
theorem acells_erase (l:List Ask) (k:Nat) (h:k<l.length):acells (l.eraseIdx k)=acells (l.take k)++acells (l.drop (k+1)):=by
 rw [List.eraseIdx_eq_take_drop_succ,acells_append]
theorem zeroAsk:∀w,(zeroValue 77).run Tryz.prog w=.ok (.agg #[.int .i64 0,.int .i64 0,.int .i64 0,.string ByteArray.empty,.int .i64 0]) w:=fun w=>by kernel_rfl
theorem infoAsk:(Tryz.prog.info? 77).map (fun i=>i.size)=some 5:=by kernel_rfl
theorem deleteAsk_any (g N cap k:Nat) (l:List Ask) (w:World) (h:Lay w 77 g N (acells l)) (hk:k<l.length) (hcap:l.length≤cap) (hl:l.length≤1048576) (hN:l.length*5≤N) :
  Calls Tryz.prog 107 #[.slice (some ⟨g,0,none⟩) l.length cap,.int .i64 (k:Int),.int .i64 ((k:Int)+1)] w fun e w'=>e=.returned (.slice (some ⟨g,0,none⟩) (l.length - 1) cap)∧Lay w' 77 g N (acells (l.eraseIdx k))∧Mks (fun b=>b=g) w w':=by
 obtain ⟨i0,hi0,hsz⟩:∃i0,Tryz.prog.info? 77=some i0∧i0.size=5:=by
  have:=infoAsk
  cases hq:Tryz.prog.info? 77 with
  | none=>rw [hq] at this;simp at this
  | some i=>rw [hq] at this;exact ⟨i,rfl,by simpa using this⟩
 obtain ⟨n,hn⟩:∃n,l.length=n:=⟨_,rfl⟩
 rw [hn] at hk hcap hl hN ⊢
 have HN:=hide hn
 have H:=hide h
 obtain ⟨news,hnews⟩:∃x,acells (l.drop (k+1))=x:=⟨_,rfl⟩
 have hnl:news.length=(n - (k+1))*5:=by rw [←hnews,acells_len,List.length_drop,hn]
 have HC:=hide (show ∀j u,news[j]? = some u→w.cell? ⟨g,(k+1)*5+j,none⟩=some u from fun j u hj=>by
  refine h.cell ?_
  have e:acells l=acells (l.take (k+1))++news:=by rw [←hnews,←acells_append,List.take_append_drop]
  rw [e,List.getElem?_append_right (by rw [acells_len,List.length_take];omega),acells_len,List.length_take]
  rw [show (k+1)*5+j - min (k+1) l.length*5=j by omega]
  exact hj)
 have H1:=hide (show ∀u ∈ news,u.oneCell'=true from fun u hu=>acells_one _ u (by rw [hnews];exact hu))
 have HS:=hide (show ∀j,j<news.length→(w.cell? ⟨g,0+k*5+j,none⟩).isSome=true∧w.frozen? ⟨g,0+k*5+j,none⟩=false from fun j hj=>⟨by rw [Nat.zero_add];exact h.isThere (by omega),h.frozen _⟩)
 have k0:(0:Int)≤k:=by omega
 have k1:(k:Int)≤(k:Int)+1:=by omega
 have k2:(k:Int)+1≤n:=by omega
 have k3:(n:Int)≤cap:=by omega
 have k4:¬(k:Int)=(k:Int)+1:=by omega
 have k5:(k:Int)≤n:=by omega
 have k6:(0:Int)≤(k:Int)+1:=by omega
 have k7:((k:Int)+1).toNat=k+1:=by omega
 have hz:(Builtin.zeroCells (Value.agg #[.int .i64 0,.int .i64 0,.int .i64 0,.string ByteArray.empty,.int .i64 0]).cells 1).toList=[.int .i64 0,.int .i64 0,.int .i64 0,.string ByteArray.empty,.int .i64 0]:=by kernel_rfl
 obtain ⟨W1,hW1⟩:∃W1,W1=w.drew.setCells g (0+k*5) news:=⟨_,rfl⟩
 have hL1:Lay W1 77 g N (acells (l.eraseIdx k)):=by
  rw [hW1]
  refine h.drew.cells _ _ (by omega) _ (by rw [acells_len,List.length_eraseIdx_of_lt (by omega)];omega) (fun j u hj=>?_)
  rw [acells_erase l k (by omega),hnews] at hj
  have hcl:(acells (l.take k)).length=k*5:=by rw [acells_len,List.length_take];omega
  rw [Nat.zero_add]
  refine ⟨fun e=>?_,fun e=>?_⟩
  ·rw [List.getElem?_append_right (by omega),hcl] at hj
   exact hj
  ·have hlt:=(List.getElem?_eq_some_iff.1 hj).1
   rw [List.length_append,hcl] at hlt
   rw [List.getElem?_append_left (by omega)] at hj
   refine h.drew.cell ?_
   have e2:acells l=acells (l.take k)++acells (l.drop k):=by rw [←acells_append,List.take_append_drop]
   rw [e2,List.getElem?_append_left (by omega)]
   exact hj
 have hM1:Mks (fun b=>b=g) w W1:=by
  rw [hW1]
  exact mks_cells (S:=fun b=>b=g) rfl _ _ _ _ (.of_below (Below.refl _ w).drew)
 have hcl:∀ty,(Builtin.clear_ #[72] ty #[.slice (some ⟨g,(k+(n - (k+1)))*5,none⟩) (n - (k+(n - (k+1)))) (cap - (k+(n - (k+1))))]).run Tryz.prog W1=.ok (.tuple #[]) (W1.setCells g ((n - 1)*5) [.int .i64 0,.int .i64 0,.int .i64 0,.string ByteArray.empty,.int .i64 0]):=fun ty=>by
  rw [show n - (k+(n - (k+1)))=1 by omega,show k+(n - (k+1))=n - 1 by omega]
  exact run_clear_one W1 _ _ ty _ Tryz.underlying72 zeroAsk _ hz (fun v hv=>by simp at hv;rcases hv with rfl | rfl | rfl<;>rfl) g _ _ (fun j hj=>hL1.isThere (by simp at hj;omega)) (fun j hj=>hL1.frozen _)
 have HA:=hide (show Lay (W1.setCells g ((n - 1)*5) [.int .i64 0,.int .i64 0,.int .i64 0,.string ByteArray.empty,.int .i64 0]) 77 g N (acells (l.eraseIdx k))∧Mks (fun b=>b=g) w (W1.setCells g ((n - 1)*5) [.int .i64 0,.int .i64 0,.int .i64 0,.string ByteArray.empty,.int .i64 0]) from by
  refine ⟨hL1.cells _ _ (by simp;omega) _ (by rw [acells_len,List.length_eraseIdx_of_lt (by omega)];omega) (fun j u hj=>⟨fun e=>?_,fun e=>hL1.cell hj⟩),mks_cells (S:=fun b=>b=g) rfl _ _ _ _ hM1⟩
  have hlt:=(List.getElem?_eq_some_iff.1 hj).1
  rw [acells_len,List.length_eraseIdx_of_lt (by omega)] at hlt
  omega)
 have HW:=hide hW1
 have j1:((k+(n - (k+1)):Nat):Int)≤n:=by omega
 have j2:k+(n - (k+1))≤n:=by omega
 have j3:¬cap=k+(n - (k+1)):=by omega
 have j4:n≤cap:=by omega
 have j6:k≤cap:=by omega
 have j7:k+1≤cap:=by omega
 have j8:k+1≤n:=by omega
 clear h hn hW1 hL1 hM1
 by_cases hcc:cap=k+1
 ·subst hcc
  have hnk:n=k+1:=by omega
  have hnl0:news.length=0*5:=by rw [hnl];omega
  have e1:k+(n - (k+1))=k:=by omega
  rw [e1] at hcl j1 j2 j3
  subst hnk
  rw [show k+1 - k=1 by omega] at hcl
  go_enter Tryz.func107,Tryz.ntmps107
  go_wp2_with fail
  go_region_law (refine step_append_room rfl (.tmp 22) (.tmp 25) 72 rfl 77 i0 5 Tryz.underlying72 hi0 hsz g 0 k (k+1) (by simp [Act.eval,Act.put]) ⟨g,0,none⟩ 0 0 news (by simp [Act.eval,Act.put]) hnl0 (fun j u hj=>absurd (List.getElem?_eq_some_iff.1 hj).1 (by rw [hnl0];omega)) (uH H1) (by omega) (uH HS) ?_;rw [←uH HW])
  go_wp2
  go_ret
  exact ⟨rfl,uH HA⟩
 have j5:¬(k+1=cap):=by omega
 go_enter Tryz.func107,Tryz.ntmps107
 go_wp2_with fail
 go_region_law (refine step_append_room rfl (.tmp 22) (.tmp 25) 72 rfl 77 i0 5 Tryz.underlying72 hi0 hsz g 0 k cap (by simp [Act.eval,Act.put]) ⟨g,(k+1)*5,none⟩ (n - (k+1)) (cap - (k+1)) news (by simp [Act.eval,Act.put]) hnl (fun j u hj=>by rw [Addr.add_lit];exact uH HC j u hj) (uH H1) (by omega) (uH HS) ?_;rw [←uH HW])
 go_wp2
 go_ret
 exact ⟨by rw [show k+(n - (k+1))=n - 1 by omega];rfl,uH HA⟩
theorem infoC:∃i0 z,Tryz.prog.info? 38=some i0∧i0.size=5∧i0.zero=some z∧z.cells.size=5∧0<i0.bytes∧i0.bytes≤100:=by
 have h:(Tryz.prog.info? 38).map (fun i=>(i.size,i.zero.map (fun z=>z.cells.size),decide (0<i.bytes∧i.bytes≤100)))=some (5,some 5,true):=by kernel_rfl
 cases hq:Tryz.prog.info? 38 with
 | none=>rw [hq] at h;simp at h
 | some i=>
  rw [hq] at h
  simp at h
  cases hz:i.zero with
  | none=>rw [hz] at h;simp at h
  | some z=>rw [hz] at h;simp at h;exact ⟨i,z,rfl,h.1,hz,h.2.1,h.2.2.1,h.2.2.2⟩
theorem ccells_ins (l:List Con) (q:Con) (i:Nat):ccells (l.take i++q::l.drop i)=ccells (l.take i)++(ccell q++ccells (l.drop i)):=by
 rw [ccells_append];rfl
def CRm (B:Nat) (w:World) (ao:Option Addr) (n cap:Nat) (l:List Con):Prop:=ConRow w ao n l∧Room1 B w 38 5 ao n cap
def InsAnsC (B:Nat) (ao:Option Addr) (n cap:Nat) (l:List Con) (w:World) (e:Ending) (w':World):Prop:=
 ∃ao' cap',e=.returned (.slice ao' (n+1) cap')∧CRm B w' ao' (n+1) cap' l∧Mks (fun k=>cap≠0∧∃N,Cel w 38 k N∧B≤k∧∃o,ao=some ⟨k,o,none⟩) w w'∧(cap≠0∧ao'=ao∨∃g',ao'=some ⟨g',0,none⟩∧w.heap.size≤g')
theorem CRm.cells {B g n cap:Nat} {w:World} {l:List Con} (h:CRm B w (some ⟨g,0,none⟩) n cap l) (h0:0<cap):∃M,B≤g∧Lay w 38 g (M*5) (ccells l)∧cap≤M∧n=l.length∧n≤cap:=by
 obtain ⟨h1,h2,h4⟩:=h
 rcases h4 with e | ⟨g',M,e,hB,hc,hM⟩
 ·omega
 ·cases e
  have hl:=h1.1
  exact ⟨M,hB,lay_of hc (fun j u hj=>by have:=ccells_row h1 j u hj;rwa [Nat.zero_add] at this) (by rw [ccells_len,←hl];exact Nat.mul_le_mul_right _ (by omega)),hM,hl,h2⟩
theorem Lay.Crm {B g n cap M:Nat} {w:World} {l:List Con} (h:Lay w 38 g (M*5) (ccells l)) (hB:B≤g) (hM:cap≤M) (hn:n=l.length) (hc:n≤cap):CRm B w (some ⟨g,0,none⟩) n cap l:=by
 subst hn
 refine ⟨?_,hc,.inr ⟨g,M,rfl,hB,h.cel,hM⟩⟩
 exact h.rowC
theorem insertC_end {B:Nat} (g n cap gv m:Nat) (hm:m=1) (l:List Con) (q:Con) (w:World) (h:CRm B w (some ⟨g,0,none⟩) n cap l) (hv:Blk w gv (ccell q).toArray 38) (hne:g≠gv) (hroom:n+1≤cap) (hn:n≤1048576) :
  Calls Tryz.prog 72 #[.slice (some ⟨g,0,none⟩) n cap,.int .i64 (n:Int),.slice (some ⟨gv,0,none⟩) m m] w (InsAnsC B (some ⟨g,0,none⟩) n cap (l++[q]) w):=by
 obtain ⟨i0,z,hi0,hsz,hz0,hzc,hb0,hb1⟩:=infoC
 obtain ⟨M,hB,hlay,hM,hl,hnc⟩:=h.cells (by omega)
 have hnl:(ccell q).length=5:=rfl
 obtain ⟨N',hN'⟩:∃k,k=n+1:=⟨_,rfl⟩
 obtain ⟨W',hW'⟩:∃k,k=(w.setCells g (0+n*i0.size) (ccell q)):=⟨_,rfl⟩
 have HRUN:=hide (fun ty=>show (Builtin.append_ #[32,32] ty #[.slice (some ⟨g,0,none⟩) n cap,.slice (some ⟨gv,0,none⟩) m m]).run Tryz.prog w=.ok (.slice (some ⟨g,0,none⟩) N' cap) W' from by
  rw [hm,hN',hW']
  exact run_append_room_cells (P:=Tryz.prog) w 32 ty 38 i0 Tryz.underlying32 hi0 g 0 n cap ⟨gv,0,none⟩ 1 1 (ccell q) (by rw [hsz,hnl]) (fun j u hj=>by
   rw [Addr.add_lit]
   have h1:=hv.at j
   rw [List.getElem?_toArray,hj] at h1
   rw [Nat.zero_add]
   exact h1) (fun u hu=>ccells_one [q] u (by simpa [ccells] using hu)) hroom (fun j hj=>hlay.isThere (by rw [hsz];rw [hnl] at hj;have:=Nat.mul_le_mul_right 5 (show n+1≤M by omega);omega)) (fun j hj=>hlay.frozen _))
 have HA:=hide (show InsAnsC B (some ⟨g,0,none⟩) n cap (l++[q]) w (.returned (.slice (some ⟨g,0,none⟩) N' cap)) W' from by
  rw [hN',hW']
  exact ⟨some ⟨g,0,none⟩,cap,rfl,Lay.Crm (M:=M) (hlay.cells _ _ (by rw [hsz,hnl];have:=Nat.mul_le_mul_right 5 (show n+1≤M by omega);omega) _ (by rw [ccells_len,List.length_append];have:=Nat.mul_le_mul_right 5 (show n+1≤M by omega);simp;omega) (fun j u hj=>by
   rw [ccells_append] at hj
   have hcl:(ccells l).length=n*5:=by rw [ccells_len,hl]
   rw [hsz,hnl]
   refine ⟨fun e=>?_,fun e=>?_⟩
   ·rw [List.getElem?_append_right (by omega),hcl] at hj
    simpa [ccells,Nat.zero_add] using hj
   ·by_cases e2:j<n*5
    ·rw [List.getElem?_append_left (by omega)] at hj
     exact hlay.cell hj
    ·have:=(List.getElem?_eq_some_iff.1 hj).1
     simp [ccells,hcl] at this
     omega)) hB hM (by simp [hl]) (by omega),mks_cells (by exact ⟨by omega,_,hlay.cel,hB,0,rfl⟩) _ _ _ _ (Mks.refl _ _),.inl ⟨by omega,rfl⟩⟩)
 have hcn:¬cap=n:=by omega
 have n0:¬(m:Int)=0:=by omega
 clear h hv hlay hl hm hi0 hz0 hroom hzc hb0 hb1 hnl hM
 clear hW' hN'
 clear hsz
 go_enter Tryz.func72,Tryz.ntmps72
 go_wp2_with (at_builtin;refine Lib.wpList_append_run _ rfl _ _ _ _ rfl _ _ rfl rfl _ _ (uH HRUN _) ?_)
 go_ret
 exact uH HA
theorem zero_size (z:Value) (k s:Nat) (h:z.cells.size=s):(Builtin.zeroCells z.cells k).size=k*s:=by simp [Builtin.zeroCells,h]
theorem insertC_grow {B:Nat} (ao:Option Addr) (n cap gv m:Nat) (hm:m=1) (l:List Con) (q:Con) (w:World) (h:CRm B w ao n cap l) (hv:Blk w gv (ccell q).toArray 38) (hroom:¬n+1≤cap) (hn:n≤1048576) (hBw:B≤w.heap.size) :
  Calls Tryz.prog 72 #[.slice ao n cap,.int .i64 (n:Int),.slice (some ⟨gv,0,none⟩) m m] w (InsAnsC B ao n cap (l++[q]) w):=by
 obtain ⟨i0,z,hi0,hsz,hz0,hzc,hb0,hb1⟩:=infoC
 have hl:=h.1.1
 have hnc:=h.2.1
 have hnl:(ccell q).length=5:=rfl
 have hold:(Builtin.firstCells i0.size n (.slice ao n cap)).run Tryz.prog w.drew=.ok (ccells l).toArray w.drew:=by
  rcases h.2.2 with h0 | ⟨g,M,rfl,hB,hc,hM⟩
  ·have:l=[]:=List.eq_nil_of_length_eq_zero (by omega)
   subst this
   obtain rfl:n=0:=by omega
   cases ao with
   | none=>exact run_firstCells_none w.drew _ _ _ _
   | some ad=>exact run_firstCells_some w.drew _ 0 ad 0 cap [] (by simp) (fun j v hj=>by simp at hj)
  ·exact run_firstCells_some w.drew _ n ⟨g,0,none⟩ n cap (ccells l) (by rw [ccells_len,hsz,hl]) (fun j v hj=>by rw [Addr.add_lit];exact ccells_row h.1 j v hj)
 have hsrc:Src Tryz.prog i0.size 32 (.slice (some ⟨gv,0,none⟩) 1 1) 1 (ccell q) w:=Src.ofSlice w Tryz.underlying32 ⟨gv,0,none⟩ 1 1 _ (by rw [hsz,hnl]) (fun j u hj=>by
  rw [Addr.add_lit]
  have h1:=hv.at j
  rw [List.getElem?_toArray,hj] at h1
  rw [Nat.zero_add]
  exact h1) (fun u hu=>ccells_one [q] u (by simpa [ccells] using hu))
 have hG1:=grownCap_ge w (n+1) cap 38
 obtain ⟨G,hG⟩:∃G,grownCap w (n+1) cap 38=G:=⟨_,rfl⟩
 obtain ⟨N',hN'⟩:∃k,k=n+1:=⟨_,rfl⟩
 obtain ⟨W',hW'⟩:∃k,k=(w.drew.alloc (.cells ((ccells l++ccell q).toArray++Builtin.zeroCells z.cells (G - (n+1))) 38)):=⟨_,rfl⟩
 have HRUN:=hide (fun ty=>show (Builtin.append_ #[32,32] ty #[.slice ao n cap,.slice (some ⟨gv,0,none⟩) m m]).run Tryz.prog w=.ok (.slice (some ⟨w.heap.size,0,none⟩) N' G) W' from by
  rw [hm,hN',hW',←hG]
  exact run_append_grow_src w 32 32 ty 38 i0 z Tryz.underlying32 hi0 hz0 ao n cap (ccells l) hold _ 1 (ccell q) hsrc (by omega) (by omega) (growslice_fits_wide (by omega) (by
   have h1:(n+1+(n+1) / 4+192)≤2000000:=by omega
   have:=Nat.mul_le_mul h1 hb1
   omega)))
 rw [hG] at hG1
 have HA:=hide (show InsAnsC B ao n cap (l++[q]) w (.returned (.slice (some ⟨w.heap.size,0,none⟩) N' G)) W' from by
  rw [hN',hW']
  have hbel:Below w.heap.size w (w.drew.alloc (.cells ((ccells l++ccell q).toArray++Builtin.zeroCells z.cells (G - (n+1))) 38)):=yA (Below.refl _ w).drew _
  refine ⟨_,G,rfl,Lay.Crm (M:=G) (w:=w.drew.alloc (.cells ((ccells l++ccell q).toArray++Builtin.zeroCells z.cells (G - (n+1))) 38)) ⟨(Builtin.zeroCells z.cells (G - (n+1))).toList,?_,?_⟩ hBw (Nat.le_refl _) (by simp [hl]) (by omega),.of_below hbel,.inr ⟨_,rfl,Nat.le_refl _⟩⟩
  ·have e:(ccells (l++[q])++(Builtin.zeroCells z.cells (G - (n+1))).toList).toArray=(ccells l++ccell q).toArray++Builtin.zeroCells z.cells (G - (n+1)):=by
    rw [ccells_append]
    simp [ccells]
   rw [e]
   show (w.heap.push _)[w.heap.size]? = _
   rw [Array.getElem?_push,if_pos rfl]
  ·have h1:=zero_size z (G - (n+1)) 5 hzc
   have h2:(Builtin.zeroCells z.cells (G - (n+1))).toList.length=(G - (n+1))*5:=by rw [Array.length_toList];exact h1
   have h3:(ccells (l++[q])).length=(n+1)*5:=by rw [ccells_len];simp [hl]
   rw [List.length_append,h3,h2,←Nat.add_mul]
   congr 1
   omega)
 have HA2:=hide (show InsAnsC B ao n n (l++[q]) w (.returned (.slice (some ⟨w.heap.size,0,none⟩) N' G)) W' from by have h1:=uH HA;rw [show cap=n by omega] at h1;exact h1)
 have n0:¬(m:Int)=0:=by omega
 have HN0:=hide (fun (e:ao=none)=>show n=0 from by
  subst e
  rcases h.2.2 with h0 | ⟨g,M,e,_⟩
  ·have:=h.2.1;omega
  ·cases e)
 clear h hv hold hsrc hl hm hi0 hz0 hroom hzc hb0 hb1 hnl hG hG1
 clear hW' hN'
 clear hsz
 go_enter Tryz.func72,Tryz.ntmps72
 cases ao with
 | none=>
  have h0:n=0:=uH HN0 rfl
  subst h0
  go_wp2_with (at_builtin;refine Lib.wpList_append_run _ rfl _ _ _ _ rfl _ _ rfl rfl _ _ (uH HRUN _) ?_)
  go_ret
  exact uH HA
 | some a=>
  obtain ⟨ab,aof,asp⟩:=a
  go_wp2_with (at_builtin;refine Lib.wpList_append_run _ rfl _ _ _ _ rfl _ _ rfl rfl _ _ (uH HRUN _) ?_)
  all_goals (go_ret;first | exact uH HA | exact uH HA2)
theorem markQueueS_from (g n c:Nat) (k0:Int) (w:World) (h:Cel w 100 g (c*4)) (hc:n≤c) (hn:n≤1048576) (h0:0<k0) (h1:k0≤1000000000000000) :
  Calls Tryz.prog 35 #[.slice (some ⟨g,0,none⟩) n c,.int .i64 k0] w fun e w'=>e=.returned (.int .i64 (k0+4*(n:Int)))∧Mkd g (g+1) w w':=by
 have HQ0:=hide h
 clear h
 go_enter Tryz.func35,Tryz.ntmps35
 go_wp2
 go_loopw [1,5] (fun s i wr=>∃(j:Nat) (k:Int),j≤n∧i=.int .i64 j∧s=.int .i64 k∧k=k0+4*(j:Int)∧Hid (Cel wr 100 g (c*4))∧Hid (Mkd g (g+1) w wr)) (fun _ i _=>n - (intOf i).toNat)
 case atStart=>exact ⟨0,k0,Nat.zero_le _,rfl,rfl,by omega,HQ0,hide (Mkd.refl _ _ _)⟩
 case round=>
  obtain ⟨j,k,hj,rfl,rfl,hk,HQ,HG⟩:=hrel
  by_cases hlt:j<n
  ·have HK:=hide hk
   have hk0:0<k:=by omega
   have hk1:k≤1000000010000000:=by omega
   clear hk
   go_wp2_with fail
   refine (markText_int k _ (by omega) (by omega)).mono ?_
   rintro e w1 ⟨rfl,hb⟩
   have HQt0:=hide ((uH HQ).below hb)
   have HGt0:=hide ((uH HG).on hb)
   clear hb  HQ HG
   obtain ⟨v0,d0⟩:=(uH HQt0).cell (j:=j*4) (by omega)
   have f0:=(uH HQt0).frozen (j*4)
   have HQs0:=hide ((uH HQt0).set g (j*4) (.string (mk k.toNat)))
   have HGs0:=hide ((uH HGt0).sc g (j*4) (.string (mk k.toNat)) (Nat.le_refl _) (by omega))
   go_wp2_with fail
   refine (markText_int (k+1) _ (by omega) (by omega)).mono ?_
   rintro e w2 ⟨rfl,hb⟩
   have HQt1:=hide ((uH HQs0).below hb)
   have HGt1:=hide ((uH HGs0).on hb)
   clear hb d0 f0 HQt0 HGt0 HQs0 HGs0
   obtain ⟨v1,d1⟩:=(uH HQt1).cell (j:=j*4+1) (by omega)
   have f1:=(uH HQt1).frozen (j*4+1)
   have HQs1:=hide ((uH HQt1).set g (j*4+1) (.string (mk (k+1).toNat)))
   have HGs1:=hide ((uH HGt1).sc g (j*4+1) (.string (mk (k+1).toNat)) (Nat.le_refl _) (by omega))
   obtain ⟨v2,d2⟩:=(uH HQs1).cell (j:=j*4+2) (by omega)
   have f2:=(uH HQs1).frozen (j*4+2)
   have HQs2:=hide ((uH HQs1).set g (j*4+2) (.int .i64 (k+1+1)))
   have HGs2:=hide ((uH HGs1).sc g (j*4+2) (.int .i64 (k+1+1)) (Nat.le_refl _) (by omega))
   obtain ⟨v3,d3⟩:=(uH HQs2).cell (j:=j*4+3) (by omega)
   have f3:=(uH HQs2).frozen (j*4+3)
   have HQs3:=hide ((uH HQs2).set g (j*4+3) (.int .i64 (k+1+1+1)))
   have HGs3:=hide ((uH HGs2).sc g (j*4+3) (.int .i64 (k+1+1+1)) (Nat.le_refl _) (by omega))
   go_wp2
   go_roundw
   case rel=>exact ⟨j+1,k+1+1+1+1,by omega,by go_num,by go_num,by have:=uH HK;omega,HQs3,HGs3⟩
   case measure=>simp [intOf];omega
  ·have hjn:j=n:=by omega
   subst hjn
   go_wp2
   go_ret
   exact ⟨ret_int (by omega),uH HG⟩
theorem markMachineS_from (g n c:Nat) (k0:Int) (w:World) (h:Cel w 104 g (c*4)) (hc:n≤c) (hn:n≤1048576) (h0:0<k0) (h1:k0≤1000000000000000) :
  Calls Tryz.prog 37 #[.slice (some ⟨g,0,none⟩) n c,.int .i64 k0] w fun e w'=>e=.returned (.int .i64 (k0+4*(n:Int)))∧Mkd g (g+1) w w':=by
 have HQ0:=hide h
 clear h
 go_enter Tryz.func37,Tryz.ntmps37
 go_wp2
 go_loopw [1,5] (fun s i wr=>∃(j:Nat) (k:Int),j≤n∧i=.int .i64 j∧s=.int .i64 k∧k=k0+4*(j:Int)∧Hid (Cel wr 104 g (c*4))∧Hid (Mkd g (g+1) w wr)) (fun _ i _=>n - (intOf i).toNat)
 case atStart=>exact ⟨0,k0,Nat.zero_le _,rfl,rfl,by omega,HQ0,hide (Mkd.refl _ _ _)⟩
 case round=>
  obtain ⟨j,k,hj,rfl,rfl,hk,HQ,HG⟩:=hrel
  by_cases hlt:j<n
  ·have HK:=hide hk
   have hk0:0<k:=by omega
   have hk1:k≤1000000010000000:=by omega
   clear hk
   go_wp2_with fail
   refine (markText_int k _ (by omega) (by omega)).mono ?_
   rintro e w1 ⟨rfl,hb⟩
   have HQt0:=hide ((uH HQ).below hb)
   have HGt0:=hide ((uH HG).on hb)
   clear hb  HQ HG
   obtain ⟨v0,d0⟩:=(uH HQt0).cell (j:=j*4) (by omega)
   have f0:=(uH HQt0).frozen (j*4)
   have HQs0:=hide ((uH HQt0).set g (j*4) (.string (mk k.toNat)))
   have HGs0:=hide ((uH HGt0).sc g (j*4) (.string (mk k.toNat)) (Nat.le_refl _) (by omega))
   obtain ⟨v1,d1⟩:=(uH HQs0).cell (j:=j*4+1) (by omega)
   have f1:=(uH HQs0).frozen (j*4+1)
   have HQs1:=hide ((uH HQs0).set g (j*4+1) (.int .i64 (k+1)))
   have HGs1:=hide ((uH HGs0).sc g (j*4+1) (.int .i64 (k+1)) (Nat.le_refl _) (by omega))
   obtain ⟨v2,d2⟩:=(uH HQs1).cell (j:=j*4+2) (by omega)
   have f2:=(uH HQs1).frozen (j*4+2)
   have HQs2:=hide ((uH HQs1).set g (j*4+2) (.int .i64 (k+1+1)))
   have HGs2:=hide ((uH HGs1).sc g (j*4+2) (.int .i64 (k+1+1)) (Nat.le_refl _) (by omega))
   obtain ⟨v3,d3⟩:=(uH HQs2).cell (j:=j*4+3) (by omega)
   have f3:=(uH HQs2).frozen (j*4+3)
   have HQs3:=hide ((uH HQs2).set g (j*4+3) (.int .i64 (k+1+1+1)))
   have HGs3:=hide ((uH HGs2).sc g (j*4+3) (.int .i64 (k+1+1+1)) (Nat.le_refl _) (by omega))
   go_wp2
   go_roundw
   case rel=>exact ⟨j+1,k+1+1+1+1,by omega,by go_num,by go_num,by have:=uH HK;omega,HQs3,HGs3⟩
   case measure=>simp [intOf];omega
  ·have hjn:j=n:=by omega
   subst hjn
   go_wp2
   go_ret
   exact ⟨ret_int (by omega),uH HG⟩
theorem markContS_from (g n c:Nat) (k0:Int) (w:World) (h:Cel w 38 g (c*5)) (hc:n≤c) (hn:n≤1048576) (h0:0<k0) (h1:k0≤1000000000000000) :
  Calls Tryz.prog 16 #[.slice (some ⟨g,0,none⟩) n c,.int .i64 k0] w fun e w'=>e=.returned (.int .i64 (k0+5*(n:Int)))∧Mkd g (g+1) w w':=by
 have HQ0:=hide h
 clear h
 go_enter Tryz.func16,Tryz.ntmps16
 go_wp2
 go_loopw [1,5] (fun s i wr=>∃(j:Nat) (k:Int),j≤n∧i=.int .i64 j∧s=.int .i64 k∧k=k0+5*(j:Int)∧Hid (Cel wr 38 g (c*5))∧Hid (Mkd g (g+1) w wr)) (fun _ i _=>n - (intOf i).toNat)
 case atStart=>exact ⟨0,k0,Nat.zero_le _,rfl,rfl,by omega,HQ0,hide (Mkd.refl _ _ _)⟩
 case round=>
  obtain ⟨j,k,hj,rfl,rfl,hk,HQ,HG⟩:=hrel
  by_cases hlt:j<n
  ·have HK:=hide hk
   have hk0:0<k:=by omega
   have hk1:k≤1000000010000000:=by omega
   clear hk
   obtain ⟨v0,d0⟩:=(uH HQ).cell (j:=j*5) (by omega)
   have f0:=(uH HQ).frozen (j*5)
   have HQs0:=hide ((uH HQ).set g (j*5) (.int .i64 k))
   have HGs0:=hide ((uH HG).sc g (j*5) (.int .i64 k) (Nat.le_refl _) (by omega))
   obtain ⟨v1,d1⟩:=(uH HQs0).cell (j:=j*5+1) (by omega)
   have f1:=(uH HQs0).frozen (j*5+1)
   have HQs1:=hide ((uH HQs0).set g (j*5+1) (.int .i64 (k+1)))
   have HGs1:=hide ((uH HGs0).sc g (j*5+1) (.int .i64 (k+1)) (Nat.le_refl _) (by omega))
   go_wp2_with fail
   refine (markText_int (k+1+1) _ (by omega) (by omega)).mono ?_
   rintro e w1 ⟨rfl,hb⟩
   have HQt2:=hide ((uH HQs1).below hb)
   have HGt2:=hide ((uH HGs1).on hb)
   clear hb d0 f0 HQ HG d1 f1 HQs0 HGs0 HQs1 HGs1
   obtain ⟨v2,d2⟩:=(uH HQt2).cell (j:=j*5+2) (by omega)
   have f2:=(uH HQt2).frozen (j*5+2)
   have HQs2:=hide ((uH HQt2).set g (j*5+2) (.string (mk (k+1+1).toNat)))
   have HGs2:=hide ((uH HGt2).sc g (j*5+2) (.string (mk (k+1+1).toNat)) (Nat.le_refl _) (by omega))
   obtain ⟨v3,d3⟩:=(uH HQs2).cell (j:=j*5+3) (by omega)
   have f3:=(uH HQs2).frozen (j*5+3)
   have HQs3:=hide ((uH HQs2).set g (j*5+3) (.int .i64 (k+1+1+1)))
   have HGs3:=hide ((uH HGs2).sc g (j*5+3) (.int .i64 (k+1+1+1)) (Nat.le_refl _) (by omega))
   obtain ⟨v4,d4⟩:=(uH HQs3).cell (j:=j*5+4) (by omega)
   have f4:=(uH HQs3).frozen (j*5+4)
   have HQs4:=hide ((uH HQs3).set g (j*5+4) (.int .i64 (k+1+1+1+1)))
   have HGs4:=hide ((uH HGs3).sc g (j*5+4) (.int .i64 (k+1+1+1+1)) (Nat.le_refl _) (by omega))
   go_wp2
   go_roundw
   case rel=>exact ⟨j+1,k+1+1+1+1+1,by omega,by go_num,by go_num,by have:=uH HK;omega,HQs4,HGs4⟩
   case measure=>simp [intOf];omega
  ·have hjn:j=n:=by omega
   subst hjn
   go_wp2
   go_ret
   exact ⟨ret_int (by omega),uH HG⟩
end
end Go.Proofs.YtdhibeclkdepiaaGreat
