/-
  Texts in one: MarkO, MarkV, ScS.
-/
import Derived.Test.YtdhibeclkdepiaaGreatPackT
set_option maxRecDepth 100000
set_option maxHeartbeats 16000000
set_option linter.unusedVariables false
set_option linter.unusedSimpArgs false
namespace Go.Proofs.YtdhibeclkdepiaaGreat
section
open Go.RowKit
theorem Cel.type {w:World} {t t':TypeId} {g N N':Nat} (h:Cel w t g N) (h':Cel w t' g N'):t=t':=by
 obtain ⟨a,h1,_⟩:=h
 obtain ⟨b,h2,_⟩:=h'
 rw [h1] at h2
 cases h2
 rfl
structure Mks (S:Nat→Prop) (w w':World):Prop where
 os:w'.os=w.os
 tape:w'.tape=w.tape
 output:w'.output=w.output
 size:w.heap.size≤w'.heap.size
 block:∀k,k<w.heap.size→¬S k→w'.heap[k]? = w.heap[k]?
 cel:∀t g N,Cel w t g N→Cel w' t g N
theorem Mks.refl (S:Nat→Prop) (w:World):Mks S w w:=⟨rfl,rfl,rfl,Nat.le_refl _,fun _ _ _=>rfl,fun _ _ _ h=>h⟩
theorem Mks.trans {S:Nat→Prop} {a b c:World} (h:Mks S a b) (k:Mks S b c):Mks S a c:=
 ⟨k.os.trans h.os,k.tape.trans h.tape,k.output.trans h.output,Nat.le_trans h.size k.size,fun i hi ho=>(k.block i (Nat.lt_of_lt_of_le hi h.size) ho).trans (h.block i hi ho),fun t g N x=>k.cel t g N (h.cel t g N x)⟩
theorem Mks.mono {S S':Nat→Prop} {a b:World} (h:Mks S a b) (hs:∀k,S k→S' k):Mks S' a b:=
 ⟨h.os,h.tape,h.output,h.size,fun i hi ho=>h.block i hi (fun hk=>ho (hs i hk)),h.cel⟩
theorem Mks.of_below {S:Nat→Prop} {w w':World} (hb:Below w.heap.size w w'):Mks S w w':=⟨hb.os,hb.tape,hb.output,hb.size,fun i hi _=>hb.block i hi,fun t g N x=>x.below hb⟩
theorem Mks.on {S:Nat→Prop} {a w w':World} (h:Mks S a w) (hb:Below w.heap.size w w'):Mks S a w':=h.trans (.of_below hb)
theorem Mks.one (S:Nat→Prop) (w:World) (g j:Nat) (v:Value) (hg:S g):Mks S w (w.setCell ⟨g,j,none⟩ v):=
 ⟨rfl,rfl,rfl,by simp [World.setCell],fun k _ ho=>Below.heap_setCell _ _ _ _ (by show k≠g;intro e;exact ho (e ▸ hg)),fun t g' N x=>x.set g j v⟩
theorem Mks.sc {S:Nat→Prop} {a w:World} (h:Mks S a w) (g j:Nat) (v:Value) (hg:S g):Mks S a (w.setCell ⟨g,j,none⟩ v):=h.trans (.one S w g j v hg)
theorem Mkd.mks {g:Nat} {w w':World} (h:Mkd g (g+1) w w'):Mks (fun k=>k=g) w w':=⟨h.os,h.tape,h.output,h.size,fun i hi ho=>h.block i hi (by omega),h.cel⟩
theorem Mks.below {S:Nat→Prop} {B:Nat} {a w:World} (h:Mks S a w) (hS:∀k,S k→B≤k) (hB:B≤a.heap.size):Below B a w:=
 ⟨h.os,h.tape,h.output,h.size,fun k hk=>h.block k (by omega) (fun hs=>by have:=hS k hs;omega)⟩
theorem Mks.blk {S:Nat→Prop} {g:Nat} {a w:World} {arr:Array Value} {t:TypeId} (h:Mks S a w) (hb:Blk a g arr t) (ho:¬S g):Blk w g arr t:=(h.block g hb.lt ho).trans hb
def inR (ao:Option Addr) (n:Nat) (k:Nat):Prop:=n≠0∧∃o,ao=some ⟨k,o,none⟩
def Own1 (B E:Nat) (w:World) (t:TypeId) (sz:Nat) (ao:Option Addr) (n:Nat):Prop:=n=0∨∃g M,ao=some ⟨g,0,none⟩∧B≤g∧g<E∧Cel w t g (M*sz)∧n≤M
theorem own1_of {w:World} {B sz n n' c:Nat} {e:TypeId} {ao:Option Addr} {xs:List Value} (h:w.ownsRow B e sz (.slice ao n c) n' xs):Own1 B w.heap.size w e sz ao c:=by
 rcases h.2 with ⟨h1,_⟩ | ⟨g,cap,cur,h1,h2,h3,_,_,h4,_⟩
 ·cases h1;exact .inl rfl
 ·cases h1;exact .inr ⟨g,c,rfl,h2,lt_of_block h3,⟨cur,h3,h4⟩,Nat.le_refl _⟩
theorem Own1.below {B E:Nat} {w w':World} {t:TypeId} {sz n:Nat} {ao:Option Addr} (h:Own1 B E w t sz ao n) (hb:Below w.heap.size w w'):Own1 B E w' t sz ao n:=by
 rcases h with h | ⟨g,M,h1,h2,h3,h4,h5⟩
 ·exact .inl h
 ·exact .inr ⟨g,M,h1,h2,h3,h4.below hb,h5⟩
theorem Own1.mks {B E:Nat} {w w':World} {t:TypeId} {sz n:Nat} {ao:Option Addr} {S:Nat→Prop} (h:Own1 B E w t sz ao n) (hb:Mks S w w'):Own1 B E w' t sz ao n:=by
 rcases h with h | ⟨g,M,h1,h2,h3,h4,h5⟩
 ·exact .inl h
 ·exact .inr ⟨g,M,h1,h2,h3,hb.cel _ _ _ h4,h5⟩
theorem Own1.sc {B E:Nat} {w:World} {t:TypeId} {sz n:Nat} {ao:Option Addr} (h:Own1 B E w t sz ao n) (k j:Nat) (v:Value):Own1 B E (w.setCell ⟨k,j,none⟩ v) t sz ao n:=by
 rcases h with h | ⟨g,M,h1,h2,h3,h4,h5⟩
 ·exact .inl h
 ·exact .inr ⟨g,M,h1,h2,h3,h4.set k j v,h5⟩
theorem Own1.mono {B E B' E':Nat} {w:World} {t:TypeId} {sz n:Nat} {ao:Option Addr} (h:Own1 B E w t sz ao n) (h1:B'≤B) (h2:E≤E'):Own1 B' E' w t sz ao n:=by
 rcases h with h | ⟨g,M,a,b,c,d⟩
 ·exact .inl h
 ·exact .inr ⟨g,M,a,by omega,by omega,d⟩
theorem Own1.lies {B E:Nat} {w:World} {t:TypeId} {sz n:Nat} {ao:Option Addr} (h:Own1 B E w t sz ao n):∀k,inR ao n k→B≤k∧k<E∧∃N,Cel w t k N:=by
 rintro k ⟨hn,o,e⟩
 rcases h with h | ⟨g,M,h1,h2,h3,h4,h5⟩
 ·exact absurd h hn
 ·rw [h1] at e
  cases e
  exact ⟨h2,h3,_,h4⟩
theorem Own1.apart {B E B' E':Nat} {w:World} {t t':TypeId} {sz sz' n n':Nat} {ao bo:Option Addr} (h:Own1 B E w t sz ao n) (h':Own1 B' E' w t' sz' bo n') (ht:t≠t'):∀k,inR ao n k→¬inR bo n' k:=fun k hk hk'=>by
 obtain ⟨_,_,N,h1⟩:=h.lies k hk
 obtain ⟨_,_,N',h2⟩:=h'.lies k hk'
 exact ht (h1.type h2)
theorem cellMks {S:Nat→Prop} {w w':World} {g p:Nat} {u:Value} (h:w.cell? ⟨g,p,none⟩=some u) (hm:Mks S w w') (hg:¬S g):w'.cell? ⟨g,p,none⟩=some u:=
 (World.cell?_of_block (w:=w) (a:=⟨g,p,none⟩) (hm.block g (yG h) hg)).trans h
theorem QRow.mks {S:Nat→Prop} {w w':World} {ao:Option Addr} {len:Nat} {l:List Q} (h:QRow w ao len l) (hm:Mks S w w') (hs:∀k,inR ao len k→¬S k):QRow w' ao len l:=by
 obtain ⟨h1,h2⟩:=h
 refine ⟨h1,?_⟩
 rcases h2 with h2 | ⟨b,off,h3,h4⟩
 ·exact .inl h2
 ·by_cases hz:len=0
  ·exact .inl hz
  ·have hb:=hs b ⟨hz,off,h3⟩
   exact .inr ⟨b,off,h3,fun i h=>let ⟨a,c,d,e⟩:=h4 i h;⟨cellMks a hm hb,cellMks c hm hb,cellMks d hm hb,cellMks e hm hb⟩⟩
theorem MacRow.mks {S:Nat→Prop} {w w':World} {ao:Option Addr} {len:Nat} {l:List Mac} (h:MacRow w ao len l) (hm:Mks S w w') (hs:∀k,inR ao len k→¬S k):MacRow w' ao len l:=by
 obtain ⟨h1,h2⟩:=h
 refine ⟨h1,?_⟩
 rcases h2 with h2 | ⟨b,off,h3,h4⟩
 ·exact .inl h2
 ·by_cases hz:len=0
  ·exact .inl hz
  ·have hb:=hs b ⟨hz,off,h3⟩
   exact .inr ⟨b,off,h3,fun i h=>let ⟨a,c,d,e⟩:=h4 i h;⟨cellMks a hm hb,cellMks c hm hb,cellMks d hm hb,cellMks e hm hb⟩⟩
theorem ConRow.mks {S:Nat→Prop} {w w':World} {ao:Option Addr} {len:Nat} {l:List Con} (h:ConRow w ao len l) (hm:Mks S w w') (hs:∀k,inR ao len k→¬S k):ConRow w' ao len l:=by
 obtain ⟨h1,h2⟩:=h
 refine ⟨h1,?_⟩
 rcases h2 with h2 | ⟨b,off,h3,h4⟩
 ·exact .inl h2
 ·by_cases hz:len=0
  ·exact .inl hz
  ·have hb:=hs b ⟨hz,off,h3⟩
   exact .inr ⟨b,off,h3,fun i h=>let ⟨a,c,d,e,f⟩:=h4 i h;⟨cellMks a hm hb,cellMks c hm hb,cellMks d hm hb,cellMks e hm hb,cellMks f hm hb⟩⟩
theorem AskRow.mks {S:Nat→Prop} {w w':World} {ao:Option Addr} {len:Nat} {l:List Ask} (h:AskRow w ao len l) (hm:Mks S w w') (hs:∀k,inR ao len k→¬S k):AskRow w' ao len l:=by
 obtain ⟨h1,h2⟩:=h
 refine ⟨h1,?_⟩
 rcases h2 with h2 | ⟨b,off,h3,h4⟩
 ·exact .inl h2
 ·by_cases hz:len=0
  ·exact .inl hz
  ·have hb:=hs b ⟨hz,off,h3⟩
   exact .inr ⟨b,off,h3,fun i h=>let ⟨a,c,d,e,f⟩:=h4 i h;⟨cellMks a hm hb,cellMks c hm hb,cellMks d hm hb,cellMks e hm hb,cellMks f hm hb⟩⟩
theorem AVRow.mks {S:Nat→Prop} {w w':World} {ao:Option Addr} {len:Nat} {l:List AV} (h:AVRow w ao len l) (hm:Mks S w w') (hs:∀k,inR ao len k→¬S k):AVRow w' ao len l:=by
 obtain ⟨h1,h2⟩:=h
 refine ⟨h1,?_⟩
 rcases h2 with h2 | ⟨b,off,h3,h4⟩
 ·exact .inl h2
 ·by_cases hz:len=0
  ·exact .inl hz
  ·have hb:=hs b ⟨hz,off,h3⟩
   exact .inr ⟨b,off,h3,fun i h=>let ⟨a,c,d⟩:=h4 i h;⟨cellMks a hm hb,cellMks c hm hb,cellMks d hm hb⟩⟩
theorem AsksM.mks {S:Nat→Prop} {w w':World} (hm:Mks S w w'):∀(l:List AV) (K:Nat),AsksM w K l→(∀v ∈ l,∀k,inR v.ao v.len k→¬S k)→AsksM w' K l
 | [],_,_,_=>trivial
 | v::t,K,h,hs=>⟨h.1.mks hm (hs v (by simp)),AsksM.mks hm t _ h.2 (fun u hu=>hs u (by simp [hu]))⟩
theorem AsksM_snoc {w:World}:∀(l:List AV) (K:Nat) (v:AV),AsksM w K l→AskRow w v.ao v.len (marksA (endM K l+2) v.len)→AsksM w K (l++[v])
 | [],K,v,_,h=>⟨h,trivial⟩
 | u::t,K,v,h,h'=>⟨h.1,AsksM_snoc t _ v h.2 h'⟩
theorem hsM_snoc:∀(l:List AV) (K:Nat) (v:AV),hsM K (l++[v])=hsM K l++[⟨(endM K l:Int),109::dgs (endM K l+1),v.ao,v.len,v.cap⟩]
 | [],K,v=>rfl
 | u::t,K,v=>by simp only [List.cons_append,hsM,endM,hsM_snoc t]
theorem endM_mono:∀(l:List AV) (K j:Nat),endM K (l.take j)≤endM K l
 | [],K,j=>by simp
 | v::t,K,0=>by simp only [List.take_zero,endM];have:=endM_ge t (K+2+5*v.len);omega
 | v::t,K,j+1=>by simp only [List.take_succ_cons,endM];exact endM_mono t _ _
theorem endM_le:∀(l:List AV) (K m:Nat),(∀v ∈ l,v.len≤m)→endM K l≤K+l.length*(2+5*m)
 | [],K,m,_=>by simp [endM]
 | v::t,K,m,h=>by
  have h1:=endM_le t (K+2+5*v.len) m (fun u hu=>h u (by simp [hu]))
  have h2:=h v (by simp)
  simp only [endM,List.length_cons,Nat.add_mul]
  omega
def Apart (u v:AV):Prop:=u.len=0∨v.len=0∨u.ao≠v.ao
theorem markMachineS_zero (ao:Option Addr) (c:Nat) (K:Int) (w:World) :
  Calls Tryz.prog 37 #[.slice ao 0 c,.int .i64 K] w fun e w'=>e=.returned (.int .i64 K)∧w=w':=by
 go_enter Tryz.func37,Tryz.ntmps37
 go_wp2
 go_loopw [1,5] (fun s i wr=>i=.int .i64 0∧s=.int .i64 K∧wr=w) (fun _ _ _=>0)
 case atStart=>exact ⟨rfl,rfl,rfl⟩
 case round=>
  obtain ⟨rfl,rfl,rfl⟩:=hrel
  go_wp2
  go_ret
  exact ⟨rfl,rfl⟩
theorem markContS_zero (ao:Option Addr) (c:Nat) (K:Int) (w:World) :
  Calls Tryz.prog 16 #[.slice ao 0 c,.int .i64 K] w fun e w'=>e=.returned (.int .i64 K)∧w=w':=by
 go_enter Tryz.func16,Tryz.ntmps16
 go_wp2
 go_loopw [1,5] (fun s i wr=>i=.int .i64 0∧s=.int .i64 K∧wr=w) (fun _ _ _=>0)
 case atStart=>exact ⟨rfl,rfl,rfl⟩
 case round=>
  obtain ⟨rfl,rfl,rfl⟩:=hrel
  go_wp2
  go_ret
  exact ⟨rfl,rfl⟩
theorem markAskS_zero (ao:Option Addr) (c:Nat) (K:Int) (w:World) :
  Calls Tryz.prog 77 #[.slice ao 0 c,.int .i64 K] w fun e w'=>e=.returned (.int .i64 K)∧w=w':=by
 go_enter Tryz.func77,Tryz.ntmps77
 go_wp2
 go_loopw [1,5] (fun s i wr=>i=.int .i64 0∧s=.int .i64 K∧wr=w) (fun _ _ _=>0)
 case atStart=>exact ⟨rfl,rfl,rfl⟩
 case round=>
  obtain ⟨rfl,rfl,rfl⟩:=hrel
  go_wp2
  go_ret
  exact ⟨rfl,rfl⟩
theorem markAppS_zero (ao:Option Addr) (c:Nat) (K:Int) (w:World) :
  Calls Tryz.prog 36 #[.slice ao 0 c,.int .i64 K] w fun e w'=>e=.returned (.int .i64 K)∧w=w':=by
 go_enter Tryz.func36,Tryz.ntmps36
 go_wp2
 go_loopw [1,5] (fun s i wr=>i=.int .i64 0∧s=.int .i64 K∧wr=w) (fun _ _ _=>0)
 case atStart=>exact ⟨rfl,rfl,rfl⟩
 case round=>
  obtain ⟨rfl,rfl,rfl⟩:=hrel
  go_wp2
  go_ret
  exact ⟨rfl,rfl⟩
theorem markQueueS_own {B E n c:Nat} {ao:Option Addr} {w:World} (h:Own1 B E w 100 4 ao n) (hn:n≤1048576) :
  Calls Tryz.prog 35 #[.slice ao n c,.int .i64 1] w fun e w'=>e=.returned (.int .i64 (1+4*(n:Int)))∧QRow w' ao n (marksQ n)∧Mks (inR ao n) w w':=by
 by_cases hz:n=0
 ·subst hz
  refine (markQueueS_zero ao c w).mono ?_
  rintro e w' ⟨rfl,rfl⟩
  exact ⟨rfl,⟨rfl,.inl rfl⟩,.refl _ _⟩
 ·rcases h with h | ⟨g,M,rfl,h2,h3,h4,h5⟩
  ·exact absurd h hz
  ·have ha:QAny w 100 g M:=by obtain ⟨arr,h1,h2⟩:=h4;exact ⟨arr,h1,h2,fun i hi=>absurd hi (by simp)⟩
   refine (markQueueS_full g n M (d:=c) w ha h5 hn).mono ?_
   rintro e w' ⟨rfl,hq,hg⟩
   refine ⟨rfl,hq.rowOf (marksQ_len _).symm,hg.os,hg.tape,hg.output,hg.size,fun k hk hs=>hg.block k hk (fun e=>hs ⟨hz,0,by rw [Option.some.inj e]⟩),fun t g' N x=>?_⟩
   by_cases e:g'=g
   ·subst e
    obtain rfl:=x.type h4
    obtain ⟨a1,h1,h6,_⟩:=hq
    obtain ⟨a2,h2',h3'⟩:=x
    obtain ⟨a3,h4',h5'⟩:=h4
    rw [h2'] at h4'
    cases h4'
    exact ⟨a1,h1,by omega⟩
   ·exact x.of_block (hg.block g' x.lt (fun e'=>e (Option.some.inj e')))
theorem markMachineS_own {B E n c:Nat} {ao:Option Addr} {w:World} (K:Nat) (h:Own1 B E w 104 4 ao n) (hn:n≤1048576) (h0:0<K) (h1:K≤1000000000000000) :
  Calls Tryz.prog 37 #[.slice ao n c,.int .i64 (K:Int)] w fun e w'=>e=.returned (.int .i64 ((K:Int)+4*(n:Int)))∧MacRow w' ao n (marksM K n)∧Mks (inR ao n) w w':=by
 by_cases hz:n=0
 ·subst hz
  refine (markMachineS_zero ao c K w).mono ?_
  rintro e w' ⟨rfl,rfl⟩
  exact ⟨by simp,⟨by simp [marksM],.inl rfl⟩,.refl _ _⟩
 ·rcases h with h | ⟨g,M,rfl,h2,h3,h4,h5⟩
  ·exact absurd h hz
  ·refine (markMachineS_full g n M K (d:=c) w h4 h5 hn h0 h1).mono ?_
   rintro e w' ⟨rfl,hq,hg⟩
   exact ⟨rfl,hq,hg.mks.mono (fun k e=>⟨hz,0,by rw [e]⟩)⟩
theorem markContS_own {B E n c:Nat} {ao:Option Addr} {w:World} (K:Nat) (h:Own1 B E w 38 5 ao n) (hn:n≤1048576) (h0:0<K) (h1:K≤1000000000000000) :
  Calls Tryz.prog 16 #[.slice ao n c,.int .i64 (K:Int)] w fun e w'=>e=.returned (.int .i64 ((K:Int)+5*(n:Int)))∧ConRow w' ao n (marksC K n)∧Mks (inR ao n) w w':=by
 by_cases hz:n=0
 ·subst hz
  refine (markContS_zero ao c K w).mono ?_
  rintro e w' ⟨rfl,rfl⟩
  exact ⟨by simp,⟨by simp [marksC],.inl rfl⟩,.refl _ _⟩
 ·rcases h with h | ⟨g,M,rfl,h2,h3,h4,h5⟩
  ·exact absurd h hz
  ·refine (markContS_full g n M K (d:=c) w h4 h5 hn h0 h1).mono ?_
   rintro e w' ⟨rfl,hq,hg⟩
   exact ⟨rfl,hq,hg.mks.mono (fun k e=>⟨hz,0,by rw [e]⟩)⟩
theorem markAskS_own {B E n c:Nat} {ao:Option Addr} {w:World} (K:Nat) (h:Own1 B E w 77 5 ao n) (hn:n≤1048576) (h0:0<K) (h1:K≤1000000000000000) :
  Calls Tryz.prog 77 #[.slice ao n c,.int .i64 (K:Int)] w fun e w'=>e=.returned (.int .i64 ((K:Int)+5*(n:Int)))∧AskRow w' ao n (marksA K n)∧Mks (inR ao n) w w':=by
 by_cases hz:n=0
 ·subst hz
  refine (markAskS_zero ao c K w).mono ?_
  rintro e w' ⟨rfl,rfl⟩
  exact ⟨by simp,⟨by simp [marksA],.inl rfl⟩,.refl _ _⟩
 ·rcases h with h | ⟨g,M,rfl,h2,h3,h4,h5⟩
  ·exact absurd h hz
  ·refine (markAskS_from g n M K (d:=c) w h4 h5 hn h0 h1).mono ?_
   rintro e w' ⟨rfl,hq,hg⟩
   exact ⟨rfl,hq,hg.mks.mono (fun k e=>⟨hz,0,by rw [e]⟩)⟩
def AVBlk (w:World) (g M:Nat) (l:List AV):Prop:=Cel w 74 g (M*3)∧l.length≤M∧∀i (h:i<l.length),AVAt w g (i*3) l[i]
theorem AVBlk.below {w w':World} {g M:Nat} {l:List AV} (h:AVBlk w g M l) (hb:Below w.heap.size w w'):AVBlk w' g M l:=⟨h.1.below hb,h.2.1,fun i hi=>(h.2.2 i hi).below hb⟩
theorem AVBlk.mks {S:Nat→Prop} {w w':World} {g M:Nat} {l:List AV} (h:AVBlk w g M l) (hm:Mks S w w') (hs:¬S g):AVBlk w' g M l:=
 ⟨hm.cel _ _ _ h.1,h.2.1,fun i hi=>let ⟨a,b,c⟩:=h.2.2 i hi;⟨cellMks a hm hs,cellMks b hm hs,cellMks c hm hs⟩⟩
theorem AVBlk.id {w:World} {g M i:Nat} {l:List AV} (h:AVBlk w g M l) (hi:i<l.length) (x:Int):AVBlk (w.setCell ⟨g,i*3,none⟩ (.int .i64 x)) g M (l.set i ⟨x,l[i].queue,l[i].ao,l[i].len,l[i].cap⟩):=by
 refine ⟨h.1.set _ _ _,by simpa using h.2.1,fun j hj=>?_⟩
 have hj':j<l.length:=by simpa using hj
 obtain ⟨a,b,c⟩:=h.2.2 j hj'
 by_cases e:i=j
 ·subst e
  simp only [List.getElem_set_self]
  exact ⟨World.cell?_setCell_same _ ⟨g,i*3,none⟩ _ a,cellKeep b (by omega),cellKeep c (by omega)⟩
 ·rw [List.getElem_set_ne e]
  exact ⟨cellKeep a (by omega),cellKeep b (by omega),cellKeep c (by omega)⟩
theorem AVBlk.qu {w:World} {g M i:Nat} {l:List AV} (h:AVBlk w g M l) (hi:i<l.length) (x:List UInt8):AVBlk (w.setCell ⟨g,i*3+1,none⟩ (.string (bs x))) g M (l.set i ⟨l[i].id,x,l[i].ao,l[i].len,l[i].cap⟩):=by
 refine ⟨h.1.set _ _ _,by simpa using h.2.1,fun j hj=>?_⟩
 have hj':j<l.length:=by simpa using hj
 obtain ⟨a,b,c⟩:=h.2.2 j hj'
 by_cases e:i=j
 ·subst e
  simp only [List.getElem_set_self]
  exact ⟨cellKeep a (by omega),World.cell?_setCell_same _ ⟨g,i*3+1,none⟩ _ b,cellKeep c (by omega)⟩
 ·rw [List.getElem_set_ne e]
  exact ⟨cellKeep a (by omega),cellKeep b (by omega),cellKeep c (by omega)⟩
theorem AVBlk.row {w:World} {g M:Nat} {l:List AV} (h:AVBlk w g M l):AVRow w (some ⟨g,0,none⟩) l.length l:=⟨rfl,.inr ⟨g,0,rfl,fun i hi=>by rw [Nat.zero_add];exact h.2.2 i hi⟩⟩
theorem markAppS_own {B E n c:Nat} {ao:Option Addr} {w:World} (K:Nat) (hs:List AV) (h:Own1 B E w 74 3 ao n) (hr:AVRow w ao n hs) (ha:∀v ∈ hs,Own1 B E w 77 5 v.ao v.len∧v.len≤1048576) (hp:hs.Pairwise Apart) (hn:n≤1048576) (h0:0<K) (h1:endM K hs≤100000000000000) :
  Calls Tryz.prog 36 #[.slice ao n c,.int .i64 (K:Int)] w fun e w'=>e=.returned (.int .i64 (endM K hs:Int))∧AVRow w' ao n (hsM K hs)∧AsksM w' K hs∧Mks (fun k=>inR ao n k∨∃v ∈ hs,inR v.ao v.len k) w w':=by
 by_cases hz:n=0
 ·subst hz
  have hl:hs=[]:=List.length_eq_zero_iff.1 hr.1.symm
  subst hl
  refine (markAppS_zero ao c K w).mono ?_
  rintro e w' ⟨rfl,rfl⟩
  exact ⟨rfl,⟨rfl,.inl rfl⟩,trivial,.refl _ _⟩
 rcases h with h | ⟨g,M,rfl,h2,h3,h4,h5⟩
 ·exact absurd h hz
 have HLN:=hide hr.1
 have HA:=hide ha
 have HP:=hide hp
 have HV:=hide (show AVBlk w g M (hsM K (hs.take 0)++hs.drop 0) from by
  refine ⟨h4,?_,fun i hi=>?_⟩
  ·simp [hsM];have:=hr.1;omega
  ·simp only [List.take_zero,hsM,List.nil_append,List.drop_zero] at hi ⊢
   rcases hr.2 with e | ⟨b,off,e,hh⟩
   ·exact absurd e hz
   ·cases e
    have:=hh i hi
    rwa [Nat.zero_add] at this)
 have HE:=hide (fun j=>endM_mono hs K j)
 have HG:=hide (fun j=>endM_ge (hs.take j) K)
 obtain ⟨S,hS⟩:∃S:Nat→Prop,S=(fun k=>inR (some ⟨g,0,none⟩) n k∨∃v ∈ hs,inR v.ao v.len k):=⟨_,rfl⟩
 have HSg:=hide (show S g by rw [hS];exact .inl ⟨hz,0,rfl⟩)
 have HSv:=hide (show ∀v ∈ hs,∀k,inR v.ao v.len k→S k by rw [hS];exact fun v hv k hk=>.inr ⟨v,hv,hk⟩)
 rw [←hS]
 clear hr ha hp h4 hS h2 h3
 go_enter Tryz.func36,Tryz.ntmps36
 go_wp2
 go_loopw [1,5] (fun s i wr=>∃(j:Nat) (k:Nat),j≤n∧i=.int .i64 j∧s=.int .i64 (k:Int)∧Hid (k=endM K (hs.take j))∧Hid (AVBlk wr g M (hsM K (hs.take j)++hs.drop j))∧Hid (AsksM wr K (hs.take j))∧Hid (Mks S w wr)) (fun _ i _=>n - (intOf i).toNat)
 case atStart=>exact ⟨0,K,Nat.zero_le _,rfl,rfl,hide (by simp [endM]),HV,hide (by simp [AsksM]),hide (Mks.refl _ _)⟩
 case round=>
  obtain ⟨j,k,hj,rfl,rfl,HK,HQ,HM,HS⟩:=hrel
  by_cases hlt:j<n
  ·have hjl:j<hs.length:=by have:=uH HLN;omega
   have hst:=endM_step hs K j hjl
   have hle:=uH HE (j+1)
   have hgk:=uH HG j
   rw [←uH HK] at hst hgk
   have hjL:j<(hsM K (hs.take j)++hs.drop j).length:=by rw [List.length_append,hsM_len,List.length_take,List.length_drop];omega
   have hLj:(hsM K (hs.take j)++hs.drop j)[j]=hs[j]:=by
    rw [List.getElem_append_right (by rw [hsM_len,List.length_take];omega)]
    simp [hsM_len,Nat.min_eq_left (Nat.le_of_lt hjl)]
   have hcel:=(uH HQ).1
   obtain ⟨v0,d0⟩:=hcel.cell (j:=j*3) (by have:=(uH HQ).2.1;omega)
   have f0:=hcel.frozen (j*3)
   have HQ1:=hide ((uH HQ).id hjL (k:Int))
   have HG1:=hide ((uH HS).sc g (j*3) (.int .i64 (k:Int)) (uH HSg))
   have HM1:=hide ((uH HM).mks (Mks.one (fun x=>x=g) _ g (j*3) (.int .i64 (k:Int)) rfl) _ _ (fun v hv x hx e=>by
    have hv':=((uH HA v (List.mem_of_mem_take hv)).1.mks (uH HS))
    obtain ⟨_,_,N,hc⟩:=hv'.lies x hx
    subst e
    exact absurd (hc.type hcel) (by decide)))
   have hk0:0<k:=by omega
   have hvl:=(uH HA _ (List.getElem_mem hjl)).2
   have hk1:k≤100000000000000:=by omega
   obtain ⟨⟨vi,vq,va,vl,vc⟩,hv⟩:∃v,hs[j]=v:=⟨_,rfl⟩
   have HVV:=hide hv
   rw [hv] at hst hvl
   rw [hLj,hv] at HQ1
   simp only at hst hvl HQ1
   have HN:=hide (show (k+2+5*vl:Nat)=endM K (hs.take (j+1)) from hst.symm)
   clear hst hle hgk hLj hv hcel HQ HM HS hjL
   go_wp2_with fail
   refine (markText_int ((k:Int)+1) _ (by omega) (by omega)).mono ?_
   rintro e w1 ⟨rfl,hb⟩
   have HQ2:=hide ((uH HQ1).below hb)
   have HG2:=hide ((uH HG1).on hb)
   have HM2:=hide (AsksM.below hb _ _ (uH HM1))
   clear hb d0 f0 HQ1 HG1 HM1
   have hjL:j<((hsM K (hs.take j)++hs.drop j).set j ⟨(k:Int),vq,va,vl,vc⟩).length:=by rw [List.length_set,List.length_append,hsM_len,List.length_take,List.length_drop];have:=uH HLN;omega
   have hcel:=(uH HQ2).1
   obtain ⟨v1,d1⟩:=hcel.cell (j:=j*3+1) (by have:=(uH HQ2).2.1;omega)
   have f1:=hcel.frozen (j*3+1)
   have HQ3:=hide (show AVBlk _ g M _ from (uH HQ2).qu hjL (109::dgs (k+1)))
   simp only [List.getElem_set_self,List.set_set] at HQ3
   have HG3:=hide ((uH HG2).sc g (j*3+1) (.string (bs (109::dgs (k+1)))) (uH HSg))
   have HM3:=hide ((uH HM2).mks (Mks.one (fun x=>x=g) _ g (j*3+1) (.string (bs (109::dgs (k+1)))) rfl) _ _ (fun v hv x hx e=>by
    have hv':=((uH HA v (List.mem_of_mem_take hv)).1.mks (uH HG2))
    obtain ⟨_,_,N,hc⟩:=hv'.lies x hx
    subst e
    exact absurd (hc.type hcel) (by decide)))
   have hmk:mk ((k:Int)+1).toNat=bs (109::dgs (k+1)):=by rw [show ((k:Int)+1).toNat=k+1 by omega];rfl
   have hjL3:j<((hsM K (hs.take j)++hs.drop j).set j ⟨(k:Int),109::dgs (k+1),va,vl,vc⟩).length:=by rw [List.length_set,List.length_append,hsM_len,List.length_take,List.length_drop];have:=uH HLN;omega
   have d2:=((uH HQ3).2.2 j hjL3).2.2
   simp only [List.getElem_set_self] at d2
   have hown:=(uH HA _ (List.getElem_mem (show j<hs.length by have:=uH HLN;omega))).1.mks (uH HG3)
   rw [uH HVV] at hown
   simp only at hown
   have CA:=hide (by have:=markAskS_own (c:=vc) (k+2) hown hvl (by omega) (by omega);rw [show ((k+2:Nat):Int)=(k:Int)+1+1 by omega] at this;exact this)
   have HOW:=hide hown
   rw [hmk]
   clear hcel HQ2 HG2 HM2 hjL hjL3 hown hmk
   go_wp2_with fail
   refine (uH CA).mono ?_
   rintro e w2 ⟨rfl,hrow,hm⟩
   have HR4:=hide hrow
   have HQ4:=hide ((uH HQ3).mks hm (fun hk=>by
    obtain ⟨_,_,N,hc⟩:=(uH HOW).lies g hk
    exact absurd (hc.type (uH HQ3).1) (by decide)))
   have HG4:=hide ((uH HG3).trans (hm.mono (fun x hx=>uH HSv hs[j] (List.getElem_mem (show j<hs.length by have:=uH HLN;omega)) x (by rw [uH HVV];exact hx))))
   have HM4:=hide ((uH HM3).mks hm _ _ (fun v hv x hx hx'=>by
    obtain ⟨i,hi,rfl⟩:=List.getElem_of_mem hv
    have hi':i<j∧i<hs.length:=by rw [List.length_take] at hi;omega
    have hap:=(List.pairwise_iff_getElem.1 (uH HP)) i j hi'.2 (by have:=uH HLN;omega) hi'.1
    rw [List.getElem_take] at hx
    rw [uH HVV] at hap
    obtain ⟨hn1,o1,e1⟩:=hx
    obtain ⟨hn2,o2,e2⟩:=hx'
    rcases hap with e | e | e
    ·exact hn1 e
    ·exact hn2 e
    ·have hi1:=(uH HA hs[i] (List.getElem_mem hi'.2)).1
     have hi2:=uH HOW
     rcases hi1 with z | ⟨g1,M1,z,_⟩
     ·exact hn1 z
     ·rcases hi2 with y | ⟨g2,M2,y,_⟩
      ·exact hn2 y
      ·rw [z] at e1
       rw [y] at e2
       cases e1
       cases e2
       exact e (z.trans y.symm)))
   clear hrow hm CA HQ3 HG3 HM3 d1 f1 d2
   go_wp2
   go_roundw
   case rel=>
    have hjl:j<hs.length:=by have:=uH HLN;omega
    have htk:hs.take (j+1)=hs.take j++[hs[j]]:=by rw [List.take_succ_eq_append_getElem hjl]
    refine ⟨j+1,k+2+5*vl,by omega,by go_num,by refine congrArg _ ?_;omega,HN,hide ?_,hide ?_,HG4⟩
    ·have:=uH HQ4
     rw [List.drop_eq_getElem_cons hjl] at this
     rw [htk,hsM_snoc,uH HVV,←uH HK]
     rw [List.set_append_right _ _ (by rw [hsM_len,List.length_take];omega)] at this
     rw [hsM_len,List.length_take,Nat.min_eq_left (by omega),Nat.sub_self,sB] at this
     rw [List.append_assoc]
     exact this
    ·rw [htk]
     refine AsksM_snoc _ _ _ (uH HM4) ?_
     rw [uH HVV,←uH HK]
     exact uH HR4
   case measure=>simp [intOf];omega
  ·have hjn:j=n:=by omega
   have hth:hs.take j=hs:=List.take_of_length_le (by have:=uH HLN;omega)
   have hdr:hs.drop j=[]:=List.drop_of_length_le (by have:=uH HLN;omega)
   have j1:¬(j:Int)<n:=by omega
   have hke:k=endM K hs:=by rw [uH HK,hth]
   go_wp2
   go_ret
   refine ⟨rfl,?_,by have:=uH HM;rwa [hth] at this,uH HS⟩
   have:=(uH HQ).row
   rw [hth,hdr,List.append_nil,hsM_len,←uH HLN] at this
   exact this
structure SCap (x:Sls):Prop where
 q:x.ql≤x.qc
 a:x.al≤x.ac
 m:x.ml≤x.mc
 c:x.cl≤x.cc
def RmS (B E:Nat) (w:World) (x:Sls) (hs:List AV):Prop:=Own1 B E w 100 4 x.qa x.qc∧Own1 B E w 74 3 x.aa x.ac∧Own1 B E w 104 4 x.ma x.mc∧Own1 B E w 38 5 x.ca x.cc∧∀v ∈ hs,Own1 B E w 77 5 v.ao v.cap
theorem RmS.map {B E B' E':Nat} {w w':World} {x:Sls} {hs:List AV} (h:RmS B E w x hs) (f:∀{t:TypeId} {sz n:Nat} {ao:Option Addr},Own1 B E w t sz ao n→Own1 B' E' w' t sz ao n):RmS B' E' w' x hs:=⟨f h.1,f h.2.1,f h.2.2.1,f h.2.2.2.1,fun v hv=>f (h.2.2.2.2 v hv)⟩
theorem RmS.below {B E:Nat} {w w':World} {x:Sls} {hs:List AV} (h:RmS B E w x hs) (hb:Below w.heap.size w w'):RmS B E w' x hs:=h.map (fun k=>k.below hb)
theorem RmS.mono {B E B' E':Nat} {w:World} {x:Sls} {hs:List AV} (h:RmS B E w x hs) (h1:B'≤B) (h2:E≤E'):RmS B' E' w x hs:=h.map (fun k=>k.mono h1 h2)
theorem RmS.mks {B E:Nat} {S:Nat→Prop} {w w':World} {x:Sls} {hs:List AV} (h:RmS B E w x hs) (hm:Mks S w w'):RmS B E w' x hs:=h.map (fun k=>k.mks hm)
theorem RmS.sc {B E:Nat} {w:World} {x:Sls} {hs:List AV} (h:RmS B E w x hs) (k j:Nat) (v:Value):RmS B E (w.setCell ⟨k,j,none⟩ v) x hs:=h.map (fun o=>o.sc k j v)
structure SAns (B E:Nat) (w:World) (x:Sls) (s:St) (hs:List AV):Prop where
 row:SRow w x s
 q:Own1 B E w 100 4 x.qa x.ql
 a:Own1 B E w 74 3 x.aa x.al
 m:Own1 B E w 104 4 x.ma x.ml
 c:Own1 B E w 38 5 x.ca x.cl
 av:AVRow w x.aa x.al hs
 heads:Heads w hs s.apps
 asks:∀v ∈ hs,Own1 B E w 77 5 v.ao v.len
 apart:hs.Pairwise Apart
 cap:SCap x
 rm:RmS B E w x hs
theorem Heads.below {w w':World} {hs:List AV} {l:List Appl} (h:Heads w hs l) (hb:Below w.heap.size w w'):Heads w' hs l:=⟨h.1,fun i h1 h2=>let ⟨a,b,c,d⟩:=h.2 i h1 h2;⟨a,b,c.below hb,d⟩⟩
theorem SAns.below {B E:Nat} {w w':World} {x:Sls} {s:St} {hs:List AV} (h:SAns B E w x s hs) (hb:Below w.heap.size w w'):SAns B E w' x s hs:=
 ⟨h.row.below hb,h.q.below hb,h.a.below hb,h.m.below hb,h.c.below hb,h.av.below hb,h.heads.below hb,fun v hv=>(h.asks v hv).below hb,h.apart,h.cap,h.rm.below hb⟩
theorem SAns.mono {B E B' E':Nat} {w:World} {x:Sls} {s:St} {hs:List AV} (h:SAns B E w x s hs) (h1:B'≤B) (h2:E≤E'):SAns B' E' w x s hs:=
 ⟨h.row,h.q.mono h1 h2,h.a.mono h1 h2,h.m.mono h1 h2,h.c.mono h1 h2,h.av,h.heads,fun v hv=>(h.asks v hv).mono h1 h2,h.apart,h.cap,h.rm.mono h1 h2⟩
theorem SAns.mks {B E:Nat} {S:Nat→Prop} {w w':World} {x:Sls} {s:St} {hs:List AV} (h:SAns B E w x s hs) (hm:Mks S w w') (hS:∀k,S k→k<B∨E≤k):SAns B E w' x s hs:=by
 have key:∀{t:TypeId} {sz n:Nat} {ao:Option Addr},Own1 B E w t sz ao n→∀k,inR ao n k→¬S k:=fun ho k hk hs=>by
  obtain ⟨h1,h2,_⟩:=ho.lies k hk
  have:=hS k hs
  omega
 have hrow:Heads w' hs s.apps:=⟨h.heads.1,fun i h1 h2=>by
  obtain ⟨a,b,c,d⟩:=h.heads.2 i h1 h2
  exact ⟨a,b,c.mks hm (key (h.asks _ (List.getElem_mem h1))),d⟩⟩
 have hav:=h.av.mks hm (key h.a)
 refine ⟨⟨h.row.1.mks hm (key h.q),?_,h.row.2.2.1.mks hm (key h.m),h.row.2.2.2.mks hm (key h.c)⟩,h.q.mks hm,h.a.mks hm,h.m.mks hm,h.c.mks hm,hav,hrow,fun v hv=>(h.asks v hv).mks hm,h.apart,h.cap,h.rm.mks hm⟩
 refine ⟨h.row.2.1.1,?_⟩
 rcases hav.2 with e | ⟨b,off,e,hh⟩
 ·exact .inl e
 ·refine .inr ⟨b,off,e,fun i hi=>?_⟩
  have hi':i<hs.length:=by rw [h.heads.1];exact hi
  obtain ⟨a1,a2,a3,a4⟩:=hrow.2 i hi' hi
  obtain ⟨c1,c2,c3⟩:=hh i hi'
  rw [a1] at c1
  rw [a2] at c2
  exact ⟨hs[i].ao,hs[i].len,hs[i].cap,c1,c2,c3,a3,a4⟩
theorem ans_len {w:World} {hs:List AV} {l:List Appl} (h:Heads w hs l) (hf:FitAppl l):∀v ∈ hs,v.len≤1048576:=by
 intro v hv
 obtain ⟨i,hi,rfl⟩:=List.getElem_of_mem hv
 have hi':i<l.length:=by rw [←h.1];exact hi
 have h1:=(h.2 i hi hi').2.2.1.1
 have h2:=(hf.2 l[i] (List.getElem_mem hi')).2.1
 omega
structure SMk (w:World) (x:Sls) (hs:List AV):Prop where
 q:QRow w x.qa x.ql (marksQ x.ql)
 a:AVRow w x.aa x.al (hsM (1+4*x.ql) hs)
 k:AsksM w (1+4*x.ql) hs
 m:MacRow w x.ma x.ml (marksM (endM (1+4*x.ql) hs) x.ml)
 c:ConRow w x.ca x.cl (marksC (endM (1+4*x.ql) hs+4*x.ml) x.cl)
 z:x.ql=0∨∃g,x.qa=some ⟨g,0,none⟩
theorem SMk.below {w w':World} {x:Sls} {hs:List AV} (h:SMk w x hs) (hb:Below w.heap.size w w'):SMk w' x hs:=⟨h.q.below hb,h.a.below hb,AsksM.below hb _ _ h.k,h.m.below hb,h.c.below hb,h.z⟩
def endS (x:Sls) (hs:List AV):Nat:=endM (1+4*x.ql) hs+4*x.ml+5*x.cl
def inS (x:Sls) (hs:List AV) (k:Nat):Prop:=inR x.qa x.ql k∨(inR x.aa x.al k∨∃v ∈ hs,inR v.ao v.len k)∨inR x.ma x.ml k∨inR x.ca x.cl k
theorem SAns.ins {B E:Nat} {w:World} {x:Sls} {s:St} {hs:List AV} (h:SAns B E w x s hs):∀k,inS x hs k→B≤k∧k<E:=by
 rintro k (hk | (hk | ⟨v,hv,hk⟩) | hk | hk)
 ·exact ⟨(h.q.lies k hk).1,(h.q.lies k hk).2.1⟩
 ·exact ⟨(h.a.lies k hk).1,(h.a.lies k hk).2.1⟩
 ·exact ⟨((h.asks v hv).lies k hk).1,((h.asks v hv).lies k hk).2.1⟩
 ·exact ⟨(h.m.lies k hk).1,(h.m.lies k hk).2.1⟩
 ·exact ⟨(h.c.lies k hk).1,(h.c.lies k hk).2.1⟩
structure SLim (x:Sls) (hs:List AV):Prop where
 q:x.ql≤1048576
 a:x.al≤1048576
 m:x.ml≤1048576
 c:x.cl≤1048576
 k:∀v ∈ hs,v.len≤1048576
 n:hs.length=x.al
theorem SAns.lim {B E:Nat} {w:World} {x:Sls} {s:St} {hs:List AV} (h:SAns B E w x s hs) (hf:FitSt s):SLim x hs:=
 ⟨by have:=h.row.1.1;have:=hf.1.1;omega,by have:=h.row.2.1.1;have:=hf.2.1.1;omega,by have:=h.row.2.2.1.1;have:=hf.2.2.1.1;omega,by have:=h.row.2.2.2.1;have:=hf.2.2.2.1;omega,ans_len h.heads hf.2.1,h.av.1.symm⟩
theorem SLim.e {x:Sls} {hs:List AV} (h:SLim x hs):1+4*x.ql≤endM (1+4*x.ql) hs∧endM (1+4*x.ql) hs≤10000000000000:=by
 have h1:=endM_ge hs (1+4*x.ql)
 have h2:=endM_le hs (1+4*x.ql) 1048576 h.k
 have h3:=h.q
 have h4:hs.length*(2+5*1048576)≤1048576*(2+5*1048576):=Nat.mul_le_mul_right _ (by have:=h.n;have:=h.a;omega)
 omega
theorem markState_ans {B E:Nat} {x:Sls} {s:St} {hs:List AV} {w:World} (h:SAns B E w x s hs) (hE:E≤w.heap.size) (hl:SLim x hs) :
  Calls Tryz.prog 11 #[sv x s,.int .i64 1] w fun e w'=>e=.returned (.int .i64 (endS x hs:Int))∧SMk w' x hs∧Mks (inS x hs) w w':=by
 have hb0:=yA (Below.refl _ w) (.cells (svc x s) 34)
 have P0:=hide (yD w (svc x s) 34)
 have HA:=hide (h.below hb0)
 have HG0:=hide (show Mks (inS x hs) w _ from .of_below hb0)
 have hlim:=hl.e
 have hsq:=hl.q
 have hsa:=hl.a
 have hsm:=hl.m
 have hsc:=hl.c
 have HK:=hide hl.k
 have hIN:=hide h.ins
 have HZ:=hide (show x.ql=0∨∃g,x.qa=some ⟨g,0,none⟩ by rcases h.q with e | ⟨g,M,e,_⟩;exact .inl e;exact .inr ⟨g,e⟩)
 have hES:endS x hs=endM (1+4*x.ql) hs+4*x.ml+5*x.cl:=rfl
 obtain ⟨e1,he1⟩:∃e,endM (1+4*x.ql) hs=e:=⟨_,rfl⟩
 have HE1:=hide he1
 rw [he1] at hlim hES
 rw [hES]
 clear h hb0 hl he1 hES
 obtain ⟨qs,clock,epoch,next,serial,apps,ms,cs⟩:=s
 obtain ⟨qa,ql,qc,aa,al,ac,ma,ml,mc,ca,cl,cc⟩:=x
 simp only at *
 have CQ:=hide (markQueueS_own (c:=qc) (uH HA).q hsq)
 go_enter Tryz.func11,Tryz.ntmps11
 go_wp2_with fail
 refine (uH CQ).mono ?_
 rintro e w1 ⟨rfl,hrow,hm1⟩
 have hin:∀k,inR qa ql k→k<w.heap.size:=fun k hk=>by have:=uH hIN k (.inl hk);omega
 have P1:=hide (hm1.blk (uH P0) (fun hk=>by have:=hin _ hk;omega))
 have R1:=hide hrow
 have OQ:=hide ((uH HA).q.mks hm1)
 have OA:=hide ((uH HA).a.mks hm1)
 have OM:=hide ((uH HA).m.mks hm1)
 have OC:=hide ((uH HA).c.mks hm1)
 have AVR:=hide ((uH HA).av.mks hm1 ((uH HA).a.apart (uH HA).q (by decide)))
 have OK:=hide (fun v hv=>((uH HA).asks v hv).mks hm1)
 have AP:=hide (uH HA).apart
 have HG1:=hide ((uH HG0).trans (hm1.mono (fun k hk=>.inl hk)))
 have p5:=(uH P1).at 5
 simp at p5
 have CA:=hide (by have:=markAppS_own (c:=ac) (1+4*ql) hs (uH OA) (uH AVR) (fun v hv=>⟨uH OK v hv,uH HK v hv⟩) (uH AP) hsa (by omega) (by have:=uH HE1;omega);rw [uH HE1,show ((1+4*ql:Nat):Int)=1+4*(ql:Int) by omega] at this;exact this)
 clear hrow hm1 P0 CQ HG0 HA hin
 go_wp2_with fail
 refine (uH CA).mono ?_
 rintro e w2 ⟨rfl,hrow,hask,hm2⟩
 have hin:∀k,(inR aa al k∨∃v ∈ hs,inR v.ao v.len k)→k<w.heap.size:=fun k hk=>by have:=uH hIN k (.inr (.inl hk));omega
 have P2:=hide (hm2.blk (uH P1) (fun hk=>by have:=hin _ hk;omega))
 have R2:=hide ((uH R1).mks hm2 (fun k hk hk'=>by
  rcases hk' with h | ⟨v,hv,h⟩
  ·exact (uH OQ).apart (uH OA) (by decide) k hk h
  ·exact (uH OQ).apart (uH OK v hv) (by decide) k hk h))
 have A2:=hide hrow
 have K2:=hide hask
 have OQ2:=hide ((uH OQ).mks hm2)
 have OA2:=hide ((uH OA).mks hm2)
 have OM2:=hide ((uH OM).mks hm2)
 have OC2:=hide ((uH OC).mks hm2)
 have OK2:=hide (fun v hv=>(uH OK v hv).mks hm2)
 have HG2:=hide ((uH HG1).trans (hm2.mono (fun k hk=>.inr (.inl hk))))
 have p6:=(uH P2).at 6
 simp at p6
 have CM:=hide (markMachineS_own (c:=mc) e1 (uH OM2) hsm (by omega) (by omega))
 clear hrow hask hm2 P1 CA HG1 p5 R1 OQ OA OM OC OK AVR hin
 go_wp2_with fail
 refine (uH CM).mono ?_
 rintro e w3 ⟨rfl,hrow,hm3⟩
 have hin:∀k,inR ma ml k→k<w.heap.size:=fun k hk=>by have:=uH hIN k (.inr (.inr (.inl hk)));omega
 have P3:=hide (hm3.blk (uH P2) (fun hk=>by have:=hin _ hk;omega))
 have R3:=hide ((uH R2).mks hm3 ((uH OQ2).apart (uH OM2) (by decide)))
 have A3:=hide ((uH A2).mks hm3 ((uH OA2).apart (uH OM2) (by decide)))
 have K3:=hide ((uH K2).mks hm3 _ _ (fun v hv=>(uH OK2 v hv).apart (uH OM2) (by decide)))
 have M3:=hide hrow
 have OQ3:=hide ((uH OQ2).mks hm3)
 have OA3:=hide ((uH OA2).mks hm3)
 have OM3:=hide ((uH OM2).mks hm3)
 have OC3:=hide ((uH OC2).mks hm3)
 have OK3:=hide (fun v hv=>(uH OK2 v hv).mks hm3)
 have HG3:=hide ((uH HG2).trans (hm3.mono (fun k hk=>.inr (.inr (.inl hk)))))
 have p7:=(uH P3).at 7
 simp at p7
 have CC:=hide (by have:=markContS_own (c:=cc) (e1+4*ml) (uH OC3) hsc (by omega) (by omega);rw [show ((e1+4*ml:Nat):Int)=(e1:Int)+4*(ml:Int) by omega] at this;exact this)
 clear hrow hm3 P2 CM HG2 p6 R2 A2 K2 OQ2 OA2 OM2 OC2 OK2 hin
 go_wp2_with fail
 refine (uH CC).mono ?_
 rintro e w4 ⟨rfl,hrow,hm4⟩
 have R4:=hide ((uH R3).mks hm4 ((uH OQ3).apart (uH OC3) (by decide)))
 have A4:=hide ((uH A3).mks hm4 ((uH OA3).apart (uH OC3) (by decide)))
 have K4:=hide ((uH K3).mks hm4 _ _ (fun v hv=>(uH OK3 v hv).apart (uH OC3) (by decide)))
 have M4:=hide ((uH M3).mks hm4 ((uH OM3).apart (uH OC3) (by decide)))
 have C4:=hide hrow
 have HG4:=hide ((uH HG3).trans (hm4.mono (fun k hk=>.inr (.inr (.inr hk)))))
 clear hrow hm4 P3 CC HG3 p7 R3 A3 K3 M3 OQ3 OA3 OM3 OC3 OK3
 go_wp2
 go_ret
 refine ⟨?_,⟨uH R4,uH A4,uH K4,?_,?_,uH HZ⟩,uH HG4⟩
 ·refine ret_int ?_
  omega
 ·show MacRow _ _ _ (marksM (endM (1+4*ql) hs) ml)
  rw [uH HE1]
  exact uH M4
 ·show ConRow _ _ _ (marksC (endM (1+4*ql) hs+4*ml) cl)
  rw [uH HE1]
  exact uH C4
theorem heldState_ans {x:Sls} {hs:List AV} {w:World} (s:St) (h:SMk w x hs) (hl:SLim x hs) :
  Calls Tryz.prog 12 #[sv x s,.int .i64 1] w fun e w'=>e=.returned (.int .i64 (endS x hs:Int))∧Below w.heap.size w w':=by
 have hb0:=yA (Below.refl _ w) (.cells (svc x s) 34)
 have P0:=hide (yD w (svc x s) 34)
 have HA:=hide (h.below hb0)
 have HB0:=hide hb0
 have hlim:=hl.e
 have hsq:=hl.q
 have hsa:=hl.a
 have hsm:=hl.m
 have hsc:=hl.c
 have HK:=hide hl.k
 have hES:endS x hs=endM (1+4*x.ql) hs+4*x.ml+5*x.cl:=rfl
 obtain ⟨e1,he1⟩:∃e,endM (1+4*x.ql) hs=e:=⟨_,rfl⟩
 have HE1:=hide he1
 rw [he1] at hlim hES
 rw [hES]
 clear h hb0 hl he1 hES
 obtain ⟨qs,clock,epoch,next,serial,apps,ms,cs⟩:=s
 obtain ⟨qa,ql,qc,aa,al,ac,ma,ml,mc,ca,cl,cc⟩:=x
 simp only at *
 have HN0:¬(1+4*(ql:Int))<0:=by omega
 have HN1:¬(e1:Int)<0:=by omega
 have HN2:¬((e1:Int)+4*(ml:Int))<0:=by omega
 have HN3:¬((e1:Int)+4*(ml:Int)+5*(cl:Int))<0:=by omega
 have CQ:∀wx,Below w.heap.size w wx→SMk wx ⟨qa,ql,qc,aa,al,ac,ma,ml,mc,ca,cl,cc⟩ hs→Calls Tryz.prog 38 #[.slice qa ql qc,.int .i64 1] wx fun e w'=>e=.returned (.int .i64 (1+4*(ql:Int)))∧Below wx.heap.size wx w':=fun wx _ hx=>by
  have hq:=hx.q
  have hz:=hx.z
  simp only at hq hz
  rcases hz with hz | ⟨g,rfl⟩
  ·subst hz
   refine (heldQueueS_zero qa qc wx).mono ?_
   rintro e w' ⟨rfl,rfl⟩
   exact ⟨rfl,Below.refl _ _⟩
  ·exact heldQueueS_any g ql qc wx hq hsq
 have CQ':=hide CQ
 clear CQ
 go_enter Tryz.func12,Tryz.ntmps12
 go_wp2_with fail
 refine (uH CQ' _ (uH HB0) (uH HA)).mono ?_
 rintro e w1 ⟨rfl,hb⟩
 have P1:=hide ((uH P0).below hb)
 have HA1:=hide ((uH HA).below hb)
 have HB1:=hide (yB (uH HB0) hb)
 have p5:=(uH P1).at 5
 simp at p5
 have CA:=hide (by have:=heldAppS_any aa al ac (1+4*ql) hs w1 (uH HA1).a (uH HA1).k hsa (uH HK) (by omega) (by have:=uH HE1;omega);rw [uH HE1,show ((1+4*ql:Nat):Int)=1+4*(ql:Int) by omega] at this;exact this)
 clear hb P0 HA HB0 CQ'
 go_wp2_with fail
 refine (uH CA).mono ?_
 rintro e w2 ⟨rfl,hb⟩
 have P2:=hide ((uH P1).below hb)
 have HA2:=hide ((uH HA1).below hb)
 have HB2:=hide (yB (uH HB1) hb)
 have p6:=(uH P2).at 6
 simp at p6
 have CM:=hide (by have hmm:=(uH HA2).m;simp only [uH HE1] at hmm;exact heldMachineS_any ma ml mc e1 w2 hmm hsm (by omega) (by omega))
 clear hb P1 HA1 HB1 CA p5
 go_wp2_with fail
 refine (uH CM).mono ?_
 rintro e w3 ⟨rfl,hb⟩
 have P3:=hide ((uH P2).below hb)
 have HA3:=hide ((uH HA2).below hb)
 have HB3:=hide (yB (uH HB2) hb)
 have p7:=(uH P3).at 7
 simp at p7
 have CC:=hide (by have hmm:=(uH HA3).c;simp only [uH HE1] at hmm;have:=heldContS_any ca cl cc (e1+4*ml) w3 hmm hsc (by omega) (by omega);rw [show ((e1+4*ml:Nat):Int)=(e1:Int)+4*(ml:Int) by omega] at this;exact this)
 clear hb P2 HA2 HB2 CM p6
 go_wp2_with fail
 refine (uH CC).mono ?_
 rintro e w4 ⟨rfl,hb⟩
 have HB4:=hide (yB (uH HB3) hb)
 clear hb P3 HA3 HB3 CC p7
 go_wp2
 go_ret
 refine ⟨ret_int ?_,uH HB4⟩
 omega
theorem set_idemS {arr:Array Value} {j:Nat} {x:Value} (h:arr[j]? = some x):arr.setIfInBounds j x=arr:=by
 apply Array.ext
 ·simp
 ·intro i h1 h2
  rw [Array.getElem_setIfInBounds]
  split
  ·rename_i e
   subst e
   rw [Array.getElem?_eq_getElem h2] at h
   exact (Option.some.inj h).symm
  ·rfl
theorem sc_same {w:World} {g j:Nat} {x:Value} (h:w.cell? ⟨g,j,none⟩=some x):w.setCell ⟨g,j,none⟩ x=w:=by
 cases ho:w.heap[g]? with
 | none=>simp [World.cell?,ho] at h
 | some o=>
  cases o with
  | cells cur t fr=>
   have hx:cur[j]? = some x:=by simpa [World.cell?,ho] using h
   rw [setCell_eq_setRow w g j cur t fr x ho,set_idemS hx]
   exact setRow_self w g cur t fr ho
  | _=>simp [World.cell?,ho] at h
end
end Go.Proofs.YtdhibeclkdepiaaGreat
