/-
  bI in one: MarkO, MarkV, Hav, CpC, RmL, CopyN, TakC, TakP, aK2, RowE, GrK.
-/
import Derived.Test.YtdhibeclkdepiaaGreatPackO
import Derived.Test.YtdhibeclkdepiaaGreatPackS
import Derived.Test.YtdhibeclkdepiaaGreatPackK
import Derived.Laws.CopyOwn
import Derived.Deep.RegionLaw
import Derived.Deep.AppendLies
import Derived.OneCell
import Derived.ArgAppend
set_option maxRecDepth 100000
set_option maxHeartbeats 16000000
set_option linter.unusedVariables false
set_option linter.unusedSimpArgs false
namespace Go.Proofs.YtdhibeclkdepiaaGreat
section
open Go.RowKit
theorem Cel.type {w:World} {t t':TypeId} {g N N':Nat} (h:Cel w t g N) (h':Cel w t' g N'):t=t':=by
 obtain ⟨a,h1,_⟩:=h
 obtain ⟨b,h2,_⟩:=h'
 rw [h1] at h2
 cases h2
 rfl
structure Mks (S:Nat→Prop) (w w':World):Prop where
 os:w'.os=w.os
 tape:w'.tape=w.tape
 output:w'.output=w.output
 size:w.heap.size≤w'.heap.size
 block:∀k,k<w.heap.size→¬S k→w'.heap[k]? = w.heap[k]?
 cel:∀t g N,Cel w t g N→Cel w' t g N
theorem Mks.refl (S:Nat→Prop) (w:World):Mks S w w:=⟨rfl,rfl,rfl,Nat.le_refl _,fun _ _ _=>rfl,fun _ _ _ h=>h⟩
theorem Mks.trans {S:Nat→Prop} {a b c:World} (h:Mks S a b) (k:Mks S b c):Mks S a c:=
 ⟨k.os.trans h.os,k.tape.trans h.tape,k.output.trans h.output,Nat.le_trans h.size k.size,fun i hi ho=>(k.block i (Nat.lt_of_lt_of_le hi h.size) ho).trans (h.block i hi ho),fun t g N x=>k.cel t g N (h.cel t g N x)⟩
theorem Mks.mono {S S':Nat→Prop} {a b:World} (h:Mks S a b) (hs:∀k,S k→S' k):Mks S' a b:=
 ⟨h.os,h.tape,h.output,h.size,fun i hi ho=>h.block i hi (fun hk=>ho (hs i hk)),h.cel⟩
theorem Mks.of_below {S:Nat→Prop} {w w':World} (hb:Below w.heap.size w w'):Mks S w w':=⟨hb.os,hb.tape,hb.output,hb.size,fun i hi _=>hb.block i hi,fun t g N x=>x.below hb⟩
theorem Mks.on {S:Nat→Prop} {a w w':World} (h:Mks S a w) (hb:Below w.heap.size w w'):Mks S a w':=h.trans (.of_below hb)
theorem Mks.one (S:Nat→Prop) (w:World) (g j:Nat) (v:Value) (hg:S g):Mks S w (w.setCell ⟨g,j,none⟩ v):=
 ⟨rfl,rfl,rfl,by simp [World.setCell],fun k _ ho=>Below.heap_setCell _ _ _ _ (by show k≠g;intro e;exact ho (e ▸ hg)),fun t g' N x=>x.set g j v⟩
theorem Mks.sc {S:Nat→Prop} {a w:World} (h:Mks S a w) (g j:Nat) (v:Value) (hg:S g):Mks S a (w.setCell ⟨g,j,none⟩ v):=h.trans (.one S w g j v hg)
theorem Mkd.mks {g:Nat} {w w':World} (h:Mkd g (g+1) w w'):Mks (fun k=>k=g) w w':=⟨h.os,h.tape,h.output,h.size,fun i hi ho=>h.block i hi (by omega),h.cel⟩
theorem Mks.below {S:Nat→Prop} {B:Nat} {a w:World} (h:Mks S a w) (hS:∀k,S k→B≤k) (hB:B≤a.heap.size):Below B a w:=
 ⟨h.os,h.tape,h.output,h.size,fun k hk=>h.block k (by omega) (fun hs=>by have:=hS k hs;omega)⟩
theorem Mks.blk {S:Nat→Prop} {g:Nat} {a w:World} {arr:Array Value} {t:TypeId} (h:Mks S a w) (hb:Blk a g arr t) (ho:¬S g):Blk w g arr t:=(h.block g hb.lt ho).trans hb
def inR (ao:Option Addr) (n:Nat) (k:Nat):Prop:=n≠0∧∃o,ao=some ⟨k,o,none⟩
def dJ (B E:Nat) (w:World) (t:TypeId) (sz:Nat) (ao:Option Addr) (n:Nat):Prop:=n=0∨∃g M,ao=some ⟨g,0,none⟩∧B≤g∧g<E∧Cel w t g (M*sz)∧n≤M
theorem gV {w:World} {B sz n n' c:Nat} {e:TypeId} {ao:Option Addr} {xs:List Value} (h:w.ownsRow B e sz (.slice ao n c) n' xs):dJ B w.heap.size w e sz ao c:=by
 rcases h.2 with ⟨h1,_⟩ | ⟨g,cap,cur,h1,h2,h3,_,_,h4,_⟩
 ·cases h1;exact .inl rfl
 ·cases h1;exact .inr ⟨g,c,rfl,h2,lt_of_block h3,⟨cur,h3,h4⟩,Nat.le_refl _⟩
theorem dJ.below {B E:Nat} {w w':World} {t:TypeId} {sz n:Nat} {ao:Option Addr} (h:dJ B E w t sz ao n) (hb:Below w.heap.size w w'):dJ B E w' t sz ao n:=by
 rcases h with h | ⟨g,M,h1,h2,h3,h4,h5⟩
 ·exact .inl h
 ·exact .inr ⟨g,M,h1,h2,h3,h4.below hb,h5⟩
theorem dJ.mks {B E:Nat} {w w':World} {t:TypeId} {sz n:Nat} {ao:Option Addr} {S:Nat→Prop} (h:dJ B E w t sz ao n) (hb:Mks S w w'):dJ B E w' t sz ao n:=by
 rcases h with h | ⟨g,M,h1,h2,h3,h4,h5⟩
 ·exact .inl h
 ·exact .inr ⟨g,M,h1,h2,h3,hb.cel _ _ _ h4,h5⟩
theorem dJ.sc {B E:Nat} {w:World} {t:TypeId} {sz n:Nat} {ao:Option Addr} (h:dJ B E w t sz ao n) (k j:Nat) (v:Value):dJ B E (w.setCell ⟨k,j,none⟩ v) t sz ao n:=by
 rcases h with h | ⟨g,M,h1,h2,h3,h4,h5⟩
 ·exact .inl h
 ·exact .inr ⟨g,M,h1,h2,h3,h4.set k j v,h5⟩
theorem dJ.mono {B E B' E':Nat} {w:World} {t:TypeId} {sz n:Nat} {ao:Option Addr} (h:dJ B E w t sz ao n) (h1:B'≤B) (h2:E≤E'):dJ B' E' w t sz ao n:=by
 rcases h with h | ⟨g,M,a,b,c,d⟩
 ·exact .inl h
 ·exact .inr ⟨g,M,a,by omega,by omega,d⟩
theorem dJ.lies {B E:Nat} {w:World} {t:TypeId} {sz n:Nat} {ao:Option Addr} (h:dJ B E w t sz ao n):∀k,inR ao n k→B≤k∧k<E∧∃N,Cel w t k N:=by
 rintro k ⟨hn,o,e⟩
 rcases h with h | ⟨g,M,h1,h2,h3,h4,h5⟩
 ·exact absurd h hn
 ·rw [h1] at e
  cases e
  exact ⟨h2,h3,_,h4⟩
theorem dJ.apart {B E B' E':Nat} {w:World} {t t':TypeId} {sz sz' n n':Nat} {ao bo:Option Addr} (h:dJ B E w t sz ao n) (h':dJ B' E' w t' sz' bo n') (ht:t≠t'):∀k,inR ao n k→¬inR bo n' k:=fun k hk hk'=>by
 obtain ⟨_,_,N,h1⟩:=h.lies k hk
 obtain ⟨_,_,N',h2⟩:=h'.lies k hk'
 exact ht (h1.type h2)
theorem cO {S:Nat→Prop} {w w':World} {g p:Nat} {u:Value} (h:w.cell? ⟨g,p,none⟩=some u) (hm:Mks S w w') (hg:¬S g):w'.cell? ⟨g,p,none⟩=some u:=
 (World.cell?_of_block (w:=w) (a:=⟨g,p,none⟩) (hm.block g (yG h) hg)).trans h
theorem gM.mks {S:Nat→Prop} {w w':World} {ao:Option Addr} {len:Nat} {l:List Q} (h:gM w ao len l) (hm:Mks S w w') (hs:∀k,inR ao len k→¬S k):gM w' ao len l:=by
 obtain ⟨h1,h2⟩:=h
 refine ⟨h1,?_⟩
 rcases h2 with h2 | ⟨b,off,h3,h4⟩
 ·exact .inl h2
 ·by_cases hz:len=0
  ·exact .inl hz
  ·have hb:=hs b ⟨hz,off,h3⟩
   exact .inr ⟨b,off,h3,fun i h=>let ⟨a,c,d,e⟩:=h4 i h;⟨cO a hm hb,cO c hm hb,cO d hm hb,cO e hm hb⟩⟩
theorem aZ.mks {S:Nat→Prop} {w w':World} {ao:Option Addr} {len:Nat} {l:List Mac} (h:aZ w ao len l) (hm:Mks S w w') (hs:∀k,inR ao len k→¬S k):aZ w' ao len l:=by
 obtain ⟨h1,h2⟩:=h
 refine ⟨h1,?_⟩
 rcases h2 with h2 | ⟨b,off,h3,h4⟩
 ·exact .inl h2
 ·by_cases hz:len=0
  ·exact .inl hz
  ·have hb:=hs b ⟨hz,off,h3⟩
   exact .inr ⟨b,off,h3,fun i h=>let ⟨a,c,d,e⟩:=h4 i h;⟨cO a hm hb,cO c hm hb,cO d hm hb,cO e hm hb⟩⟩
theorem aY.mks {S:Nat→Prop} {w w':World} {ao:Option Addr} {len:Nat} {l:List Con} (h:aY w ao len l) (hm:Mks S w w') (hs:∀k,inR ao len k→¬S k):aY w' ao len l:=by
 obtain ⟨h1,h2⟩:=h
 refine ⟨h1,?_⟩
 rcases h2 with h2 | ⟨b,off,h3,h4⟩
 ·exact .inl h2
 ·by_cases hz:len=0
  ·exact .inl hz
  ·have hb:=hs b ⟨hz,off,h3⟩
   exact .inr ⟨b,off,h3,fun i h=>let ⟨a,c,d,e,f⟩:=h4 i h;⟨cO a hm hb,cO c hm hb,cO d hm hb,cO e hm hb,cO f hm hb⟩⟩
theorem aO.mks {S:Nat→Prop} {w w':World} {ao:Option Addr} {len:Nat} {l:List Ask} (h:aO w ao len l) (hm:Mks S w w') (hs:∀k,inR ao len k→¬S k):aO w' ao len l:=by
 obtain ⟨h1,h2⟩:=h
 refine ⟨h1,?_⟩
 rcases h2 with h2 | ⟨b,off,h3,h4⟩
 ·exact .inl h2
 ·by_cases hz:len=0
  ·exact .inl hz
  ·have hb:=hs b ⟨hz,off,h3⟩
   exact .inr ⟨b,off,h3,fun i h=>let ⟨a,c,d,e,f⟩:=h4 i h;⟨cO a hm hb,cO c hm hb,cO d hm hb,cO e hm hb,cO f hm hb⟩⟩
theorem eF.mks {S:Nat→Prop} {w w':World} {ao:Option Addr} {len:Nat} {l:List AV} (h:eF w ao len l) (hm:Mks S w w') (hs:∀k,inR ao len k→¬S k):eF w' ao len l:=by
 obtain ⟨h1,h2⟩:=h
 refine ⟨h1,?_⟩
 rcases h2 with h2 | ⟨b,off,h3,h4⟩
 ·exact .inl h2
 ·by_cases hz:len=0
  ·exact .inl hz
  ·have hb:=hs b ⟨hz,off,h3⟩
   exact .inr ⟨b,off,h3,fun i h=>let ⟨a,c,d⟩:=h4 i h;⟨cO a hm hb,cO c hm hb,cO d hm hb⟩⟩
theorem l9.mks {S:Nat→Prop} {w w':World} (hm:Mks S w w'):∀(l:List AV) (K:Nat),l9 w K l→(∀v ∈ l,∀k,inR v.ao v.len k→¬S k)→l9 w' K l
 | [],_,_,_=>trivial
 | v::t,K,h,hs=>⟨h.1.mks hm (hs v (by simp)),l9.mks hm t _ h.2 (fun u hu=>hs u (by simp [hu]))⟩
theorem aAA {w:World}:∀(l:List AV) (K:Nat) (v:AV),l9 w K l→aO w v.ao v.len (jM (gX K l+2) v.len)→l9 w K (l++[v])
 | [],K,v,_,h=>⟨h,trivial⟩
 | u::t,K,v,h,h'=>⟨h.1,aAA t _ v h.2 h'⟩
theorem aEH:∀(l:List AV) (K:Nat) (v:AV),hsM K (l++[v])=hsM K l++[⟨(gX K l:Int),109::dgs (gX K l+1),v.ao,v.len,v.cap⟩]
 | [],K,v=>rfl
 | u::t,K,v=>by simp only [List.cons_append,hsM,gX,aEH t]
theorem aCE:∀(l:List AV) (K j:Nat),gX K (l.take j)≤gX K l
 | [],K,j=>by simp
 | v::t,K,0=>by simp only [List.take_zero,gX];have:=q9 t (K+2+5*v.len);omega
 | v::t,K,j+1=>by simp only [List.take_succ_cons,gX];exact aCE t _ _
theorem aGv:∀(l:List AV) (K m:Nat),(∀v ∈ l,v.len≤m)→gX K l≤K+l.length*(2+5*m)
 | [],K,m,_=>by simp [gX]
 | v::t,K,m,h=>by
  have h1:=aGv t (K+2+5*v.len) m (fun u hu=>h u (by simp [hu]))
  have h2:=h v (by simp)
  simp only [gX,List.length_cons,Nat.add_mul]
  omega
def aH6 (u v:AV):Prop:=u.len=0∨v.len=0∨u.ao≠v.ao
theorem qU (ao:Option Addr) (c:Nat) (K:Int) (w:World) :
  Calls Tryz.prog 37 #[.slice ao 0 c,.int .i64 K] w fun e w'=>e=.returned (.int .i64 K)∧w=w':=by
 go_enter Tryz.func37,Tryz.ntmps37
 go_wp2
 go_loopw [1,5] (fun s i wr=>i=.int .i64 0∧s=.int .i64 K∧wr=w) (fun _ _ _=>0)
 case atStart=>exact ⟨rfl,rfl,rfl⟩
 case round=>
  obtain ⟨rfl,rfl,rfl⟩:=hrel
  go_wp2
  go_ret
  exact ⟨rfl,rfl⟩
theorem xH (ao:Option Addr) (c:Nat) (K:Int) (w:World) :
  Calls Tryz.prog 16 #[.slice ao 0 c,.int .i64 K] w fun e w'=>e=.returned (.int .i64 K)∧w=w':=by
 go_enter Tryz.func16,Tryz.ntmps16
 go_wp2
 go_loopw [1,5] (fun s i wr=>i=.int .i64 0∧s=.int .i64 K∧wr=w) (fun _ _ _=>0)
 case atStart=>exact ⟨rfl,rfl,rfl⟩
 case round=>
  obtain ⟨rfl,rfl,rfl⟩:=hrel
  go_wp2
  go_ret
  exact ⟨rfl,rfl⟩
theorem aA0 (ao:Option Addr) (c:Nat) (K:Int) (w:World) :
  Calls Tryz.prog 77 #[.slice ao 0 c,.int .i64 K] w fun e w'=>e=.returned (.int .i64 K)∧w=w':=by
 go_enter Tryz.func77,Tryz.ntmps77
 go_wp2
 go_loopw [1,5] (fun s i wr=>i=.int .i64 0∧s=.int .i64 K∧wr=w) (fun _ _ _=>0)
 case atStart=>exact ⟨rfl,rfl,rfl⟩
 case round=>
  obtain ⟨rfl,rfl,rfl⟩:=hrel
  go_wp2
  go_ret
  exact ⟨rfl,rfl⟩
theorem aA1 (ao:Option Addr) (c:Nat) (K:Int) (w:World) :
  Calls Tryz.prog 36 #[.slice ao 0 c,.int .i64 K] w fun e w'=>e=.returned (.int .i64 K)∧w=w':=by
 go_enter Tryz.func36,Tryz.ntmps36
 go_wp2
 go_loopw [1,5] (fun s i wr=>i=.int .i64 0∧s=.int .i64 K∧wr=w) (fun _ _ _=>0)
 case atStart=>exact ⟨rfl,rfl,rfl⟩
 case round=>
  obtain ⟨rfl,rfl,rfl⟩:=hrel
  go_wp2
  go_ret
  exact ⟨rfl,rfl⟩
theorem xG {B E n c:Nat} {ao:Option Addr} {w:World} (h:dJ B E w 100 4 ao n) (hn:n≤1048576) :
  Calls Tryz.prog 35 #[.slice ao n c,.int .i64 1] w fun e w'=>e=.returned (.int .i64 (1+4*(n:Int)))∧gM w' ao n (mE n)∧Mks (inR ao n) w w':=by
 by_cases hz:n=0
 ·subst hz
  refine (vF ao c w).mono ?_
  rintro e w' ⟨rfl,rfl⟩
  exact ⟨rfl,⟨rfl,.inl rfl⟩,.refl _ _⟩
 ·rcases h with h | ⟨g,M,rfl,h2,h3,h4,h5⟩
  ·exact absurd h hz
  ·have ha:aJ8 w 100 g M:=by obtain ⟨arr,h1,h2⟩:=h4;exact ⟨arr,h1,h2,fun i hi=>absurd hi (by simp)⟩
   refine (vG g n M (d:=c) w ha h5 hn).mono ?_
   rintro e w' ⟨rfl,hq,hg⟩
   refine ⟨rfl,hq.rowOf (zF _).symm,hg.os,hg.tape,hg.output,hg.size,fun k hk hs=>hg.block k hk (fun e=>hs ⟨hz,0,by rw [Option.some.inj e]⟩),fun t g' N x=>?_⟩
   by_cases e:g'=g
   ·subst e
    obtain rfl:=x.type h4
    obtain ⟨a1,h1,h6,_⟩:=hq
    obtain ⟨a2,h2',h3'⟩:=x
    obtain ⟨a3,h4',h5'⟩:=h4
    rw [h2'] at h4'
    cases h4'
    exact ⟨a1,h1,by omega⟩
   ·exact x.of_block (hg.block g' x.lt (fun e'=>e (Option.some.inj e')))
theorem tK {B E n c:Nat} {ao:Option Addr} {w:World} (K:Nat) (h:dJ B E w 104 4 ao n) (hn:n≤1048576) (h0:0<K) (h1:K≤1000000000000000) :
  Calls Tryz.prog 37 #[.slice ao n c,.int .i64 (K:Int)] w fun e w'=>e=.returned (.int .i64 ((K:Int)+4*(n:Int)))∧aZ w' ao n (jW K n)∧Mks (inR ao n) w w':=by
 by_cases hz:n=0
 ·subst hz
  refine (qU ao c K w).mono ?_
  rintro e w' ⟨rfl,rfl⟩
  exact ⟨by simp,⟨by simp [jW],.inl rfl⟩,.refl _ _⟩
 ·rcases h with h | ⟨g,M,rfl,h2,h3,h4,h5⟩
  ·exact absurd h hz
  ·refine (qV g n M K (d:=c) w h4 h5 hn h0 h1).mono ?_
   rintro e w' ⟨rfl,hq,hg⟩
   exact ⟨rfl,hq,hg.mks.mono (fun k e=>⟨hz,0,by rw [e]⟩)⟩
theorem pO {B E n c:Nat} {ao:Option Addr} {w:World} (K:Nat) (h:dJ B E w 38 5 ao n) (hn:n≤1048576) (h0:0<K) (h1:K≤1000000000000000) :
  Calls Tryz.prog 16 #[.slice ao n c,.int .i64 (K:Int)] w fun e w'=>e=.returned (.int .i64 ((K:Int)+5*(n:Int)))∧aY w' ao n (jL K n)∧Mks (inR ao n) w w':=by
 by_cases hz:n=0
 ·subst hz
  refine (xH ao c K w).mono ?_
  rintro e w' ⟨rfl,rfl⟩
  exact ⟨by simp,⟨by simp [jL],.inl rfl⟩,.refl _ _⟩
 ·rcases h with h | ⟨g,M,rfl,h2,h3,h4,h5⟩
  ·exact absurd h hz
  ·refine (xI g n M K (d:=c) w h4 h5 hn h0 h1).mono ?_
   rintro e w' ⟨rfl,hq,hg⟩
   exact ⟨rfl,hq,hg.mks.mono (fun k e=>⟨hz,0,by rw [e]⟩)⟩
theorem aB7 {B E n c:Nat} {ao:Option Addr} {w:World} (K:Nat) (h:dJ B E w 77 5 ao n) (hn:n≤1048576) (h0:0<K) (h1:K≤1000000000000000) :
  Calls Tryz.prog 77 #[.slice ao n c,.int .i64 (K:Int)] w fun e w'=>e=.returned (.int .i64 ((K:Int)+5*(n:Int)))∧aO w' ao n (jM K n)∧Mks (inR ao n) w w':=by
 by_cases hz:n=0
 ·subst hz
  refine (aA0 ao c K w).mono ?_
  rintro e w' ⟨rfl,rfl⟩
  exact ⟨by simp,⟨by simp [jM],.inl rfl⟩,.refl _ _⟩
 ·rcases h with h | ⟨g,M,rfl,h2,h3,h4,h5⟩
  ·exact absurd h hz
  ·refine (pQ g n M K (d:=c) w h4 h5 hn h0 h1).mono ?_
   rintro e w' ⟨rfl,hq,hg⟩
   exact ⟨rfl,hq,hg.mks.mono (fun k e=>⟨hz,0,by rw [e]⟩)⟩
def jU (w:World) (g M:Nat) (l:List AV):Prop:=Cel w 74 g (M*3)∧l.length≤M∧∀i (h:i<l.length),aFh w g (i*3) l[i]
theorem jU.below {w w':World} {g M:Nat} {l:List AV} (h:jU w g M l) (hb:Below w.heap.size w w'):jU w' g M l:=⟨h.1.below hb,h.2.1,fun i hi=>(h.2.2 i hi).below hb⟩
theorem jU.mks {S:Nat→Prop} {w w':World} {g M:Nat} {l:List AV} (h:jU w g M l) (hm:Mks S w w') (hs:¬S g):jU w' g M l:=
 ⟨hm.cel _ _ _ h.1,h.2.1,fun i hi=>let ⟨a,b,c⟩:=h.2.2 i hi;⟨cO a hm hs,cO b hm hs,cO c hm hs⟩⟩
theorem jU.id {w:World} {g M i:Nat} {l:List AV} (h:jU w g M l) (hi:i<l.length) (x:Int):jU (w.setCell ⟨g,i*3,none⟩ (.int .i64 x)) g M (l.set i ⟨x,l[i].queue,l[i].ao,l[i].len,l[i].cap⟩):=by
 refine ⟨h.1.set _ _ _,by simpa using h.2.1,fun j hj=>?_⟩
 have hj':j<l.length:=by simpa using hj
 obtain ⟨a,b,c⟩:=h.2.2 j hj'
 by_cases e:i=j
 ·subst e
  simp only [List.getElem_set_self]
  exact ⟨World.cell?_setCell_same _ ⟨g,i*3,none⟩ _ a,bB b (by omega),bB c (by omega)⟩
 ·rw [List.getElem_set_ne e]
  exact ⟨bB a (by omega),bB b (by omega),bB c (by omega)⟩
theorem jU.qu {w:World} {g M i:Nat} {l:List AV} (h:jU w g M l) (hi:i<l.length) (x:List UInt8):jU (w.setCell ⟨g,i*3+1,none⟩ (.string (bs x))) g M (l.set i ⟨l[i].id,x,l[i].ao,l[i].len,l[i].cap⟩):=by
 refine ⟨h.1.set _ _ _,by simpa using h.2.1,fun j hj=>?_⟩
 have hj':j<l.length:=by simpa using hj
 obtain ⟨a,b,c⟩:=h.2.2 j hj'
 by_cases e:i=j
 ·subst e
  simp only [List.getElem_set_self]
  exact ⟨bB a (by omega),World.cell?_setCell_same _ ⟨g,i*3+1,none⟩ _ b,bB c (by omega)⟩
 ·rw [List.getElem_set_ne e]
  exact ⟨bB a (by omega),bB b (by omega),bB c (by omega)⟩
theorem jU.row {w:World} {g M:Nat} {l:List AV} (h:jU w g M l):eF w (some ⟨g,0,none⟩) l.length l:=⟨rfl,.inr ⟨g,0,rfl,fun i hi=>by rw [Nat.zero_add];exact h.2.2 i hi⟩⟩
theorem aB8 {B E n c:Nat} {ao:Option Addr} {w:World} (K:Nat) (hs:List AV) (h:dJ B E w 74 3 ao n) (hr:eF w ao n hs) (ha:∀v ∈ hs,dJ B E w 77 5 v.ao v.len∧v.len≤1048576) (hp:hs.Pairwise aH6) (hn:n≤1048576) (h0:0<K) (h1:gX K hs≤100000000000000) :
  Calls Tryz.prog 36 #[.slice ao n c,.int .i64 (K:Int)] w fun e w'=>e=.returned (.int .i64 (gX K hs:Int))∧eF w' ao n (hsM K hs)∧l9 w' K hs∧Mks (fun k=>inR ao n k∨∃v ∈ hs,inR v.ao v.len k) w w':=by
 by_cases hz:n=0
 ·subst hz
  have hl:hs=[]:=List.length_eq_zero_iff.1 hr.1.symm
  subst hl
  refine (aA1 ao c K w).mono ?_
  rintro e w' ⟨rfl,rfl⟩
  exact ⟨rfl,⟨rfl,.inl rfl⟩,trivial,.refl _ _⟩
 rcases h with h | ⟨g,M,rfl,h2,h3,h4,h5⟩
 ·exact absurd h hz
 have HLN:=aA hr.1
 have HA:=aA ha
 have HP:=aA hp
 have HV:=aA (show jU w g M (hsM K (hs.take 0)++hs.drop 0) from by
  refine ⟨h4,?_,fun i hi=>?_⟩
  ·simp [hsM];have:=hr.1;omega
  ·simp only [List.take_zero,hsM,List.nil_append,List.drop_zero] at hi ⊢
   rcases hr.2 with e | ⟨b,off,e,hh⟩
   ·exact absurd e hz
   ·cases e
    have:=hh i hi
    rwa [Nat.zero_add] at this)
 have HE:=aA (fun j=>aCE hs K j)
 have HG:=aA (fun j=>q9 (hs.take j) K)
 obtain ⟨S,hS⟩:∃S:Nat→Prop,S=(fun k=>inR (some ⟨g,0,none⟩) n k∨∃v ∈ hs,inR v.ao v.len k):=⟨_,rfl⟩
 have HSg:=aA (show S g by rw [hS];exact .inl ⟨hz,0,rfl⟩)
 have HSv:=aA (show ∀v ∈ hs,∀k,inR v.ao v.len k→S k by rw [hS];exact fun v hv k hk=>.inr ⟨v,hv,hk⟩)
 rw [←hS]
 clear hr ha hp h4 hS h2 h3
 go_enter Tryz.func36,Tryz.ntmps36
 go_wp2
 go_loopw [1,5] (fun s i wr=>∃(j:Nat) (k:Nat),j≤n∧i=.int .i64 j∧s=.int .i64 (k:Int)∧Hid (k=gX K (hs.take j))∧Hid (jU wr g M (hsM K (hs.take j)++hs.drop j))∧Hid (l9 wr K (hs.take j))∧Hid (Mks S w wr)) (fun _ i _=>n - (intOf i).toNat)
 case atStart=>exact ⟨0,K,Nat.zero_le _,rfl,rfl,aA (by simp [gX]),HV,aA (by simp [l9]),aA (Mks.refl _ _)⟩
 case round=>
  obtain ⟨j,k,hj,rfl,rfl,HK,HQ,HM,HS⟩:=hrel
  by_cases hlt:j<n
  ·have hjl:j<hs.length:=by have:=uH HLN;omega
   have hst:=wD hs K j hjl
   have hle:=uH HE (j+1)
   have hgk:=uH HG j
   rw [←uH HK] at hst hgk
   have hjL:j<(hsM K (hs.take j)++hs.drop j).length:=by rw [List.length_append,jP,List.length_take,List.length_drop];omega
   have hLj:(hsM K (hs.take j)++hs.drop j)[j]=hs[j]:=by
    rw [List.getElem_append_right (by rw [jP,List.length_take];omega)]
    simp [jP,Nat.min_eq_left (Nat.le_of_lt hjl)]
   have hcel:=(uH HQ).1
   obtain ⟨v0,d0⟩:=hcel.cell (j:=j*3) (by have:=(uH HQ).2.1;omega)
   have f0:=hcel.frozen (j*3)
   have HQ1:=aA ((uH HQ).id hjL (k:Int))
   have HG1:=aA ((uH HS).sc g (j*3) (.int .i64 (k:Int)) (uH HSg))
   have HM1:=aA ((uH HM).mks (Mks.one (fun x=>x=g) _ g (j*3) (.int .i64 (k:Int)) rfl) _ _ (fun v hv x hx e=>by
    have hv':=((uH HA v (List.mem_of_mem_take hv)).1.mks (uH HS))
    obtain ⟨_,_,N,hc⟩:=hv'.lies x hx
    subst e
    exact absurd (hc.type hcel) (by decide)))
   have hk0:0<k:=by omega
   have hvl:=(uH HA _ (List.getElem_mem hjl)).2
   have hk1:k≤100000000000000:=by omega
   obtain ⟨⟨vi,vq,va,vl,vc⟩,hv⟩:∃v,hs[j]=v:=⟨_,rfl⟩
   have HVV:=aA hv
   rw [hv] at hst hvl
   rw [hLj,hv] at HQ1
   simp only at hst hvl HQ1
   have HN:=aA (show (k+2+5*vl:Nat)=gX K (hs.take (j+1)) from hst.symm)
   clear hst hle hgk hLj hv hcel HQ HM HS hjL
   go_wp2_with fail
   refine (aU ((k:Int)+1) _ (by omega) (by omega)).mono ?_
   rintro e w1 ⟨rfl,hb⟩
   have HQ2:=aA ((uH HQ1).below hb)
   have HG2:=aA ((uH HG1).on hb)
   have HM2:=aA (l9.below hb _ _ (uH HM1))
   clear hb d0 f0 HQ1 HG1 HM1
   have hjL:j<((hsM K (hs.take j)++hs.drop j).set j ⟨(k:Int),vq,va,vl,vc⟩).length:=by rw [List.length_set,List.length_append,jP,List.length_take,List.length_drop];have:=uH HLN;omega
   have hcel:=(uH HQ2).1
   obtain ⟨v1,d1⟩:=hcel.cell (j:=j*3+1) (by have:=(uH HQ2).2.1;omega)
   have f1:=hcel.frozen (j*3+1)
   have HQ3:=aA (show jU _ g M _ from (uH HQ2).qu hjL (109::dgs (k+1)))
   simp only [List.getElem_set_self,List.set_set] at HQ3
   have HG3:=aA ((uH HG2).sc g (j*3+1) (.string (bs (109::dgs (k+1)))) (uH HSg))
   have HM3:=aA ((uH HM2).mks (Mks.one (fun x=>x=g) _ g (j*3+1) (.string (bs (109::dgs (k+1)))) rfl) _ _ (fun v hv x hx e=>by
    have hv':=((uH HA v (List.mem_of_mem_take hv)).1.mks (uH HG2))
    obtain ⟨_,_,N,hc⟩:=hv'.lies x hx
    subst e
    exact absurd (hc.type hcel) (by decide)))
   have hmk:mk ((k:Int)+1).toNat=bs (109::dgs (k+1)):=by rw [show ((k:Int)+1).toNat=k+1 by omega];rfl
   have hjL3:j<((hsM K (hs.take j)++hs.drop j).set j ⟨(k:Int),109::dgs (k+1),va,vl,vc⟩).length:=by rw [List.length_set,List.length_append,jP,List.length_take,List.length_drop];have:=uH HLN;omega
   have d2:=((uH HQ3).2.2 j hjL3).2.2
   simp only [List.getElem_set_self] at d2
   have hown:=(uH HA _ (List.getElem_mem (show j<hs.length by have:=uH HLN;omega))).1.mks (uH HG3)
   rw [uH HVV] at hown
   simp only at hown
   have CA:=aA (by have:=aB7 (c:=vc) (k+2) hown hvl (by omega) (by omega);rw [show ((k+2:Nat):Int)=(k:Int)+1+1 by omega] at this;exact this)
   have HOW:=aA hown
   rw [hmk]
   clear hcel HQ2 HG2 HM2 hjL hjL3 hown hmk
   go_wp2_with fail
   refine (uH CA).mono ?_
   rintro e w2 ⟨rfl,hrow,hm⟩
   have HR4:=aA hrow
   have HQ4:=aA ((uH HQ3).mks hm (fun hk=>by
    obtain ⟨_,_,N,hc⟩:=(uH HOW).lies g hk
    exact absurd (hc.type (uH HQ3).1) (by decide)))
   have HG4:=aA ((uH HG3).trans (hm.mono (fun x hx=>uH HSv hs[j] (List.getElem_mem (show j<hs.length by have:=uH HLN;omega)) x (by rw [uH HVV];exact hx))))
   have HM4:=aA ((uH HM3).mks hm _ _ (fun v hv x hx hx'=>by
    obtain ⟨i,hi,rfl⟩:=List.getElem_of_mem hv
    have hi':i<j∧i<hs.length:=by rw [List.length_take] at hi;omega
    have hap:=(List.pairwise_iff_getElem.1 (uH HP)) i j hi'.2 (by have:=uH HLN;omega) hi'.1
    rw [List.getElem_take] at hx
    rw [uH HVV] at hap
    obtain ⟨hn1,o1,e1⟩:=hx
    obtain ⟨hn2,o2,e2⟩:=hx'
    rcases hap with e | e | e
    ·exact hn1 e
    ·exact hn2 e
    ·have hi1:=(uH HA hs[i] (List.getElem_mem hi'.2)).1
     have hi2:=uH HOW
     rcases hi1 with z | ⟨g1,M1,z,_⟩
     ·exact hn1 z
     ·rcases hi2 with y | ⟨g2,M2,y,_⟩
      ·exact hn2 y
      ·rw [z] at e1
       rw [y] at e2
       cases e1
       cases e2
       exact e (z.trans y.symm)))
   clear hrow hm CA HQ3 HG3 HM3 d1 f1 d2
   go_wp2
   go_roundw
   case rel=>
    have hjl:j<hs.length:=by have:=uH HLN;omega
    have htk:hs.take (j+1)=hs.take j++[hs[j]]:=by rw [List.take_succ_eq_append_getElem hjl]
    refine ⟨j+1,k+2+5*vl,by omega,by go_num,by refine congrArg _ ?_;omega,HN,aA ?_,aA ?_,HG4⟩
    ·have:=uH HQ4
     rw [List.drop_eq_getElem_cons hjl] at this
     rw [htk,aEH,uH HVV,←uH HK]
     rw [List.set_append_right _ _ (by rw [jP,List.length_take];omega)] at this
     rw [jP,List.length_take,Nat.min_eq_left (by omega),Nat.sub_self,sB] at this
     rw [List.append_assoc]
     exact this
    ·rw [htk]
     refine aAA _ _ _ (uH HM4) ?_
     rw [uH HVV,←uH HK]
     exact uH HR4
   case measure=>simp [intOf];omega
  ·have hjn:j=n:=by omega
   have hth:hs.take j=hs:=List.take_of_length_le (by have:=uH HLN;omega)
   have hdr:hs.drop j=[]:=List.drop_of_length_le (by have:=uH HLN;omega)
   have j1:¬(j:Int)<n:=by omega
   have hke:k=gX K hs:=by rw [uH HK,hth]
   go_wp2
   go_ret
   refine ⟨rfl,?_,by have:=uH HM;rwa [hth] at this,uH HS⟩
   have:=(uH HQ).row
   rw [hth,hdr,List.append_nil,jP,←uH HLN] at this
   exact this
structure aK0 (x:Sls):Prop where
 q:x.ql≤x.qc
 a:x.al≤x.ac
 m:x.ml≤x.mc
 c:x.cl≤x.cc
def RmS (B E:Nat) (w:World) (x:Sls) (hs:List AV):Prop:=dJ B E w 100 4 x.qa x.qc∧dJ B E w 74 3 x.aa x.ac∧dJ B E w 104 4 x.ma x.mc∧dJ B E w 38 5 x.ca x.cc∧∀v ∈ hs,dJ B E w 77 5 v.ao v.cap
theorem RmS.map {B E B' E':Nat} {w w':World} {x:Sls} {hs:List AV} (h:RmS B E w x hs) (f:∀{t:TypeId} {sz n:Nat} {ao:Option Addr},dJ B E w t sz ao n→dJ B' E' w' t sz ao n):RmS B' E' w' x hs:=⟨f h.1,f h.2.1,f h.2.2.1,f h.2.2.2.1,fun v hv=>f (h.2.2.2.2 v hv)⟩
theorem RmS.below {B E:Nat} {w w':World} {x:Sls} {hs:List AV} (h:RmS B E w x hs) (hb:Below w.heap.size w w'):RmS B E w' x hs:=h.map (fun k=>k.below hb)
theorem RmS.mono {B E B' E':Nat} {w:World} {x:Sls} {hs:List AV} (h:RmS B E w x hs) (h1:B'≤B) (h2:E≤E'):RmS B' E' w x hs:=h.map (fun k=>k.mono h1 h2)
theorem RmS.mks {B E:Nat} {S:Nat→Prop} {w w':World} {x:Sls} {hs:List AV} (h:RmS B E w x hs) (hm:Mks S w w'):RmS B E w' x hs:=h.map (fun k=>k.mks hm)
theorem RmS.sc {B E:Nat} {w:World} {x:Sls} {hs:List AV} (h:RmS B E w x hs) (k j:Nat) (v:Value):RmS B E (w.setCell ⟨k,j,none⟩ v) x hs:=h.map (fun o=>o.sc k j v)
structure qH (B E:Nat) (w:World) (x:Sls) (s:St) (hs:List AV):Prop where
 row:iJ w x s
 q:dJ B E w 100 4 x.qa x.ql
 a:dJ B E w 74 3 x.aa x.al
 m:dJ B E w 104 4 x.ma x.ml
 c:dJ B E w 38 5 x.ca x.cl
 av:eF w x.aa x.al hs
 heads:iP w hs s.apps
 asks:∀v ∈ hs,dJ B E w 77 5 v.ao v.len
 apart:hs.Pairwise aH6
 cap:aK0 x
 rm:RmS B E w x hs
theorem iP.below {w w':World} {hs:List AV} {l:List dB} (h:iP w hs l) (hb:Below w.heap.size w w'):iP w' hs l:=⟨h.1,fun i h1 h2=>let ⟨a,b,c,d⟩:=h.2 i h1 h2;⟨a,b,c.below hb,d⟩⟩
theorem qH.below {B E:Nat} {w w':World} {x:Sls} {s:St} {hs:List AV} (h:qH B E w x s hs) (hb:Below w.heap.size w w'):qH B E w' x s hs:=
 ⟨h.row.below hb,h.q.below hb,h.a.below hb,h.m.below hb,h.c.below hb,h.av.below hb,h.heads.below hb,fun v hv=>(h.asks v hv).below hb,h.apart,h.cap,h.rm.below hb⟩
theorem qH.mono {B E B' E':Nat} {w:World} {x:Sls} {s:St} {hs:List AV} (h:qH B E w x s hs) (h1:B'≤B) (h2:E≤E'):qH B' E' w x s hs:=
 ⟨h.row,h.q.mono h1 h2,h.a.mono h1 h2,h.m.mono h1 h2,h.c.mono h1 h2,h.av,h.heads,fun v hv=>(h.asks v hv).mono h1 h2,h.apart,h.cap,h.rm.mono h1 h2⟩
theorem qH.mks {B E:Nat} {S:Nat→Prop} {w w':World} {x:Sls} {s:St} {hs:List AV} (h:qH B E w x s hs) (hm:Mks S w w') (hS:∀k,S k→k<B∨E≤k):qH B E w' x s hs:=by
 have key:∀{t:TypeId} {sz n:Nat} {ao:Option Addr},dJ B E w t sz ao n→∀k,inR ao n k→¬S k:=fun ho k hk hs=>by
  obtain ⟨h1,h2,_⟩:=ho.lies k hk
  have:=hS k hs
  omega
 have hrow:iP w' hs s.apps:=⟨h.heads.1,fun i h1 h2=>by
  obtain ⟨a,b,c,d⟩:=h.heads.2 i h1 h2
  exact ⟨a,b,c.mks hm (key (h.asks _ (List.getElem_mem h1))),d⟩⟩
 have hav:=h.av.mks hm (key h.a)
 refine ⟨⟨h.row.1.mks hm (key h.q),?_,h.row.2.2.1.mks hm (key h.m),h.row.2.2.2.mks hm (key h.c)⟩,h.q.mks hm,h.a.mks hm,h.m.mks hm,h.c.mks hm,hav,hrow,fun v hv=>(h.asks v hv).mks hm,h.apart,h.cap,h.rm.mks hm⟩
 refine ⟨h.row.2.1.1,?_⟩
 rcases hav.2 with e | ⟨b,off,e,hh⟩
 ·exact .inl e
 ·refine .inr ⟨b,off,e,fun i hi=>?_⟩
  have hi':i<hs.length:=by rw [h.heads.1];exact hi
  obtain ⟨a1,a2,a3,a4⟩:=hrow.2 i hi' hi
  obtain ⟨c1,c2,c3⟩:=hh i hi'
  rw [a1] at c1
  rw [a2] at c2
  exact ⟨hs[i].ao,hs[i].len,hs[i].cap,c1,c2,c3,a3,a4⟩
theorem aJ4 {w:World} {hs:List AV} {l:List dB} (h:iP w hs l) (hf:aAo l):∀v ∈ hs,v.len≤1048576:=by
 intro v hv
 obtain ⟨i,hi,rfl⟩:=List.getElem_of_mem hv
 have hi':i<l.length:=by rw [←h.1];exact hi
 have h1:=(h.2 i hi hi').2.2.1.1
 have h2:=(hf.2 l[i] (List.getElem_mem hi')).2.1
 omega
structure SMk (w:World) (x:Sls) (hs:List AV):Prop where
 q:gM w x.qa x.ql (mE x.ql)
 a:eF w x.aa x.al (hsM (1+4*x.ql) hs)
 k:l9 w (1+4*x.ql) hs
 m:aZ w x.ma x.ml (jW (gX (1+4*x.ql) hs) x.ml)
 c:aY w x.ca x.cl (jL (gX (1+4*x.ql) hs+4*x.ml) x.cl)
 z:x.ql=0∨∃g,x.qa=some ⟨g,0,none⟩
theorem SMk.below {w w':World} {x:Sls} {hs:List AV} (h:SMk w x hs) (hb:Below w.heap.size w w'):SMk w' x hs:=⟨h.q.below hb,h.a.below hb,l9.below hb _ _ h.k,h.m.below hb,h.c.below hb,h.z⟩
def aCW (x:Sls) (hs:List AV):Nat:=gX (1+4*x.ql) hs+4*x.ml+5*x.cl
def inS (x:Sls) (hs:List AV) (k:Nat):Prop:=inR x.qa x.ql k∨(inR x.aa x.al k∨∃v ∈ hs,inR v.ao v.len k)∨inR x.ma x.ml k∨inR x.ca x.cl k
theorem qH.ins {B E:Nat} {w:World} {x:Sls} {s:St} {hs:List AV} (h:qH B E w x s hs):∀k,inS x hs k→B≤k∧k<E:=by
 rintro k (hk | (hk | ⟨v,hv,hk⟩) | hk | hk)
 ·exact ⟨(h.q.lies k hk).1,(h.q.lies k hk).2.1⟩
 ·exact ⟨(h.a.lies k hk).1,(h.a.lies k hk).2.1⟩
 ·exact ⟨((h.asks v hv).lies k hk).1,((h.asks v hv).lies k hk).2.1⟩
 ·exact ⟨(h.m.lies k hk).1,(h.m.lies k hk).2.1⟩
 ·exact ⟨(h.c.lies k hk).1,(h.c.lies k hk).2.1⟩
structure aHa (x:Sls) (hs:List AV):Prop where
 q:x.ql≤1048576
 a:x.al≤1048576
 m:x.ml≤1048576
 c:x.cl≤1048576
 k:∀v ∈ hs,v.len≤1048576
 n:hs.length=x.al
theorem qH.lim {B E:Nat} {w:World} {x:Sls} {s:St} {hs:List AV} (h:qH B E w x s hs) (hf:bS s):aHa x hs:=
 ⟨by have:=h.row.1.1;have:=hf.1.1;omega,by have:=h.row.2.1.1;have:=hf.2.1.1;omega,by have:=h.row.2.2.1.1;have:=hf.2.2.1.1;omega,by have:=h.row.2.2.2.1;have:=hf.2.2.2.1;omega,aJ4 h.heads hf.2.1,h.av.1.symm⟩
theorem aHa.e {x:Sls} {hs:List AV} (h:aHa x hs):1+4*x.ql≤gX (1+4*x.ql) hs∧gX (1+4*x.ql) hs≤10000000000000:=by
 have h1:=q9 hs (1+4*x.ql)
 have h2:=aGv hs (1+4*x.ql) 1048576 h.k
 have h3:=h.q
 have h4:hs.length*(2+5*1048576)≤1048576*(2+5*1048576):=Nat.mul_le_mul_right _ (by have:=h.n;have:=h.a;omega)
 omega
theorem aAZ {B E:Nat} {x:Sls} {s:St} {hs:List AV} {w:World} (h:qH B E w x s hs) (hE:E≤w.heap.size) (hl:aHa x hs) :
  Calls Tryz.prog 11 #[sv x s,.int .i64 1] w fun e w'=>e=.returned (.int .i64 (aCW x hs:Int))∧SMk w' x hs∧Mks (inS x hs) w w':=by
 have hb0:=yA (Below.refl _ w) (.cells (svc x s) 34)
 have P0:=aA (yD w (svc x s) 34)
 have HA:=aA (h.below hb0)
 have HG0:=aA (show Mks (inS x hs) w _ from .of_below hb0)
 have hlim:=hl.e
 have hsq:=hl.q
 have hsa:=hl.a
 have hsm:=hl.m
 have hsc:=hl.c
 have HK:=aA hl.k
 have hIN:=aA h.ins
 have HZ:=aA (show x.ql=0∨∃g,x.qa=some ⟨g,0,none⟩ by rcases h.q with e | ⟨g,M,e,_⟩;exact .inl e;exact .inr ⟨g,e⟩)
 have hES:aCW x hs=gX (1+4*x.ql) hs+4*x.ml+5*x.cl:=rfl
 obtain ⟨e1,he1⟩:∃e,gX (1+4*x.ql) hs=e:=⟨_,rfl⟩
 have HE1:=aA he1
 rw [he1] at hlim hES
 rw [hES]
 clear h hb0 hl he1 hES
 obtain ⟨qs,clock,epoch,next,serial,apps,ms,cs⟩:=s
 obtain ⟨qa,ql,qc,aa,al,ac,ma,ml,mc,ca,cl,cc⟩:=x
 simp only at *
 have CQ:=aA (xG (c:=qc) (uH HA).q hsq)
 go_enter Tryz.func11,Tryz.ntmps11
 go_wp2_with fail
 refine (uH CQ).mono ?_
 rintro e w1 ⟨rfl,hrow,hm1⟩
 have hin:∀k,inR qa ql k→k<w.heap.size:=fun k hk=>by have:=uH hIN k (.inl hk);omega
 have P1:=aA (hm1.blk (uH P0) (fun hk=>by have:=hin _ hk;omega))
 have R1:=aA hrow
 have OQ:=aA ((uH HA).q.mks hm1)
 have OA:=aA ((uH HA).a.mks hm1)
 have OM:=aA ((uH HA).m.mks hm1)
 have OC:=aA ((uH HA).c.mks hm1)
 have AVR:=aA ((uH HA).av.mks hm1 ((uH HA).a.apart (uH HA).q (by decide)))
 have OK:=aA (fun v hv=>((uH HA).asks v hv).mks hm1)
 have AP:=aA (uH HA).apart
 have HG1:=aA ((uH HG0).trans (hm1.mono (fun k hk=>.inl hk)))
 have p5:=(uH P1).at 5
 simp at p5
 have CA:=aA (by have:=aB8 (c:=ac) (1+4*ql) hs (uH OA) (uH AVR) (fun v hv=>⟨uH OK v hv,uH HK v hv⟩) (uH AP) hsa (by omega) (by have:=uH HE1;omega);rw [uH HE1,show ((1+4*ql:Nat):Int)=1+4*(ql:Int) by omega] at this;exact this)
 clear hrow hm1 P0 CQ HG0 HA hin
 go_wp2_with fail
 refine (uH CA).mono ?_
 rintro e w2 ⟨rfl,hrow,hask,hm2⟩
 have hin:∀k,(inR aa al k∨∃v ∈ hs,inR v.ao v.len k)→k<w.heap.size:=fun k hk=>by have:=uH hIN k (.inr (.inl hk));omega
 have P2:=aA (hm2.blk (uH P1) (fun hk=>by have:=hin _ hk;omega))
 have R2:=aA ((uH R1).mks hm2 (fun k hk hk'=>by
  rcases hk' with h | ⟨v,hv,h⟩
  ·exact (uH OQ).apart (uH OA) (by decide) k hk h
  ·exact (uH OQ).apart (uH OK v hv) (by decide) k hk h))
 have A2:=aA hrow
 have K2:=aA hask
 have OQ2:=aA ((uH OQ).mks hm2)
 have OA2:=aA ((uH OA).mks hm2)
 have OM2:=aA ((uH OM).mks hm2)
 have OC2:=aA ((uH OC).mks hm2)
 have OK2:=aA (fun v hv=>(uH OK v hv).mks hm2)
 have HG2:=aA ((uH HG1).trans (hm2.mono (fun k hk=>.inr (.inl hk))))
 have p6:=(uH P2).at 6
 simp at p6
 have CM:=aA (tK (c:=mc) e1 (uH OM2) hsm (by omega) (by omega))
 clear hrow hask hm2 P1 CA HG1 p5 R1 OQ OA OM OC OK AVR hin
 go_wp2_with fail
 refine (uH CM).mono ?_
 rintro e w3 ⟨rfl,hrow,hm3⟩
 have hin:∀k,inR ma ml k→k<w.heap.size:=fun k hk=>by have:=uH hIN k (.inr (.inr (.inl hk)));omega
 have P3:=aA (hm3.blk (uH P2) (fun hk=>by have:=hin _ hk;omega))
 have R3:=aA ((uH R2).mks hm3 ((uH OQ2).apart (uH OM2) (by decide)))
 have A3:=aA ((uH A2).mks hm3 ((uH OA2).apart (uH OM2) (by decide)))
 have K3:=aA ((uH K2).mks hm3 _ _ (fun v hv=>(uH OK2 v hv).apart (uH OM2) (by decide)))
 have M3:=aA hrow
 have OQ3:=aA ((uH OQ2).mks hm3)
 have OA3:=aA ((uH OA2).mks hm3)
 have OM3:=aA ((uH OM2).mks hm3)
 have OC3:=aA ((uH OC2).mks hm3)
 have OK3:=aA (fun v hv=>(uH OK2 v hv).mks hm3)
 have HG3:=aA ((uH HG2).trans (hm3.mono (fun k hk=>.inr (.inr (.inl hk)))))
 have p7:=(uH P3).at 7
 simp at p7
 have CC:=aA (by have:=pO (c:=cc) (e1+4*ml) (uH OC3) hsc (by omega) (by omega);rw [show ((e1+4*ml:Nat):Int)=(e1:Int)+4*(ml:Int) by omega] at this;exact this)
 clear hrow hm3 P2 CM HG2 p6 R2 A2 K2 OQ2 OA2 OM2 OC2 OK2 hin
 go_wp2_with fail
 refine (uH CC).mono ?_
 rintro e w4 ⟨rfl,hrow,hm4⟩
 have R4:=aA ((uH R3).mks hm4 ((uH OQ3).apart (uH OC3) (by decide)))
 have A4:=aA ((uH A3).mks hm4 ((uH OA3).apart (uH OC3) (by decide)))
 have K4:=aA ((uH K3).mks hm4 _ _ (fun v hv=>(uH OK3 v hv).apart (uH OC3) (by decide)))
 have M4:=aA ((uH M3).mks hm4 ((uH OM3).apart (uH OC3) (by decide)))
 have C4:=aA hrow
 have HG4:=aA ((uH HG3).trans (hm4.mono (fun k hk=>.inr (.inr (.inr hk)))))
 clear hrow hm4 P3 CC HG3 p7 R3 A3 K3 M3 OQ3 OA3 OM3 OC3 OK3
 go_wp2
 go_ret
 refine ⟨?_,⟨uH R4,uH A4,uH K4,?_,?_,uH HZ⟩,uH HG4⟩
 ·refine bQ ?_
  omega
 ·show aZ _ _ _ (jW (gX (1+4*ql) hs) ml)
  rw [uH HE1]
  exact uH M4
 ·show aY _ _ _ (jL (gX (1+4*ql) hs+4*ml) cl)
  rw [uH HE1]
  exact uH C4
theorem pY {x:Sls} {hs:List AV} {w:World} (s:St) (h:SMk w x hs) (hl:aHa x hs) :
  Calls Tryz.prog 12 #[sv x s,.int .i64 1] w fun e w'=>e=.returned (.int .i64 (aCW x hs:Int))∧Below w.heap.size w w':=by
 have hb0:=yA (Below.refl _ w) (.cells (svc x s) 34)
 have P0:=aA (yD w (svc x s) 34)
 have HA:=aA (h.below hb0)
 have HB0:=aA hb0
 have hlim:=hl.e
 have hsq:=hl.q
 have hsa:=hl.a
 have hsm:=hl.m
 have hsc:=hl.c
 have HK:=aA hl.k
 have hES:aCW x hs=gX (1+4*x.ql) hs+4*x.ml+5*x.cl:=rfl
 obtain ⟨e1,he1⟩:∃e,gX (1+4*x.ql) hs=e:=⟨_,rfl⟩
 have HE1:=aA he1
 rw [he1] at hlim hES
 rw [hES]
 clear h hb0 hl he1 hES
 obtain ⟨qs,clock,epoch,next,serial,apps,ms,cs⟩:=s
 obtain ⟨qa,ql,qc,aa,al,ac,ma,ml,mc,ca,cl,cc⟩:=x
 simp only at *
 have HN0:¬(1+4*(ql:Int))<0:=by omega
 have HN1:¬(e1:Int)<0:=by omega
 have HN2:¬((e1:Int)+4*(ml:Int))<0:=by omega
 have HN3:¬((e1:Int)+4*(ml:Int)+5*(cl:Int))<0:=by omega
 have CQ:∀wx,Below w.heap.size w wx→SMk wx ⟨qa,ql,qc,aa,al,ac,ma,ml,mc,ca,cl,cc⟩ hs→Calls Tryz.prog 38 #[.slice qa ql qc,.int .i64 1] wx fun e w'=>e=.returned (.int .i64 (1+4*(ql:Int)))∧Below wx.heap.size wx w':=fun wx _ hx=>by
  have hq:=hx.q
  have hz:=hx.z
  simp only at hq hz
  rcases hz with hz | ⟨g,rfl⟩
  ·subst hz
   refine (vW qa qc wx).mono ?_
   rintro e w' ⟨rfl,rfl⟩
   exact ⟨rfl,Below.refl _ _⟩
  ·exact xR g ql qc wx hq hsq
 have CQ':=aA CQ
 clear CQ
 go_enter Tryz.func12,Tryz.ntmps12
 go_wp2_with fail
 refine (uH CQ' _ (uH HB0) (uH HA)).mono ?_
 rintro e w1 ⟨rfl,hb⟩
 have P1:=aA ((uH P0).below hb)
 have HA1:=aA ((uH HA).below hb)
 have HB1:=aA (yB (uH HB0) hb)
 have p5:=(uH P1).at 5
 simp at p5
 have CA:=aA (by have:=aBy aa al ac (1+4*ql) hs w1 (uH HA1).a (uH HA1).k hsa (uH HK) (by omega) (by have:=uH HE1;omega);rw [uH HE1,show ((1+4*ql:Nat):Int)=1+4*(ql:Int) by omega] at this;exact this)
 clear hb P0 HA HB0 CQ'
 go_wp2_with fail
 refine (uH CA).mono ?_
 rintro e w2 ⟨rfl,hb⟩
 have P2:=aA ((uH P1).below hb)
 have HA2:=aA ((uH HA1).below hb)
 have HB2:=aA (yB (uH HB1) hb)
 have p6:=(uH P2).at 6
 simp at p6
 have CM:=aA (by have hmm:=(uH HA2).m;simp only [uH HE1] at hmm;exact tN ma ml mc e1 w2 hmm hsm (by omega) (by omega))
 clear hb P1 HA1 HB1 CA p5
 go_wp2_with fail
 refine (uH CM).mono ?_
 rintro e w3 ⟨rfl,hb⟩
 have P3:=aA ((uH P2).below hb)
 have HA3:=aA ((uH HA2).below hb)
 have HB3:=aA (yB (uH HB2) hb)
 have p7:=(uH P3).at 7
 simp at p7
 have CC:=aA (by have hmm:=(uH HA3).c;simp only [uH HE1] at hmm;have:=p8 ca cl cc (e1+4*ml) w3 hmm hsc (by omega) (by omega);rw [show ((e1+4*ml:Nat):Int)=(e1:Int)+4*(ml:Int) by omega] at this;exact this)
 clear hb P2 HA2 HB2 CM p6
 go_wp2_with fail
 refine (uH CC).mono ?_
 rintro e w4 ⟨rfl,hb⟩
 have HB4:=aA (yB (uH HB3) hb)
 clear hb P3 HA3 HB3 CC p7
 go_wp2
 go_ret
 refine ⟨bQ ?_,uH HB4⟩
 omega
theorem dJ.grow {B E:Nat} {w w':World} {t:TypeId} {sz n:Nat} {ao:Option Addr} (h:dJ B E w t sz ao n) (hb:Below w.heap.size w w') (hE:E≤w.heap.size):dJ B w'.heap.size w' t sz ao n:=(h.below hb).mono (Nat.le_refl _) (Nat.le_trans hE hb.size)
theorem pK {B E k:Nat} {w:World} {t:TypeId} {sz n:Nat} {ao:Option Addr} (h:dJ B E w t sz ao n) (hk:k<B∨E≤k):∀i,inR ao n i→¬(i=k):=fun i hi e=>by
 obtain ⟨h1,h2,_⟩:=h.lies i hi
 omega
def tX (B:Nat) (w:World) (ao:Option Addr) (n:Nat) (l:List Q):Prop:=gM w ao n l∧dJ B w.heap.size w 100 4 ao n
theorem tX.below {B n:Nat} {w w':World} {ao:Option Addr} {l:List Q} (h:tX B w ao n l) (hb:Below w.heap.size w w'):tX B w' ao n l:=⟨h.1.below hb,h.2.grow hb (Nat.le_refl _)⟩
theorem tX.sc {B n k j:Nat} {v:Value} {w:World} {ao:Option Addr} {l:List Q} (h:tX B w ao n l) (hk:k<B):tX B (w.setCell ⟨k,j,none⟩ v) ao n l:=
 ⟨h.1.mks (Mks.one (fun x=>x=k) w k j v rfl) (pK h.2 (.inl hk)),by rw [bE];exact h.2.mks (Mks.one (fun x=>x=k) w k j v rfl)⟩
theorem tF.has {B:Nat} {w:World} {v:Value} {l:List Q} (h:tF B w v l):∃ao cap,v=.slice ao l.length cap∧l.length≤cap∧tX B w ao l.length l:=by
 obtain ⟨ao,cap,e,hr,hc,hg⟩:=uS h
 refine ⟨ao,cap,e,hc,hr,?_⟩
 by_cases hz:l=[]
 ·exact .inl (by rw [hz];rfl)
 ·obtain ⟨g,cur,e,h1,h2,h3⟩:=hg hz
  exact .inr ⟨g,cap,e,h1,lt_of_block h2,⟨cur,h2,h3⟩,hc⟩
def tH (B:Nat) (w:World) (ao:Option Addr) (n:Nat) (l:List Mac):Prop:=aZ w ao n l∧dJ B w.heap.size w 104 4 ao n
theorem tH.below {B n:Nat} {w w':World} {ao:Option Addr} {l:List Mac} (h:tH B w ao n l) (hb:Below w.heap.size w w'):tH B w' ao n l:=⟨h.1.below hb,h.2.grow hb (Nat.le_refl _)⟩
theorem tH.sc {B n k j:Nat} {v:Value} {w:World} {ao:Option Addr} {l:List Mac} (h:tH B w ao n l) (hk:k<B):tH B (w.setCell ⟨k,j,none⟩ v) ao n l:=
 ⟨h.1.mks (Mks.one (fun x=>x=k) w k j v rfl) (pK h.2 (.inl hk)),by rw [bE];exact h.2.mks (Mks.one (fun x=>x=k) w k j v rfl)⟩
theorem aDt {B:Nat} {w:World} {v:Value} {l:List Mac} (h:aHb B w v l):∃ao cap,v=.slice ao l.length cap∧l.length≤cap∧tH B w ao l.length l:=by
 obtain ⟨ao,cap,e,hr,hc,hg⟩:=aIA h
 refine ⟨ao,cap,e,hc,hr,?_⟩
 by_cases hz:l=[]
 ·exact .inl (by rw [hz];rfl)
 ·obtain ⟨g,cur,e,h1,h2,h3⟩:=hg hz
  exact .inr ⟨g,cap,e,h1,lt_of_block h2,⟨cur,h2,h3⟩,hc⟩
def qL (B:Nat) (w:World) (ao:Option Addr) (n:Nat) (l:List Con):Prop:=aY w ao n l∧dJ B w.heap.size w 38 5 ao n
theorem qL.below {B n:Nat} {w w':World} {ao:Option Addr} {l:List Con} (h:qL B w ao n l) (hb:Below w.heap.size w w'):qL B w' ao n l:=⟨h.1.below hb,h.2.grow hb (Nat.le_refl _)⟩
theorem qL.sc {B n k j:Nat} {v:Value} {w:World} {ao:Option Addr} {l:List Con} (h:qL B w ao n l) (hk:k<B):qL B (w.setCell ⟨k,j,none⟩ v) ao n l:=
 ⟨h.1.mks (Mks.one (fun x=>x=k) w k j v rfl) (pK h.2 (.inl hk)),by rw [bE];exact h.2.mks (Mks.one (fun x=>x=k) w k j v rfl)⟩
theorem qL.base {B B' n:Nat} {w:World} {ao:Option Addr} {l:List Con} (h:qL B w ao n l) (hb:B'≤B):qL B' w ao n l:=⟨h.1,h.2.mono hb (Nat.le_refl _)⟩
theorem aAi {B:Nat} {w:World} {v:Value} {l:List Con} (h:aFd B w v l):∃ao cap,v=.slice ao l.length cap∧l.length≤cap∧qL B w ao l.length l:=by
 obtain ⟨ao,cap,e,hr,hc,hg⟩:=aIS h
 refine ⟨ao,cap,e,hc,hr,?_⟩
 by_cases hz:l=[]
 ·exact .inl (by rw [hz];rfl)
 ·obtain ⟨g,cur,e,h1,h2,h3⟩:=hg hz
  exact .inr ⟨g,cap,e,h1,lt_of_block h2,⟨cur,h2,h3⟩,hc⟩
def oN (B:Nat) (w:World) (ao:Option Addr) (n:Nat) (hs:List AV):Prop:=eF w ao n hs∧dJ B w.heap.size w 74 3 ao n
theorem oN.below {B n:Nat} {w w':World} {ao:Option Addr} {l:List AV} (h:oN B w ao n l) (hb:Below w.heap.size w w'):oN B w' ao n l:=⟨h.1.below hb,h.2.grow hb (Nat.le_refl _)⟩
theorem oN.sc {B n k j:Nat} {v:Value} {w:World} {ao:Option Addr} {l:List AV} (h:oN B w ao n l) (hk:k<B):oN B (w.setCell ⟨k,j,none⟩ v) ao n l:=
 ⟨h.1.mks (Mks.one (fun x=>x=k) w k j v rfl) (pK h.2 (.inl hk)),by rw [bE];exact h.2.mks (Mks.one (fun x=>x=k) w k j v rfl)⟩
theorem aDm {B:Nat} {w:World} {v:Value} {l:List AV} (h:aAs B w v l):∃ao cap,v=.slice ao l.length cap∧l.length≤cap∧oN B w ao l.length l:=by
 obtain ⟨ao,cap,e,hr,hc,hg⟩:=aHp h
 refine ⟨ao,cap,e,hc,hr,?_⟩
 by_cases hz:l=[]
 ·exact .inl (by rw [hz];rfl)
 ·obtain ⟨g,cur,e,h1,h2,h3⟩:=hg hz
  exact .inr ⟨g,cap,e,h1,lt_of_block h2,⟨cur,h2,h3⟩,hc⟩
structure kD (B:Nat) (w:World) (ns:List AV) (l:List dB):Prop where
 heads:iP w ns l
 own:∀v ∈ ns,dJ B w.heap.size w 77 5 v.ao v.len
 apart:ns.Pairwise aH6
theorem kD.below {B:Nat} {w w':World} {ns:List AV} {l:List dB} (h:kD B w ns l) (hb:Below w.heap.size w w'):kD B w' ns l:=⟨h.heads.below hb,fun v hv=>(h.own v hv).grow hb (Nat.le_refl _),h.apart⟩
theorem kD.sc {B k j:Nat} {v:Value} {w:World} {ns:List AV} {l:List dB} (h:kD B w ns l) (hk:k<B∨∃t N,Cel w t k N∧t≠77):kD B (w.setCell ⟨k,j,none⟩ v) ns l:=by
 have key:∀u ∈ ns,∀i,inR u.ao u.len i→¬(i=k):=fun u hu i hi e=>by
  obtain ⟨h1,h2,N,hc⟩:=(h.own u hu).lies i hi
  subst e
  rcases hk with hk | ⟨t,N',hc',ht⟩
  ·omega
  ·exact ht (hc'.type hc)
 refine ⟨⟨h.heads.1,fun i h1 h2=>?_⟩,fun u hu=>?_,h.apart⟩
 ·obtain ⟨a,b,c,d⟩:=h.heads.2 i h1 h2
  exact ⟨a,b,c.mks (Mks.one (fun x=>x=k) w k j v rfl) (key _ (List.getElem_mem h1)),d⟩
 ·rw [bE]
  exact (h.own u hu).mks (Mks.one (fun x=>x=k) w k j v rfl)
theorem kD.nil (B:Nat) (w:World):kD B w [] []:=⟨⟨rfl,fun i h=>absurd h (by simp)⟩,fun v hv=>absurd hv (by simp),.nil⟩
theorem uD {B:Nat} {w:World} {v:Value} {l:List Ask} (h:rM B w v l):∃ao cap,v=.slice ao l.length cap∧l.length≤cap∧aO w ao l.length l∧dJ B w.heap.size w 77 5 ao l.length:=by
 obtain ⟨ao,cap,e,hr,hc,hg⟩:=h.row
 refine ⟨ao,cap,e,hc,hr,?_⟩
 by_cases hz:l=[]
 ·exact .inl (by rw [hz];rfl)
 ·obtain ⟨g,cur,e,h1,h2,h3⟩:=hg hz
  exact .inr ⟨g,cap,e,h1,lt_of_block h2,⟨cur,h2,h3⟩,hc⟩
theorem kD.snoc {B:Nat} {w w':World} {ns:List AV} {l:List dB} (h:kD B w ns l) (hb:Below w.heap.size w w') (hB:B≤w.heap.size) (id:Int) (qu:List UInt8) (ao:Option Addr) (cap:Nat) (k:List Ask) (hc:k.length≤cap)
  (hr:aO w' ao k.length k) (ho:dJ w.heap.size w'.heap.size w' 77 5 ao k.length):kD B w' (ns++[⟨id,qu,ao,k.length,cap⟩]) (l++[⟨id,qu,k⟩]):=by
 have h':=h.below hb
 refine ⟨⟨by simp [h.heads.1],fun i h1 h2=>?_⟩,fun v hv=>?_,?_⟩
 ·by_cases hi:i<ns.length
  ·have hi':i<l.length:=by rw [←h.heads.1];exact hi
   rw [List.getElem_append_left hi,List.getElem_append_left hi']
   exact h'.heads.2 i hi hi'
  ·have hi1:i=ns.length:=by simp at h1;omega
   subst hi1
   have hl:ns.length=l.length:=h.heads.1
   simp only [List.getElem_append_right (Nat.le_refl _),Nat.sub_self,List.getElem_cons_zero]
   rw [List.getElem_append_right (by omega)]
   simp only [hl,Nat.sub_self,List.getElem_cons_zero]
   exact ⟨trivial,trivial,hr,hc⟩
 ·rcases List.mem_append.1 hv with hv | hv
  ·exact h'.own v hv
  ·simp at hv
   subst hv
   exact ho.mono hB (Nat.le_refl _)
 ·refine List.pairwise_append.2 ⟨h.apart,by simp,fun u hu v hv=>?_⟩
  simp at hv
  subst hv
  rcases h.own u hu with e | ⟨g1,M1,e1,_,h3,_⟩
  ·exact .inl e
  ·rcases ho with e | ⟨g2,M2,e2,h4,_⟩
   ·exact .inr (.inl e)
   ·refine .inr (.inr (fun e=>?_))
    simp only at e
    rw [e1,e2] at e
    cases e
    omega
theorem aHV {w:World} {ao:Option Addr} {n:Nat} {hs:List AV} {l:List dB} (h:eF w ao n hs) (hh:iP w hs l):dV w ao n l:=by
 refine ⟨h.1.trans hh.1,?_⟩
 rcases h.2 with e | ⟨b,off,e,hc⟩
 ·exact .inl e
 ·refine .inr ⟨b,off,e,fun i hi=>?_⟩
  have hi':i<hs.length:=by rw [hh.1];exact hi
  obtain ⟨a1,a2,a3,a4⟩:=hh.2 i hi' hi
  obtain ⟨c1,c2,c3⟩:=hc i hi'
  rw [a1] at c1
  rw [a2] at c2
  exact ⟨hs[i].ao,hs[i].len,hs[i].cap,c1,c2,c3,a3,a4⟩
theorem aCg {B:Nat} {w:World} {x:Sls} {s:St} {hs:List AV} (q:tX B w x.qa x.ql s.qs) (a:oN B w x.aa x.al hs) (k:kD B w hs s.apps) (m:tH B w x.ma x.ml s.ms) (c:qL B w x.ca x.cl s.cs) (cap:aK0 x) (rm:RmS B w.heap.size w x hs):qH B w.heap.size w x s hs:=
 ⟨⟨q.1,aHV a.1 k.heads,m.1,c.1⟩,q.2,a.2,m.2,c.2,a.1,k.heads,k.own,k.apart,cap,rm⟩
theorem qL.blk {B n k:Nat} {w:World} {ao:Option Addr} {l:List Con} (h:qL B w ao n l) (hk:k<n):∃g,ao=some ⟨g,0,none⟩∧B≤g∧g<w.heap.size∧(∀j,w.frozen? ⟨g,j,none⟩=false)∧∀i (hi:i<l.length),nO w g (i*5) l[i]:=by
 obtain ⟨⟨h1,h2⟩,h3⟩:=h
 rcases h3 with e | ⟨g,M,rfl,hB,hE,hc,hn⟩
 ·omega
 ·rcases h2 with e | ⟨b,off,e,hh⟩
  ·omega
  ·cases e
   exact ⟨g,rfl,hB,hE,fun j=>hc.frozen j,fun i hi=>by have:=hh i hi;rwa [Nat.zero_add] at this⟩
theorem wH (ao:Option Addr) (len cap:Nat) (cs:List Con) (w:World) (h:aY w ao len cs) (hl:len≤1048576) (hn:∀c ∈ cs,c.node.length≤1048576) :
  Calls Tryz.prog 68 #[.slice ao len cap] w fun e w'=>∃co cd,e=.returned (.slice co cs.length cd)∧cs.length≤cd∧qL w.heap.size w' co cs.length cs∧dJ w.heap.size w'.heap.size w' 38 5 co cd∧Below w.heap.size w w':=by
 have HF:=aA hn
 have CC:=aA (aAl ao len cap cs w h hl)
 have hll:=aA h.1
 clear h hn
 go_enter Tryz.func68,Tryz.ntmps68
 go_wp2_with fail
 refine (uH CC).mono ?_
 rintro e w9 ⟨v,rfl,ho,hb⟩
 obtain ⟨co,cd,rfl,hcd,hch⟩:=aAi ho
 obtain ⟨n4,hn4⟩:∃n,cs.length=n:=⟨_,rfl⟩
 rw [hn4] at hch hcd ⊢
 have OC:=aA hch
 have HO9:=aA (gV ho)
 have HB9:=aA hb
 have HN4:=aA hn4
 have hl4:n4≤1048576:=by have:=uH hll;omega
 clear ho hb hch CC hn4
 go_wp2
 go_loopw [4,5,10] (fun _ _ i wr=>∃(q:Nat),q≤n4∧i=.int .i64 q∧Hid (qL w.heap.size wr co n4 cs)∧Hid (dJ w.heap.size wr.heap.size wr 38 5 co cd)∧Hid (Below w.heap.size w wr)) (fun _ _ i _=>n4 - (intOf i).toNat)
 case atStart=>exact ⟨0,Nat.zero_le _,rfl,OC,HO9,HB9⟩
 case round=>
  obtain ⟨q,hq,rfl,HC,HO,HB⟩:=hrel
  clear OC HO9 HB9
  by_cases hlt:q<n4
  ·obtain ⟨g,rfl,hgB,hgE,hfz,hat⟩:=(uH HC).blk hlt
   have hjl:q<cs.length:=by have:=uH HN4;omega
   obtain ⟨c0,c1,c2,c3,c4⟩:=hat q hjl
   have hnm:=uH HF cs[q] (List.getElem_mem hjl)
   obtain ⟨⟨ci,cap,cn,me,cp⟩,hm⟩:∃m,cs[q]=m:=⟨_,rfl⟩
   rw [hm] at c0 c1 c2 c3 c4 hnm
   simp only at c0 c1 c2 c3 c4 hnm
   have HW:=aA (yA (Below.refl _ wr) (.cells #[.int .i64 ci,.int .i64 cap,.string (bs cn),.int .i64 me,.int .i64 cp] 38))
   have XC:=aA ((uH HC).below (uH HW))
   have XB:=aA (yB (uH HB) (uH HW))
   have XO:=aA ((uH HO).grow (uH HW) (Nat.le_refl _))
   have XA:=aA (yD wr #[.int .i64 ci,.int .i64 cap,.string (bs cn),.int .i64 me,.int .i64 cp] 38)
   have D0:=aA (fD c0 (uH HW))
   have D1:=aA (fD c1 (uH HW))
   have D2:=aA (fD c2 (uH HW))
   have D3:=aA (fD c3 (uH HW))
   have D4:=aA (fD c4 (uH HW))
   have CL:=aA (fun wx=>nX ⟨ci,cap,cn,me,cp⟩ wx hnm)
   have j0:(0:Int)≤q:=by omega
   have j1:(q:Int)<n4:=by omega
   clear hat hm hjl hfz hnm
   obtain ⟨W,hW⟩:∃W,wr.alloc (.cells #[.int .i64 ci,.int .i64 cap,.string (bs cn),.int .i64 me,.int .i64 cp] 38)=W:=⟨_,rfl⟩
   have XA1:=uH XA
   rw [hW] at XC XB XO D0 D1 D2 D3 D4 XA1
   have xa0:=(uH XA).at 0
   have xa1:=(uH XA).at 1
   have xa2:=(uH XA).at 2
   have xa3:=(uH XA).at 3
   have xa4:=(uH XA).at 4
   simp at xa0 xa1 xa2 xa3 xa4
   have HWW:=aA hW
   clear hW HW HC HB HO XA XA1
   go_wp2_with fail
   refine (uH CL _).mono ?_
   rintro e w6 ⟨rfl,hb⟩
   rw [uH HWW] at hb
   have HB6:=aA (yB (Below.refl _ W) hb)
   clear c0 c1 c2 c3 c4
   have c0:=fD (uH D0) (uH HB6);have c1:=fD (uH D1) (uH HB6);have c2:=fD (uH D2) (uH HB6);have c3:=fD (uH D3) (uH HB6);have c4:=fD (uH D4) (uH HB6)
   have s0:=gT c0;have s1:=gT c1;have s2:=gT c2;have s3:=gT c3;have s4:=gT c4
   obtain ⟨g',e',_,_,hfz,_⟩:=((uH XC).below (uH HB6)).blk hlt
   cases e'
   have z0:=hfz (q*5);have z1:=hfz (q*5+1);have z2:=hfz (q*5+2);have z3:=hfz (q*5+3);have z4:=hfz (q*5+4)
   clear hb hfz
   go_wp2
   go_roundw
   case rel=>exact ⟨q+1,by omega,by go_num,aA ((uH XC).below (uH HB6)),aA ((uH XO).grow (uH HB6) (Nat.le_refl _)),aA (yB (uH XB) (uH HB6))⟩
   case measure=>simp [intOf];omega
  ·obtain rfl:q=n4:=by omega
   have j1:¬(q:Int)<q:=by omega
   clear hlt
   go_wp2
   go_ret
   rw [uH HN4]
   exact ⟨co,cd,rfl,hcd,uH HC,uH HO,uH HB⟩
def RmL (B:Nat) (w:World) (l:List (TypeId×Nat×Option Addr×Nat)):Prop:=∀p ∈ l,dJ B w.heap.size w p.1 p.2.1 p.2.2.1 p.2.2.2
theorem RmL.nil (B:Nat) (w:World):RmL B w []:=fun p hp=>absurd hp (by simp)
theorem RmL.cons {B:Nat} {w:World} {l:List (TypeId×Nat×Option Addr×Nat)} {t:TypeId} {sz c:Nat} {ao:Option Addr} (h:dJ B w.heap.size w t sz ao c) (hl:RmL B w l):RmL B w ((t,sz,ao,c)::l):=fun p hp=>by
 rcases List.mem_cons.1 hp with rfl | hp
 ·exact h
 ·exact hl p hp
theorem RmL.sub {B:Nat} {w:World} {l l':List (TypeId×Nat×Option Addr×Nat)} (h:RmL B w l) (hs:∀p ∈ l',p ∈ l):RmL B w l':=fun p hp=>h p (hs p hp)
theorem RmL.below {B:Nat} {w w':World} {l:List (TypeId×Nat×Option Addr×Nat)} (h:RmL B w l) (hb:Below w.heap.size w w'):RmL B w' l:=fun p hp=>((h p hp).below hb).mono (Nat.le_refl _) hb.size
theorem lQ {B:Nat} {w:World} {t:TypeId} {sz n:Nat} {ao:Option Addr} (h:dJ B w.heap.size w t sz ao n) (k j:Nat) (v:Value):dJ B (w.setCell ⟨k,j,none⟩ v).heap.size (w.setCell ⟨k,j,none⟩ v) t sz ao n:=(h.sc k j v).mono (Nat.le_refl _) (by rw [bE];exact Nat.le_refl _)
theorem RmL.sc {B:Nat} {w:World} {l:List (TypeId×Nat×Option Addr×Nat)} (h:RmL B w l) (k j:Nat) (v:Value):RmL B (w.setCell ⟨k,j,none⟩ v) l:=fun p hp=>lQ (h p hp) k j v
theorem RmL.grown {B:Nat} {w w':World} {l:List (TypeId×Nat×Option Addr×Nat)} {t':TypeId} {r:Option Nat} (h:RmL B w l) (hg:w.grownBy w' r) (hr:∀k,r=some k→∃N,Cel w t' k N) (ht:∀p ∈ l,t'≠p.1):RmL B w' l:=fun p hp=>by
 rcases h p hp with e | ⟨g,M,e,h1,h2,h3,h4⟩
 ·exact .inl e
 ·refine .inr ⟨g,M,e,h1,Nat.lt_of_lt_of_le h2 hg.size,h3.of_block (hg.block g h2 (fun e2=>?_)),h4⟩
  obtain ⟨N,hc⟩:=hr g e2.symm
  exact ht p hp (hc.type h3)
def RL4 (co:Option Addr) (cd:Nat) (mo:Option Addr) (md:Nat) (qo:Option Addr) (qd:Nat) (ns:List AV):List (TypeId×Nat×Option Addr×Nat):=(38,5,co,cd)::(104,4,mo,md)::(100,4,qo,qd)::ns.map (fun v=>(77,5,v.ao,v.cap))
theorem aHk (co:Option Addr) (cd:Nat) (mo:Option Addr) (md:Nat) (qo:Option Addr) (qd:Nat) (ns:List AV) (v:AV):∀p ∈ RL4 co cd mo md qo qd (ns++[v]),p ∈ (77,5,v.ao,v.cap)::RL4 co cd mo md qo qd ns:=fun p hp=>by
 simp only [RL4,List.map_append,List.map_cons,List.map_nil,List.mem_cons,List.mem_append,List.not_mem_nil,or_false] at hp ⊢
 rcases hp with h | h | h | h | h<;>simp [h]
theorem aIt (co:Option Addr) (cd:Nat) (mo:Option Addr) (md:Nat) (qo:Option Addr) (qd:Nat) (ns:List AV):∀p ∈ RL4 co cd mo md qo qd ns,74≠p.1:=fun p hp=>by
 simp only [RL4,List.mem_cons,List.mem_map] at hp
 rcases hp with rfl | rfl | rfl | ⟨v,_,rfl⟩<;>(simp only;decide)
theorem aIa {B:Nat} {w:World} {x:Sls} {hs:List AV} (h:RmL B w (RL4 x.ca x.cc x.ma x.mc x.qa x.qc hs)) (ha:dJ B w.heap.size w 74 3 x.aa x.ac):RmS B w.heap.size w x hs:=
 ⟨h (100,4,x.qa,x.qc) (by simp [RL4]),ha,h (104,4,x.ma,x.mc) (by simp [RL4]),h (38,5,x.ca,x.cc) (by simp [RL4]),fun v hv=>h (77,5,v.ao,v.cap) (by simp only [RL4,List.mem_cons,List.mem_map];exact .inr (.inr (.inr ⟨v,hv,rfl⟩)))⟩
def Lay (w:World) (t:TypeId) (g M:Nat) (cs:List Value):Prop:=∃R:List Value,w.heap[g]? = some (.cells (cs++R).toArray t (0,0))∧(cs++R).length=M
theorem Lay.lt {w:World} {t:TypeId} {g M:Nat} {cs:List Value} (h:Lay w t g M cs):g<w.heap.size:=let ⟨_,h,_⟩:=h;lt_of_block h
theorem Lay.of_block {w w':World} {t:TypeId} {g M:Nat} {cs:List Value} (h:Lay w t g M cs) (e:w'.heap[g]? = w.heap[g]?):Lay w' t g M cs:=let ⟨R,h1,h2⟩:=h;⟨R,e.trans h1,h2⟩
theorem Lay.below {w w':World} {t:TypeId} {g M:Nat} {cs:List Value} (h:Lay w t g M cs) (hb:Below w.heap.size w w'):Lay w' t g M cs:=h.of_block (hb.block g h.lt)
theorem Lay.other {w:World} {t:TypeId} {g M:Nat} {cs:List Value} (h:Lay w t g M cs) (k j:Nat) (v:Value) (hk:g≠k):Lay (w.setCell ⟨k,j,none⟩ v) t g M cs:=h.of_block (heap_setCell_other w ⟨k,j,none⟩ g v hk)
theorem Lay.cel {w:World} {t:TypeId} {g M:Nat} {cs:List Value} (h:Lay w t g M cs):Cel w t g M:=let ⟨R,h1,h2⟩:=h;⟨_,h1,by simpa using h2⟩
theorem Lay.cell {w:World} {t:TypeId} {g M:Nat} {cs:List Value} (h:Lay w t g M cs) {j:Nat} {u:Value} (hj:cs[j]? = some u):w.cell? ⟨g,j,none⟩=some u:=by
 obtain ⟨R,h1,h2⟩:=h
 have hl:j<cs.length:=(List.getElem?_eq_some_iff.1 hj).1
 simp [World.cell?,h1,List.getElem?_append_left hl,hj]
theorem cZ:∀a b:List Con,aI (a++b)=aI a++aI b
 | [],b=>rfl
 | q::t,b=>by rw [List.cons_append,aI,aI,cZ t b,List.append_assoc]
theorem Lay.rowC {w:World} {g M:Nat} {l:List Con} (h:Lay w 38 g M (aI l)):aY w (some ⟨g,0,none⟩) l.length l:=by
 refine ⟨rfl,.inr ⟨g,0,rfl,fun i hi=>?_⟩⟩
 obtain ⟨a,b,c,d,e⟩:=qD l i hi
 unfold nO
 simp only [Nat.zero_add]
 exact ⟨h.cell a,h.cell b,h.cell c,h.cell d,h.cell e⟩
theorem Mks.grown {g:Nat} {w w':World} (h:Mks (fun k=>k=g) w w'):w.grownBy w' (some g):=⟨h.os,h.tape,h.output,h.size,fun k hk hne=>h.block k hk (fun e=>hne (by rw [e]))⟩
theorem Lay.rowP {w:World} {g M:Nat} {l:List AV} (h:Lay w 74 g M (bY l)):eF w (some ⟨g,0,none⟩) l.length l:=by
 refine ⟨rfl,.inr ⟨g,0,rfl,fun i hi=>?_⟩⟩
 obtain ⟨a,b,c⟩:=kS l i hi
 unfold aFh
 simp only [Nat.zero_add]
 exact ⟨h.cell a,h.cell b,h.cell c⟩
theorem zL {w:World} {t:TypeId} {g N:Nat} {cs:List Value} (hc:Cel w t g N) (h:∀j u,cs[j]? = some u→w.cell? ⟨g,j,none⟩=some u) (hl:cs.length≤N):Lay w t g N cs:=by
 obtain ⟨arr,h1,h2⟩:=hc
 refine ⟨arr.toList.drop cs.length,?_,by simp;omega⟩
 have e:cs++arr.toList.drop cs.length=arr.toList:=by
  apply List.ext_getElem?
  intro j
  by_cases hj:j<cs.length
  ·rw [List.getElem?_append_left hj]
   have h3:=h j cs[j] (List.getElem?_eq_getElem hj)
   simp [World.cell?,h1] at h3
   rw [List.getElem?_eq_getElem hj,Array.getElem?_toList]
   exact h3.symm
  ·rw [List.getElem?_append_right (by omega),List.getElem?_drop]
   congr 1
   omega
 rw [e]
 simpa using h1
theorem dW {S:Nat→Prop} {g:Nat} (hg:S g):∀(vs:List Value) (o:Nat) (a w:World),Mks S a w→Mks S a (w.setCells g o vs)
 | [],_,_,_,h=>h
 | v::r,o,a,w,h=>dW hg r (o+1) a _ (h.sc g o v hg)
theorem Cel.isThere {w:World} {t:TypeId} {g N:Nat} (h:Cel w t g N) {j:Nat} (hj:j<N):(w.cell? ⟨g,j,none⟩).isSome=true:=by
 obtain ⟨arr,h1,h2⟩:=h
 have h3:j<arr.size:=by omega
 simp [World.cell?,h1,h3]
theorem aFW {w w':World} (h:w.grownBy w' none):Below w.heap.size w w':=(Below.refl _ w).grown h (Nat.le_refl _) (fun k e=>by cases e)
structure aK2 (B:Nat) (w:World) (e:TypeId) (sz:Nat) (ao:Option Addr) (n:Nat) (all:List Value) (g cap:Nat) (w':World):Prop where
 cells:∀j u,all[j]? = some u→w'.cell? ⟨g,j,none⟩=some u
 own:dJ B w'.heap.size w' e sz (some ⟨g,0,none⟩) cap
 cap:n≤cap
 mks:Mks (fun k=>∃N,Cel w e k N∧B≤k) w w'
 pos:ao=some ⟨g,0,none⟩∧Mks (fun k=>k=g) w w'∨w.heap.size≤g∧Below w.heap.size w w'
theorem aFe {P:Program} (w:World) {ops:Array Oper} {rest:List Oper} {o:Oper} {a:Act} {Q:Exit→Act→World→Prop} (hgd:o.guard=none) (s x:Operand) (t:TypeId)
  (ho:o.op=.call { callee:=.builtin .append,args:=#[s,x],argTypes:=#[t,t] })
  (e:TypeId) (i:TypeInfo) (z:Value) (size bytes:Nat) (ht:P.underlying t=some (.slice e)) (hi:P.info? e=some i) (hz:i.zero=some z)
  (hsize:i.size=size) (hby:i.bytes=bytes) (hzs:z.cells.size=size) (hsz:0<size)
  (B E:Nat) (ao:Option Addr) (n cap:Nat) (olds:List Value) (hs:a.eval s=.slice ao n cap) (hrm:dJ B E w e size ao cap) (hnc:n≤cap) (hB:B≤w.heap.size)
  (hlo:olds.length=n*size) (holds:∀b off,ao=some ⟨b,off,none⟩→∀j u,olds[j]? = some u→w.cell? ⟨b,off+j,none⟩=some u)
  (ad:Addr) (m c:Nat) (news:List Value) (hx:a.eval x=.slice (some ad) m c) (hn:news.length=m*size) (hc:∀j u,news[j]? = some u→w.cell? (ad.add j)=some u) (h1c:∀u ∈ news,u.oneCell'=true) (hm:0<m)
  (b1:n+m≤maxLen) (b2:(n+m)*bytes≤140737488355328)
  (h:∀g cap' w',aK2 B w e size ao (n+m) (olds++news) g cap' w'→wpList P ops Q rest (a.put o.dst (.slice (some ⟨g,0,none⟩) (n+m) cap')) w'):wpList P ops Q (o::rest) a w:=by
 by_cases hr:n+m≤cap
 ·rcases hrm with e0 | ⟨g,M,rfl,h1,h2,h3,h4⟩
  ·omega
  ·have hle:(n+m)*size≤M*size:=Nat.mul_le_mul_right _ (by omega)
   rw [Nat.add_mul] at hle
   refine wpList_append_arg w hgd s x t ho e i z size bytes ht hi hz hsize hby hzs hsz g 0 n cap olds hs hlo (fun j u hj=>holds g 0 rfl j u hj) ad m c news hx hn hc h1c (fun _ j hj=>⟨h3.isThere (by omega),h3.frozen _⟩) b1 b2 (fun _=>h g cap _ ⟨fun j u hj=>?_,?_,hr,dW ⟨_,h3,h1⟩ _ _ _ _ (Mks.refl _ _),.inl ⟨rfl,dW (S:=fun k=>k=g) rfl _ _ _ _ (Mks.refl _ _)⟩⟩) (fun hlt=>by omega)
   ·by_cases hj2:j<olds.length
    ·rw [List.getElem?_append_left hj2] at hj
     rw [World.cell?_setCells_out g news (0+n*size) w ⟨g,j,none⟩ (fun _ _=>by left;show j<0+n*size;omega)]
     have:=holds g 0 rfl j u hj
     rwa [Nat.zero_add] at this
    ·rw [List.getElem?_append_right (by omega)] at hj
     have hjl:j - olds.length<news.length:=(List.getElem?_eq_some_iff.1 hj).1
     have:=World.cell?_setCells_in g news (0+n*size) w (fun k hk=>h3.isThere (by omega)) (j - olds.length) hjl
     rw [show 0+n*size+(j - olds.length)=j by omega] at this
     rw [this]
     rw [List.getElem?_eq_getElem hjl] at hj
     exact hj
   ·have hk:Mks (fun k=>k=g) w (w.setCells g (0+n*size) news):=dW (S:=fun k=>k=g) rfl _ _ _ _ (Mks.refl _ _)
    exact .inr ⟨g,M,rfl,h1,Nat.lt_of_lt_of_le h3.lt hk.size,hk.cel _ _ _ h3,h4⟩
 ·have hnone:ao=none→n=0∧cap=0:=fun e0=>by
   rcases hrm with h0 | ⟨g,M,h1,_⟩
   ·omega
   ·rw [e0] at h1;cases h1
  refine wpList_append_grows w hgd s x t ho e i z size bytes ht hi hz hsize hby hzs hsz ao n cap olds hs hnone hlo (fun b hb j u hj=>?_) ad m c news hx hn hc h1c (by omega) b1 b2 (fun v' w' h1 h2=>?_)
  ·rcases hrm with h0 | ⟨g,M,h1,_⟩
   ·have hn0:n=0:=by omega
    rw [hn0,Nat.zero_mul] at hlo
    rw [List.eq_nil_of_length_eq_zero hlo] at hj
    simp at hj
   ·obtain rfl:=Option.some.inj (hb.symm.trans h1)
    rw [Addr.add_lit]
    exact holds g 0 hb j u hj
  ·obtain ⟨g,cap',rfl,hg1,hg2⟩:=h1.form (by omega)
   have hb:=aFW h2
   rcases h1.2 with ⟨e0,_⟩ | ⟨g',c',cur,e0,k1,k2,k3,k4,k5,k6⟩
   ·cases e0
   ·cases e0
    refine h g cap' w' ⟨fun j u hj=>?_,.inr ⟨g,cap',rfl,by omega,lt_of_block k2,⟨cur,k2,k5⟩,Nat.le_refl _⟩,k3,Mks.of_below hb,.inr ⟨by omega,hb⟩⟩
    have hjl:j<(olds++news).length:=(List.getElem?_eq_some_iff.1 hj).1
    rw [←k6] at hj hjl
    rw [List.length_take] at hjl
    rw [List.getElem?_take_of_lt (by omega)] at hj
    simp [World.cell?,k2]
    simpa using hj
theorem Lay.frozen {w:World} {t:TypeId} {g M:Nat} {cs:List Value} (h:Lay w t g M cs) (j:Nat):w.frozen? ⟨g,j,none⟩=false:=h.cel.frozen j
theorem Lay.isThere {w:World} {t:TypeId} {g M:Nat} {cs:List Value} (h:Lay w t g M cs) {j:Nat} (hj:j<M):(w.cell? ⟨g,j,none⟩).isSome=true:=by
 obtain ⟨R,h1,h2⟩:=h
 have h3:j<(cs++R).length:=by omega
 simp [World.cell?,h1,List.getElem?_eq_getElem h3]
theorem Lay.drew {w:World} {t:TypeId} {g M:Nat} {cs:List Value} (h:Lay w t g M cs):Lay w.drew t g M cs:=h
theorem Lay.cells {w:World} {t:TypeId} {g M:Nat} {cs:List Value} (h:Lay w t g M cs) (o:Nat) (vs:List Value) (hf:o+vs.length≤M) (new:List Value) (hn:new.length≤M)
  (hi:∀j u,new[j]? = some u→(o≤j∧j<o+vs.length→vs[j - o]? = some u)∧(¬(o≤j∧j<o+vs.length)→w.cell? ⟨g,j,none⟩=some u)):Lay (w.setCells g o vs) t g M new:=by
 refine zL ?_ (fun j u hj=>?_) hn
 ·exact (dW (S:=fun k=>k=g) rfl vs o w w (Mks.refl _ _)).cel _ _ _ h.cel
 ·by_cases e:o≤j∧j<o+vs.length
  ·have h1:=World.cell?_setCells_in g vs o w (fun k hk=>h.isThere (by omega)) (j - o) (by omega)
   rw [show o+(j - o)=j by omega] at h1
   rw [h1]
   have h2:=(hi j u hj).1 e
   rw [List.getElem?_eq_getElem (by omega)] at h2
   exact h2
  ·rw [World.cell?_setCells_out g vs o w ⟨g,j,none⟩ (fun _ _=>by show j<o∨o+vs.length≤j;omega)]
   exact (hi j u hj).2 e
theorem aO.lay {w:World} {g N n:Nat} {l:List Ask} (h:aO w (some ⟨g,0,none⟩) n l) (hc:Cel w 77 g N) (hn:l.length*5≤N):Lay w 77 g N (aN l):=
 zL hc (fun j u hj=>by have:=nL h j u hj;rwa [Nat.zero_add] at this) (by rw [aV];exact hn)
theorem Lay.rowA {w:World} {g M:Nat} {l:List Ask} (h:Lay w 77 g M (aN l)):aO w (some ⟨g,0,none⟩) l.length l:=by
 refine ⟨rfl,.inr ⟨g,0,rfl,fun i hi=>?_⟩⟩
 obtain ⟨a,b,c,d,e⟩:=kY l i hi
 rw [Nat.zero_add]
 exact ⟨h.cell a,h.cell b,h.cell c,h.cell d,h.cell e⟩
theorem aY.lay {w:World} {g N n:Nat} {l:List Con} (h:aY w (some ⟨g,0,none⟩) n l) (hc:Cel w 38 g N) (hn:l.length*5≤N):Lay w 38 g N (aI l):=
 zL hc (fun j u hj=>by have:=gY h j u hj;rwa [Nat.zero_add] at this) (by rw [bU];exact hn)
def tV (B:Nat) (w:World) (t:TypeId) (sz:Nat) (ao:Option Addr) (n cap:Nat):Prop:=n≤cap∧(cap=0∨∃g M,ao=some ⟨g,0,none⟩∧B≤g∧Cel w t g (M*sz)∧cap≤M)
theorem tV.mks {S:Nat→Prop} {B:Nat} {w w':World} {t:TypeId} {sz n cap:Nat} {ao:Option Addr} (h:tV B w t sz ao n cap) (hm:Mks S w w'):tV B w' t sz ao n cap:=by
 obtain ⟨h1,h3⟩:=h
 refine ⟨h1,?_⟩
 rcases h3 with h3 | ⟨g,M,e,hB,hc,hM⟩
 ·exact .inl h3
 ·exact .inr ⟨g,M,e,hB,hm.cel _ _ _ hc,hM⟩
theorem tV.below {B:Nat} {w w':World} {t:TypeId} {sz n cap:Nat} {ao:Option Addr} (h:tV B w t sz ao n cap) (hb:Below w.heap.size w w'):tV B w' t sz ao n cap:=h.mks (S:=fun _=>False) (.of_below hb)
theorem tV.own {B:Nat} {w:World} {t:TypeId} {sz n cap:Nat} {ao:Option Addr} (h:tV B w t sz ao n cap):dJ B w.heap.size w t sz ao n:=by
 obtain ⟨h1,h3⟩:=h
 rcases h3 with h3 | ⟨g,M,e,hB,hc,hM⟩
 ·exact .inl (by omega)
 ·exact .inr ⟨g,M,e,hB,hc.lt,hc,by omega⟩
theorem tV.all {B:Nat} {w:World} {t:TypeId} {sz n cap:Nat} {ao:Option Addr} (h:tV B w t sz ao n cap):dJ B w.heap.size w t sz ao cap:=by
 rcases h.2 with h3 | ⟨g,M,e,hB,hc,hM⟩
 ·exact .inl h3
 ·exact .inr ⟨g,M,e,hB,hc.lt,hc,hM⟩
theorem aIp {B E:Nat} {w:World} {t:TypeId} {sz n cap:Nat} {ao:Option Addr} (h:dJ B E w t sz ao cap) (hn:n≤cap):tV B w t sz ao n cap:=by
 refine ⟨hn,?_⟩
 rcases h with h | ⟨g,M,h1,h2,h3,h4,h5⟩
 ·exact .inl h
 ·exact .inr ⟨g,M,h1,h2,h4,h5⟩
theorem aAQ {P:Program} (w:World) (t e ty:TypeId) (z:Value) (ht:P.underlying t=some (.slice e)) (hv:∀w,(zeroValue e).run P w=.ok z w) (zs:List Value) (hz:(Builtin.zeroCells z.cells 1).toList=zs) (h1:∀v ∈ zs,v.oneCell'=true) (b o c:Nat)
  (hc:∀j,j<zs.length→(w.cell? ⟨b,o+j,none⟩).isSome=true) (hf:∀j,j<zs.length→w.frozen? ⟨b,o+j,none⟩=false) :
  (Builtin.clear_ #[t] ty #[.slice (some ⟨b,o,none⟩) 1 c]).run P w=.ok (.tuple #[]) (w.setCells b o zs):=by
 have hst:=run_storeCells_cells (P:=P) b o zs 0 w (by simpa using hc) (by simpa using hf) h1
 simp only [Nat.add_zero] at hst
 simp [Builtin.clear_,run_underlying ht,hv,hz,hst]
structure Kc (B W:Nat) (ca:Option Addr) (cc:Nat) (w w':World):Prop where
 below:Below B w w'
 con:∀g arr,g<W→Blk w g arr 38→(cc≠0→∀o,ca≠some ⟨g,o,none⟩)→Blk w' g arr 38
theorem Kc.trans {B W cc:Nat} {ca:Option Addr} {a b c:World} (h:Kc B W ca cc a b) (k:Kc B W ca cc b c):Kc B W ca cc a c:=
 ⟨h.below.trans k.below,fun g arr hg hb ho=>k.con g arr hg (h.con g arr hg hb ho) ho⟩
theorem Kc.of {B W cc:Nat} {ca:Option Addr} {a b:World} (h:Below a.heap.size a b) (hB:B≤a.heap.size):Kc B W ca cc a b:=⟨h.mono hB,fun g arr _ hb _=>hb.below h⟩
theorem Kc.mks {S:Nat→Prop} {B W cc:Nat} {ca:Option Addr} {a b:World} (h:Mks S a b) (hB:∀k,S k→B≤k) (hz:B≤a.heap.size) (hc:∀k arr,k<W→Blk a k arr 38→S k→cc≠0∧∃o,ca=some ⟨k,o,none⟩):Kc B W ca cc a b:=
 ⟨h.below hB hz,fun g arr hg hb ho=>h.blk hb (fun hs=>let ⟨h1,o,h2⟩:=hc g arr hg hb hs;ho h1 o h2)⟩
theorem aEM {w:World} {g:Nat} {arr arr':Array Value} {t t':TypeId} (h:Blk w g arr t) (h':Blk w g arr' t'):t=t':=Cel.type ⟨_,h,rfl⟩ ⟨_,h',rfl⟩
end
end Go.Proofs.YtdhibeclkdepiaaGreat
