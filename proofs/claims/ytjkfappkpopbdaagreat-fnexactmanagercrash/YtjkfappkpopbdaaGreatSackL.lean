/-
  Texts in one: MarkP, MarkO, IntL, NsV, RpV, RhV, MarkV, Hav, CpC, RmL, RpZ, AgV, AgZ, ClV, CopyN, MidB, AppR, OnS, TotalB, IntLaw, RpK, AgO, AgE.
-/
import Derived.Test.YtjkfappkpopbdaaGreatSackJ
import Derived.Test.YtjkfappkpopbdaaGreatSackI
import Derived.Test.YtjkfappkpopbdaaGreatSackH
import Derived.ChangeSlices
import Derived.Laws.Rows
import Derived.Laws.CopyOwn
import Derived.Deep.RegionLaw
import Derived.Deep.AppendLies
import Derived.ArgAppend
set_option maxRecDepth 100000
set_option maxHeartbeats 16000000
set_option linter.unusedVariables false
set_option linter.unusedSimpArgs false
namespace Go.Proofs.YtjkfappkpopbdaaGreat
section
open Go.RowKit
def endM:Nat→List AV→Nat
 | K,[]=>K
 | K,v::t=>endM (K+2+5*v.len) t
def hsM:Nat→List AV→List AV
 | _,[]=>[]
 | K,v::t=>⟨(K:Int),109::dgs (K+1),v.ao,v.len,v.cap⟩::hsM (K+2+5*v.len) t
def AsksM (w:World):Nat→List AV→Prop
 | _,[]=>True
 | K,v::t=>AskRow w v.ao v.len (marksA (K+2) v.len)∧AsksM w (K+2+5*v.len) t
theorem hsM_len:∀(l:List AV) (K:Nat),(hsM K l).length=l.length
 | [],_=>rfl
 | v::t,K=>by simp [hsM,hsM_len t]
theorem AsksM.below {w w':World} (hb:Below w.heap.size w w'):∀(l:List AV) (K:Nat),AsksM w K l→AsksM w' K l
 | [],_,_=>trivial
 | v::t,K,h=>⟨h.1.below hb,AsksM.below hb t _ h.2⟩
theorem endM_ge:∀(l:List AV) (K:Nat),K≤endM K l
 | [],K=>yJ _
 | v::t,K=>by have:=endM_ge t (K+2+5*v.len);rw [endM];omega
theorem endM_step:∀(l:List AV) (K j:Nat) (h:j<l.length),endM K (l.take (j+1))=endM K (l.take j)+2+5*l[j].len
 | v::t,K,0,_=>by simp [endM]
 | v::t,K,j+1,h=>by
  have:=endM_step t (K+2+5*v.len) j (by simpa using h)
  simp only [List.take_succ_cons,endM,List.getElem_cons_succ]
  exact this
theorem AsksM_at {w:World}:∀(l:List AV) (K j:Nat) (h:j<l.length),AsksM w K l→AskRow w l[j].ao l[j].len (marksA (endM K (l.take j)+2) l[j].len)
 | v::t,K,0,_,h=>by simpa [endM] using h.1
 | v::t,K,j+1,hj,h=>by
  have:=AsksM_at t (K+2+5*v.len) j (by simpa using hj) h.2
  simpa [endM] using this
theorem hsM_at:∀(l:List AV) (K j:Nat) (h:j<l.length) (h':j<(hsM K l).length),(hsM K l)[j]=⟨(endM K (l.take j):Int),109::dgs (endM K (l.take j)+1),l[j].ao,l[j].len,l[j].cap⟩
 | v::t,K,0,_,_=>by simp [hsM,endM]
 | v::t,K,j+1,h,h'=>by
  have:=hsM_at t (K+2+5*v.len) j (by simpa using h) (by simpa [hsM] using h')
  simp only [hsM,List.getElem_cons_succ,List.take_succ_cons,endM]
  exact this
def AVOne (w0:World) (b p:Nat) (q:AV) (w:World):Prop:=AVAt w b p q∧Below w0.heap.size w0 w
theorem AVOne.call {w0 w w':World} {b p:Nat} {q:AV} (h:AVOne w0 b p q w) (hb:Below w.heap.size w w'):AVOne w0 b p q w':=⟨h.1.below hb,yB h.2 hb⟩
theorem AVOne.drew {w0 w:World} {b p:Nat} {q:AV} (h:AVOne w0 b p q w):AVOne w0 b p q w.drew:=h.call (yH _ _).drew
theorem AVOne.read (w0:World) (b p:Nat) (q:AV):∀wx,AVOne w0 b p q wx→wx.cell? ⟨b,p,none⟩=some (.int .i64 q.id)∧wx.cell? ⟨b,p+1,none⟩=some (.string (bs q.queue))∧wx.cell? ⟨b,p+2,none⟩=some (.slice q.ao q.len q.cap):=fun wx h=>h.1
theorem heldAppS_any (ao:Option Addr) (n c K:Nat) (hs:List AV) (w:World) (h:AVRow w ao n (hsM K hs)) (ha:AsksM w K hs) (hn:n≤1048576) (hk:∀v ∈ hs,v.len≤1048576) (h0:0<K) (h1:endM K hs≤100000000000000) :
  Calls Tryz.prog 65 #[.slice ao n c,.int .i64 (K:Int)] w fun e w'=>e=.returned (.int .i64 (endM K hs:Int))∧Below w.heap.size w w':=by
 have HR:=hide h
 have HA:=hide ha
 have HLN:=hide (show n=hs.length by rw [h.1,hsM_len])
 have HV:=hide hk
 have HE:=hide (show ∀j,endM K (hs.take j)≤endM K hs from fun j=>by
  have:∀(l:List AV) (K j:Nat),endM K (l.take j)≤endM K l:=by
   intro l
   induction l with
   | nil=>intro K j;simp [endM]
   | cons v t ih=>
    intro K j
    cases j with
    | zero=>simp only [List.take_zero,endM];have:=endM_ge t (K+2+5*v.len);omega
    | succ j=>simp only [List.take_succ_cons,endM];exact ih _ _
  exact this hs K j)
 have HG:=hide (fun j=>endM_ge (hs.take j) K)
 clear h ha hk
 go_enter Tryz.func65,Tryz.ntmps65
 go_wp2
 go_loopw [1,5] (fun s i wr=>∃(j:Nat) (k:Nat),j≤n∧i=.int .i64 j∧s=.int .i64 (k:Int)∧Hid (k=endM K (hs.take j))∧Hid (Below w.heap.size w wr)) (fun _ i _=>n - (intOf i).toNat)
 case atStart=>exact ⟨0,K,Nat.zero_le _,rfl,rfl,hide (by simp [endM]),hide (yH _ _)⟩
 case round=>
  obtain ⟨j,k,hj,rfl,rfl,HK,HB⟩:=hrel
  by_cases hlt:j<n
  ·have hjl:j<hs.length:=by have:=uH HLN;omega
   obtain ⟨b,off,rfl,hq⟩:=((uH HR).below (uH HB)).at hlt
   have hqq:=hq (by rw [hsM_len];exact hjl)
   rw [hsM_at hs K j hjl] at hqq
   have hrow:=(AsksM_at hs K j hjl (uH HA)).below (uH HB)
   have hvl:=uH HV _ (yM hjl)
   have hst:=endM_step hs K j hjl
   have hle:=uH HE (j+1)
   have hgk:=uH HG j
   rw [←uH HK] at hqq hrow hst hgk
   obtain ⟨⟨vi,vq,va,vl,vc⟩,hv⟩:∃v,hs[j]=v:=⟨_,rfl⟩
   rw [hv] at hqq hrow hst hvl
   simp only at hqq hrow hst hvl
   rw [hst] at hle
   have HN:=hide (show (k+2+5*vl:Nat)=endM K (hs.take (j+1)) from hst.symm)
   have C0:=hide (show ∀wx,Calls Tryz.prog 109 #[.int .i64 ((k:Int)+1)] wx fun e w'=>e=.returned (.string (bs (109::dgs (k+1))))∧Below wx.heap.size wx w' from fun wx=>by
    have:=markText_int ((k:Int)+1) wx (by omega) (by omega)
    rw [show ((k:Int)+1).toNat=k+1 by omega] at this
    exact this)
   have C1:=hide (fun wx (hb:Below wr.heap.size wr wx)=>by have:=heldAskS_any va vl vc (k+2) wx (hrow.below hb) hvl (by omega) (by omega);rw [show ((k+2:Nat):Int)=(k:Int)+1+1 by omega] at this;exact this)
   have A0:=hide (show AVOne wr b (off+j*3) ⟨(k:Int),109::dgs (k+1),va,vl,vc⟩ wr from ⟨hqq,yH _ _⟩)
   have R:=AVOne.read wr b (off+j*3) ⟨(k:Int),109::dgs (k+1),va,vl,vc⟩
   simp only at R
   have R':=hide R
   obtain ⟨r0,_,_⟩:=R _ (uH A0)
   have j0:(0:Int)≤j:=by omega
   have j1:(j:Int)<n:=by omega
   have hk0:0<k:=by omega
   have hk1:k≤100000000000000:=by omega
   have hw1:IntKind.i64.wrap ((k:Int)+1)=(k:Int)+1:=by rw [IntKind.wrap_i64];omega
   clear hq hqq hrow hst hv hle hgk R hjl
   go_wp2_with fail
   have R:=uH R'
   clear r0
   go_region_held3 (fun wx=>AVOne wr b (off+j*3) ⟨(k:Int),109::dgs (k+1),va,vl,vc⟩ wx)
    (first | (with_reducible assumption) | exact (uH A0).drew | exact AVOne.call (by assumption) (by assumption))
    (first
    | (go_at_call 109;refine (uH C0 _).mono ?_;rintro e wt ⟨rfl,hb⟩;have SA:=AVOne.call (w0:=wr) (b:=b) (p:=off+j*3) (q:=⟨(k:Int),109::dgs (k+1),va,vl,vc⟩) (by assumption) hb))
   obtain ⟨_,_,r2⟩:=R _ SA
   have HS2:=hide SA.2
   clear SA A0 R C0 R'
   go_wp2_with fail
   refine (uH C1 _ (uH HS2)).mono ?_
   rintro e w3 ⟨rfl,hb⟩
   have HB3:=hide (yB (yB (uH HB) (uH HS2)) hb)
   clear hb HS2 C1 r2
   have hkn:¬((k:Int)+1+1+5*(vl:Int))<0:=by omega
   go_wp2
   go_roundw
   case rel=>exact ⟨j+1,k+2+5*vl,by omega,by go_num,by refine congrArg _ ?_;omega,HN,HB3⟩
   case measure=>simp [intOf];omega
  ·have hjn:j=n:=by omega
   have hke:k=endM K hs:=by rw [uH HK,List.take_of_length_le (by have:=uH HLN;omega)]
   have j1:¬(j:Int)<n:=by omega
   go_wp2
   go_ret
   exact ⟨rfl,uH HB⟩
theorem Cel.type {w:World} {t t':TypeId} {g N N':Nat} (h:Cel w t g N) (h':Cel w t' g N'):t=t':=by
 obtain ⟨a,h1,_⟩:=h
 obtain ⟨b,h2,_⟩:=h'
 rw [h1] at h2
 cases h2
 rfl
structure Mks (S:Nat→Prop) (w w':World):Prop where
 os:w'.os=w.os
 tape:w'.tape=w.tape
 output:w'.output=w.output
 size:w.heap.size≤w'.heap.size
 block:∀k,k<w.heap.size→¬S k→w'.heap[k]? = w.heap[k]?
 cel:∀t g N,Cel w t g N→Cel w' t g N
theorem Mks.refl (S:Nat→Prop) (w:World):Mks S w w:=⟨rfl,rfl,rfl,yJ _,fun _ _ _=>rfl,fun _ _ _ h=>h⟩
theorem Mks.trans {S:Nat→Prop} {a b c:World} (h:Mks S a b) (k:Mks S b c):Mks S a c:=
 ⟨k.os.trans h.os,k.tape.trans h.tape,k.output.trans h.output,Nat.le_trans h.size k.size,fun i hi ho=>(k.block i (Nat.lt_of_lt_of_le hi h.size) ho).trans (h.block i hi ho),fun t g N x=>k.cel t g N (h.cel t g N x)⟩
theorem Mks.mono {S S':Nat→Prop} {a b:World} (h:Mks S a b) (hs:∀k,S k→S' k):Mks S' a b:=
 ⟨h.os,h.tape,h.output,h.size,fun i hi ho=>h.block i hi (fun hk=>ho (hs i hk)),h.cel⟩
theorem Mks.of_below {S:Nat→Prop} {w w':World} (hb:Below w.heap.size w w'):Mks S w w':=⟨hb.os,hb.tape,hb.output,hb.size,fun i hi _=>hb.block i hi,fun t g N x=>x.below hb⟩
theorem Mks.on {S:Nat→Prop} {a w w':World} (h:Mks S a w) (hb:Below w.heap.size w w'):Mks S a w':=h.trans (.of_below hb)
theorem Mks.one (S:Nat→Prop) (w:World) (g j:Nat) (v:Value) (hg:S g):Mks S w (w.setCell ⟨g,j,none⟩ v):=
 ⟨rfl,rfl,rfl,by simp [World.setCell],fun k _ ho=>Below.heap_setCell _ _ _ _ (by show k≠g;intro e;exact ho (e ▸ hg)),fun t g' N x=>x.set g j v⟩
theorem Mks.sc {S:Nat→Prop} {a w:World} (h:Mks S a w) (g j:Nat) (v:Value) (hg:S g):Mks S a (w.setCell ⟨g,j,none⟩ v):=h.trans (.one S w g j v hg)
theorem Mkd.mks {g:Nat} {w w':World} (h:Mkd g (g+1) w w'):Mks (fun k=>k=g) w w':=⟨h.os,h.tape,h.output,h.size,fun i hi ho=>h.block i hi (by omega),h.cel⟩
theorem Mks.below {S:Nat→Prop} {B:Nat} {a w:World} (h:Mks S a w) (hS:∀k,S k→B≤k) (hB:B≤a.heap.size):Below B a w:=
 ⟨h.os,h.tape,h.output,h.size,fun k hk=>h.block k (by omega) (fun hs=>by have:=hS k hs;omega)⟩
theorem Mks.blk {S:Nat→Prop} {g:Nat} {a w:World} {arr:Array Value} {t:TypeId} (h:Mks S a w) (hb:Blk a g arr t) (ho:¬S g):Blk w g arr t:=(h.block g hb.lt ho).trans hb
def inR (ao:Option Addr) (n:Nat) (k:Nat):Prop:=n≠0∧∃o,ao=some ⟨k,o,none⟩
def Own1 (B E:Nat) (w:World) (t:TypeId) (sz:Nat) (ao:Option Addr) (n:Nat):Prop:=n=0∨∃g M,ao=some ⟨g,0,none⟩∧B≤g∧g<E∧Cel w t g (M*sz)∧n≤M
theorem own1_of {w:World} {B sz n n' c:Nat} {e:TypeId} {ao:Option Addr} {xs:List Value} (h:w.ownsRow B e sz (.slice ao n c) n' xs):Own1 B w.heap.size w e sz ao c:=by
 rcases h.2 with ⟨h1,_⟩ | ⟨g,cap,cur,h1,h2,h3,_,_,h4,_⟩
 ·cases h1;exact .inl rfl
 ·cases h1;exact .inr ⟨g,c,rfl,h2,lt_of_block h3,⟨cur,h3,h4⟩,yJ _⟩
theorem Own1.below {B E:Nat} {w w':World} {t:TypeId} {sz n:Nat} {ao:Option Addr} (h:Own1 B E w t sz ao n) (hb:Below w.heap.size w w'):Own1 B E w' t sz ao n:=by
 rcases h with h | ⟨g,M,h1,h2,h3,h4,h5⟩
 ·exact .inl h
 ·exact .inr ⟨g,M,h1,h2,h3,h4.below hb,h5⟩
theorem Own1.mks {B E:Nat} {w w':World} {t:TypeId} {sz n:Nat} {ao:Option Addr} {S:Nat→Prop} (h:Own1 B E w t sz ao n) (hb:Mks S w w'):Own1 B E w' t sz ao n:=by
 rcases h with h | ⟨g,M,h1,h2,h3,h4,h5⟩
 ·exact .inl h
 ·exact .inr ⟨g,M,h1,h2,h3,hb.cel _ _ _ h4,h5⟩
theorem Own1.sc {B E:Nat} {w:World} {t:TypeId} {sz n:Nat} {ao:Option Addr} (h:Own1 B E w t sz ao n) (k j:Nat) (v:Value):Own1 B E (w.setCell ⟨k,j,none⟩ v) t sz ao n:=by
 rcases h with h | ⟨g,M,h1,h2,h3,h4,h5⟩
 ·exact .inl h
 ·exact .inr ⟨g,M,h1,h2,h3,h4.set k j v,h5⟩
theorem Own1.mono {B E B' E':Nat} {w:World} {t:TypeId} {sz n:Nat} {ao:Option Addr} (h:Own1 B E w t sz ao n) (h1:B'≤B) (h2:E≤E'):Own1 B' E' w t sz ao n:=by
 rcases h with h | ⟨g,M,a,b,c,d⟩
 ·exact .inl h
 ·exact .inr ⟨g,M,a,by omega,by omega,d⟩
theorem Own1.lies {B E:Nat} {w:World} {t:TypeId} {sz n:Nat} {ao:Option Addr} (h:Own1 B E w t sz ao n):∀k,inR ao n k→B≤k∧k<E∧∃N,Cel w t k N:=by
 rintro k ⟨hn,o,e⟩
 rcases h with h | ⟨g,M,h1,h2,h3,h4,h5⟩
 ·exact absurd h hn
 ·rw [h1] at e
  cases e
  exact ⟨h2,h3,_,h4⟩
theorem Own1.apart {B E B' E':Nat} {w:World} {t t':TypeId} {sz sz' n n':Nat} {ao bo:Option Addr} (h:Own1 B E w t sz ao n) (h':Own1 B' E' w t' sz' bo n') (ht:t≠t'):∀k,inR ao n k→¬inR bo n' k:=fun k hk hk'=>by
 obtain ⟨_,_,N,h1⟩:=h.lies k hk
 obtain ⟨_,_,N',h2⟩:=h'.lies k hk'
 exact ht (h1.type h2)
theorem cellMks {S:Nat→Prop} {w w':World} {g p:Nat} {u:Value} (h:w.cell? ⟨g,p,none⟩=some u) (hm:Mks S w w') (hg:¬S g):w'.cell? ⟨g,p,none⟩=some u:=
 (World.cell?_of_block (w:=w) (a:=⟨g,p,none⟩) (hm.block g (yG h) hg)).trans h
theorem QRow.mks {S:Nat→Prop} {w w':World} {ao:Option Addr} {len:Nat} {l:List Q} (h:QRow w ao len l) (hm:Mks S w w') (hs:∀k,inR ao len k→¬S k):QRow w' ao len l:=by
 obtain ⟨h1,h2⟩:=h
 refine ⟨h1,?_⟩
 rcases h2 with h2 | ⟨b,off,h3,h4⟩
 ·exact .inl h2
 ·by_cases hz:len=0
  ·exact .inl hz
  ·have hb:=hs b ⟨hz,off,h3⟩
   exact .inr ⟨b,off,h3,fun i h=>let ⟨a,c,d,e⟩:=h4 i h;⟨cellMks a hm hb,cellMks c hm hb,cellMks d hm hb,cellMks e hm hb⟩⟩
theorem MacRow.mks {S:Nat→Prop} {w w':World} {ao:Option Addr} {len:Nat} {l:List Mac} (h:MacRow w ao len l) (hm:Mks S w w') (hs:∀k,inR ao len k→¬S k):MacRow w' ao len l:=by
 obtain ⟨h1,h2⟩:=h
 refine ⟨h1,?_⟩
 rcases h2 with h2 | ⟨b,off,h3,h4⟩
 ·exact .inl h2
 ·by_cases hz:len=0
  ·exact .inl hz
  ·have hb:=hs b ⟨hz,off,h3⟩
   exact .inr ⟨b,off,h3,fun i h=>let ⟨a,c,d,e⟩:=h4 i h;⟨cellMks a hm hb,cellMks c hm hb,cellMks d hm hb,cellMks e hm hb⟩⟩
theorem ConRow.mks {S:Nat→Prop} {w w':World} {ao:Option Addr} {len:Nat} {l:List Con} (h:ConRow w ao len l) (hm:Mks S w w') (hs:∀k,inR ao len k→¬S k):ConRow w' ao len l:=by
 obtain ⟨h1,h2⟩:=h
 refine ⟨h1,?_⟩
 rcases h2 with h2 | ⟨b,off,h3,h4⟩
 ·exact .inl h2
 ·by_cases hz:len=0
  ·exact .inl hz
  ·have hb:=hs b ⟨hz,off,h3⟩
   exact .inr ⟨b,off,h3,fun i h=>let ⟨a,c,d,e,f⟩:=h4 i h;⟨cellMks a hm hb,cellMks c hm hb,cellMks d hm hb,cellMks e hm hb,cellMks f hm hb⟩⟩
theorem AskRow.mks {S:Nat→Prop} {w w':World} {ao:Option Addr} {len:Nat} {l:List Ask} (h:AskRow w ao len l) (hm:Mks S w w') (hs:∀k,inR ao len k→¬S k):AskRow w' ao len l:=by
 obtain ⟨h1,h2⟩:=h
 refine ⟨h1,?_⟩
 rcases h2 with h2 | ⟨b,off,h3,h4⟩
 ·exact .inl h2
 ·by_cases hz:len=0
  ·exact .inl hz
  ·have hb:=hs b ⟨hz,off,h3⟩
   exact .inr ⟨b,off,h3,fun i h=>let ⟨a,c,d,e,f⟩:=h4 i h;⟨cellMks a hm hb,cellMks c hm hb,cellMks d hm hb,cellMks e hm hb,cellMks f hm hb⟩⟩
theorem AVRow.mks {S:Nat→Prop} {w w':World} {ao:Option Addr} {len:Nat} {l:List AV} (h:AVRow w ao len l) (hm:Mks S w w') (hs:∀k,inR ao len k→¬S k):AVRow w' ao len l:=by
 obtain ⟨h1,h2⟩:=h
 refine ⟨h1,?_⟩
 rcases h2 with h2 | ⟨b,off,h3,h4⟩
 ·exact .inl h2
 ·by_cases hz:len=0
  ·exact .inl hz
  ·have hb:=hs b ⟨hz,off,h3⟩
   exact .inr ⟨b,off,h3,fun i h=>let ⟨a,c,d⟩:=h4 i h;⟨cellMks a hm hb,cellMks c hm hb,cellMks d hm hb⟩⟩
theorem AsksM.mks {S:Nat→Prop} {w w':World} (hm:Mks S w w'):∀(l:List AV) (K:Nat),AsksM w K l→(∀v ∈ l,∀k,inR v.ao v.len k→¬S k)→AsksM w' K l
 | [],_,_,_=>trivial
 | v::t,K,h,hs=>⟨h.1.mks hm (hs v (by simp)),AsksM.mks hm t _ h.2 (fun u hu=>hs u (by simp [hu]))⟩
theorem AsksM_snoc {w:World}:∀(l:List AV) (K:Nat) (v:AV),AsksM w K l→AskRow w v.ao v.len (marksA (endM K l+2) v.len)→AsksM w K (l++[v])
 | [],K,v,_,h=>⟨h,trivial⟩
 | u::t,K,v,h,h'=>⟨h.1,AsksM_snoc t _ v h.2 h'⟩
theorem hsM_snoc:∀(l:List AV) (K:Nat) (v:AV),hsM K (l++[v])=hsM K l++[⟨(endM K l:Int),109::dgs (endM K l+1),v.ao,v.len,v.cap⟩]
 | [],K,v=>rfl
 | u::t,K,v=>by simp only [List.cons_append,hsM,endM,hsM_snoc t]
theorem endM_mono:∀(l:List AV) (K j:Nat),endM K (l.take j)≤endM K l
 | [],K,j=>by simp
 | v::t,K,0=>by simp only [List.take_zero,endM];have:=endM_ge t (K+2+5*v.len);omega
 | v::t,K,j+1=>by simp only [List.take_succ_cons,endM];exact endM_mono t _ _
theorem endM_le:∀(l:List AV) (K m:Nat),(∀v ∈ l,v.len≤m)→endM K l≤K+l.length*(2+5*m)
 | [],K,m,_=>by simp [endM]
 | v::t,K,m,h=>by
  have h1:=endM_le t (K+2+5*v.len) m (fun u hu=>h u (by simp [hu]))
  have h2:=h v (by simp)
  simp only [endM,List.length_cons,Nat.add_mul]
  omega
def Apart (u v:AV):Prop:=u.len=0∨v.len=0∨u.ao≠v.ao
theorem markMachineS_zero (ao:Option Addr) (c:Nat) (K:Int) (w:World) :
  Calls Tryz.prog 61 #[.slice ao 0 c,.int .i64 K] w fun e w'=>e=.returned (.int .i64 K)∧w=w':=by
 go_enter Tryz.func61,Tryz.ntmps61
 go_wp2
 go_loopw [1,5] (fun s i wr=>i=.int .i64 0∧s=.int .i64 K∧wr=w) (fun _ _ _=>0)
 case atStart=>exact ⟨rfl,rfl,rfl⟩
 case round=>
  obtain ⟨rfl,rfl,rfl⟩:=hrel
  go_wp2
  go_ret
  exact ⟨rfl,rfl⟩
theorem markContS_zero (ao:Option Addr) (c:Nat) (K:Int) (w:World) :
  Calls Tryz.prog 62 #[.slice ao 0 c,.int .i64 K] w fun e w'=>e=.returned (.int .i64 K)∧w=w':=by
 go_enter Tryz.func62,Tryz.ntmps62
 go_wp2
 go_loopw [1,5] (fun s i wr=>i=.int .i64 0∧s=.int .i64 K∧wr=w) (fun _ _ _=>0)
 case atStart=>exact ⟨rfl,rfl,rfl⟩
 case round=>
  obtain ⟨rfl,rfl,rfl⟩:=hrel
  go_wp2
  go_ret
  exact ⟨rfl,rfl⟩
theorem markAskS_zero (ao:Option Addr) (c:Nat) (K:Int) (w:World) :
  Calls Tryz.prog 110 #[.slice ao 0 c,.int .i64 K] w fun e w'=>e=.returned (.int .i64 K)∧w=w':=by
 go_enter Tryz.func110,Tryz.ntmps110
 go_wp2
 go_loopw [1,5] (fun s i wr=>i=.int .i64 0∧s=.int .i64 K∧wr=w) (fun _ _ _=>0)
 case atStart=>exact ⟨rfl,rfl,rfl⟩
 case round=>
  obtain ⟨rfl,rfl,rfl⟩:=hrel
  go_wp2
  go_ret
  exact ⟨rfl,rfl⟩
theorem markAppS_zero (ao:Option Addr) (c:Nat) (K:Int) (w:World) :
  Calls Tryz.prog 60 #[.slice ao 0 c,.int .i64 K] w fun e w'=>e=.returned (.int .i64 K)∧w=w':=by
 go_enter Tryz.func60,Tryz.ntmps60
 go_wp2
 go_loopw [1,5] (fun s i wr=>i=.int .i64 0∧s=.int .i64 K∧wr=w) (fun _ _ _=>0)
 case atStart=>exact ⟨rfl,rfl,rfl⟩
 case round=>
  obtain ⟨rfl,rfl,rfl⟩:=hrel
  go_wp2
  go_ret
  exact ⟨rfl,rfl⟩
theorem markQueueS_own {B E n c:Nat} {ao:Option Addr} {w:World} (h:Own1 B E w 142 4 ao n) (hn:n≤1048576) :
  Calls Tryz.prog 59 #[.slice ao n c,.int .i64 1] w fun e w'=>e=.returned (.int .i64 (1+4*(n:Int)))∧QRow w' ao n (marksQ n)∧Mks (inR ao n) w w':=by
 by_cases hz:n=0
 ·subst hz
  refine (markQueueS_zero ao c w).mono ?_
  rintro e w' ⟨rfl,rfl⟩
  exact ⟨rfl,⟨rfl,.inl rfl⟩,.refl _ _⟩
 ·rcases h with h | ⟨g,M,rfl,h2,h3,h4,h5⟩
  ·exact absurd h hz
  ·have ha:QAny w 142 g M:=by obtain ⟨arr,h1,h2⟩:=h4;exact ⟨arr,h1,h2,fun i hi=>absurd hi (by simp)⟩
   refine (markQueueS_full g n M (d:=c) w ha h5 hn).mono ?_
   rintro e w' ⟨rfl,hq,hg⟩
   refine ⟨rfl,hq.rowOf (marksQ_len _).symm,hg.os,hg.tape,hg.output,hg.size,fun k hk hs=>hg.block k hk (fun e=>hs ⟨hz,0,by rw [Option.some.inj e]⟩),fun t g' N x=>?_⟩
   by_cases e:g'=g
   ·subst e
    obtain rfl:=x.type h4
    obtain ⟨a1,h1,h6,_⟩:=hq
    obtain ⟨a2,h2',h3'⟩:=x
    obtain ⟨a3,h4',h5'⟩:=h4
    rw [h2'] at h4'
    cases h4'
    exact ⟨a1,h1,by omega⟩
   ·exact x.of_block (hg.block g' x.lt (fun e'=>e (Option.some.inj e')))
theorem markMachineS_own {B E n c:Nat} {ao:Option Addr} {w:World} (K:Nat) (h:Own1 B E w 147 4 ao n) (hn:n≤1048576) (h0:0<K) (h1:K≤1000000000000000) :
  Calls Tryz.prog 61 #[.slice ao n c,.int .i64 (K:Int)] w fun e w'=>e=.returned (.int .i64 ((K:Int)+4*(n:Int)))∧MacRow w' ao n (marksM K n)∧Mks (inR ao n) w w':=by
 by_cases hz:n=0
 ·subst hz
  refine (markMachineS_zero ao c K w).mono ?_
  rintro e w' ⟨rfl,rfl⟩
  exact ⟨by simp,⟨by simp [marksM],.inl rfl⟩,.refl _ _⟩
 ·rcases h with h | ⟨g,M,rfl,h2,h3,h4,h5⟩
  ·exact absurd h hz
  ·refine (markMachineS_full g n M K (d:=c) w h4 h5 hn h0 h1).mono ?_
   rintro e w' ⟨rfl,hq,hg⟩
   exact ⟨rfl,hq,hg.mks.mono (fun k e=>⟨hz,0,by rw [e]⟩)⟩
theorem markContS_own {B E n c:Nat} {ao:Option Addr} {w:World} (K:Nat) (h:Own1 B E w 150 5 ao n) (hn:n≤1048576) (h0:0<K) (h1:K≤1000000000000000) :
  Calls Tryz.prog 62 #[.slice ao n c,.int .i64 (K:Int)] w fun e w'=>e=.returned (.int .i64 ((K:Int)+5*(n:Int)))∧ConRow w' ao n (marksC K n)∧Mks (inR ao n) w w':=by
 by_cases hz:n=0
 ·subst hz
  refine (markContS_zero ao c K w).mono ?_
  rintro e w' ⟨rfl,rfl⟩
  exact ⟨by simp,⟨by simp [marksC],.inl rfl⟩,.refl _ _⟩
 ·rcases h with h | ⟨g,M,rfl,h2,h3,h4,h5⟩
  ·exact absurd h hz
  ·refine (markContS_full g n M K (d:=c) w h4 h5 hn h0 h1).mono ?_
   rintro e w' ⟨rfl,hq,hg⟩
   exact ⟨rfl,hq,hg.mks.mono (fun k e=>⟨hz,0,by rw [e]⟩)⟩
theorem markAskS_own {B E n c:Nat} {ao:Option Addr} {w:World} (K:Nat) (h:Own1 B E w 193 5 ao n) (hn:n≤1048576) (h0:0<K) (h1:K≤1000000000000000) :
  Calls Tryz.prog 110 #[.slice ao n c,.int .i64 (K:Int)] w fun e w'=>e=.returned (.int .i64 ((K:Int)+5*(n:Int)))∧AskRow w' ao n (marksA K n)∧Mks (inR ao n) w w':=by
 by_cases hz:n=0
 ·subst hz
  refine (markAskS_zero ao c K w).mono ?_
  rintro e w' ⟨rfl,rfl⟩
  exact ⟨by simp,⟨by simp [marksA],.inl rfl⟩,.refl _ _⟩
 ·rcases h with h | ⟨g,M,rfl,h2,h3,h4,h5⟩
  ·exact absurd h hz
  ·refine (markAskS_from g n M K (d:=c) w h4 h5 hn h0 h1).mono ?_
   rintro e w' ⟨rfl,hq,hg⟩
   exact ⟨rfl,hq,hg.mks.mono (fun k e=>⟨hz,0,by rw [e]⟩)⟩
def AVBlk (w:World) (g M:Nat) (l:List AV):Prop:=Cel w 139 g (M*3)∧l.length≤M∧∀i (h:i<l.length),AVAt w g (i*3) l[i]
theorem AVBlk.below {w w':World} {g M:Nat} {l:List AV} (h:AVBlk w g M l) (hb:Below w.heap.size w w'):AVBlk w' g M l:=⟨h.1.below hb,h.2.1,fun i hi=>(h.2.2 i hi).below hb⟩
theorem AVBlk.mks {S:Nat→Prop} {w w':World} {g M:Nat} {l:List AV} (h:AVBlk w g M l) (hm:Mks S w w') (hs:¬S g):AVBlk w' g M l:=
 ⟨hm.cel _ _ _ h.1,h.2.1,fun i hi=>let ⟨a,b,c⟩:=h.2.2 i hi;⟨cellMks a hm hs,cellMks b hm hs,cellMks c hm hs⟩⟩
theorem AVBlk.id {w:World} {g M i:Nat} {l:List AV} (h:AVBlk w g M l) (hi:i<l.length) (x:Int):AVBlk (w.setCell ⟨g,i*3,none⟩ (.int .i64 x)) g M (l.set i ⟨x,l[i].queue,l[i].ao,l[i].len,l[i].cap⟩):=by
 refine ⟨h.1.set _ _ _,by simpa using h.2.1,fun j hj=>?_⟩
 have hj':j<l.length:=by simpa using hj
 obtain ⟨a,b,c⟩:=h.2.2 j hj'
 by_cases e:i=j
 ·subst e
  simp only [List.getElem_set_self]
  exact ⟨World.cell?_setCell_same _ ⟨g,i*3,none⟩ _ a,cellKeep b (by omega),cellKeep c (by omega)⟩
 ·rw [List.getElem_set_ne e]
  exact ⟨cellKeep a (by omega),cellKeep b (by omega),cellKeep c (by omega)⟩
theorem AVBlk.qu {w:World} {g M i:Nat} {l:List AV} (h:AVBlk w g M l) (hi:i<l.length) (x:List UInt8):AVBlk (w.setCell ⟨g,i*3+1,none⟩ (.string (bs x))) g M (l.set i ⟨l[i].id,x,l[i].ao,l[i].len,l[i].cap⟩):=by
 refine ⟨h.1.set _ _ _,by simpa using h.2.1,fun j hj=>?_⟩
 have hj':j<l.length:=by simpa using hj
 obtain ⟨a,b,c⟩:=h.2.2 j hj'
 by_cases e:i=j
 ·subst e
  simp only [List.getElem_set_self]
  exact ⟨cellKeep a (by omega),World.cell?_setCell_same _ ⟨g,i*3+1,none⟩ _ b,cellKeep c (by omega)⟩
 ·rw [List.getElem_set_ne e]
  exact ⟨cellKeep a (by omega),cellKeep b (by omega),cellKeep c (by omega)⟩
theorem AVBlk.row {w:World} {g M:Nat} {l:List AV} (h:AVBlk w g M l):AVRow w (some ⟨g,0,none⟩) l.length l:=⟨rfl,.inr ⟨g,0,rfl,fun i hi=>by rw [Nat.zero_add];exact h.2.2 i hi⟩⟩
theorem markAppS_own {B E n c:Nat} {ao:Option Addr} {w:World} (K:Nat) (hs:List AV) (h:Own1 B E w 139 3 ao n) (hr:AVRow w ao n hs) (ha:∀v ∈ hs,Own1 B E w 193 5 v.ao v.len∧v.len≤1048576) (hp:hs.Pairwise Apart) (hn:n≤1048576) (h0:0<K) (h1:endM K hs≤100000000000000) :
  Calls Tryz.prog 60 #[.slice ao n c,.int .i64 (K:Int)] w fun e w'=>e=.returned (.int .i64 (endM K hs:Int))∧AVRow w' ao n (hsM K hs)∧AsksM w' K hs∧Mks (fun k=>inR ao n k∨∃v ∈ hs,inR v.ao v.len k) w w':=by
 by_cases hz:n=0
 ·subst hz
  have hl:hs=[]:=List.length_eq_zero_iff.1 hr.1.symm
  subst hl
  refine (markAppS_zero ao c K w).mono ?_
  rintro e w' ⟨rfl,rfl⟩
  exact ⟨rfl,⟨rfl,.inl rfl⟩,trivial,.refl _ _⟩
 rcases h with h | ⟨g,M,rfl,h2,h3,h4,h5⟩
 ·exact absurd h hz
 have HLN:=hide hr.1
 have HA:=hide ha
 have HP:=hide hp
 have HV:=hide (show AVBlk w g M (hsM K (hs.take 0)++hs.drop 0) from by
  refine ⟨h4,?_,fun i hi=>?_⟩
  ·simp [hsM];have:=hr.1;omega
  ·simp only [List.take_zero,hsM,List.nil_append,List.drop_zero] at hi ⊢
   rcases hr.2 with e | ⟨b,off,e,hh⟩
   ·exact absurd e hz
   ·cases e
    have:=hh i hi
    rwa [Nat.zero_add] at this)
 have HE:=hide (fun j=>endM_mono hs K j)
 have HG:=hide (fun j=>endM_ge (hs.take j) K)
 obtain ⟨S,hS⟩:∃S:Nat→Prop,S=(fun k=>inR (some ⟨g,0,none⟩) n k∨∃v ∈ hs,inR v.ao v.len k):=⟨_,rfl⟩
 have HSg:=hide (show S g by rw [hS];exact .inl ⟨hz,0,rfl⟩)
 have HSv:=hide (show ∀v ∈ hs,∀k,inR v.ao v.len k→S k by rw [hS];exact fun v hv k hk=>.inr ⟨v,hv,hk⟩)
 rw [←hS]
 clear hr ha hp h4 hS h2 h3
 go_enter Tryz.func60,Tryz.ntmps60
 go_wp2
 go_loopw [1,5] (fun s i wr=>∃(j:Nat) (k:Nat),j≤n∧i=.int .i64 j∧s=.int .i64 (k:Int)∧Hid (k=endM K (hs.take j))∧Hid (AVBlk wr g M (hsM K (hs.take j)++hs.drop j))∧Hid (AsksM wr K (hs.take j))∧Hid (Mks S w wr)) (fun _ i _=>n - (intOf i).toNat)
 case atStart=>exact ⟨0,K,Nat.zero_le _,rfl,rfl,hide (by simp [endM]),HV,hide (by simp [AsksM]),hide (Mks.refl _ _)⟩
 case round=>
  obtain ⟨j,k,hj,rfl,rfl,HK,HQ,HM,HS⟩:=hrel
  by_cases hlt:j<n
  ·have hjl:j<hs.length:=by have:=uH HLN;omega
   have hst:=endM_step hs K j hjl
   have hle:=uH HE (j+1)
   have hgk:=uH HG j
   rw [←uH HK] at hst hgk
   have hjL:j<(hsM K (hs.take j)++hs.drop j).length:=by rw [List.length_append,hsM_len,List.length_take,List.length_drop];omega
   have hLj:(hsM K (hs.take j)++hs.drop j)[j]=hs[j]:=by
    rw [List.getElem_append_right (by rw [hsM_len,List.length_take];omega)]
    simp [hsM_len,Nat.min_eq_left (Nat.le_of_lt hjl)]
   have hcel:=(uH HQ).1
   obtain ⟨v0,d0⟩:=hcel.cell (j:=j*3) (by have:=(uH HQ).2.1;omega)
   have f0:=hcel.frozen (j*3)
   have HQ1:=hide ((uH HQ).id hjL (k:Int))
   have HG1:=hide ((uH HS).sc g (j*3) (.int .i64 (k:Int)) (uH HSg))
   have HM1:=hide ((uH HM).mks (Mks.one (fun x=>x=g) _ g (j*3) (.int .i64 (k:Int)) rfl) _ _ (fun v hv x hx e=>by
    have hv':=((uH HA v (List.mem_of_mem_take hv)).1.mks (uH HS))
    obtain ⟨_,_,N,hc⟩:=hv'.lies x hx
    subst e
    exact absurd (hc.type hcel) (by decide)))
   have hk0:0<k:=by omega
   have hvl:=(uH HA _ (yM hjl)).2
   have hk1:k≤100000000000000:=by omega
   obtain ⟨⟨vi,vq,va,vl,vc⟩,hv⟩:∃v,hs[j]=v:=⟨_,rfl⟩
   have HVV:=hide hv
   rw [hv] at hst hvl
   rw [hLj,hv] at HQ1
   simp only at hst hvl HQ1
   have HN:=hide (show (k+2+5*vl:Nat)=endM K (hs.take (j+1)) from hst.symm)
   clear hst hle hgk hLj hv hcel HQ HM HS hjL
   go_wp2_with fail
   refine (markText_int ((k:Int)+1) _ (by omega) (by omega)).mono ?_
   rintro e w1 ⟨rfl,hb⟩
   have HQ2:=hide ((uH HQ1).below hb)
   have HG2:=hide ((uH HG1).on hb)
   have HM2:=hide (AsksM.below hb _ _ (uH HM1))
   clear hb d0 f0 HQ1 HG1 HM1
   have hjL:j<((hsM K (hs.take j)++hs.drop j).set j ⟨(k:Int),vq,va,vl,vc⟩).length:=by rw [List.length_set,List.length_append,hsM_len,List.length_take,List.length_drop];have:=uH HLN;omega
   have hcel:=(uH HQ2).1
   obtain ⟨v1,d1⟩:=hcel.cell (j:=j*3+1) (by have:=(uH HQ2).2.1;omega)
   have f1:=hcel.frozen (j*3+1)
   have HQ3:=hide (show AVBlk _ g M _ from (uH HQ2).qu hjL (109::dgs (k+1)))
   simp only [List.getElem_set_self,List.set_set] at HQ3
   have HG3:=hide ((uH HG2).sc g (j*3+1) (.string (bs (109::dgs (k+1)))) (uH HSg))
   have HM3:=hide ((uH HM2).mks (Mks.one (fun x=>x=g) _ g (j*3+1) (.string (bs (109::dgs (k+1)))) rfl) _ _ (fun v hv x hx e=>by
    have hv':=((uH HA v (List.mem_of_mem_take hv)).1.mks (uH HG2))
    obtain ⟨_,_,N,hc⟩:=hv'.lies x hx
    subst e
    exact absurd (hc.type hcel) (by decide)))
   have hmk:mk ((k:Int)+1).toNat=bs (109::dgs (k+1)):=by rw [show ((k:Int)+1).toNat=k+1 by omega];rfl
   have hjL3:j<((hsM K (hs.take j)++hs.drop j).set j ⟨(k:Int),109::dgs (k+1),va,vl,vc⟩).length:=by rw [List.length_set,List.length_append,hsM_len,List.length_take,List.length_drop];have:=uH HLN;omega
   have d2:=((uH HQ3).2.2 j hjL3).2.2
   simp only [List.getElem_set_self] at d2
   have hown:=(uH HA _ (yM (show j<hs.length by have:=uH HLN;omega))).1.mks (uH HG3)
   rw [uH HVV] at hown
   simp only at hown
   have CA:=hide (by have:=markAskS_own (c:=vc) (k+2) hown hvl (by omega) (by omega);rw [show ((k+2:Nat):Int)=(k:Int)+1+1 by omega] at this;exact this)
   have HOW:=hide hown
   rw [hmk]
   clear hcel HQ2 HG2 HM2 hjL hjL3 hown hmk
   go_wp2_with fail
   refine (uH CA).mono ?_
   rintro e w2 ⟨rfl,hrow,hm⟩
   have HR4:=hide hrow
   have HQ4:=hide ((uH HQ3).mks hm (fun hk=>by
    obtain ⟨_,_,N,hc⟩:=(uH HOW).lies g hk
    exact absurd (hc.type (uH HQ3).1) (by decide)))
   have HG4:=hide ((uH HG3).trans (hm.mono (fun x hx=>uH HSv hs[j] (yM (show j<hs.length by have:=uH HLN;omega)) x (by rw [uH HVV];exact hx))))
   have HM4:=hide ((uH HM3).mks hm _ _ (fun v hv x hx hx'=>by
    obtain ⟨i,hi,rfl⟩:=List.getElem_of_mem hv
    have hi':i<j∧i<hs.length:=by rw [List.length_take] at hi;omega
    have hap:=(List.pairwise_iff_getElem.1 (uH HP)) i j hi'.2 (by have:=uH HLN;omega) hi'.1
    rw [List.getElem_take] at hx
    rw [uH HVV] at hap
    obtain ⟨hn1,o1,e1⟩:=hx
    obtain ⟨hn2,o2,e2⟩:=hx'
    rcases hap with e | e | e
    ·exact hn1 e
    ·exact hn2 e
    ·have hi1:=(uH HA hs[i] (yM hi'.2)).1
     have hi2:=uH HOW
     rcases hi1 with z | ⟨g1,M1,z,_⟩
     ·exact hn1 z
     ·rcases hi2 with y | ⟨g2,M2,y,_⟩
      ·exact hn2 y
      ·rw [z] at e1
       rw [y] at e2
       cases e1
       cases e2
       exact e (z.trans y.symm)))
   clear hrow hm CA HQ3 HG3 HM3 d1 f1 d2
   go_wp2
   go_roundw
   case rel=>
    have hjl:j<hs.length:=by have:=uH HLN;omega
    have htk:hs.take (j+1)=hs.take j++[hs[j]]:=by rw [List.take_succ_eq_append_getElem hjl]
    refine ⟨j+1,k+2+5*vl,by omega,by go_num,by refine congrArg _ ?_;omega,HN,hide ?_,hide ?_,HG4⟩
    ·have:=uH HQ4
     rw [List.drop_eq_getElem_cons hjl] at this
     rw [htk,hsM_snoc,uH HVV,←uH HK]
     rw [List.set_append_right _ _ (by rw [hsM_len,List.length_take];omega)] at this
     rw [hsM_len,List.length_take,Nat.min_eq_left (by omega),Nat.sub_self,sB] at this
     rw [List.append_assoc]
     exact this
    ·rw [htk]
     refine AsksM_snoc _ _ _ (uH HM4) ?_
     rw [uH HVV,←uH HK]
     exact uH HR4
   case measure=>simp [intOf];omega
  ·have hjn:j=n:=by omega
   have hth:hs.take j=hs:=List.take_of_length_le (by have:=uH HLN;omega)
   have hdr:hs.drop j=[]:=List.drop_of_length_le (by have:=uH HLN;omega)
   have j1:¬(j:Int)<n:=by omega
   have hke:k=endM K hs:=by rw [uH HK,hth]
   go_wp2
   go_ret
   refine ⟨rfl,?_,by have:=uH HM;rwa [hth] at this,uH HS⟩
   have:=(uH HQ).row
   rw [hth,hdr,List.append_nil,hsM_len,←uH HLN] at this
   exact this
end
section
open Go.RowKit Go.ChangeShapes
def IBlk (w:World) (t:TypeId) (g n k:Nat) (l:List Int):Prop:=
 ∃arr:Array Value,w.heap[g]? = some (.cells arr t (0,0))∧arr.size=n∧∀i (h:i<l.length),i<k→arr[i]? = some (.int .i64 l[i])
theorem IBlk.lt {w:World} {t:TypeId} {g n k:Nat} {l:List Int} (h:IBlk w t g n k l):g<w.heap.size:=let ⟨_,h,_⟩:=h;lt_of_block h
theorem IBlk.below {w w':World} {t:TypeId} {g n k:Nat} {l:List Int} (h:IBlk w t g n k l) (hb:Below w.heap.size w w'):IBlk w' t g n k l:=by
 have hlt:=h.lt
 obtain ⟨arr,h1,h2⟩:=h
 exact ⟨arr,(hb.block g hlt).trans h1,h2⟩
theorem IBlk.cell {w:World} {t:TypeId} {g n k:Nat} {l:List Int} (h:IBlk w t g n k l) {j:Nat} (hj:j<n):∃v,w.cell? ⟨g,j,none⟩=some v:=by
 obtain ⟨arr,h1,h2,_⟩:=h
 exact ⟨arr[j]'(by omega),by simp [World.cell?,h1,Array.getElem?_eq_getElem (show j<arr.size by omega)]⟩
theorem IBlk.frozen {w:World} {t:TypeId} {g n k:Nat} {l:List Int} (h:IBlk w t g n k l) (j:Nat):w.frozen? ⟨g,j,none⟩=false:=by
 obtain ⟨arr,h1,h2,_⟩:=h
 simp [World.frozen?,h1]
theorem IBlk.row {w:World} {t:TypeId} {g n:Nat} {l:List Int} (h:IBlk w t g n n l) (hl:n=l.length):NRow w (some ⟨g,0,none⟩) n l:=by
 obtain ⟨arr,h1,h2,h3⟩:=h
 refine ⟨hl,.inr ⟨g,0,rfl,fun i hi=>?_⟩⟩
 have a:=h3 i hi (by omega)
 simp only [Nat.zero_add]
 simp [World.cell?,h1,a]
theorem iblk_made (w:World) (t:TypeId) (z:Array Value) (n:Nat) (l:List Int):IBlk (w.alloc (.cells (madeCells z n) t)) t w.heap.size n 0 l:=
 ⟨madeCells z n,by show (w.heap.push _)[w.heap.size]? = _;simp,size_madeCells _ _,fun i _ h=>absurd h (by omega)⟩
theorem IBlk.step {w:World} {t:TypeId} {g n k:Nat} {l:List Int} (h:IBlk w t g n k l) (hk:k<n) (hl:k<l.length):IBlk (w.setCell ⟨g,k,none⟩ (.int .i64 l[k])) t g n (k+1) l:=by
 obtain ⟨arr,h1,h2,h3⟩:=h
 refine ⟨_,heap_setCell_same w g k _ _ (.int .i64 l[k]) h1,by simp [h2],fun i hi hik=>?_⟩
 by_cases e:i=k
 ·subst e
  simp [Array.getElem?_setIfInBounds,h2]
  omega
 ·have a:=h3 i hi (by omega)
  rw [←a];simp only [Array.getElem?_setIfInBounds];rw [if_neg (by omega)]
theorem IBlk.put {w:World} {t:TypeId} {g n k:Nat} {l:List Int} (h:IBlk w t g n k l) (j:Nat) (v:Value):IBlk (w.setCell ⟨g,j,none⟩ v) t g n 0 l:=by
 obtain ⟨arr,h1,h2,h3⟩:=h
 exact ⟨_,heap_setCell_same w g j _ _ v h1,by simp [h2],fun i hi hik=>absurd hik (by omega)⟩
theorem IBlk.none {w:World} {t:TypeId} {g n k:Nat} {l:List Int} (h:IBlk w t g n k l):IBlk w t g n 0 l:=by
 obtain ⟨arr,h1,h2,h3⟩:=h
 exact ⟨arr,h1,h2,fun i hi hik=>absurd hik (by omega)⟩
theorem IBlk.mks {S:Nat→Prop} {w w':World} {t:TypeId} {g n k:Nat} {l:List Int} (h:IBlk w t g n k l) (hm:Mks S w w') (hg:¬S g):IBlk w' t g n k l:=by
 have hlt:=h.lt
 obtain ⟨arr,h1,h2⟩:=h
 exact ⟨arr,(hm.block g hlt hg).trans h1,h2⟩
theorem IBlk.mkd {B E:Nat} {w w':World} {t:TypeId} {g n k:Nat} {l:List Int} (h:IBlk w t g n k l) (hm:Mkd B E w w') (hg:g<B∨E≤g):IBlk w' t g n k l:=by
 have hlt:=h.lt
 obtain ⟨arr,h1,h2⟩:=h
 exact ⟨arr,(hm.block g hlt hg).trans h1,h2⟩
theorem IBlk.al {w:World} {t:TypeId} {g n k:Nat} {l:List Int} (h:IBlk w t g n k l) (o:Obj):IBlk (w.alloc o) t g n k l:=h.below (yA (yH _ _) o)
theorem make_ints (n:Nat) (hn:n≤1048576) (w:World) :
  (Instr.makeSlice 72 (.int .i64 (n:Int)) (.int .i64 (n:Int))).run Tryz.prog w=.ok (.slice (some ⟨w.heap.size,0,none⟩) n n) (w.alloc (.cells (madeCells (Value.int .i64 0).cells n) 3)):=by
 obtain ⟨i,hi,hz⟩:=Option.map_eq_some_iff.1 Tryz.infoI
 simp only [Prod.mk.injEq] at hz
 obtain ⟨hz,hs,hb⟩:=hz
 have hr:=run_make (P:=Tryz.prog) w 72 3 i _ Tryz.underlying72 hi hz .i64 .i64 n n (by omega) (Int.le_refl _) (by rw [hb];omega) (by omega)
 simp only [Int.toNat_natCast,hs,Nat.mul_one] at hr
 exact hr
theorem toIntS_any (ao:Option Addr) (len cap:Nat) (l:List Int) (w:World) (h:NRow w ao len l) (hl:len≤1048576) :
  Calls Tryz.prog 85 #[.slice ao len cap] w fun e w'=>e=.returned (.slice (some ⟨w.heap.size,0,none⟩) len len)∧IBlk w' 3 w.heap.size len len l∧Below w.heap.size w w':=by
 have HR:=hide h
 have HL:=hide h.1
 have hmk:=make_ints len hl w
 obtain ⟨zs,hzs⟩:∃z,z=(Value.int .i64 0).cells:=⟨_,rfl⟩
 rw [←hzs] at hmk
 clear h hzs
 go_enter Tryz.func85,Tryz.ntmps85
 go_wp2
 clear hmk
 go_loopw [4] (fun i wr=>∃k:Nat,k≤len∧i=.int .i64 k∧Hid (IBlk wr 3 w.heap.size len k l)∧Hid (Below w.heap.size w wr)) (fun i _=>len - (intOf i).toNat)
 case atStart=>exact ⟨0,Nat.zero_le _,rfl,hide (iblk_made w _ _ _ _),hide (yA (yH _ _) _)⟩
 case round=>
  obtain ⟨k,hk,rfl,HQ,HB⟩:=hrel
  by_cases hlt:k<len
  ·obtain ⟨b,off,rfl,hq⟩:=((uH HR).below (uH HB)).at hlt
   have hkl:k<l.length:=by have:=uH HL;omega
   have c0:=hq hkl
   have HST:=hide ((uH HQ).step hlt hkl)
   obtain ⟨q,hs⟩:∃q,l[k]=q:=⟨_,rfl⟩
   rw [hs] at c0 HST
   clear hq hs hkl
   obtain ⟨v0,d0⟩:=(uH HQ).cell (j:=k) (by omega)
   have f0:=(uH HQ).frozen k
   go_wp2
   go_roundw
   case rel=>exact ⟨k+1,by omega,by go_num,HST,hide (yC (uH HB) _ _ _ (by omega))⟩
   case measure=>simp [intOf];omega
  ·have hkk:k=len:=by omega
   subst hkk
   go_wp2
   go_ret
   exact ⟨rfl,uH HQ,uH HB⟩
def ITwo (w0:World) (b p c r:Nat) (q:Int) (w:World):Prop:=w.cell? ⟨b,p,none⟩=some (.int .i64 q)∧w.cell? ⟨c,r,none⟩=some (.int .i64 q)∧Below w0.heap.size w0 w
theorem ITwo.call {w0 w w':World} {b p c r:Nat} {q:Int} (h:ITwo w0 b p c r q w) (hb:Below w.heap.size w w'):ITwo w0 b p c r q w':=⟨(hb.cell (yG h.1)).trans h.1,(hb.cell (yG h.2.1)).trans h.2.1,yB h.2.2 hb⟩
theorem ITwo.drew {w0 w:World} {b p c r:Nat} {q:Int} (h:ITwo w0 b p c r q w):ITwo w0 b p c r q w.drew:=h.call (yH _ _).drew
theorem ITwo.read (w0:World) (b p c r:Nat) (q:Int):∀wx,ITwo w0 b p c r q wx→wx.cell? ⟨b,p,none⟩=some (.int .i64 q)∧wx.cell? ⟨c,r,none⟩=some (.int .i64 q):=fun wx h=>⟨h.1,h.2.1⟩
theorem eqIntS_big (ao bo:Option Addr) (len cap ccap:Nat) (l:List Int) (w:World) (h:NRow w ao len l) (h':NRow w bo len l) (hl:len≤2000000000000) :
  Calls Tryz.prog 108 #[.slice ao len cap,.slice bo len ccap] w fun e w'=>e=.returned (.bool true)∧Below w.heap.size w w':=by
 have HR:=hide h
 have HR':=hide h'
 have HL:=hide h.1
 clear h h'
 go_enter Tryz.func108,Tryz.ntmps108
 go_wp2
 go_loopw [5] (fun i wr=>∃k:Nat,k≤len∧i=.int .i64 k∧Hid (Below w.heap.size w wr)) (fun i _=>len - (intOf i).toNat)
 case atStart=>exact ⟨0,Nat.zero_le _,rfl,hide (yH _ _)⟩
 case round=>
  obtain ⟨k,hk,rfl,HB⟩:=hrel
  by_cases hlt:k<len
  ·obtain ⟨b,off,rfl,hq⟩:=((uH HR).below (uH HB)).at hlt
   obtain ⟨c,coff,rfl,hq'⟩:=((uH HR').below (uH HB)).at hlt
   have hkl:k<l.length:=by have:=uH HL;omega
   have A0:=hide (show ITwo w b (off+k) c (coff+k) l[k] wr from ⟨hq hkl,hq' hkl,uH HB⟩)
   obtain ⟨q,hs⟩:∃q,l[k]=q:=⟨_,rfl⟩
   rw [hs] at A0
   have R:=ITwo.read w b (off+k) c (coff+k) q
   have k0:(0:Int)≤k:=by omega
   have k1:(k:Int)<len:=by omega
   clear hq hq' hs hkl
   go_wp2_with fail
   go_region_held3 (fun wx=>ITwo w b (off+k) c (coff+k) q wx)
    (first | (with_reducible assumption) | exact (uH A0).drew | exact ITwo.call (by assumption) (by assumption))
    (fail)
   all_goals
    have HB2:=hide (uH A0).drew.2.2
    clear R A0
    go_wp2
    go_roundw
    case rel=>exact ⟨k+1,by omega,by go_num,HB2⟩
    case measure=>simp [intOf];omega
  ·go_wp2
   go_ret
   exact ⟨rfl,uH HB⟩
theorem eqIntS_same (ao bo:Option Addr) (len cap ccap:Nat) (l:List Int) (w:World) (h:NRow w ao len l) (h':NRow w bo len l) (hl:len≤1048576) :
  Calls Tryz.prog 108 #[.slice ao len cap,.slice bo len ccap] w fun e w'=>e=.returned (.bool true)∧Below w.heap.size w w':=eqIntS_big ao bo len cap ccap l w h h' (by omega)
theorem open_introw {H:Type} {enc:TypeId×Value→H} {W:World} {base:Nat} {held:Bool} {ao:Option Addr} {len cap:Nat} {d:DataW H} {p:List MemPlace}
  (h:DataW.Trod enc Tryz.prog W base (fun _=>true) held 72 (.slice ao len cap) d p) :
  ∃l:List Int,NRow W ao len l∧len≤9223372036854775807:=by
 obtain ⟨fuel,hf⟩:=h
 rcases open_ints Tryz.underlying72 Tryz.underlying3 (by kernel_rfl) hf with ⟨hcs,_⟩ | ⟨a,l,c,zs,hcs,_,hl,hm,hz,_,hcell,hwz⟩
 ·simp [Value.cells] at hcs
  obtain ⟨rfl,rfl,rfl⟩:=hcs
  exact ⟨[],⟨rfl,.inl rfl⟩,by omega⟩
 ·simp [Value.cells] at hcs
  obtain ⟨rfl,rfl,rfl⟩:=hcs
  simp only [if_true] at hz
  have hmx:maxLen=9223372036854775807:=rfl
  refine ⟨zs.take len,⟨by simp;omega,?_⟩,by omega⟩
  by_cases h0:len=0
  ·exact .inl h0
  ·right
   obtain ⟨b,off,spot⟩:=a
   have hc0:=hcell 0 (by omega)
   have hspot:spot=none:=by simpa [Addr.add] using World.cell?_spot hc0
   subst hspot
   refine ⟨b,off,rfl,fun i hi=>?_⟩
   have hi':i<len∧i<zs.length:=by simp only [List.length_take] at hi;omega
   have:=hcell i hi'.2
   rw [Lib.add_plain] at this
   rw [this]
   simp [List.getElem?_eq_getElem hi'.2]
end
section
open Go.RowKit
theorem ConRow.other {w:World} {ao:Option Addr} {len:Nat} {l:List Con} (h:ConRow w ao len l) (g j:Nat) (v:Value) (hg:∀b off,ao=some ⟨b,off,none⟩→b≠g):ConRow (w.setCell ⟨g,j,none⟩ v) ao len l:=by
 obtain ⟨h1,h2⟩:=h
 refine ⟨h1,?_⟩
 rcases h2 with h2 | ⟨b,off,h3,h4⟩
 ·exact .inl h2
 ·have hn:=hg b off h3
  have hc:∀p,(w.setCell ⟨g,j,none⟩ v).cell? ⟨b,p,none⟩=w.cell? ⟨b,p,none⟩:=fun p=>by
   unfold World.cell?;rw [heap_setCell_other w ⟨g,j,none⟩ b v hn]
  refine .inr ⟨b,off,h3,fun i h=>?_⟩
  obtain ⟨a,b,c,d,e⟩:=h4 i h
  exact ⟨by rw [hc];exact a,by rw [hc];exact b,by rw [hc];exact c,by rw [hc];exact d,by rw [hc];exact e⟩
theorem NRow.other {w:World} {ao:Option Addr} {len:Nat} {l:List Int} (h:NRow w ao len l) (g j:Nat) (v:Value) (hg:∀b off,ao=some ⟨b,off,none⟩→b≠g):NRow (w.setCell ⟨g,j,none⟩ v) ao len l:=by
 obtain ⟨h1,h2⟩:=h
 refine ⟨h1,?_⟩
 rcases h2 with h2 | ⟨b,off,h3,h4⟩
 ·exact .inl h2
 ·have hn:=hg b off h3
  refine .inr ⟨b,off,h3,fun i h=>?_⟩
  rw [←h4 i h]
  unfold World.cell?;rw [heap_setCell_other w ⟨g,j,none⟩ b v hn]
theorem conblk_any {w:World} {t:TypeId} {g n k:Nat} {l:List Con} (h:ConBlk w t g n k l):ConBlk w t g n 0 []:=by
 obtain ⟨arr,h1,h2,_⟩:=h
 exact ⟨arr,h1,h2,fun i hi=>absurd hi (by simp)⟩
theorem iblk_other {w:World} {t:TypeId} {g n k:Nat} {l:List Int} (h:IBlk w t g n k l) (b j:Nat) (v:Value) (hn:g≠b):IBlk (w.setCell ⟨b,j,none⟩ v) t g n k l:=by
 obtain ⟨arr,h1,h2⟩:=h
 exact ⟨arr,(heap_setCell_other w ⟨b,j,none⟩ g v hn).trans h1,h2⟩
theorem iblk_any {w:World} {t:TypeId} {g n k:Nat} {l:List Int} (h:IBlk w t g n k l):IBlk w t g n 0 []:=by
 obtain ⟨arr,h1,h2,_⟩:=h
 exact ⟨arr,h1,h2,fun i hi=>absurd hi (by simp)⟩
theorem iblk_cel {w:World} {t:TypeId} {g n k:Nat} {l:List Int} (h:IBlk w t g n k l):Cel w t g n:=by
 obtain ⟨arr,h1,h2,_⟩:=h
 exact ⟨arr,h1,h2⟩
theorem conblk_cel {w:World} {t:TypeId} {g n k:Nat} {l:List Con} (h:ConBlk w t g n k l):Cel w t g (n*5):=by
 obtain ⟨arr,h1,h2,_⟩:=h
 exact ⟨arr,h1,h2⟩
theorem conblk_mks {S:Nat→Prop} {w w':World} {t:TypeId} {g n k:Nat} {l:List Con} (h:ConBlk w t g n k l) (hm:Mks S w w') (hg:¬S g):ConBlk w' t g n k l:=by
 have hlt:=h.lt
 obtain ⟨arr,h1,h2⟩:=h
 exact ⟨arr,(hm.block g hlt hg).trans h1,h2⟩
theorem ns_blk {w:World} {b:Nat} {old:Array Value} {t:TypeId} (h:Blk w b old t) (arr:Array Value):Blk (w.setRow b arr) b arr t:=setRow_heap w b old arr t (0,0) h
theorem ns_mks {w:World} {b:Nat} {old:Array Value} {t:TypeId} (h:Blk w b old t) (arr:Array Value) (hs:arr.size=old.size):Mks (fun k=>k=b) w (w.setRow b arr):=by
 refine ⟨rfl,rfl,rfl,by rw [setRow_size];exact yJ _,fun k _ hk=>setRow_other w b k arr hk,fun t' g N hc=>?_⟩
 by_cases e:g=b
 ·subst e
  obtain ⟨c,h1,h2⟩:=hc
  rw [h] at h1
  cases h1
  exact ⟨arr,ns_blk h arr,by omega⟩
 ·exact hc.of_block (setRow_other w b g arr e)
theorem ns_store {P:Program} {w:World} {b:Nat} {old arr:Array Value} {t:TypeId} (ty:TypeId) (h:Blk w b old t) (hi:(P.info? ty).map (·.size)=some arr.size) (ho:old.size=arr.size) (h1:arr.all (·.oneCell')=true) :
  (Instr.storeAt ty (.pointer (some ⟨b,0,none⟩)) (.agg arr)).run P w=.ok () (w.setRow b arr):=by
 simp only [Instr.storeAt,Instr.sureAddr,Sem.run_bind,Sem.run_pure,Result.andThen]
 exact run_storeVar_row w b t ty old arr h hi ho h1
theorem ns_load {P:Program} {w:World} {b:Nat} {arr:Array Value} {t:TypeId} (ty:TypeId) {d:TypeDesc} (h:Blk w b arr t) (hu:P.underlying ty=some d) (ha:(match d with | .struct _ | .array _ _=>true | _=>false)=true) (hi:(P.info? ty).map (·.size)=some arr.size):(Instr.loadAt ty (.pointer (some ⟨b,0,none⟩))).run P w=.ok (.agg arr) w:=by
 simp only [Instr.loadAt,Instr.sureAddr,Sem.run_bind,Sem.run_pure,Result.andThen]
 exact run_loadVar_row w b t ty arr (0,0) _ h hu ha hi
def CsOwn (w:World) (g:Nat) (ao:Option Addr) (len cap:Nat) (l:List Con):Prop:=ConRow w ao len l∧cap=len∧∃b,ao=some ⟨b,0,none⟩∧g<b∧ConBlk w 150 b len 0 []
theorem CsOwn.below {w w':World} {g:Nat} {ao:Option Addr} {len cap:Nat} {l:List Con} (h:CsOwn w g ao len cap l) (hb:Below w.heap.size w w'):CsOwn w' g ao len cap l:=⟨h.1.below hb,h.2.1,let ⟨b,e,c,d⟩:=h.2.2;⟨b,e,c,d.below hb⟩⟩
theorem CsOwn.put {w:World} {g:Nat} {ao:Option Addr} {len cap:Nat} {l:List Con} (h:CsOwn w g ao len cap l) (j:Nat) (v:Value):CsOwn (w.setCell ⟨g,j,none⟩ v) g ao len cap l:=by
 obtain ⟨h1,h2,b,rfl,h3,h4⟩:=h
 exact ⟨h1.other g j v (fun c off e=>by cases e;omega),h2,b,rfl,h3,ConBlk.other h4 g j v (by omega)⟩
def KlOwn (w:World) (g:Nat) (ao:Option Addr) (len cap:Nat) (l:List Int):Prop:=NRow w ao len l∧cap=len∧∃b,ao=some ⟨b,0,none⟩∧g<b∧IBlk w 3 b len 0 []
theorem KlOwn.below {w w':World} {g:Nat} {ao:Option Addr} {len cap:Nat} {l:List Int} (h:KlOwn w g ao len cap l) (hb:Below w.heap.size w w'):KlOwn w' g ao len cap l:=⟨h.1.below hb,h.2.1,let ⟨b,e,c,d⟩:=h.2.2;⟨b,e,c,d.below hb⟩⟩
theorem KlOwn.put {w:World} {g:Nat} {ao:Option Addr} {len cap:Nat} {l:List Int} (h:KlOwn w g ao len cap l) (j:Nat) (v:Value):KlOwn (w.setCell ⟨g,j,none⟩ v) g ao len cap l:=by
 obtain ⟨h1,h2,b,rfl,h3,h4⟩:=h
 exact ⟨h1.other g j v (fun c off e=>by cases e;omega),h2,b,rfl,h3,iblk_other h4 g j v (by omega)⟩
structure Rpl where
 code:Int
 app:Int
 cs:List Con
 kill:List Int
abbrev rplv (code:Int) (app:Int) (xo:Option Addr) (xl xc:Nat) (yo:Option Addr) (yl yc:Nat):Value:=.agg #[.int .i64 code,.int .i64 app,.slice xo xl xc,.slice yo yl yc]
def RplAt (w:World) (b p:Nat) (q:Rpl) (xo:Option Addr) (xl xc:Nat) (yo:Option Addr) (yl yc:Nat):Prop:=
 w.cell? ⟨b,p,none⟩=some (.int .i64 q.code)∧w.cell? ⟨b,p+1,none⟩=some (.int .i64 q.app)∧w.cell? ⟨b,p+2,none⟩=some (.slice xo xl xc)∧w.cell? ⟨b,p+3,none⟩=some (.slice yo yl yc)∧ConRow w xo xl q.cs∧NRow w yo yl q.kill
def RplRow (w:World) (ao:Option Addr) (len:Nat) (l:List Rpl):Prop:=
 len=l.length∧(len=0∨∃b off,ao=some ⟨b,off,none⟩∧∀i (h:i<l.length),∃(xo:Option Addr) (xl xc:Nat) (yo:Option Addr) (yl yc:Nat),RplAt w b (off+i*4) l[i] xo xl xc yo yl yc)
theorem RplAt.lt {w:World} {b p:Nat} {q:Rpl} {xo:Option Addr} {xl xc:Nat} {yo:Option Addr} {yl yc:Nat} (h:RplAt w b p q xo xl xc yo yl yc):b<w.heap.size:=yG h.1
theorem RplAt.below {w w':World} {b p:Nat} {q:Rpl} {xo:Option Addr} {xl xc:Nat} {yo:Option Addr} {yl yc:Nat} (h:RplAt w b p q xo xl xc yo yl yc) (hb:Below w.heap.size w w'):RplAt w' b p q xo xl xc yo yl yc:=
 ⟨(hb.cell h.lt).trans h.1,(hb.cell h.lt).trans h.2.1,(hb.cell h.lt).trans h.2.2.1,(hb.cell h.lt).trans h.2.2.2.1,h.2.2.2.2.1.below hb,h.2.2.2.2.2.below hb⟩
theorem RplRow.below {w w':World} {ao:Option Addr} {len:Nat} {l:List Rpl} (h:RplRow w ao len l) (hb:Below w.heap.size w w'):RplRow w' ao len l:=by
 obtain ⟨h1,h2⟩:=h
 refine ⟨h1,?_⟩
 rcases h2 with h2 | ⟨b,off,h3,h4⟩
 ·exact .inl h2
 ·exact .inr ⟨b,off,h3,fun i h=>let ⟨xo,xl,xc,yo,yl,yc,hh⟩:=h4 i h;⟨xo,xl,xc,yo,yl,yc,hh.below hb⟩⟩
theorem RplRow.nil (w:World) (ao:Option Addr):RplRow w ao 0 []:=⟨rfl,.inl rfl⟩
theorem RplRow.at {w:World} {ao:Option Addr} {len:Nat} {l:List Rpl} (h:RplRow w ao len l) {i:Nat} (hi:i<len):∃b off,ao=some ⟨b,off,none⟩∧∀(h:i<l.length),∃(xo:Option Addr) (xl xc:Nat) (yo:Option Addr) (yl yc:Nat),RplAt w b (off+i*4) l[i] xo xl xc yo yl yc:=by
 obtain ⟨h1,h2⟩:=h
 rcases h2 with h2 | ⟨b,off,h3,h4⟩
 ·omega
 ·exact ⟨b,off,h3,fun hi=>h4 i hi⟩
def RplBlk (w:World) (t:TypeId) (g n k:Nat) (l:List Rpl):Prop:=
 ∃arr:Array Value,w.heap[g]? = some (.cells arr t (0,0))∧arr.size=n*4∧∀i (h:i<l.length),i<k→arr[i*4]? = some (.int .i64 l[i].code)∧arr[i*4+1]? = some (.int .i64 l[i].app)∧∃(xo:Option Addr) (xl xc:Nat) (yo:Option Addr) (yl yc:Nat),arr[i*4+2]? = some (.slice xo xl xc)∧arr[i*4+3]? = some (.slice yo yl yc)∧CsOwn w g xo xl xc l[i].cs∧KlOwn w g yo yl yc l[i].kill
theorem RplBlk.lt {w:World} {t:TypeId} {g n k:Nat} {l:List Rpl} (h:RplBlk w t g n k l):g<w.heap.size:=let ⟨_,h,_⟩:=h;lt_of_block h
theorem RplBlk.below {w w':World} {t:TypeId} {g n k:Nat} {l:List Rpl} (h:RplBlk w t g n k l) (hb:Below w.heap.size w w'):RplBlk w' t g n k l:=by
 have hlt:=h.lt
 obtain ⟨arr,h1,h2,h3⟩:=h
 exact ⟨arr,(hb.block g hlt).trans h1,h2,fun i h hk=>let ⟨s0,s1,xo,xl,xc,yo,yl,yc,t0,t1,o0,o1⟩:=h3 i h hk;⟨s0,s1,xo,xl,xc,yo,yl,yc,t0,t1,o0.below hb,o1.below hb⟩⟩
theorem RplBlk.cell {w:World} {t:TypeId} {g n k:Nat} {l:List Rpl} (h:RplBlk w t g n k l) {j:Nat} (hj:j<n*4):∃v,w.cell? ⟨g,j,none⟩=some v:=by
 obtain ⟨arr,h1,h2,_⟩:=h
 exact ⟨arr[j]'(by omega),by simp [World.cell?,h1,Array.getElem?_eq_getElem (show j<arr.size by omega)]⟩
theorem RplBlk.frozen {w:World} {t:TypeId} {g n k:Nat} {l:List Rpl} (h:RplBlk w t g n k l) (j:Nat):w.frozen? ⟨g,j,none⟩=false:=by
 obtain ⟨arr,h1,h2,_⟩:=h
 simp [World.frozen?,h1]
theorem RplBlk.row {w:World} {t:TypeId} {g n:Nat} {l:List Rpl} (h:RplBlk w t g n n l) (hl:n=l.length):RplRow w (some ⟨g,0,none⟩) n l:=by
 obtain ⟨arr,h1,h2,h3⟩:=h
 refine ⟨hl,.inr ⟨g,0,rfl,fun i hi=>?_⟩⟩
 obtain ⟨s0,s1,xo,xl,xc,yo,yl,yc,t0,t1,o0,o1⟩:=h3 i hi (by omega)
 refine ⟨xo,xl,xc,yo,yl,yc,?_⟩
 unfold RplAt
 simp only [Nat.zero_add]
 exact ⟨by simp [World.cell?,h1,s0],by simp [World.cell?,h1,s1],by simp [World.cell?,h1,t0],by simp [World.cell?,h1,t1],o0.1,o1.1⟩
theorem rplblk_made (w:World) (t:TypeId) (z:Array Value) (n:Nat) (l:List Rpl):RplBlk (w.alloc (.cells (madeCells z (n*4)) t)) t w.heap.size n 0 l:=
 ⟨madeCells z (n*4),by show (w.heap.push _)[w.heap.size]? = _;simp,size_madeCells _ _,fun i _ h=>absurd h (by omega)⟩
def putRpl (w:World) (g p:Nat) (code:Int) (app:Int) (xo:Option Addr) (xl xc:Nat) (yo:Option Addr) (yl yc:Nat):World:=((((w.setCell ⟨g,p,none⟩ (.int .i64 code)).setCell ⟨g,p+1,none⟩ (.int .i64 app)).setCell ⟨g,p+2,none⟩ (.slice xo xl xc)).setCell ⟨g,p+3,none⟩ (.slice yo yl yc))
theorem RplBlk.step {w:World} {t:TypeId} {g n k:Nat} {l:List Rpl} (h:RplBlk w t g n k l) (hk:k<n) (hl:k<l.length) (xo:Option Addr) (xl xc:Nat) (yo:Option Addr) (yl yc:Nat) (ow0:CsOwn w g xo xl xc l[k].cs) (ow1:KlOwn w g yo yl yc l[k].kill):RplBlk (putRpl w g (k*4) l[k].code l[k].app xo xl xc yo yl yc) t g n (k+1) l:=by
 obtain ⟨arr,h1,h2,h3⟩:=h
 have e1:=heap_setCell_same w g (k*4) _ _ (.int .i64 l[k].code) h1
 have e2:=heap_setCell_same _ g (k*4+1) _ _ (.int .i64 l[k].app) e1
 have e3:=heap_setCell_same _ g (k*4+2) _ _ (.slice xo xl xc) e2
 have e4:=heap_setCell_same _ g (k*4+3) _ _ (.slice yo yl yc) e3
 refine ⟨_,e4,by simp [h2],fun i hi hik=>?_⟩
 by_cases e:i=k
 ·subst e
  have q1:i*4+3<arr.size:=by omega
  refine ⟨?_,?_,xo,xl,xc,yo,yl,yc,?_,?_,((((ow0.put (i*4) (.int .i64 l[i].code)).put (i*4+1) (.int .i64 l[i].app)).put (i*4+2) (.slice xo xl xc)).put (i*4+3) (.slice yo yl yc)),((((ow1.put (i*4) (.int .i64 l[i].code)).put (i*4+1) (.int .i64 l[i].app)).put (i*4+2) (.slice xo xl xc)).put (i*4+3) (.slice yo yl yc))⟩<;>simp [Array.getElem?_setIfInBounds,h2]<;>omega
 ·obtain ⟨s0,s1,z0,z1,z2,z3,z4,z5,t0,t1,o0,o1⟩:=h3 i hi (by omega)
  refine ⟨?_,?_,z0,z1,z2,z3,z4,z5,?_,?_,((((o0.put (k*4) (.int .i64 l[k].code)).put (k*4+1) (.int .i64 l[k].app)).put (k*4+2) (.slice xo xl xc)).put (k*4+3) (.slice yo yl yc)),((((o1.put (k*4) (.int .i64 l[k].code)).put (k*4+1) (.int .i64 l[k].app)).put (k*4+2) (.slice xo xl xc)).put (k*4+3) (.slice yo yl yc))⟩
  ·rw [←s0];simp only [Array.getElem?_setIfInBounds];repeat rw [if_neg (by omega)]
  ·rw [←s1];simp only [Array.getElem?_setIfInBounds];repeat rw [if_neg (by omega)]
  ·rw [←t0];simp only [Array.getElem?_setIfInBounds];repeat rw [if_neg (by omega)]
  ·rw [←t1];simp only [Array.getElem?_setIfInBounds];repeat rw [if_neg (by omega)]
structure RH where
 code:Int
 app:Int
 ao:Option Addr
 len:Nat
 cap:Nat
 bo:Option Addr
 bl:Nat
 bc:Nat
def RHAt (w:World) (b p:Nat) (v:RH):Prop:=
 w.cell? ⟨b,p,none⟩=some (.int .i64 v.code)∧w.cell? ⟨b,p+1,none⟩=some (.int .i64 v.app)∧w.cell? ⟨b,p+2,none⟩=some (.slice v.ao v.len v.cap)∧w.cell? ⟨b,p+3,none⟩=some (.slice v.bo v.bl v.bc)
theorem RHAt.lt {w:World} {b p:Nat} {v:RH} (h:RHAt w b p v):b<w.heap.size:=yG h.1
theorem RHAt.below {w w':World} {b p:Nat} {v:RH} (h:RHAt w b p v) (hb:Below w.heap.size w w'):RHAt w' b p v:=
 ⟨(hb.cell h.lt).trans h.1,(hb.cell h.lt).trans h.2.1,(hb.cell h.lt).trans h.2.2.1,(hb.cell h.lt).trans h.2.2.2⟩
def RHRow (w:World) (ao:Option Addr) (len:Nat) (l:List RH):Prop:=
 len=l.length∧(len=0∨∃b off,ao=some ⟨b,off,none⟩∧∀i (h:i<l.length),RHAt w b (off+i*4) l[i])
theorem RHRow.below {w w':World} {ao:Option Addr} {len:Nat} {l:List RH} (h:RHRow w ao len l) (hb:Below w.heap.size w w'):RHRow w' ao len l:=by
 obtain ⟨h1,h2⟩:=h
 refine ⟨h1,?_⟩
 rcases h2 with h2 | ⟨b,off,h3,h4⟩
 ·exact .inl h2
 ·exact .inr ⟨b,off,h3,fun i h=>(h4 i h).below hb⟩
theorem RHRow.at {w:World} {ao:Option Addr} {len:Nat} {l:List RH} (h:RHRow w ao len l) {i:Nat} (hi:i<len):∃b off,ao=some ⟨b,off,none⟩∧∀(h:i<l.length),RHAt w b (off+i*4) l[i]:=by
 obtain ⟨h1,h2⟩:=h
 rcases h2 with h2 | ⟨b,off,h3,h4⟩
 ·omega
 ·exact ⟨b,off,h3,fun hi=>h4 i hi⟩
def RHSays (w:World) (v:RH) (q:Rpl):Prop:=v.code=q.code∧v.app=q.app∧ConRow w v.ao v.len q.cs∧NRow w v.bo v.bl q.kill
theorem RHSays.below {w w':World} {v:RH} {q:Rpl} (h:RHSays w v q) (hb:Below w.heap.size w w'):RHSays w' v q:=⟨h.1,h.2.1,h.2.2.1.below hb,h.2.2.2.below hb⟩
def RHeads (w:World) (hs:List RH) (l:List Rpl):Prop:=hs.length=l.length∧∀i (h:i<hs.length) (h':i<l.length),RHSays w hs[i] l[i]
theorem RHeads.below {w w':World} {hs:List RH} {l:List Rpl} (h:RHeads w hs l) (hb:Below w.heap.size w w'):RHeads w' hs l:=⟨h.1,fun i a b=>(h.2 i a b).below hb⟩
theorem RplRow.heads {w:World} {ao:Option Addr} {len:Nat} {l:List Rpl} (h:RplRow w ao len l):∃hs,RHRow w ao len hs∧RHeads w hs l:=by
 obtain ⟨h1,h2⟩:=h
 rcases h2 with h2 | ⟨b,off,h3,h4⟩
 ·have:l=[]:=List.eq_nil_of_length_eq_zero (by omega)
  subst this
  exact ⟨[],⟨by simpa using h1,.inl h2⟩,rfl,fun i h=>absurd h (by simp)⟩
 ·have hx:∀i:Fin l.length,∃v:RH,RHAt w b (off+i.1*4) v∧RHSays w v l[i.1]:=fun i=>by
   obtain ⟨xo,xl,xc,yo,yl,yc,a0,a1,a2,a3,a4,a5⟩:=h4 i.1 i.2
   exact ⟨⟨_,_,xo,xl,xc,yo,yl,yc⟩,⟨a0,a1,a2,a3⟩,rfl,rfl,a4,a5⟩
  obtain ⟨f,hf⟩:=Classical.axiomOfChoice hx
  refine ⟨List.ofFn f,⟨by simpa using h1,.inr ⟨b,off,h3,fun i hi=>?_⟩⟩,by simp,fun i hi hi'=>?_⟩
  ·have:=(hf ⟨i,by simpa using hi⟩).1
   simpa using this
  ·have:=(hf ⟨i,hi'⟩).2
   simpa using this
def RHBlk (w:World) (g M:Nat) (l:List RH):Prop:=Cel w 91 g (M*4)∧l.length≤M∧∀i (h:i<l.length),RHAt w g (i*4) l[i]
theorem RHBlk.below {w w':World} {g M:Nat} {l:List RH} (h:RHBlk w g M l) (hb:Below w.heap.size w w'):RHBlk w' g M l:=⟨h.1.below hb,h.2.1,fun i hi=>(h.2.2 i hi).below hb⟩
structure SCap (x:Sls):Prop where
 q:x.ql≤x.qc
 a:x.al≤x.ac
 m:x.ml≤x.mc
 c:x.cl≤x.cc
def RmS (B E:Nat) (w:World) (x:Sls) (hs:List AV):Prop:=Own1 B E w 142 4 x.qa x.qc∧Own1 B E w 139 3 x.aa x.ac∧Own1 B E w 147 4 x.ma x.mc∧Own1 B E w 150 5 x.ca x.cc∧∀v ∈ hs,Own1 B E w 193 5 v.ao v.cap
theorem RmS.map {B E B' E':Nat} {w w':World} {x:Sls} {hs:List AV} (h:RmS B E w x hs) (f:∀{t:TypeId} {sz n:Nat} {ao:Option Addr},Own1 B E w t sz ao n→Own1 B' E' w' t sz ao n):RmS B' E' w' x hs:=⟨f h.1,f h.2.1,f h.2.2.1,f h.2.2.2.1,fun v hv=>f (h.2.2.2.2 v hv)⟩
theorem RmS.below {B E:Nat} {w w':World} {x:Sls} {hs:List AV} (h:RmS B E w x hs) (hb:Below w.heap.size w w'):RmS B E w' x hs:=h.map (fun k=>k.below hb)
theorem RmS.mono {B E B' E':Nat} {w:World} {x:Sls} {hs:List AV} (h:RmS B E w x hs) (h1:B'≤B) (h2:E≤E'):RmS B' E' w x hs:=h.map (fun k=>k.mono h1 h2)
theorem RmS.mks {B E:Nat} {S:Nat→Prop} {w w':World} {x:Sls} {hs:List AV} (h:RmS B E w x hs) (hm:Mks S w w'):RmS B E w' x hs:=h.map (fun k=>k.mks hm)
theorem RmS.sc {B E:Nat} {w:World} {x:Sls} {hs:List AV} (h:RmS B E w x hs) (k j:Nat) (v:Value):RmS B E (w.setCell ⟨k,j,none⟩ v) x hs:=h.map (fun o=>o.sc k j v)
structure SAns (B E:Nat) (w:World) (x:Sls) (s:St) (hs:List AV):Prop where
 row:SRow w x s
 q:Own1 B E w 142 4 x.qa x.ql
 a:Own1 B E w 139 3 x.aa x.al
 m:Own1 B E w 147 4 x.ma x.ml
 c:Own1 B E w 150 5 x.ca x.cl
 av:AVRow w x.aa x.al hs
 heads:Heads w hs s.apps
 asks:∀v ∈ hs,Own1 B E w 193 5 v.ao v.len
 apart:hs.Pairwise Apart
 cap:SCap x
 rm:RmS B E w x hs
theorem Heads.below {w w':World} {hs:List AV} {l:List Appl} (h:Heads w hs l) (hb:Below w.heap.size w w'):Heads w' hs l:=⟨h.1,fun i h1 h2=>let ⟨a,b,c,d⟩:=h.2 i h1 h2;⟨a,b,c.below hb,d⟩⟩
theorem SAns.below {B E:Nat} {w w':World} {x:Sls} {s:St} {hs:List AV} (h:SAns B E w x s hs) (hb:Below w.heap.size w w'):SAns B E w' x s hs:=
 ⟨h.row.below hb,h.q.below hb,h.a.below hb,h.m.below hb,h.c.below hb,h.av.below hb,h.heads.below hb,fun v hv=>(h.asks v hv).below hb,h.apart,h.cap,h.rm.below hb⟩
theorem SAns.mono {B E B' E':Nat} {w:World} {x:Sls} {s:St} {hs:List AV} (h:SAns B E w x s hs) (h1:B'≤B) (h2:E≤E'):SAns B' E' w x s hs:=
 ⟨h.row,h.q.mono h1 h2,h.a.mono h1 h2,h.m.mono h1 h2,h.c.mono h1 h2,h.av,h.heads,fun v hv=>(h.asks v hv).mono h1 h2,h.apart,h.cap,h.rm.mono h1 h2⟩
theorem SAns.mks {B E:Nat} {S:Nat→Prop} {w w':World} {x:Sls} {s:St} {hs:List AV} (h:SAns B E w x s hs) (hm:Mks S w w') (hS:∀k,S k→k<B∨E≤k):SAns B E w' x s hs:=by
 have key:∀{t:TypeId} {sz n:Nat} {ao:Option Addr},Own1 B E w t sz ao n→∀k,inR ao n k→¬S k:=fun ho k hk hs=>by
  obtain ⟨h1,h2,_⟩:=ho.lies k hk
  have:=hS k hs
  omega
 have hrow:Heads w' hs s.apps:=⟨h.heads.1,fun i h1 h2=>by
  obtain ⟨a,b,c,d⟩:=h.heads.2 i h1 h2
  exact ⟨a,b,c.mks hm (key (h.asks _ (yM h1))),d⟩⟩
 have hav:=h.av.mks hm (key h.a)
 refine ⟨⟨h.row.1.mks hm (key h.q),?_,h.row.2.2.1.mks hm (key h.m),h.row.2.2.2.mks hm (key h.c)⟩,h.q.mks hm,h.a.mks hm,h.m.mks hm,h.c.mks hm,hav,hrow,fun v hv=>(h.asks v hv).mks hm,h.apart,h.cap,h.rm.mks hm⟩
 refine ⟨h.row.2.1.1,?_⟩
 rcases hav.2 with e | ⟨b,off,e,hh⟩
 ·exact .inl e
 ·refine .inr ⟨b,off,e,fun i hi=>?_⟩
  have hi':i<hs.length:=by rw [h.heads.1];exact hi
  obtain ⟨a1,a2,a3,a4⟩:=hrow.2 i hi' hi
  obtain ⟨c1,c2,c3⟩:=hh i hi'
  rw [a1] at c1
  rw [a2] at c2
  exact ⟨hs[i].ao,hs[i].len,hs[i].cap,c1,c2,c3,a3,a4⟩
theorem ans_len {w:World} {hs:List AV} {l:List Appl} (h:Heads w hs l) (hf:FitAppl l):∀v ∈ hs,v.len≤1048576:=by
 intro v hv
 obtain ⟨i,hi,rfl⟩:=List.getElem_of_mem hv
 have hi':i<l.length:=by rw [←h.1];exact hi
 have h1:=(h.2 i hi hi').2.2.1.1
 have h2:=(hf.2 l[i] (yM hi')).2.1
 omega
structure SMk (w:World) (x:Sls) (hs:List AV):Prop where
 q:QRow w x.qa x.ql (marksQ x.ql)
 a:AVRow w x.aa x.al (hsM (1+4*x.ql) hs)
 k:AsksM w (1+4*x.ql) hs
 m:MacRow w x.ma x.ml (marksM (endM (1+4*x.ql) hs) x.ml)
 c:ConRow w x.ca x.cl (marksC (endM (1+4*x.ql) hs+4*x.ml) x.cl)
 z:x.ql=0∨∃g,x.qa=some ⟨g,0,none⟩
theorem SMk.below {w w':World} {x:Sls} {hs:List AV} (h:SMk w x hs) (hb:Below w.heap.size w w'):SMk w' x hs:=⟨h.q.below hb,h.a.below hb,AsksM.below hb _ _ h.k,h.m.below hb,h.c.below hb,h.z⟩
def endS (x:Sls) (hs:List AV):Nat:=endM (1+4*x.ql) hs+4*x.ml+5*x.cl
def inS (x:Sls) (hs:List AV) (k:Nat):Prop:=inR x.qa x.ql k∨(inR x.aa x.al k∨∃v ∈ hs,inR v.ao v.len k)∨inR x.ma x.ml k∨inR x.ca x.cl k
theorem SAns.ins {B E:Nat} {w:World} {x:Sls} {s:St} {hs:List AV} (h:SAns B E w x s hs):∀k,inS x hs k→B≤k∧k<E:=by
 rintro k (hk | (hk | ⟨v,hv,hk⟩) | hk | hk)
 ·exact ⟨(h.q.lies k hk).1,(h.q.lies k hk).2.1⟩
 ·exact ⟨(h.a.lies k hk).1,(h.a.lies k hk).2.1⟩
 ·exact ⟨((h.asks v hv).lies k hk).1,((h.asks v hv).lies k hk).2.1⟩
 ·exact ⟨(h.m.lies k hk).1,(h.m.lies k hk).2.1⟩
 ·exact ⟨(h.c.lies k hk).1,(h.c.lies k hk).2.1⟩
structure SLim (x:Sls) (hs:List AV):Prop where
 q:x.ql≤1048576
 a:x.al≤1048576
 m:x.ml≤1048576
 c:x.cl≤1048576
 k:∀v ∈ hs,v.len≤1048576
 n:hs.length=x.al
theorem SAns.lim {B E:Nat} {w:World} {x:Sls} {s:St} {hs:List AV} (h:SAns B E w x s hs) (hf:FitSt s):SLim x hs:=
 ⟨by have:=h.row.1.1;have:=hf.1.1;omega,by have:=h.row.2.1.1;have:=hf.2.1.1;omega,by have:=h.row.2.2.1.1;have:=hf.2.2.1.1;omega,by have:=h.row.2.2.2.1;have:=hf.2.2.2.1;omega,ans_len h.heads hf.2.1,h.av.1.symm⟩
theorem SLim.e {x:Sls} {hs:List AV} (h:SLim x hs):1+4*x.ql≤endM (1+4*x.ql) hs∧endM (1+4*x.ql) hs≤10000000000000:=by
 have h1:=endM_ge hs (1+4*x.ql)
 have h2:=endM_le hs (1+4*x.ql) 1048576 h.k
 have h3:=h.q
 have h4:hs.length*(2+5*1048576)≤1048576*(2+5*1048576):=Nat.mul_le_mul_right _ (by have:=h.n;have:=h.a;omega)
 omega
theorem markState_ans {B E:Nat} {x:Sls} {s:St} {hs:List AV} {w:World} (h:SAns B E w x s hs) (hE:E≤w.heap.size) (hl:SLim x hs) :
  Calls Tryz.prog 23 #[sv x s,.int .i64 1] w fun e w'=>e=.returned (.int .i64 (endS x hs:Int))∧SMk w' x hs∧Mks (inS x hs) w w':=by
 have hb0:=yA (yH _ w) (.cells (svc x s) 37)
 have P0:=hide (yD w (svc x s) 37)
 have HA:=hide (h.below hb0)
 have HG0:=hide (show Mks (inS x hs) w _ from .of_below hb0)
 have hlim:=hl.e
 have hsq:=hl.q
 have hsa:=hl.a
 have hsm:=hl.m
 have hsc:=hl.c
 have HK:=hide hl.k
 have hIN:=hide h.ins
 have HZ:=hide (show x.ql=0∨∃g,x.qa=some ⟨g,0,none⟩ by rcases h.q with e | ⟨g,M,e,_⟩;exact .inl e;exact .inr ⟨g,e⟩)
 have hES:endS x hs=endM (1+4*x.ql) hs+4*x.ml+5*x.cl:=rfl
 obtain ⟨e1,he1⟩:∃e,endM (1+4*x.ql) hs=e:=⟨_,rfl⟩
 have HE1:=hide he1
 rw [he1] at hlim hES
 rw [hES]
 clear h hb0 hl he1 hES
 obtain ⟨qs,clock,epoch,next,serial,apps,ms,cs⟩:=s
 obtain ⟨qa,ql,qc,aa,al,ac,ma,ml,mc,ca,cl,cc⟩:=x
 simp only at *
 have CQ:=hide (markQueueS_own (c:=qc) (uH HA).q hsq)
 go_enter Tryz.func23,Tryz.ntmps23
 go_wp2_with fail
 refine (uH CQ).mono ?_
 rintro e w1 ⟨rfl,hrow,hm1⟩
 have hin:∀k,inR qa ql k→k<w.heap.size:=fun k hk=>by have:=uH hIN k (.inl hk);omega
 have P1:=hide (hm1.blk (uH P0) (fun hk=>by have:=hin _ hk;omega))
 have R1:=hide hrow
 have OQ:=hide ((uH HA).q.mks hm1)
 have OA:=hide ((uH HA).a.mks hm1)
 have OM:=hide ((uH HA).m.mks hm1)
 have OC:=hide ((uH HA).c.mks hm1)
 have AVR:=hide ((uH HA).av.mks hm1 ((uH HA).a.apart (uH HA).q (by decide)))
 have OK:=hide (fun v hv=>((uH HA).asks v hv).mks hm1)
 have AP:=hide (uH HA).apart
 have HG1:=hide ((uH HG0).trans (hm1.mono (fun k hk=>.inl hk)))
 have p5:=(uH P1).at 5
 simp at p5
 have CA:=hide (by have:=markAppS_own (c:=ac) (1+4*ql) hs (uH OA) (uH AVR) (fun v hv=>⟨uH OK v hv,uH HK v hv⟩) (uH AP) hsa (by omega) (by have:=uH HE1;omega);rw [uH HE1,show ((1+4*ql:Nat):Int)=1+4*(ql:Int) by omega] at this;exact this)
 clear hrow hm1 P0 CQ HG0 HA hin
 go_wp2_with fail
 refine (uH CA).mono ?_
 rintro e w2 ⟨rfl,hrow,hask,hm2⟩
 have hin:∀k,(inR aa al k∨∃v ∈ hs,inR v.ao v.len k)→k<w.heap.size:=fun k hk=>by have:=uH hIN k (.inr (.inl hk));omega
 have P2:=hide (hm2.blk (uH P1) (fun hk=>by have:=hin _ hk;omega))
 have R2:=hide ((uH R1).mks hm2 (fun k hk hk'=>by
  rcases hk' with h | ⟨v,hv,h⟩
  ·exact (uH OQ).apart (uH OA) (by decide) k hk h
  ·exact (uH OQ).apart (uH OK v hv) (by decide) k hk h))
 have A2:=hide hrow
 have K2:=hide hask
 have OQ2:=hide ((uH OQ).mks hm2)
 have OA2:=hide ((uH OA).mks hm2)
 have OM2:=hide ((uH OM).mks hm2)
 have OC2:=hide ((uH OC).mks hm2)
 have OK2:=hide (fun v hv=>(uH OK v hv).mks hm2)
 have HG2:=hide ((uH HG1).trans (hm2.mono (fun k hk=>.inr (.inl hk))))
 have p6:=(uH P2).at 6
 simp at p6
 have CM:=hide (markMachineS_own (c:=mc) e1 (uH OM2) hsm (by omega) (by omega))
 clear hrow hask hm2 P1 CA HG1 p5 R1 OQ OA OM OC OK AVR hin
 go_wp2_with fail
 refine (uH CM).mono ?_
 rintro e w3 ⟨rfl,hrow,hm3⟩
 have hin:∀k,inR ma ml k→k<w.heap.size:=fun k hk=>by have:=uH hIN k (.inr (.inr (.inl hk)));omega
 have P3:=hide (hm3.blk (uH P2) (fun hk=>by have:=hin _ hk;omega))
 have R3:=hide ((uH R2).mks hm3 ((uH OQ2).apart (uH OM2) (by decide)))
 have A3:=hide ((uH A2).mks hm3 ((uH OA2).apart (uH OM2) (by decide)))
 have K3:=hide ((uH K2).mks hm3 _ _ (fun v hv=>(uH OK2 v hv).apart (uH OM2) (by decide)))
 have M3:=hide hrow
 have OQ3:=hide ((uH OQ2).mks hm3)
 have OA3:=hide ((uH OA2).mks hm3)
 have OM3:=hide ((uH OM2).mks hm3)
 have OC3:=hide ((uH OC2).mks hm3)
 have OK3:=hide (fun v hv=>(uH OK2 v hv).mks hm3)
 have HG3:=hide ((uH HG2).trans (hm3.mono (fun k hk=>.inr (.inr (.inl hk)))))
 have p7:=(uH P3).at 7
 simp at p7
 have CC:=hide (by have:=markContS_own (c:=cc) (e1+4*ml) (uH OC3) hsc (by omega) (by omega);rw [show ((e1+4*ml:Nat):Int)=(e1:Int)+4*(ml:Int) by omega] at this;exact this)
 clear hrow hm3 P2 CM HG2 p6 R2 A2 K2 OQ2 OA2 OM2 OC2 OK2 hin
 go_wp2_with fail
 refine (uH CC).mono ?_
 rintro e w4 ⟨rfl,hrow,hm4⟩
 have R4:=hide ((uH R3).mks hm4 ((uH OQ3).apart (uH OC3) (by decide)))
 have A4:=hide ((uH A3).mks hm4 ((uH OA3).apart (uH OC3) (by decide)))
 have K4:=hide ((uH K3).mks hm4 _ _ (fun v hv=>(uH OK3 v hv).apart (uH OC3) (by decide)))
 have M4:=hide ((uH M3).mks hm4 ((uH OM3).apart (uH OC3) (by decide)))
 have C4:=hide hrow
 have HG4:=hide ((uH HG3).trans (hm4.mono (fun k hk=>.inr (.inr (.inr hk)))))
 clear hrow hm4 P3 CC HG3 p7 R3 A3 K3 M3 OQ3 OA3 OM3 OC3 OK3
 go_wp2
 go_ret
 refine ⟨?_,⟨uH R4,uH A4,uH K4,?_,?_,uH HZ⟩,uH HG4⟩
 ·refine ret_int ?_
  omega
 ·show MacRow _ _ _ (marksM (endM (1+4*ql) hs) ml)
  rw [uH HE1]
  exact uH M4
 ·show ConRow _ _ _ (marksC (endM (1+4*ql) hs+4*ml) cl)
  rw [uH HE1]
  exact uH C4
theorem heldState_ans {x:Sls} {hs:List AV} {w:World} (s:St) (h:SMk w x hs) (hl:SLim x hs) :
  Calls Tryz.prog 25 #[sv x s,.int .i64 1] w fun e w'=>e=.returned (.int .i64 (endS x hs:Int))∧Below w.heap.size w w':=by
 have hb0:=yA (yH _ w) (.cells (svc x s) 37)
 have P0:=hide (yD w (svc x s) 37)
 have HA:=hide (h.below hb0)
 have HB0:=hide hb0
 have hlim:=hl.e
 have hsq:=hl.q
 have hsa:=hl.a
 have hsm:=hl.m
 have hsc:=hl.c
 have HK:=hide hl.k
 have hES:endS x hs=endM (1+4*x.ql) hs+4*x.ml+5*x.cl:=rfl
 obtain ⟨e1,he1⟩:∃e,endM (1+4*x.ql) hs=e:=⟨_,rfl⟩
 have HE1:=hide he1
 rw [he1] at hlim hES
 rw [hES]
 clear h hb0 hl he1 hES
 obtain ⟨qs,clock,epoch,next,serial,apps,ms,cs⟩:=s
 obtain ⟨qa,ql,qc,aa,al,ac,ma,ml,mc,ca,cl,cc⟩:=x
 simp only at *
 have HN0:¬(1+4*(ql:Int))<0:=by omega
 have HN1:¬(e1:Int)<0:=by omega
 have HN2:¬((e1:Int)+4*(ml:Int))<0:=by omega
 have HN3:¬((e1:Int)+4*(ml:Int)+5*(cl:Int))<0:=by omega
 have CQ:∀wx,Below w.heap.size w wx→SMk wx ⟨qa,ql,qc,aa,al,ac,ma,ml,mc,ca,cl,cc⟩ hs→Calls Tryz.prog 64 #[.slice qa ql qc,.int .i64 1] wx fun e w'=>e=.returned (.int .i64 (1+4*(ql:Int)))∧Below wx.heap.size wx w':=fun wx _ hx=>by
  have hq:=hx.q
  have hz:=hx.z
  simp only at hq hz
  rcases hz with hz | ⟨g,rfl⟩
  ·subst hz
   refine (heldQueueS_zero qa qc wx).mono ?_
   rintro e w' ⟨rfl,rfl⟩
   exact ⟨rfl,yH _ _⟩
  ·exact heldQueueS_any g ql qc wx hq hsq
 have CQ':=hide CQ
 clear CQ
 go_enter Tryz.func25,Tryz.ntmps25
 go_wp2_with fail
 refine (uH CQ' _ (uH HB0) (uH HA)).mono ?_
 rintro e w1 ⟨rfl,hb⟩
 have P1:=hide ((uH P0).below hb)
 have HA1:=hide ((uH HA).below hb)
 have HB1:=hide (yB (uH HB0) hb)
 have p5:=(uH P1).at 5
 simp at p5
 have CA:=hide (by have:=heldAppS_any aa al ac (1+4*ql) hs w1 (uH HA1).a (uH HA1).k hsa (uH HK) (by omega) (by have:=uH HE1;omega);rw [uH HE1,show ((1+4*ql:Nat):Int)=1+4*(ql:Int) by omega] at this;exact this)
 clear hb P0 HA HB0 CQ'
 go_wp2_with fail
 refine (uH CA).mono ?_
 rintro e w2 ⟨rfl,hb⟩
 have P2:=hide ((uH P1).below hb)
 have HA2:=hide ((uH HA1).below hb)
 have HB2:=hide (yB (uH HB1) hb)
 have p6:=(uH P2).at 6
 simp at p6
 have CM:=hide (by have hmm:=(uH HA2).m;simp only [uH HE1] at hmm;exact heldMachineS_any ma ml mc e1 w2 hmm hsm (by omega) (by omega))
 clear hb P1 HA1 HB1 CA p5
 go_wp2_with fail
 refine (uH CM).mono ?_
 rintro e w3 ⟨rfl,hb⟩
 have P3:=hide ((uH P2).below hb)
 have HA3:=hide ((uH HA2).below hb)
 have HB3:=hide (yB (uH HB2) hb)
 have p7:=(uH P3).at 7
 simp at p7
 have CC:=hide (by have hmm:=(uH HA3).c;simp only [uH HE1] at hmm;have:=heldContS_any ca cl cc (e1+4*ml) w3 hmm hsc (by omega) (by omega);rw [show ((e1+4*ml:Nat):Int)=(e1:Int)+4*(ml:Int) by omega] at this;exact this)
 clear hb P2 HA2 HB2 CM p6
 go_wp2_with fail
 refine (uH CC).mono ?_
 rintro e w4 ⟨rfl,hb⟩
 have HB4:=hide (yB (uH HB3) hb)
 clear hb P3 HA3 HB3 CC p7
 go_wp2
 go_ret
 refine ⟨ret_int ?_,uH HB4⟩
 omega
theorem Own1.grow {B E:Nat} {w w':World} {t:TypeId} {sz n:Nat} {ao:Option Addr} (h:Own1 B E w t sz ao n) (hb:Below w.heap.size w w') (hE:E≤w.heap.size):Own1 B w'.heap.size w' t sz ao n:=(h.below hb).mono (yJ _) (Nat.le_trans hE hb.size)
theorem not_in {B E k:Nat} {w:World} {t:TypeId} {sz n:Nat} {ao:Option Addr} (h:Own1 B E w t sz ao n) (hk:k<B∨E≤k):∀i,inR ao n i→¬(i=k):=fun i hi e=>by
 obtain ⟨h1,h2,_⟩:=h.lies i hi
 omega
def QHas (B:Nat) (w:World) (ao:Option Addr) (n:Nat) (l:List Q):Prop:=QRow w ao n l∧Own1 B w.heap.size w 142 4 ao n
theorem QHas.below {B n:Nat} {w w':World} {ao:Option Addr} {l:List Q} (h:QHas B w ao n l) (hb:Below w.heap.size w w'):QHas B w' ao n l:=⟨h.1.below hb,h.2.grow hb (yJ _)⟩
theorem QHas.sc {B n k j:Nat} {v:Value} {w:World} {ao:Option Addr} {l:List Q} (h:QHas B w ao n l) (hk:k<B):QHas B (w.setCell ⟨k,j,none⟩ v) ao n l:=
 ⟨h.1.mks (Mks.one (fun x=>x=k) w k j v rfl) (not_in h.2 (.inl hk)),by rw [set_size];exact h.2.mks (Mks.one (fun x=>x=k) w k j v rfl)⟩
theorem QOwn.has {B:Nat} {w:World} {v:Value} {l:List Q} (h:QOwn B w v l):∃ao cap,v=.slice ao l.length cap∧l.length≤cap∧QHas B w ao l.length l:=by
 obtain ⟨ao,cap,e,hr,hc,hg⟩:=qown_rowx h
 refine ⟨ao,cap,e,hc,hr,?_⟩
 by_cases hz:l=[]
 ·exact .inl (by rw [hz];rfl)
 ·obtain ⟨g,cur,e,h1,h2,h3⟩:=hg hz
  exact .inr ⟨g,cap,e,h1,lt_of_block h2,⟨cur,h2,h3⟩,hc⟩
def MHas (B:Nat) (w:World) (ao:Option Addr) (n:Nat) (l:List Mac):Prop:=MacRow w ao n l∧Own1 B w.heap.size w 147 4 ao n
theorem MHas.below {B n:Nat} {w w':World} {ao:Option Addr} {l:List Mac} (h:MHas B w ao n l) (hb:Below w.heap.size w w'):MHas B w' ao n l:=⟨h.1.below hb,h.2.grow hb (yJ _)⟩
theorem MHas.sc {B n k j:Nat} {v:Value} {w:World} {ao:Option Addr} {l:List Mac} (h:MHas B w ao n l) (hk:k<B):MHas B (w.setCell ⟨k,j,none⟩ v) ao n l:=
 ⟨h.1.mks (Mks.one (fun x=>x=k) w k j v rfl) (not_in h.2 (.inl hk)),by rw [set_size];exact h.2.mks (Mks.one (fun x=>x=k) w k j v rfl)⟩
theorem mown_has {B:Nat} {w:World} {v:Value} {l:List Mac} (h:MOwn B w v l):∃ao cap,v=.slice ao l.length cap∧l.length≤cap∧MHas B w ao l.length l:=by
 obtain ⟨ao,cap,e,hr,hc,hg⟩:=mown_row h
 refine ⟨ao,cap,e,hc,hr,?_⟩
 by_cases hz:l=[]
 ·exact .inl (by rw [hz];rfl)
 ·obtain ⟨g,cur,e,h1,h2,h3⟩:=hg hz
  exact .inr ⟨g,cap,e,h1,lt_of_block h2,⟨cur,h2,h3⟩,hc⟩
def CHas (B:Nat) (w:World) (ao:Option Addr) (n:Nat) (l:List Con):Prop:=ConRow w ao n l∧Own1 B w.heap.size w 150 5 ao n
theorem CHas.below {B n:Nat} {w w':World} {ao:Option Addr} {l:List Con} (h:CHas B w ao n l) (hb:Below w.heap.size w w'):CHas B w' ao n l:=⟨h.1.below hb,h.2.grow hb (yJ _)⟩
theorem CHas.sc {B n k j:Nat} {v:Value} {w:World} {ao:Option Addr} {l:List Con} (h:CHas B w ao n l) (hk:k<B):CHas B (w.setCell ⟨k,j,none⟩ v) ao n l:=
 ⟨h.1.mks (Mks.one (fun x=>x=k) w k j v rfl) (not_in h.2 (.inl hk)),by rw [set_size];exact h.2.mks (Mks.one (fun x=>x=k) w k j v rfl)⟩
theorem CHas.base {B B' n:Nat} {w:World} {ao:Option Addr} {l:List Con} (h:CHas B w ao n l) (hb:B'≤B):CHas B' w ao n l:=⟨h.1,h.2.mono hb (yJ _)⟩
theorem cown_has {B:Nat} {w:World} {v:Value} {l:List Con} (h:COwn B w v l):∃ao cap,v=.slice ao l.length cap∧l.length≤cap∧CHas B w ao l.length l:=by
 obtain ⟨ao,cap,e,hr,hc,hg⟩:=cown_row h
 refine ⟨ao,cap,e,hc,hr,?_⟩
 by_cases hz:l=[]
 ·exact .inl (by rw [hz];rfl)
 ·obtain ⟨g,cur,e,h1,h2,h3⟩:=hg hz
  exact .inr ⟨g,cap,e,h1,lt_of_block h2,⟨cur,h2,h3⟩,hc⟩
def PHas (B:Nat) (w:World) (ao:Option Addr) (n:Nat) (hs:List AV):Prop:=AVRow w ao n hs∧Own1 B w.heap.size w 139 3 ao n
theorem PHas.below {B n:Nat} {w w':World} {ao:Option Addr} {l:List AV} (h:PHas B w ao n l) (hb:Below w.heap.size w w'):PHas B w' ao n l:=⟨h.1.below hb,h.2.grow hb (yJ _)⟩
theorem PHas.sc {B n k j:Nat} {v:Value} {w:World} {ao:Option Addr} {l:List AV} (h:PHas B w ao n l) (hk:k<B):PHas B (w.setCell ⟨k,j,none⟩ v) ao n l:=
 ⟨h.1.mks (Mks.one (fun x=>x=k) w k j v rfl) (not_in h.2 (.inl hk)),by rw [set_size];exact h.2.mks (Mks.one (fun x=>x=k) w k j v rfl)⟩
theorem pown_has {B:Nat} {w:World} {v:Value} {l:List AV} (h:POwn B w v l):∃ao cap,v=.slice ao l.length cap∧l.length≤cap∧PHas B w ao l.length l:=by
 obtain ⟨ao,cap,e,hr,hc,hg⟩:=pown_row h
 refine ⟨ao,cap,e,hc,hr,?_⟩
 by_cases hz:l=[]
 ·exact .inl (by rw [hz];rfl)
 ·obtain ⟨g,cur,e,h1,h2,h3⟩:=hg hz
  exact .inr ⟨g,cap,e,h1,lt_of_block h2,⟨cur,h2,h3⟩,hc⟩
structure KHas (B:Nat) (w:World) (ns:List AV) (l:List Appl):Prop where
 heads:Heads w ns l
 own:∀v ∈ ns,Own1 B w.heap.size w 193 5 v.ao v.len
 apart:ns.Pairwise Apart
theorem KHas.below {B:Nat} {w w':World} {ns:List AV} {l:List Appl} (h:KHas B w ns l) (hb:Below w.heap.size w w'):KHas B w' ns l:=⟨h.heads.below hb,fun v hv=>(h.own v hv).grow hb (yJ _),h.apart⟩
theorem KHas.sc {B k j:Nat} {v:Value} {w:World} {ns:List AV} {l:List Appl} (h:KHas B w ns l) (hk:k<B∨∃t N,Cel w t k N∧t≠193):KHas B (w.setCell ⟨k,j,none⟩ v) ns l:=by
 have key:∀u ∈ ns,∀i,inR u.ao u.len i→¬(i=k):=fun u hu i hi e=>by
  obtain ⟨h1,h2,N,hc⟩:=(h.own u hu).lies i hi
  subst e
  rcases hk with hk | ⟨t,N',hc',ht⟩
  ·omega
  ·exact ht (hc'.type hc)
 refine ⟨⟨h.heads.1,fun i h1 h2=>?_⟩,fun u hu=>?_,h.apart⟩
 ·obtain ⟨a,b,c,d⟩:=h.heads.2 i h1 h2
  exact ⟨a,b,c.mks (Mks.one (fun x=>x=k) w k j v rfl) (key _ (yM h1)),d⟩
 ·rw [set_size]
  exact (h.own u hu).mks (Mks.one (fun x=>x=k) w k j v rfl)
theorem KHas.nil (B:Nat) (w:World):KHas B w [] []:=⟨⟨rfl,fun i h=>absurd h (by simp)⟩,fun v hv=>absurd hv (by simp),.nil⟩
theorem aown_has {B:Nat} {w:World} {v:Value} {l:List Ask} (h:AOwn B w v l):∃ao cap,v=.slice ao l.length cap∧l.length≤cap∧AskRow w ao l.length l∧Own1 B w.heap.size w 193 5 ao l.length:=by
 obtain ⟨ao,cap,e,hr,hc,hg⟩:=h.row
 refine ⟨ao,cap,e,hc,hr,?_⟩
 by_cases hz:l=[]
 ·exact .inl (by rw [hz];rfl)
 ·obtain ⟨g,cur,e,h1,h2,h3⟩:=hg hz
  exact .inr ⟨g,cap,e,h1,lt_of_block h2,⟨cur,h2,h3⟩,hc⟩
theorem KHas.snoc {B:Nat} {w w':World} {ns:List AV} {l:List Appl} (h:KHas B w ns l) (hb:Below w.heap.size w w') (hB:B≤w.heap.size) (id:Int) (qu:List UInt8) (ao:Option Addr) (cap:Nat) (k:List Ask) (hc:k.length≤cap)
  (hr:AskRow w' ao k.length k) (ho:Own1 w.heap.size w'.heap.size w' 193 5 ao k.length):KHas B w' (ns++[⟨id,qu,ao,k.length,cap⟩]) (l++[⟨id,qu,k⟩]):=by
 have h':=h.below hb
 refine ⟨⟨by simp [h.heads.1],fun i h1 h2=>?_⟩,fun v hv=>?_,?_⟩
 ·by_cases hi:i<ns.length
  ·have hi':i<l.length:=by rw [←h.heads.1];exact hi
   rw [List.getElem_append_left hi,List.getElem_append_left hi']
   exact h'.heads.2 i hi hi'
  ·have hi1:i=ns.length:=by simp at h1;omega
   subst hi1
   have hl:ns.length=l.length:=h.heads.1
   simp only [List.getElem_append_right (yJ _),Nat.sub_self,List.getElem_cons_zero]
   rw [List.getElem_append_right (by omega)]
   simp only [hl,Nat.sub_self,List.getElem_cons_zero]
   exact ⟨trivial,trivial,hr,hc⟩
 ·rcases List.mem_append.1 hv with hv | hv
  ·exact h'.own v hv
  ·simp at hv
   subst hv
   exact ho.mono hB (yJ _)
 ·refine List.pairwise_append.2 ⟨h.apart,by simp,fun u hu v hv=>?_⟩
  simp at hv
  subst hv
  rcases h.own u hu with e | ⟨g1,M1,e1,_,h3,_⟩
  ·exact .inl e
  ·rcases ho with e | ⟨g2,M2,e2,h4,_⟩
   ·exact .inr (.inl e)
   ·refine .inr (.inr (fun e=>?_))
    simp only at e
    rw [e1,e2] at e
    cases e
    omega
theorem appl_of {w:World} {ao:Option Addr} {n:Nat} {hs:List AV} {l:List Appl} (h:AVRow w ao n hs) (hh:Heads w hs l):ApplRow w ao n l:=by
 refine ⟨h.1.trans hh.1,?_⟩
 rcases h.2 with e | ⟨b,off,e,hc⟩
 ·exact .inl e
 ·refine .inr ⟨b,off,e,fun i hi=>?_⟩
  have hi':i<hs.length:=by rw [hh.1];exact hi
  obtain ⟨a1,a2,a3,a4⟩:=hh.2 i hi' hi
  obtain ⟨c1,c2,c3⟩:=hc i hi'
  rw [a1] at c1
  rw [a2] at c2
  exact ⟨hs[i].ao,hs[i].len,hs[i].cap,c1,c2,c3,a3,a4⟩
theorem sans_of {B:Nat} {w:World} {x:Sls} {s:St} {hs:List AV} (q:QHas B w x.qa x.ql s.qs) (a:PHas B w x.aa x.al hs) (k:KHas B w hs s.apps) (m:MHas B w x.ma x.ml s.ms) (c:CHas B w x.ca x.cl s.cs) (cap:SCap x) (rm:RmS B w.heap.size w x hs):SAns B w.heap.size w x s hs:=
 ⟨⟨q.1,appl_of a.1 k.heads,m.1,c.1⟩,q.2,a.2,m.2,c.2,a.1,k.heads,k.own,k.apart,cap,rm⟩
theorem CHas.blk {B n k:Nat} {w:World} {ao:Option Addr} {l:List Con} (h:CHas B w ao n l) (hk:k<n):∃g,ao=some ⟨g,0,none⟩∧B≤g∧g<w.heap.size∧(∀j,w.frozen? ⟨g,j,none⟩=false)∧∀i (hi:i<l.length),ConAt w g (i*5) l[i]:=by
 obtain ⟨⟨h1,h2⟩,h3⟩:=h
 rcases h3 with e | ⟨g,M,rfl,hB,hE,hc,hn⟩
 ·omega
 ·rcases h2 with e | ⟨b,off,e,hh⟩
  ·omega
  ·cases e
   exact ⟨g,rfl,hB,hE,fun j=>hc.frozen j,fun i hi=>by have:=hh i hi;rwa [Nat.zero_add] at this⟩
theorem copyOfConts_any (ao:Option Addr) (len cap:Nat) (cs:List Con) (w:World) (h:ConRow w ao len cs) (hl:len≤1048576) (hn:∀c ∈ cs,c.node.length≤1048576) :
  Calls Tryz.prog 90 #[.slice ao len cap] w fun e w'=>∃co cd,e=.returned (.slice co cs.length cd)∧cs.length≤cd∧CHas w.heap.size w' co cs.length cs∧Own1 w.heap.size w'.heap.size w' 150 5 co cd∧Below w.heap.size w w':=by
 have HF:=hide hn
 have CC:=hide (cloneCont_any ao len cap cs w h hl)
 have hll:=hide h.1
 clear h hn
 go_enter Tryz.func90,Tryz.ntmps90
 go_wp2_with fail
 refine (uH CC).mono ?_
 rintro e w9 ⟨v,rfl,ho,hb⟩
 obtain ⟨co,cd,rfl,hcd,hch⟩:=cown_has ho
 obtain ⟨n4,hn4⟩:∃n,cs.length=n:=⟨_,rfl⟩
 rw [hn4] at hch hcd ⊢
 have OC:=hide hch
 have HO9:=hide (own1_of ho)
 have HB9:=hide hb
 have HN4:=hide hn4
 have hl4:n4≤1048576:=by have:=uH hll;omega
 clear ho hb hch CC hn4
 go_wp2
 go_loopw [4,5,10] (fun _ _ i wr=>∃(q:Nat),q≤n4∧i=.int .i64 q∧Hid (CHas w.heap.size wr co n4 cs)∧Hid (Own1 w.heap.size wr.heap.size wr 150 5 co cd)∧Hid (Below w.heap.size w wr)) (fun _ _ i _=>n4 - (intOf i).toNat)
 case atStart=>exact ⟨0,Nat.zero_le _,rfl,OC,HO9,HB9⟩
 case round=>
  obtain ⟨q,hq,rfl,HC,HO,HB⟩:=hrel
  clear OC HO9 HB9
  by_cases hlt:q<n4
  ·obtain ⟨g,rfl,hgB,hgE,hfz,hat⟩:=(uH HC).blk hlt
   have hjl:q<cs.length:=by have:=uH HN4;omega
   obtain ⟨c0,c1,c2,c3,c4⟩:=hat q hjl
   have hnm:=uH HF cs[q] (yM hjl)
   obtain ⟨⟨ci,cap,cn,me,cp⟩,hm⟩:∃m,cs[q]=m:=⟨_,rfl⟩
   rw [hm] at c0 c1 c2 c3 c4 hnm
   simp only at c0 c1 c2 c3 c4 hnm
   have HW:=hide (yA (yH _ wr) (.cells #[.int .i64 ci,.int .i64 cap,.string (bs cn),.int .i64 me,.int .i64 cp] 150))
   have XC:=hide ((uH HC).below (uH HW))
   have XB:=hide (yB (uH HB) (uH HW))
   have XO:=hide ((uH HO).grow (uH HW) (yJ _))
   have XA:=hide (yD wr #[.int .i64 ci,.int .i64 cap,.string (bs cn),.int .i64 me,.int .i64 cp] 150)
   have D0:=hide (cellBel c0 (uH HW))
   have D1:=hide (cellBel c1 (uH HW))
   have D2:=hide (cellBel c2 (uH HW))
   have D3:=hide (cellBel c3 (uH HW))
   have D4:=hide (cellBel c4 (uH HW))
   have CL:=hide (fun wx=>copyOfCont_any ⟨ci,cap,cn,me,cp⟩ wx hnm)
   have j0:(0:Int)≤q:=by omega
   have j1:(q:Int)<n4:=by omega
   clear hat hm hjl hfz hnm
   obtain ⟨W,hW⟩:∃W,wr.alloc (.cells #[.int .i64 ci,.int .i64 cap,.string (bs cn),.int .i64 me,.int .i64 cp] 150)=W:=⟨_,rfl⟩
   have XA1:=uH XA
   rw [hW] at XC XB XO D0 D1 D2 D3 D4 XA1
   have xa0:=(uH XA).at 0
   have xa1:=(uH XA).at 1
   have xa2:=(uH XA).at 2
   have xa3:=(uH XA).at 3
   have xa4:=(uH XA).at 4
   simp at xa0 xa1 xa2 xa3 xa4
   have HWW:=hide hW
   clear hW HW HC HB HO XA XA1
   go_wp2_with fail
   refine (uH CL _).mono ?_
   rintro e w6 ⟨rfl,hb⟩
   rw [uH HWW] at hb
   have HB6:=hide (yB (yH _ W) hb)
   clear c0 c1 c2 c3 c4
   have c0:=cellBel (uH D0) (uH HB6);have c1:=cellBel (uH D1) (uH HB6);have c2:=cellBel (uH D2) (uH HB6);have c3:=cellBel (uH D3) (uH HB6);have c4:=cellBel (uH D4) (uH HB6)
   have s0:=sc_same c0;have s1:=sc_same c1;have s2:=sc_same c2;have s3:=sc_same c3;have s4:=sc_same c4
   obtain ⟨g',e',_,_,hfz,_⟩:=((uH XC).below (uH HB6)).blk hlt
   cases e'
   have z0:=hfz (q*5);have z1:=hfz (q*5+1);have z2:=hfz (q*5+2);have z3:=hfz (q*5+3);have z4:=hfz (q*5+4)
   clear hb hfz
   go_wp2
   go_roundw
   case rel=>exact ⟨q+1,by omega,by go_num,hide ((uH XC).below (uH HB6)),hide ((uH XO).grow (uH HB6) (yJ _)),hide (yB (uH XB) (uH HB6))⟩
   case measure=>simp [intOf];omega
  ·obtain rfl:q=n4:=by omega
   have j1:¬(q:Int)<q:=by omega
   clear hlt
   go_wp2
   go_ret
   rw [uH HN4]
   exact ⟨co,cd,rfl,hcd,uH HC,uH HO,uH HB⟩
def RmL (B:Nat) (w:World) (l:List (TypeId×Nat×Option Addr×Nat)):Prop:=∀p ∈ l,Own1 B w.heap.size w p.1 p.2.1 p.2.2.1 p.2.2.2
theorem RmL.nil (B:Nat) (w:World):RmL B w []:=fun p hp=>absurd hp (by simp)
theorem RmL.cons {B:Nat} {w:World} {l:List (TypeId×Nat×Option Addr×Nat)} {t:TypeId} {sz c:Nat} {ao:Option Addr} (h:Own1 B w.heap.size w t sz ao c) (hl:RmL B w l):RmL B w ((t,sz,ao,c)::l):=fun p hp=>by
 rcases List.mem_cons.1 hp with rfl | hp
 ·exact h
 ·exact hl p hp
theorem RmL.sub {B:Nat} {w:World} {l l':List (TypeId×Nat×Option Addr×Nat)} (h:RmL B w l) (hs:∀p ∈ l',p ∈ l):RmL B w l':=fun p hp=>h p (hs p hp)
theorem RmL.below {B:Nat} {w w':World} {l:List (TypeId×Nat×Option Addr×Nat)} (h:RmL B w l) (hb:Below w.heap.size w w'):RmL B w' l:=fun p hp=>((h p hp).below hb).mono (yJ _) hb.size
theorem own1_sc {B:Nat} {w:World} {t:TypeId} {sz n:Nat} {ao:Option Addr} (h:Own1 B w.heap.size w t sz ao n) (k j:Nat) (v:Value):Own1 B (w.setCell ⟨k,j,none⟩ v).heap.size (w.setCell ⟨k,j,none⟩ v) t sz ao n:=(h.sc k j v).mono (yJ _) (by rw [set_size];exact yJ _)
theorem RmL.sc {B:Nat} {w:World} {l:List (TypeId×Nat×Option Addr×Nat)} (h:RmL B w l) (k j:Nat) (v:Value):RmL B (w.setCell ⟨k,j,none⟩ v) l:=fun p hp=>own1_sc (h p hp) k j v
theorem RmL.grown {B:Nat} {w w':World} {l:List (TypeId×Nat×Option Addr×Nat)} {t':TypeId} {r:Option Nat} (h:RmL B w l) (hg:w.grownBy w' r) (hr:∀k,r=some k→∃N,Cel w t' k N) (ht:∀p ∈ l,t'≠p.1):RmL B w' l:=fun p hp=>by
 rcases h p hp with e | ⟨g,M,e,h1,h2,h3,h4⟩
 ·exact .inl e
 ·refine .inr ⟨g,M,e,h1,Nat.lt_of_lt_of_le h2 hg.size,h3.of_block (hg.block g h2 (fun e2=>?_)),h4⟩
  obtain ⟨N,hc⟩:=hr g e2.symm
  exact ht p hp (hc.type h3)
def RL4 (co:Option Addr) (cd:Nat) (mo:Option Addr) (md:Nat) (qo:Option Addr) (qd:Nat) (ns:List AV):List (TypeId×Nat×Option Addr×Nat):=(150,5,co,cd)::(147,4,mo,md)::(142,4,qo,qd)::ns.map (fun v=>(193,5,v.ao,v.cap))
theorem rl4_snoc (co:Option Addr) (cd:Nat) (mo:Option Addr) (md:Nat) (qo:Option Addr) (qd:Nat) (ns:List AV) (v:AV):∀p ∈ RL4 co cd mo md qo qd (ns++[v]),p ∈ (193,5,v.ao,v.cap)::RL4 co cd mo md qo qd ns:=fun p hp=>by
 simp only [RL4,List.map_append,List.map_cons,List.map_nil,List.mem_cons,List.mem_append,List.not_mem_nil,or_false] at hp ⊢
 rcases hp with h | h | h | h | h<;>simp [h]
theorem rl4_app (co:Option Addr) (cd:Nat) (mo:Option Addr) (md:Nat) (qo:Option Addr) (qd:Nat) (ns:List AV):∀p ∈ RL4 co cd mo md qo qd ns,139≠p.1:=fun p hp=>by
 simp only [RL4,List.mem_cons,List.mem_map] at hp
 rcases hp with rfl | rfl | rfl | ⟨v,_,rfl⟩<;>(simp only;decide)
theorem rms_of {B:Nat} {w:World} {x:Sls} {hs:List AV} (h:RmL B w (RL4 x.ca x.cc x.ma x.mc x.qa x.qc hs)) (ha:Own1 B w.heap.size w 139 3 x.aa x.ac):RmS B w.heap.size w x hs:=
 ⟨h (142,4,x.qa,x.qc) (by simp [RL4]),ha,h (147,4,x.ma,x.mc) (by simp [RL4]),h (150,5,x.ca,x.cc) (by simp [RL4]),fun v hv=>h (193,5,v.ao,v.cap) (by simp only [RL4,List.mem_cons,List.mem_map];exact .inr (.inr (.inr ⟨v,hv,rfl⟩)))⟩
def RplBig (q:Rpl):Prop:=(q.cs.length≤9223372036854775807∧∀a ∈ q.cs,a.node.length≤9223372036854775807)∧q.kill.length≤9223372036854775807
def FitRpl1 (q:Rpl):Prop:=FitCon q.cs∧q.kill.length≤1048576
def FitRpl (l:List Rpl):Prop:=l.length≤1048576∧∀q ∈ l,FitRpl1 q
theorem szIntS_any (ao:Option Addr) (len cap:Nat) (a:Int) (w:World) (hn:len≤9223372036854775807) (ha0:0≤a) (ha1:a≤1048576) :
  Calls Tryz.prog 73 #[.slice ao len cap,.int .i64 a] w fun e w'=>∃r:Int,e=.returned (.int .i64 r)∧(r = -1∨(0≤r∧r≤a∧len≤1048576))∧Below w.heap.size w w':=by
 by_cases h1:a - len<0
 ·go_enter Tryz.func73,Tryz.ntmps73
  go_wp2
  go_ret
  exact ⟨-1,rfl,.inl rfl,yH _ _⟩
 ·go_enter Tryz.func73,Tryz.ntmps73
  go_wp2
  go_ret
  exact ⟨a - len,rfl,.inr ⟨by omega,by omega,by omega⟩,yH _ _⟩
theorem szReply_any (code app:Int) (xo:Option Addr) (xl xc:Nat) (yo:Option Addr) (yl yc:Nat) (cs:List Con) (kill:List Int) (a:Int) (w:World) (h:ConRow w xo xl cs) (h':NRow w yo yl kill) (ha0:0≤a) (ha1:a≤1048576) (hn:RplBig ⟨code,app,cs,kill⟩) :
  Calls Tryz.prog 31 #[rplv code app xo xl xc yo yl yc,.int .i64 a] w fun e w'=>∃r:Int,e=.returned (.int .i64 r)∧(r = -1∨(0≤r∧r≤a∧FitRpl1 ⟨code,app,cs,kill⟩))∧Below w.heap.size w w':=by
 obtain ⟨⟨hn1,hn2⟩,hn3⟩:=hn
 simp only at hn1 hn2 hn3
 have hxl:xl≤9223372036854775807:=by have:=h.1;omega
 have hyl:yl≤9223372036854775807:=by have:=h'.1;omega
 have HYL:=hide h'.1
 have HB0:=hide (yA (yH _ w) (.cells #[.int .i64 code,.int .i64 app,.slice xo xl xc,.slice yo yl yc] 74))
 have P0:=hide (yD w #[.int .i64 code,.int .i64 app,.slice xo xl xc,.slice yo yl yc] 74)
 have C:=hide (szContS_any xo xl xc cs a _ (h.below (uH HB0)) hxl hn2 ha0 ha1)
 clear h h' hn1 hn2 hn3
 go_enter Tryz.func31,Tryz.ntmps31
 go_wp2_with fail
 refine (uH C).mono ?_
 rintro e w1 ⟨r,rfl,hr,hb⟩
 have HB1:=hide (yB (uH HB0) hb)
 have P1:=hide ((uH P0).below hb)
 clear hb C HB0 P0
 rcases hr with rfl | ⟨hr0,hr1,hf⟩
 ·go_wp2
  go_ret
  exact ⟨-1,rfl,.inl rfl,uH HB1⟩
 ·have HF:=hide hf
  have p3:=(uH P1).at 3
  simp at p3
  have hr2:¬r<0:=by omega
  clear hf P1
  go_wp2_with fail
  refine (szIntS_any yo yl yc r _ hyl hr0 (by omega)).mono ?_
  rintro e w2 ⟨r2,rfl,hr3,hb⟩
  have HB2:=hide (yB (uH HB1) hb)
  clear hb p3 HB1
  rcases hr3 with rfl | ⟨hr4,hr5,hk⟩
  ·go_wp2
   go_ret
   exact ⟨-1,rfl,.inl rfl,uH HB2⟩
  ·have hr6:¬r2<0:=by omega
   have HK:=hide hk
   clear hk
   go_wp2
   go_ret
   exact ⟨r2,rfl,.inr ⟨hr4,by omega,uH HF,by have h1:=uH HYL;have h2:=uH HK;show kill.length≤1048576;omega⟩,uH HB2⟩
theorem szReplyS_any (ao:Option Addr) (len cap:Nat) (l:List Rpl) (a0:Int) (w:World) (h:RplRow w ao len l) (hlen:len≤9223372036854775807) (hm:∀q ∈ l,RplBig q) (hA0:0≤a0) (hA1:a0≤1048576) :
  Calls Tryz.prog 12 #[.slice ao len cap,.int .i64 a0] w fun e w'=>∃r:Int,e=.returned (.int .i64 r)∧(r = -1∨(0≤r∧r≤a0∧FitRpl l))∧Below w.heap.size w w':=by
 have HR:=hide h
 have HL:=hide h.1
 have HM:=hide hm
 clear h hm
 by_cases hbig:(len:Int)≤a0
 ·have hb1:¬(a0:Int) - len<0:=by omega
  go_enter Tryz.func12,Tryz.ntmps12
  go_wp2
  go_loopw [1,5] (fun s i wr=>∃(k:Nat) (a:Int),k≤len∧i=.int .i64 k∧s=.int .i64 a∧0≤a∧a≤a0∧Hid (∀q ∈ l.take k,FitRpl1 q)∧Hid (Below w.heap.size w wr)) (fun _ i _=>len - (intOf i).toNat)
  case atStart=>exact ⟨0,a0 - len,Nat.zero_le _,rfl,rfl,by omega,by omega,hide (by simp),hide (yH _ _)⟩
  case round=>
   obtain ⟨k,a,hk,rfl,rfl,ha0,ha1,HP,HB⟩:=hrel
   by_cases hlt:k<len
   ·obtain ⟨b,off,rfl,hq⟩:=((uH HR).below (uH HB)).at hlt
    have hkl:k<l.length:=by have:=uH HL;omega
    obtain ⟨xo,xl,xc,yo,yl,yc,c0,c1,c2,c3,hrow,hrow2⟩:=hq hkl
    have n1:=uH HM l[k] (yM _)
    have htk:=List.take_succ_eq_append_getElem hkl
    obtain ⟨q,hs⟩:∃q,l[k]=q:=⟨_,rfl⟩
    rw [hs] at c0 c1 n1 htk hrow hrow2
    obtain ⟨code,app,cs,kill⟩:=q
    simp only at c0 c1 hrow hrow2
    have HTK:=hide htk
    have C:=hide (szReply_any code app xo xl xc yo yl yc cs kill a wr hrow hrow2 ha0 (by omega) n1)
    clear hq hs hkl htk n1 hrow hrow2
    go_wp2_with fail
    refine (uH C).mono ?_
    rintro e w1 ⟨r,rfl,hr,hb⟩
    have HB1:=hide (yB (uH HB) hb)
    clear hb C c0 c1 c2 c3
    rcases hr with rfl | ⟨r0,r1,r2⟩
    ·go_wp2
     go_ret
     exact ⟨-1,rfl,.inl rfl,uH HB1⟩
    ·have HN:=hide (show ∀q ∈ l.take (k+1),FitRpl1 q by
      rw [uH HTK]
      intro x hx
      rcases List.mem_append.1 hx with hx | hx
      ·exact uH HP x hx
      ·rw [List.mem_singleton.1 hx];exact r2)
     clear r2 HP HTK
     go_wp2
     go_roundw
     case rel=>exact ⟨k+1,r,by omega,by go_num,rfl,by omega,by omega,HN,HB1⟩
     case measure=>simp [intOf];omega
   ·have HF:=hide (show FitRpl l from ⟨by have:=uH HL;omega,fun q hq=>uH HP q (by rw [List.take_of_length_le (by have:=uH HL;omega)];exact hq)⟩)
    go_wp2
    go_ret
    exact ⟨a,rfl,.inr ⟨ha0,ha1,uH HF⟩,uH HB⟩
 ·have hb1:(a0:Int) - len<0:=by omega
  go_enter Tryz.func12,Tryz.ntmps12
  go_wp2
  go_ret
  exact ⟨-1,rfl,.inl rfl,yH _ _⟩
structure Agt where
 name:List UInt8
 mem:Int
 cpu:Int
 cs:List Con
def AgtAt (w:World) (b p:Nat) (q:Agt) (xo:Option Addr) (xl xc:Nat):Prop:=
 w.cell? ⟨b,p,none⟩=some (.string (bs q.name))∧w.cell? ⟨b,p+1,none⟩=some (.int .i64 q.mem)∧w.cell? ⟨b,p+2,none⟩=some (.int .i64 q.cpu)∧w.cell? ⟨b,p+3,none⟩=some (.slice xo xl xc)∧ConRow w xo xl q.cs
def AgtRow (w:World) (ao:Option Addr) (len:Nat) (l:List Agt):Prop:=
 len=l.length∧(len=0∨∃b off,ao=some ⟨b,off,none⟩∧∀i (h:i<l.length),∃(xo:Option Addr) (xl xc:Nat),AgtAt w b (off+i*4) l[i] xo xl xc)
theorem AgtAt.lt {w:World} {b p:Nat} {q:Agt} {xo:Option Addr} {xl xc:Nat} (h:AgtAt w b p q xo xl xc):b<w.heap.size:=yG h.1
theorem AgtAt.below {w w':World} {b p:Nat} {q:Agt} {xo:Option Addr} {xl xc:Nat} (h:AgtAt w b p q xo xl xc) (hb:Below w.heap.size w w'):AgtAt w' b p q xo xl xc:=
 ⟨(hb.cell h.lt).trans h.1,(hb.cell h.lt).trans h.2.1,(hb.cell h.lt).trans h.2.2.1,(hb.cell h.lt).trans h.2.2.2.1,h.2.2.2.2.below hb⟩
theorem AgtRow.below {w w':World} {ao:Option Addr} {len:Nat} {l:List Agt} (h:AgtRow w ao len l) (hb:Below w.heap.size w w'):AgtRow w' ao len l:=by
 obtain ⟨h1,h2⟩:=h
 refine ⟨h1,?_⟩
 rcases h2 with h2 | ⟨b,off,h3,h4⟩
 ·exact .inl h2
 ·exact .inr ⟨b,off,h3,fun i h=>let ⟨xo,xl,xc,hh⟩:=h4 i h;⟨xo,xl,xc,hh.below hb⟩⟩
theorem AgtRow.nil (w:World) (ao:Option Addr):AgtRow w ao 0 []:=⟨rfl,.inl rfl⟩
theorem AgtRow.at {w:World} {ao:Option Addr} {len:Nat} {l:List Agt} (h:AgtRow w ao len l) {i:Nat} (hi:i<len):∃b off,ao=some ⟨b,off,none⟩∧∀(h:i<l.length),∃(xo:Option Addr) (xl xc:Nat),AgtAt w b (off+i*4) l[i] xo xl xc:=by
 obtain ⟨h1,h2⟩:=h
 rcases h2 with h2 | ⟨b,off,h3,h4⟩
 ·omega
 ·exact ⟨b,off,h3,fun hi=>h4 i hi⟩
def AgtBlk (w:World) (t:TypeId) (g n k:Nat) (l:List Agt):Prop:=
 ∃arr:Array Value,w.heap[g]? = some (.cells arr t (0,0))∧arr.size=n*4∧∀i (h:i<l.length),i<k→arr[i*4]? = some (.string (bs l[i].name))∧arr[i*4+1]? = some (.int .i64 l[i].mem)∧arr[i*4+2]? = some (.int .i64 l[i].cpu)∧∃(xo:Option Addr) (xl xc:Nat),arr[i*4+3]? = some (.slice xo xl xc)∧CsOwn w g xo xl xc l[i].cs
theorem AgtBlk.lt {w:World} {t:TypeId} {g n k:Nat} {l:List Agt} (h:AgtBlk w t g n k l):g<w.heap.size:=let ⟨_,h,_⟩:=h;lt_of_block h
theorem AgtBlk.below {w w':World} {t:TypeId} {g n k:Nat} {l:List Agt} (h:AgtBlk w t g n k l) (hb:Below w.heap.size w w'):AgtBlk w' t g n k l:=by
 have hlt:=h.lt
 obtain ⟨arr,h1,h2,h3⟩:=h
 exact ⟨arr,(hb.block g hlt).trans h1,h2,fun i h hk=>let ⟨s0,s1,s2,xo,xl,xc,t0,o0⟩:=h3 i h hk;⟨s0,s1,s2,xo,xl,xc,t0,o0.below hb⟩⟩
theorem AgtBlk.cell {w:World} {t:TypeId} {g n k:Nat} {l:List Agt} (h:AgtBlk w t g n k l) {j:Nat} (hj:j<n*4):∃v,w.cell? ⟨g,j,none⟩=some v:=by
 obtain ⟨arr,h1,h2,_⟩:=h
 exact ⟨arr[j]'(by omega),by simp [World.cell?,h1,Array.getElem?_eq_getElem (show j<arr.size by omega)]⟩
theorem AgtBlk.frozen {w:World} {t:TypeId} {g n k:Nat} {l:List Agt} (h:AgtBlk w t g n k l) (j:Nat):w.frozen? ⟨g,j,none⟩=false:=by
 obtain ⟨arr,h1,h2,_⟩:=h
 simp [World.frozen?,h1]
theorem AgtBlk.row {w:World} {t:TypeId} {g n:Nat} {l:List Agt} (h:AgtBlk w t g n n l) (hl:n=l.length):AgtRow w (some ⟨g,0,none⟩) n l:=by
 obtain ⟨arr,h1,h2,h3⟩:=h
 refine ⟨hl,.inr ⟨g,0,rfl,fun i hi=>?_⟩⟩
 obtain ⟨s0,s1,s2,xo,xl,xc,t0,o0⟩:=h3 i hi (by omega)
 refine ⟨xo,xl,xc,?_⟩
 unfold AgtAt
 simp only [Nat.zero_add]
 exact ⟨by simp [World.cell?,h1,s0],by simp [World.cell?,h1,s1],by simp [World.cell?,h1,s2],by simp [World.cell?,h1,t0],o0.1⟩
def putAgt (w:World) (g p:Nat) (name:List UInt8) (mem:Int) (cpu:Int) (xo:Option Addr) (xl xc:Nat):World:=((((w.setCell ⟨g,p,none⟩ (.string (bs name))).setCell ⟨g,p+1,none⟩ (.int .i64 mem)).setCell ⟨g,p+2,none⟩ (.int .i64 cpu)).setCell ⟨g,p+3,none⟩ (.slice xo xl xc))
theorem AgtBlk.step {w:World} {t:TypeId} {g n k:Nat} {l:List Agt} (h:AgtBlk w t g n k l) (hk:k<n) (hl:k<l.length) (xo:Option Addr) (xl xc:Nat) (ow0:CsOwn w g xo xl xc l[k].cs):AgtBlk (putAgt w g (k*4) l[k].name l[k].mem l[k].cpu xo xl xc) t g n (k+1) l:=by
 obtain ⟨arr,h1,h2,h3⟩:=h
 have e1:=heap_setCell_same w g (k*4) _ _ (.string (bs l[k].name)) h1
 have e2:=heap_setCell_same _ g (k*4+1) _ _ (.int .i64 l[k].mem) e1
 have e3:=heap_setCell_same _ g (k*4+2) _ _ (.int .i64 l[k].cpu) e2
 have e4:=heap_setCell_same _ g (k*4+3) _ _ (.slice xo xl xc) e3
 refine ⟨_,e4,by simp [h2],fun i hi hik=>?_⟩
 by_cases e:i=k
 ·subst e
  have q1:i*4+3<arr.size:=by omega
  refine ⟨?_,?_,?_,xo,xl,xc,?_,((((ow0.put (i*4) (.string (bs l[i].name))).put (i*4+1) (.int .i64 l[i].mem)).put (i*4+2) (.int .i64 l[i].cpu)).put (i*4+3) (.slice xo xl xc))⟩<;>simp [Array.getElem?_setIfInBounds,h2]<;>omega
 ·obtain ⟨s0,s1,s2,z0,z1,z2,t0,o0⟩:=h3 i hi (by omega)
  refine ⟨?_,?_,?_,z0,z1,z2,?_,((((o0.put (k*4) (.string (bs l[k].name))).put (k*4+1) (.int .i64 l[k].mem)).put (k*4+2) (.int .i64 l[k].cpu)).put (k*4+3) (.slice xo xl xc))⟩
  ·rw [←s0];simp only [Array.getElem?_setIfInBounds];repeat rw [if_neg (by omega)]
  ·rw [←s1];simp only [Array.getElem?_setIfInBounds];repeat rw [if_neg (by omega)]
  ·rw [←s2];simp only [Array.getElem?_setIfInBounds];repeat rw [if_neg (by omega)]
  ·rw [←t0];simp only [Array.getElem?_setIfInBounds];repeat rw [if_neg (by omega)]
def AgtBig (q:Agt):Prop:=q.name.length≤9223372036854775807∧q.cs.length≤9223372036854775807∧∀a ∈ q.cs,a.node.length≤9223372036854775807
def FitAgt1 (q:Agt):Prop:=q.name.length≤1048576∧FitCon q.cs
def FitAgt (l:List Agt):Prop:=l.length≤1048576∧∀q ∈ l,FitAgt1 q
structure Mgr where
 s:St
 log:List UInt8
 safe:Int
 wait:List Rpl
structure Mgs where
 x:Sls
 wo:Option Addr
 wl:Nat
 wc:Nat
structure Clu where
 m:Mgr
 ags:List Agt
 told:List Rpl
structure Cls where
 y:Mgs
 go:Option Addr
 gl:Nat
 gc:Nat
 eo:Option Addr
 tl:Nat
 tc:Nat
abbrev mgrc (y:Mgs) (m:Mgr):Array Value:=#[.slice y.x.qa y.x.ql y.x.qc,.int .i64 m.s.clock,.int .i64 m.s.epoch,.int .i64 m.s.next,.int .i64 m.s.serial,.slice y.x.aa y.x.al y.x.ac,.slice y.x.ma y.x.ml y.x.mc,.slice y.x.ca y.x.cl y.x.cc,.string (bs m.log),.int .i64 m.safe,.slice y.wo y.wl y.wc]
abbrev mgrv (y:Mgs) (m:Mgr):Value:=.agg (mgrc y m)
def MRow (w:World) (y:Mgs) (m:Mgr):Prop:=SRow w y.x m.s∧RplRow w y.wo y.wl m.wait
def CRow (w:World) (z:Cls) (c:Clu):Prop:=MRow w z.y c.m∧AgtRow w z.go z.gl c.ags∧RplRow w z.eo z.tl c.told
theorem MRow.below {w w':World} {y:Mgs} {m:Mgr} (h:MRow w y m) (hb:Below w.heap.size w w'):MRow w' y m:=⟨h.1.below hb,h.2.below hb⟩
theorem CRow.below {w w':World} {z:Cls} {c:Clu} (h:CRow w z c) (hb:Below w.heap.size w w'):CRow w' z c:=⟨h.1.below hb,h.2.1.below hb,h.2.2.below hb⟩
def FitMgr (m:Mgr):Prop:=FitSt m.s∧m.log.length≤1048576∧FitRpl m.wait
theorem FitRpl.two {l:List Rpl} (h:FitRpl l):∀q ∈ l,q.cs.length≤1048576∧q.kill.length≤1048576:=fun q hq=>⟨(h.2 q hq).1.1,(h.2 q hq).2⟩
theorem FitAgt.one {l:List Agt} (h:FitAgt l):∀q ∈ l,q.cs.length≤1048576:=fun q hq=>(h.2 q hq).2.1
def MgrBig (y:Mgs) (m:Mgr):Prop:=StBig y.x m.s∧m.log.length≤9223372036854775807∧y.wl≤9223372036854775807∧∀q ∈ m.wait,RplBig q
def CluBig (z:Cls) (c:Clu):Prop:=MgrBig z.y c.m∧(z.gl≤9223372036854775807∧∀q ∈ c.ags,AgtBig q)∧z.tl≤9223372036854775807∧∀q ∈ c.told,RplBig q
theorem run_copy_many {P:Program} (w:World) (dT sT ty elem:TypeId) (g o dLen dCap:Nat) (a:Addr) (sLen sCap:Nat) (cur:Array Value) (t:TypeId) (cs:List Value) (sz:Nat)
  (hu:P.underlying dT=some (.slice elem)) (hs:(P.info? elem).map (·.size)=some sz)
  (hg:w.heap[g]? = some (.cells cur t (0,0))) (hn:cs.length=Nat.min sLen dLen*sz)
  (hsrc:∀j v,cs[j]? = some v→w.cell? (a.add j)=some v) (hfit:o+cs.length≤cur.size) (h1:∀v ∈ cs,v.oneCell'=true) :
  (Builtin.copy_ #[dT,sT] ty #[.slice (some ⟨g,o,none⟩) dLen dCap,.slice (some a) sLen sCap]).run P w =
   .ok (goInt (Nat.min sLen dLen)) (w.setRow g (cur.toList.take o++cs++cur.toList.drop (o+cs.length)).toArray):=by
 have hl:=run_loadCells_list (P:=P) w a cs hsrc
 have hst:=run_storeCells_at P g o t cs 0 cur w hg (by simpa using hfit) h1
 obtain ⟨m,hm⟩:∃m,Nat.min sLen dLen=m:=⟨_,rfl⟩
 rw [hm] at hn ⊢
 cases hq:P.info? elem with
 | none=>simp [hq] at hs
 | some i=>
  have hi:i.size=sz:=by simpa [hq] using hs
  rw [hn] at hl
  simp [Builtin.copy_,run_underlying hu,Builtin.lenOf,Builtin.firstCells,sizeOf,typeInfo,hq,hi,hm,hl,hst]
theorem run_copy_zero {P:Program} (w:World) (dT sT ty elem:TypeId) (d a:Option Addr) (dLen dCap sLen sCap sz:Nat) (hu:P.underlying dT=some (.slice elem)) (hs:(P.info? elem).map (·.size)=some sz) (hn:Nat.min sLen dLen=0) :
  (Builtin.copy_ #[dT,sT] ty #[.slice d dLen dCap,.slice a sLen sCap]).run P w=.ok (goInt 0) w:=by
 cases hq:P.info? elem with
 | none=>simp [hq] at hs
 | some i=>
  have hl:∀(x:Addr),(loadCells x 0).run P w=.ok #[] w:=fun x=>by simpa using run_loadCells_list (P:=P) w x [] (by simp)
  cases d<;>cases a<;>simp [Builtin.copy_,run_underlying hu,Builtin.lenOf,Builtin.firstCells,sizeOf,typeInfo,hq,hn,storeCells,hl]
theorem mks_setRow (w:World) (g:Nat) (cur:List Value) (new:List Value) (t:TypeId) (hg:w.heap[g]? = some (.cells cur.toArray t (0,0))) (hl:new.length=cur.length):Mks (fun k=>k=g) w (w.setRow g new.toArray):=by
 refine ⟨rfl,rfl,rfl,by simp [World.setRow],fun k _ hk=>setRow_other w g k _ (by omega),fun t' g' N h=>?_⟩
 by_cases e:g'=g
 ·subst e
  obtain ⟨arr,h1,h2⟩:=h
  rw [hg] at h1
  cases h1
  exact ⟨_,setRow_heap w g' _ _ t _ hg,by simpa [hl] using h2⟩
 ·exact h.of_block (setRow_other w g g' _ e)
theorem wp_copy_many {P:Program} {w:World} {o:Oper} {a:Act} {K:Act→World→Prop} {Q:Exit→Act→World→Prop} (d s:Operand) (dT sT:TypeId)
  (ho:o.op=.call { callee:=.builtin .copy,args:=#[d,s],argTypes:=#[dT,sT] }) (elem:TypeId) (sz:Nat) (hu:P.underlying dT=some (.slice elem)) (hsz:(P.info? elem).map (·.size)=some sz)
  (dp sp:Option Addr) (dLen dCap sLen sCap:Nat) (hd:a.eval d=.slice dp dLen dCap) (hs:a.eval s=.slice sp sLen sCap)
  (g off:Nat) (cur:List Value) (t:TypeId) (hg:w.heap[g]? = some (.cells cur.toArray t (0,0))) (cs:List Value) (m:Nat) (hm:m=Nat.min sLen dLen) (hn:cs.length=m*sz)
  (hpos:m≠0→dp=some ⟨g,off,none⟩∧∃ad,sp=some ad∧∀j v,cs[j]? = some v→w.cell? (ad.add j)=some v)
  (hfit:off+cs.length≤cur.length) (h1:∀v ∈ cs,v.oneCell'=true)
  (h:∀w',Hid (w'.heap[g]? = some (.cells (splice cur off cs).toArray t (0,0)))→Hid (Mks (fun k=>k=g) w w')→w'.heap.size=w.heap.size→K (a.put o.dst (goInt m)) w') :
  Oper.wp P o a w K Q:=by
 by_cases h0:m=0
 ·subst h0
  obtain rfl:cs=[]:=List.eq_nil_of_length_eq_zero (by simpa using hn)
  have hrun:=run_copy_zero (P:=P) w dT sT o.type elem dp sp dLen dCap sLen sCap sz hu hsz hm.symm
  unfold Oper.wp
  simp [execOp,ho,resolve,invoke,builtin,hd,hs,hrun,Result.andThen]
  exact h w (show _=_ by simpa [splice] using hg) (Mks.refl _ _) rfl
 ·obtain ⟨rfl,ad,rfl,hsrc⟩:=hpos h0
  have hrun:=run_copy_many (P:=P) w dT sT o.type elem g off dLen dCap ad sLen sCap cur.toArray t cs sz hu hsz hg (by rw [hn,hm]) hsrc (by simpa using hfit) h1
  unfold Oper.wp
  rw [←hm] at hrun
  simp [execOp,ho,resolve,invoke,builtin,hd,hs,hrun,Result.andThen]
  have e:(List.take off cur++(cs++List.drop (off+cs.length) cur))=splice cur off cs:=rfl
  have hh:=h (w.setRow g (splice cur off cs).toArray) (show _=_ from setRow_heap w g _ _ t _ hg) (mks_setRow w g cur _ t hg (length_splice cur off cs hfit)) (by simp [World.setRow])
  rw [←e] at hh
  exact hh
theorem wpList_copy_many {P:Program} {w:World} {ops:Array Oper} {rest:List Oper} {o:Oper} {a:Act} {Q:Exit→Act→World→Prop} (hgd:o.guard=none) (d s:Operand) (dT sT:TypeId)
  (ho:o.op=.call { callee:=.builtin .copy,args:=#[d,s],argTypes:=#[dT,sT] }) (elem:TypeId) (sz:Nat) (hu:P.underlying dT=some (.slice elem)) (hsz:(P.info? elem).map (·.size)=some sz)
  (dp sp:Option Addr) (dLen dCap sLen sCap:Nat) (hd:a.eval d=.slice dp dLen dCap) (hs:a.eval s=.slice sp sLen sCap)
  (g off:Nat) (cur:List Value) (t:TypeId) (hg:w.heap[g]? = some (.cells cur.toArray t (0,0))) (cs:List Value) (m:Nat) (hm:m=Nat.min sLen dLen) (hn:cs.length=m*sz)
  (hpos:m≠0→dp=some ⟨g,off,none⟩∧∃ad,sp=some ad∧∀j v,cs[j]? = some v→w.cell? (ad.add j)=some v)
  (hfit:off+cs.length≤cur.length) (h1:∀v ∈ cs,v.oneCell'=true)
  (h:∀w',Hid (w'.heap[g]? = some (.cells (splice cur off cs).toArray t (0,0)))→Hid (Mks (fun k=>k=g) w w')→w'.heap.size=w.heap.size→wpList P ops Q rest (a.put o.dst (goInt m)) w') :
  wpList P ops Q (o::rest) a w:=
 wpList_plain hgd fun _ hK=>wp_copy_many d s dT sT ho elem sz hu hsz dp sp dLen dCap sLen sCap hd hs g off cur t hg cs m hm hn hpos hfit h1 fun w' a1 a2 a3=>hK _ _ (h w' a1 a2 a3)
theorem step_copy_many {P:Program} {w:World} {ops:Array Oper} {o:Oper} {a:Act} {K:Act→World→Prop} {Q:Exit→Act→World→Prop} {E:Prop} (hgd:o.guard=none) (d s:Operand) (dT sT:TypeId)
  (ho:o.op=.call { callee:=.builtin .copy,args:=#[d,s],argTypes:=#[dT,sT] }) (elem:TypeId) (sz:Nat) (hu:P.underlying dT=some (.slice elem)) (hsz:(P.info? elem).map (·.size)=some sz)
  (dp sp:Option Addr) (dLen dCap sLen sCap:Nat) (hd:a.eval d=.slice dp dLen dCap) (hs:a.eval s=.slice sp sLen sCap)
  (g off:Nat) (cur:List Value) (t:TypeId) (hg:w.heap[g]? = some (.cells cur.toArray t (0,0))) (cs:List Value) (m:Nat) (hm:m=Nat.min sLen dLen) (hn:cs.length=m*sz)
  (hpos:m≠0→dp=some ⟨g,off,none⟩∧∃ad,sp=some ad∧∀j v,cs[j]? = some v→w.cell? (ad.add j)=some v)
  (hfit:off+cs.length≤cur.length) (h1:∀v ∈ cs,v.oneCell'=true)
  (h:∀w',Hid (w'.heap[g]? = some (.cells (splice cur off cs).toArray t (0,0)))→Hid (Mks (fun k=>k=g) w w')→w'.heap.size=w.heap.size→K (a.put o.dst (goInt m)) w') :
  if Region.wanted o (yielded ops a.tmps)=true then Oper.wp P o a w K Q else E:=by
 have hw:Region.wanted o (yielded ops a.tmps)=true:=by simp [Region.wanted,hgd]
 rw [if_pos hw]
 exact wp_copy_many d s dT sT ho elem sz hu hsz dp sp dLen dCap sLen sCap hd hs g off cur t hg cs m hm hn hpos hfit h1 h
def Lay (w:World) (t:TypeId) (g M:Nat) (cs:List Value):Prop:=∃R:List Value,w.heap[g]? = some (.cells (cs++R).toArray t (0,0))∧(cs++R).length=M
theorem Lay.lt {w:World} {t:TypeId} {g M:Nat} {cs:List Value} (h:Lay w t g M cs):g<w.heap.size:=let ⟨_,h,_⟩:=h;lt_of_block h
theorem Lay.of_block {w w':World} {t:TypeId} {g M:Nat} {cs:List Value} (h:Lay w t g M cs) (e:w'.heap[g]? = w.heap[g]?):Lay w' t g M cs:=let ⟨R,h1,h2⟩:=h;⟨R,e.trans h1,h2⟩
theorem Lay.below {w w':World} {t:TypeId} {g M:Nat} {cs:List Value} (h:Lay w t g M cs) (hb:Below w.heap.size w w'):Lay w' t g M cs:=h.of_block (hb.block g h.lt)
theorem Lay.other {w:World} {t:TypeId} {g M:Nat} {cs:List Value} (h:Lay w t g M cs) (k j:Nat) (v:Value) (hk:g≠k):Lay (w.setCell ⟨k,j,none⟩ v) t g M cs:=h.of_block (heap_setCell_other w ⟨k,j,none⟩ g v hk)
theorem Lay.cel {w:World} {t:TypeId} {g M:Nat} {cs:List Value} (h:Lay w t g M cs):Cel w t g M:=let ⟨R,h1,h2⟩:=h;⟨_,h1,by simpa using h2⟩
theorem Lay.cell {w:World} {t:TypeId} {g M:Nat} {cs:List Value} (h:Lay w t g M cs) {j:Nat} {u:Value} (hj:cs[j]? = some u):w.cell? ⟨g,j,none⟩=some u:=by
 obtain ⟨R,h1,h2⟩:=h
 have hl:j<cs.length:=(List.getElem?_eq_some_iff.1 hj).1
 simp [World.cell?,h1,List.getElem?_append_left hl,hj]
section
variable {P:Program} {w:World} {b:Nat} {arr:Array Value} {t:TypeId}
theorem blk_there (h:Blk w b arr t) (o n:Nat) (hn:o+n≤arr.size):w.there b o n:=fun j hj=>
 ⟨by rw [h.at];simp;omega,h.f _⟩
theorem mid_store (ty:TypeId) (o:Nat) (cells:Array Value) (h:Blk w b arr t) (hn:o+cells.size≤arr.size) (hi:(P.info? ty).map (·.size)=some cells.size) (h1:cells.all (·.oneCell')=true) :
  (Instr.storeAt ty (.pointer (some ⟨b,o,none⟩)) (.agg cells)).run P w=.ok () (w.setCells b o cells.toList):=run_storeAt_mid w b o ty cells (blk_there h o _ hn) hi h1
end
theorem blk_cells {b:Nat} {t:TypeId}:∀(vs:List Value) (i:Nat) (w:World) (arr:Array Value),Blk w b arr t→i+vs.length≤arr.size→Blk (w.setCells b i vs) b (arr.toList.take i++vs++arr.toList.drop (i+vs.length)).toArray t
 | [],i,w,arr,h,hn=>by
  have e:(arr.toList.take i++[]++arr.toList.drop (i+([]:List Value).length)).toArray=arr:=by simp
  rw [e];exact h
 | v::vs,i,w,arr,h,hn=>by
  have h1:=h.set i v
  have h2:=blk_cells vs (i+1) _ _ h1 (by simp at hn ⊢;omega)
  have hi:i<arr.toList.length:=by simp at hn ⊢;omega
  have e:((arr.setIfInBounds i v).toList.take (i+1)++vs++(arr.setIfInBounds i v).toList.drop (i+1+vs.length))=arr.toList.take i++v::vs++arr.toList.drop (i+(v::vs).length):=by
   rw [Array.toList_setIfInBounds,List.take_succ_eq_append_getElem (by simpa using hi),List.take_set_of_le (yJ _),List.drop_set_of_lt (by omega)]
   simp [Nat.add_assoc,Nat.add_comm 1]
  rw [e] at h2
  exact h2
theorem mks_part {S:Nat→Prop} {b:Nat} (hb:S b):∀(vs:List Value) (i:Nat) (w:World),Mks S w (w.setCells b i vs)
 | [],i,w=>.refl _ _
 | v::vs,i,w=>(Mks.one S w b i v hb).trans (mks_part hb vs (i+1) _)
theorem xno3 {b:Bool} {p:Prop} (h:b=true):b=false→p:=fun e=>by rw [h] at e;cases e
def MkG (g:Nat) (W wx:World):Prop:=Mks (fun j=>j=g) W wx
theorem MkG.trans {g:Nat} {a b c:World} (h:MkG g a b) (k:Mks (fun j=>j=g) b c):MkG g a c:=Mks.trans h k
theorem MkG.blk {g k:Nat} {a w:World} {arr:Array Value} {t:TypeId} (h:MkG g a w) (hb:Blk a k arr t) (ho:¬k=g):Blk w k arr t:=Mks.blk h hb ho
theorem mks_beyond {S:Nat→Prop} {a b c:World} {g:Nat} (h:Mks S a b) (h2:MkG g b c) (hg:a.heap.size≤g):Mks S a c:=
 ⟨h2.os.trans h.os,h2.tape.trans h.tape,h2.output.trans h.output,Nat.le_trans h.size h2.size,fun i hi ho=>(h2.block i (Nat.lt_of_lt_of_le hi h.size) (fun e=>by omega)).trans (h.block i hi ho),fun t g N x=>h2.cel t g N (h.cel t g N x)⟩
theorem op_nothing {P:Program} {ops:Array Oper} {Q:Exit→Act→World→Prop} {a:Act} {w w':World} {o:Oper} {K:Act→World→Prop} (hw:Region.wanted o (yielded ops a.tmps)=true) (hr:(execOp a.eval o).run P w=.ok .skip w') (h:K (a.put o.dst undef) w') :
  if Region.wanted o (yielded ops a.tmps)=true then Oper.wp P o a w K Q else K (a.put o.dst undef) w:=by
 rw [if_pos hw]
 unfold Oper.wp
 rw [hr]
 exact h
theorem lay_of {w:World} {t:TypeId} {g N:Nat} {cs:List Value} (hc:Cel w t g N) (h:∀j u,cs[j]? = some u→w.cell? ⟨g,j,none⟩=some u) (hl:cs.length≤N):Lay w t g N cs:=by
 obtain ⟨arr,h1,h2⟩:=hc
 refine ⟨arr.toList.drop cs.length,?_,by simp;omega⟩
 have e:cs++arr.toList.drop cs.length=arr.toList:=by
  apply List.ext_getElem?
  intro j
  by_cases hj:j<cs.length
  ·rw [List.getElem?_append_left hj]
   have h3:=h j cs[j] (List.getElem?_eq_getElem hj)
   simp [World.cell?,h1] at h3
   rw [List.getElem?_eq_getElem hj,Array.getElem?_toList]
   exact h3.symm
  ·rw [List.getElem?_append_right (by omega),List.getElem?_drop]
   congr 1
   omega
 rw [e]
 simpa using h1
theorem mks_cells {S:Nat→Prop} {g:Nat} (hg:S g):∀(vs:List Value) (o:Nat) (a w:World),Mks S a w→Mks S a (w.setCells g o vs)
 | [],_,_,_,h=>h
 | v::r,o,a,w,h=>mks_cells hg r (o+1) a _ (h.sc g o v hg)
theorem Cel.isThere {w:World} {t:TypeId} {g N:Nat} (h:Cel w t g N) {j:Nat} (hj:j<N):(w.cell? ⟨g,j,none⟩).isSome=true:=by
 obtain ⟨arr,h1,h2⟩:=h
 have h3:j<arr.size:=by omega
 simp [World.cell?,h1,h3]
theorem below_none {w w':World} (h:w.grownBy w' none):Below w.heap.size w w':=(yH _ w).grown h (yJ _) (fun k e=>by cases e)
structure AppR (B:Nat) (w:World) (e:TypeId) (sz:Nat) (ao:Option Addr) (n:Nat) (all:List Value) (g cap:Nat) (w':World):Prop where
 cells:∀j u,all[j]? = some u→w'.cell? ⟨g,j,none⟩=some u
 own:Own1 B w'.heap.size w' e sz (some ⟨g,0,none⟩) cap
 cap:n≤cap
 mks:Mks (fun k=>∃N,Cel w e k N∧B≤k) w w'
 pos:ao=some ⟨g,0,none⟩∧Mks (fun k=>k=g) w w'∨w.heap.size≤g∧Below w.heap.size w w'
theorem wpList_append_rm {P:Program} (w:World) {ops:Array Oper} {rest:List Oper} {o:Oper} {a:Act} {Q:Exit→Act→World→Prop} (hgd:o.guard=none) (s x:Operand) (t:TypeId)
  (ho:o.op=.call { callee:=.builtin .append,args:=#[s,x],argTypes:=#[t,t] })
  (e:TypeId) (i:TypeInfo) (z:Value) (size bytes:Nat) (ht:P.underlying t=some (.slice e)) (hi:P.info? e=some i) (hz:i.zero=some z)
  (hsize:i.size=size) (hby:i.bytes=bytes) (hzs:z.cells.size=size) (hsz:0<size)
  (B E:Nat) (ao:Option Addr) (n cap:Nat) (olds:List Value) (hs:a.eval s=.slice ao n cap) (hrm:Own1 B E w e size ao cap) (hnc:n≤cap) (hB:B≤w.heap.size)
  (hlo:olds.length=n*size) (holds:∀b off,ao=some ⟨b,off,none⟩→∀j u,olds[j]? = some u→w.cell? ⟨b,off+j,none⟩=some u)
  (ad:Addr) (m c:Nat) (news:List Value) (hx:a.eval x=.slice (some ad) m c) (hn:news.length=m*size) (hc:∀j u,news[j]? = some u→w.cell? (ad.add j)=some u) (h1c:∀u ∈ news,u.oneCell'=true) (hm:0<m)
  (b1:n+m≤maxLen) (b2:(n+m)*bytes≤140737488355328)
  (h:∀g cap' w',AppR B w e size ao (n+m) (olds++news) g cap' w'→wpList P ops Q rest (a.put o.dst (.slice (some ⟨g,0,none⟩) (n+m) cap')) w'):wpList P ops Q (o::rest) a w:=by
 by_cases hr:n+m≤cap
 ·rcases hrm with e0 | ⟨g,M,rfl,h1,h2,h3,h4⟩
  ·omega
  ·have hle:(n+m)*size≤M*size:=Nat.mul_le_mul_right _ (by omega)
   rw [Nat.add_mul] at hle
   refine wpList_append_arg w hgd s x t ho e i z size bytes ht hi hz hsize hby hzs hsz g 0 n cap olds hs hlo (fun j u hj=>holds g 0 rfl j u hj) ad m c news hx hn hc h1c (fun _ j hj=>⟨h3.isThere (by omega),h3.frozen _⟩) b1 b2 (fun _=>h g cap _ ⟨fun j u hj=>?_,?_,hr,mks_cells ⟨_,h3,h1⟩ _ _ _ _ (Mks.refl _ _),.inl ⟨rfl,mks_cells (S:=fun k=>k=g) rfl _ _ _ _ (Mks.refl _ _)⟩⟩) (fun hlt=>by omega)
   ·by_cases hj2:j<olds.length
    ·rw [List.getElem?_append_left hj2] at hj
     rw [World.cell?_setCells_out g news (0+n*size) w ⟨g,j,none⟩ (fun _ _=>by left;show j<0+n*size;omega)]
     have:=holds g 0 rfl j u hj
     rwa [Nat.zero_add] at this
    ·rw [List.getElem?_append_right (by omega)] at hj
     have hjl:j - olds.length<news.length:=(List.getElem?_eq_some_iff.1 hj).1
     have:=World.cell?_setCells_in g news (0+n*size) w (fun k hk=>h3.isThere (by omega)) (j - olds.length) hjl
     rw [show 0+n*size+(j - olds.length)=j by omega] at this
     rw [this]
     rw [List.getElem?_eq_getElem hjl] at hj
     exact hj
   ·have hk:Mks (fun k=>k=g) w (w.setCells g (0+n*size) news):=mks_cells (S:=fun k=>k=g) rfl _ _ _ _ (Mks.refl _ _)
    exact .inr ⟨g,M,rfl,h1,Nat.lt_of_lt_of_le h3.lt hk.size,hk.cel _ _ _ h3,h4⟩
 ·have hnone:ao=none→n=0∧cap=0:=fun e0=>by
   rcases hrm with h0 | ⟨g,M,h1,_⟩
   ·omega
   ·rw [e0] at h1;cases h1
  refine wpList_append_grows w hgd s x t ho e i z size bytes ht hi hz hsize hby hzs hsz ao n cap olds hs hnone hlo (fun b hb j u hj=>?_) ad m c news hx hn hc h1c (by omega) b1 b2 (fun v' w' h1 h2=>?_)
  ·rcases hrm with h0 | ⟨g,M,h1,_⟩
   ·have hn0:n=0:=by omega
    rw [hn0,Nat.zero_mul] at hlo
    rw [List.eq_nil_of_length_eq_zero hlo] at hj
    simp at hj
   ·obtain rfl:=Option.some.inj (hb.symm.trans h1)
    rw [Addr.add_lit]
    exact holds g 0 hb j u hj
  ·obtain ⟨g,cap',rfl,hg1,hg2⟩:=h1.form (by omega)
   have hb:=below_none h2
   rcases h1.2 with ⟨e0,_⟩ | ⟨g',c',cur,e0,k1,k2,k3,k4,k5,k6⟩
   ·cases e0
   ·cases e0
    refine h g cap' w' ⟨fun j u hj=>?_,.inr ⟨g,cap',rfl,by omega,lt_of_block k2,⟨cur,k2,k5⟩,yJ _⟩,k3,Mks.of_below hb,.inr ⟨by omega,hb⟩⟩
    have hjl:j<(olds++news).length:=(List.getElem?_eq_some_iff.1 hj).1
    rw [←k6] at hj hjl
    rw [List.length_take] at hjl
    rw [List.getElem?_take_of_lt (by omega)] at hj
    simp [World.cell?,k2]
    simpa using hj
theorem l04On_any (x:Sls) (s:St) (nd:List UInt8) (w:World) (h:ConRow w x.ca x.cl s.cs) (hl:x.cl≤1048576) :
  Calls Tryz.prog 153 #[sv x s,.string (bs nd)] w fun e w'=>∃v,e=.returned v∧ROwn w.heap.size w' v (usedL (fun q=>decide (q.node=nd)) s.cs)∧Below w.heap.size w w':=by
 obtain ⟨i0,hi,hz0,hz1,hz2⟩:=info_parts Tryz.infoR
 obtain ⟨qa,ql,qc,aa,al,ac,ma,ml,mc,ca,cl,cc⟩:=x
 obtain ⟨qs,clock,epoch,next,serial,apps,ms,cs⟩:=s
 simp only at h hl ⊢
 have HR:=hide h
 have HL:=hide h.1
 have HB0:=hide (boxW_below w #[.slice qa ql qc,.int .i64 clock,.int .i64 epoch,.int .i64 next,.int .i64 serial,.slice aa al ac,.slice ma ml mc,.slice ca cl cc])
 have P0:=hide (boxW_blk w #[.slice qa ql qc,.int .i64 clock,.int .i64 epoch,.int .i64 next,.int .i64 serial,.slice aa al ac,.slice ma ml mc,.slice ca cl cc])
 have HW:=hide (boxW_size w #[.slice qa ql qc,.int .i64 clock,.int .i64 epoch,.int .i64 next,.int .i64 serial,.slice aa al ac,.slice ma ml mc,.slice ca cl cc])
 have HO0:=hide (rown_empty (boxW w #[.slice qa ql qc,.int .i64 clock,.int .i64 epoch,.int .i64 next,.int .i64 serial,.slice aa al ac,.slice ma ml mc,.slice ca cl cc]))
 obtain ⟨c,hc⟩:∃c:Array Value,#[.slice qa ql qc,.int .i64 clock,.int .i64 epoch,.int .i64 next,.int .i64 serial,.slice aa al ac,.slice ma ml mc,.slice ca cl cc]=c:=⟨_,rfl⟩
 rw [hc] at HB0 HW HO0
 have P0:=hide (show Blk (boxW w c) w.heap.size #[.slice qa ql qc,.int .i64 clock,.int .i64 epoch,.int .i64 next,.int .i64 serial,.slice aa al ac,.slice ma ml mc,.slice ca cl cc] 37 by rw [hc];exact boxW_blk w c)
 have HC:=hide hc
 clear h hc
 go_enter Tryz.func153,Tryz.ntmps153
 go_wp2
 go_loopw [5,6] (fun v i wr=>∃(k:Nat),k≤cl∧i=.int .i64 k∧Hid (ROwn (boxW w c).heap.size wr v (usedL (fun q=>decide (q.node=nd)) (cs.take k)))∧Hid (Below (boxW w c).heap.size (boxW w c) wr)) (fun _ i _=>cl - (intOf i).toNat)
 case atStart=>
  obtain rfl:=uH HC
  have h1:=uH HW
  refine ⟨0,Nat.zero_le _,rfl,hide ?_,hide (yA (yH _ _) _)⟩
  have:=uH HO0
  rw [h1] at this
  rw [h1]
  exact this
 case round=>
  obtain ⟨k,hk,rfl,HO,HB⟩:=hrel
  have hn1:w.heap.size<(boxW w c).heap.size:=by have:=uH HW;omega
  have p7:=Blk.at (show Blk wr w.heap.size _ 37 from ((uH HB).block _ hn1).trans (uH P0)) 7
  simp at p7
  by_cases hlt:k<cl
  ·obtain ⟨b,off,rfl,hq⟩:=(((uH HR).below (uH HB0)).below (uH HB)).at hlt
   have hkl:k<cs.length:=by have:=uH HL;omega
   have hst:=usedL_step (p:=fun q=>decide (q.node=nd)) hkl
   obtain ⟨c0,c1,c2,c3,c4⟩:=hq hkl
   obtain ⟨m,hs⟩:∃q,cs[k]=q:=⟨_,rfl⟩
   rw [hs] at c0 c1 c2 c3 c4 hst
   have hal:(usedL (fun q=>decide (q.node=nd)) (cs.take k)).length≤1048576:=by have:(usedL (fun q:Con=>decide (q.node=nd)) (cs.take k)).length≤(cs.take k).length:=(by simp only [usedL,List.length_map];exact List.length_filter_le _ _);simp at this;omega
   obtain ⟨acc,hacc⟩:∃a,usedL (fun q=>decide (q.node=nd)) (cs.take k)=a:=⟨_,rfl⟩
   rw [hacc] at hst hal HO
   obtain ⟨id,ap,no,me,cp⟩:=m
   simp only at c0 c1 c2 c3 c4 hst
   have hs2:(boxW w c).heap.size≤wr.heap.size:=(uH HB).size
   have hown:wr.ownsRow (boxW w c).heap.size 145 2 _ acc.length (rcells acc):=uH HO
   have hbe:=bs_eq no nd
   clear hq hs hkl hacc
   by_cases hnd:no=nd
   ·rw [decide_eq_true hnd] at hbe hst
    have HST:=hide (show usedL (fun q=>decide (q.node=nd)) (cs.take (k+1))=acc++[(me,cp)] by have:=hst;rw [if_pos rfl] at this;exact this)
    clear hst hnd
    go_wp2_with (at_builtin;refine wpList_append_own _ rfl _ _ 216 rfl (boxW w c).heap.size 145 i0 (.agg #[.int .i64 0,.int .i64 0]) 2 16 Tryz.underlying216 hi hz0 hz1 hz2 rfl (by decide) _ _ _ rfl (hown.alloc _) ⟨wr.heap.size,0,none⟩ 1 1 (rcell (me,cp)) rfl rfl ?c1 ?c2 ?c3 ?c4 ?c5 ?_)
    case c1=>
     intro j x hj
     match j,hj with
     | 0,hj=>simp at hj;subst hj;simp [Addr.add]
     | 1,hj=>simp at hj;subst hj;simp [Addr.add]
     | _+2,hj=>simp at hj
    case c2=>intro x hx;simp at hx;rcases hx with rfl | rfl<;>rfl
    case c3=>unfold maxLen;omega
    case c4=>omega
    case c5=>simp at hs2 ⊢;omega
    intro v' w3 hown' hgrow _
    have R:=rown_step (q:=(me,cp)) (uH HB) (uH HO) hown' hgrow hs2
    have HR3:=hide R
    clear hown' hgrow hown c0 c1 c2 c3 c4 R p7
    go_wp2
    go_roundw
    case rel=>exact ⟨k+1,by omega,by go_num,hide (by rw [uH HST];exact (uH HR3).1),hide (uH HR3).2⟩
    case measure=>simp [intOf];omega
   ·rw [decide_eq_false hnd] at hbe hst
    have HST:=hide (show usedL (fun q=>decide (q.node=nd)) (cs.take (k+1))=acc by have:=hst;rw [if_neg (by simp)] at this;exact this)
    clear hst hnd hown
    go_wp2
    go_roundw
    case rel=>exact ⟨k+1,by omega,by go_num,hide (by rw [uH HST];exact uH HO),HB⟩
    case measure=>simp [intOf];omega
  ·have htk:cs.take k=cs:=List.take_of_length_le (by have:=uH HL;omega)
   rw [htk] at HO
   go_wp2
   go_ret
   exact ⟨_,rfl,(uH HO).base (by omega),yB (uH HB0) (uH HB)⟩
theorem SRow.ml {w:World} {x:Sls} {s:St} (h:SRow w x s) (hf:FitSt s):x.ml≤1048576:=by have:=h.len.2.2.1;have:=hf.2.2.1.1;omega
theorem SRow.al {w:World} {x:Sls} {s:St} (h:SRow w x s) (hf:FitSt s):x.al≤1048576:=by have:=h.len.2.1;have:=hf.2.1.1;omega
theorem SRow.ql {w:World} {x:Sls} {s:St} (h:SRow w x s) (hf:FitSt s):x.ql≤1048576:=by have:=h.len.1;have:=hf.1.1;omega
def imarks (k:Int) (n:Nat):List Int:=(List.range n).map (fun i:Nat=>k+(i:Int))
theorem imarks_len (k:Int) (n:Nat):(imarks k n).length=n:=by simp [imarks]
theorem imarks_at {k:Int} {n i:Nat} (h:i<(imarks k n).length):(imarks k n)[i]=k+(i:Int):=by simp [imarks]
def IAns (B E:Nat) (w:World) (v:Value) (l:List Int):Prop:=∃ao cap,v=.slice ao l.length cap∧(l≠[]→∃g M,ao=some ⟨g,0,none⟩∧l.length≤M∧IBlk w 3 g M l.length l∧B≤g∧g<E)
theorem IOwn.ans {B:Nat} {w:World} {v:Value} {l:List Int} (h:IOwn B w v l):IAns B w.heap.size w v l:=by
 rcases h.2 with ⟨rfl,h0⟩ | ⟨g,cap,cur,rfl,h1,h2,h3,h4,h5,h6⟩
 ·exact ⟨none,0,by rw [h0],fun e=>absurd (List.length_eq_zero_iff.1 h0) e⟩
 ·refine ⟨_,cap,rfl,fun _=>⟨g,cap,rfl,h3,⟨cur,h2,by omega,fun i hi _=>?_⟩,h1,lt_of_block h2⟩⟩
  have hv:(icells l)[i]? = some (.int .i64 l[i]):=by simp [icells,hi]
  rw [←h6,List.getElem?_take_of_lt (by simpa using hi)] at hv
  simpa using hv
theorem IAns.below {B E:Nat} {w w':World} {v:Value} {l:List Int} (h:IAns B E w v l) (hb:Below w.heap.size w w'):IAns B E w' v l:=by
 obtain ⟨ao,c,rfl,k⟩:=h
 exact ⟨ao,c,rfl,fun hp=>let ⟨g,M,e,hM,hs,h1,h2⟩:=k hp;⟨g,M,e,hM,hs.below hb,h1,h2⟩⟩
theorem IAns.mkd {B E B' E':Nat} {w w':World} {v:Value} {l:List Int} (h:IAns B E w v l) (hm:Mkd B' E' w w') (hd:E≤B'∨E'≤B):IAns B E w' v l:=by
 obtain ⟨ao,c,rfl,k⟩:=h
 exact ⟨ao,c,rfl,fun hp=>let ⟨g,M,e,hM,hs,h1,h2⟩:=k hp;⟨g,M,e,hM,hs.mkd hm (by omega),h1,h2⟩⟩
theorem IAns.low {B E C:Nat} {w w':World} {v:Value} {l:List Int} (h:IAns B E w v l) (hb:Below C w w') (hE:E≤C):IAns B E w' v l:=by
 obtain ⟨ao,c,rfl,k⟩:=h
 refine ⟨ao,c,rfl,fun hp=>?_⟩
 obtain ⟨g,M,e,hM,⟨arr,a1,a2⟩,h1,h2⟩:=k hp
 exact ⟨g,M,e,hM,⟨arr,(hb.block g (by omega)).trans a1,a2⟩,h1,h2⟩
theorem iblk_nrow {w:World} {t:TypeId} {g M:Nat} {l:List Int} (h:IBlk w t g M l.length l):NRow w (some ⟨g,0,none⟩) l.length l:=by
 obtain ⟨arr,h1,h2,h3⟩:=h
 refine ⟨rfl,.inr ⟨g,0,rfl,fun i hi=>?_⟩⟩
 have a:=h3 i hi hi
 simp only [Nat.zero_add]
 simp [World.cell?,h1,a]
theorem IAns.row {B E:Nat} {w:World} {v:Value} {l:List Int} (h:IAns B E w v l):∃ao cap,v=.slice ao l.length cap∧NRow w ao l.length l:=by
 obtain ⟨ao,c,rfl,k⟩:=h
 refine ⟨ao,c,rfl,?_⟩
 by_cases hp:l=[]
 ·subst hp
  exact ⟨rfl,.inl rfl⟩
 ·obtain ⟨g,M,rfl,hM,hs,_⟩:=k hp
  exact iblk_nrow hs
def IMk (B E:Nat) (w:World) (v:Value) (n:Nat):Prop:=∃ao cap,v=.slice ao n cap∧NRow w ao n (imarks 1 n)
theorem IMk.below {B E:Nat} {w w':World} {v:Value} {n:Nat} (h:IMk B E w v n) (hb:Below w.heap.size w w'):IMk B E w' v n:=by
 obtain ⟨ao,c,rfl,k⟩:=h
 exact ⟨ao,c,rfl,k.below hb⟩
theorem markI_own (g M n c K:Nat) (l:List Int) (w:World) (h:IBlk w 3 g M 0 l) (hM:n≤M) (hn:n≤2000000000000) (hK:K≤4611686018427387904) :
  Calls Tryz.prog 63 #[.slice (some ⟨g,0,none⟩) n c,.int .i64 (K:Int)] w fun e w'=>e=.returned (.int .i64 ((K:Int)+(n:Int)))∧IBlk w' 3 g M n (imarks K n)∧Mks (fun k=>k=g) w w':=by
 have HI:=hide (show IBlk w 3 g M 0 (imarks K n) from (let ⟨arr,h1,h2,_⟩:=h;⟨arr,h1,h2,fun i _ hk=>absurd hk (by omega)⟩))
 clear h
 go_enter Tryz.func63,Tryz.ntmps63
 go_wp2
 go_loopw [1,5] (fun s i wr=>∃(j:Nat) (k:Int),j≤n∧i=.int .i64 j∧s=.int .i64 k∧Hid (k=(K:Int)+(j:Int))∧Hid (IBlk wr 3 g M j (imarks K n))∧Hid (Mks (fun k=>k=g) w wr)) (fun _ i _=>n - (intOf i).toNat)
 case atStart=>exact ⟨0,K,Nat.zero_le _,rfl,rfl,hide (by simp),HI,hide (Mks.refl _ _)⟩
 case round=>
  obtain ⟨j,k,hj,rfl,rfl,hk,HV,HM⟩:=hrel
  have hkk:=uH hk
  by_cases hlt:j<n
  ·obtain ⟨v0,d0⟩:=(uH HV).cell (j:=j) (by omega)
   have f0:=(uH HV).frozen j
   have hjl:j<(imarks (K:Int) n).length:=by rw [imarks_len];exact hlt
   have HS:=hide (show IBlk (wr.setCell ⟨g,j,none⟩ (.int .i64 ((K:Int)+(j:Int)))) 3 g M (j+1) (imarks K n) from by
    have:=(uH HV).step (by omega) hjl
    rwa [imarks_at hjl] at this)
   clear hjl
   go_wp2
   go_roundw
   case rel=>exact ⟨j+1,k+1,by omega,by go_num,by go_num,hide (by omega),HS,hide ((uH HM).sc _ _ _ rfl)⟩
   case measure=>simp [intOf];omega
  ·obtain rfl:j=n:=by omega
   rw [hkk]
   go_wp2
   go_ret
   exact ⟨rfl,uH HV,uH HM⟩
def RWh (w:World) (B E g n:Nat):Prop:=Cel w 91 g (n*4)∧∀i,i<n→∃b xl c yl,w.cell? ⟨g,i*4+2,none⟩=some (.slice (some ⟨b,0,none⟩) xl xl)∧w.cell? ⟨g,i*4+3,none⟩=some (.slice (some ⟨c,0,none⟩) yl yl)∧Cel w 150 b (xl*5)∧Cel w 3 c yl∧xl≤1048576∧yl≤1048576∧B≤b∧b<E∧b≠g∧B≤c∧c<E∧c≠g
theorem RWh.below {w w':World} {B E g n:Nat} (h:RWh w B E g n) (hb:Below w.heap.size w w'):RWh w' B E g n:=
 ⟨h.1.below hb,fun i hi=>let ⟨b,xl,c,yl,a1,a2,k1,k2,d⟩:=h.2 i hi;⟨b,xl,c,yl,cellBel a1 hb,cellBel a2 hb,k1.below hb,k2.below hb,d⟩⟩
theorem RWh.sc {w:World} {B E g n:Nat} (h:RWh w B E g n) (j:Nat) (v:Value) (hj:∀i,j≠i*4+2∧j≠i*4+3):RWh (w.setCell ⟨g,j,none⟩ v) B E g n:=
 ⟨h.1.set _ _ _,fun i hi=>let ⟨b,xl,c,yl,a1,a2,k1,k2,d⟩:=h.2 i hi;⟨b,xl,c,yl,cellKeep a1 (hj i).1,cellKeep a2 (hj i).2,k1.set _ _ _,k2.set _ _ _,d⟩⟩
theorem RWh.mkd {w w':World} {B E g n b:Nat} (h:RWh w B E g n) (hm:Mkd b (b+1) w w') (hn:b≠g):RWh w' B E g n:=
 ⟨hm.cel _ _ _ h.1,fun i hi=>let ⟨b,xl,c,yl,a1,a2,k1,k2,d⟩:=h.2 i hi;⟨b,xl,c,yl,(World.cell?_of_block (w:=w) (a:=⟨g,i*4+2,none⟩) (hm.block g h.1.lt (by omega))).trans a1,(World.cell?_of_block (w:=w) (a:=⟨g,i*4+3,none⟩) (hm.block g h.1.lt (by omega))).trans a2,hm.cel _ _ _ k1,hm.cel _ _ _ k2,d⟩⟩
theorem RWh.mkdo {w w':World} {B E B' E' g n:Nat} (h:RWh w B E g n) (hm:Mkd B' E' w w') (hn:g<B'∨E'≤g):RWh w' B E g n:=
 ⟨hm.cel _ _ _ h.1,fun i hi=>let ⟨b,xl,c,yl,a1,a2,k1,k2,d⟩:=h.2 i hi;⟨b,xl,c,yl,(World.cell?_of_block (w:=w) (a:=⟨g,i*4+2,none⟩) (hm.block g h.1.lt (by omega))).trans a1,(World.cell?_of_block (w:=w) (a:=⟨g,i*4+3,none⟩) (hm.block g h.1.lt (by omega))).trans a2,hm.cel _ _ _ k1,hm.cel _ _ _ k2,d⟩⟩
theorem RWh.mono {w:World} {B E B' E' g n:Nat} (h:RWh w B E g n) (h1:B'≤B) (h2:E≤E'):RWh w B' E' g n:=
 ⟨h.1,fun i hi=>let ⟨b,xl,c,yl,a1,a2,k1,k2,d⟩:=h.2 i hi;⟨b,xl,c,yl,a1,a2,k1,k2,d.1,d.2.1,by have:=d.2.2.1;omega,by have:=d.2.2.2.1;omega,d.2.2.2.2.1,by have:=d.2.2.2.2.2.1;omega,by have:=d.2.2.2.2.2.2.1;omega,d.2.2.2.2.2.2.2⟩⟩
theorem RplBlk.wh {w:World} {g n:Nat} {l:List Rpl} (h:RplBlk w 91 g n n l) (hl:n=l.length) (hk:∀q ∈ l,q.cs.length≤1048576∧q.kill.length≤1048576):RWh w (g+1) w.heap.size g n:=by
 refine ⟨let ⟨arr,h1,h2,_⟩:=h;⟨arr,h1,h2⟩,fun i hi=>?_⟩
 obtain ⟨arr,h1,h2,h3⟩:=h
 have hil:i<l.length:=by omega
 obtain ⟨_,_,xo,xl,xc,yo,yl,yc,t0,t1,o0,o1⟩:=h3 i hil hi
 have hlen:=hk l[i] (yM _)
 obtain ⟨r0,rfl,b,rfl,hb,kb⟩:=o0
 obtain ⟨r1,rfl,c,rfl,hc,kc⟩:=o1
 have e0:=r0.1
 have e1:=r1.1
 exact ⟨b,_,c,_,by simp [World.cell?,h1,t0],by simp [World.cell?,h1,t1],conblk_cel kb,iblk_cel kc,by omega,by omega,by omega,kb.lt,by omega,by omega,kc.lt,by omega⟩
theorem markIntS_from (g n:Nat) (k0:Int) (w:World) (h:Cel w 3 g n) (hn:n≤1048576) (h0:0<k0) (h1:k0≤1000000000000000) :
  Calls Tryz.prog 63 #[.slice (some ⟨g,0,none⟩) n n,.int .i64 k0] w fun e w'=>e=.returned (.int .i64 (k0+(n:Int)))∧Mkd g (g+1) w w':=by
 obtain ⟨K,rfl⟩:=Int.eq_ofNat_of_zero_le (a:=k0) (by omega)
 refine (markI_own g n n n K [] w (let ⟨arr,h1,h2⟩:=h;⟨arr,h1,h2,fun i hi=>absurd hi (by simp)⟩) (yJ _) (by omega) (by omega)).mono ?_
 rintro e w' ⟨rfl,_,hm⟩
 exact ⟨rfl,hm.os,hm.tape,hm.output,hm.size,fun k hk ho=>hm.block k hk (by omega),hm.cel⟩
theorem markReplyS_from (B E g n:Nat) (k0:Int) (w:World) (h:RWh w B E g n) (hB:B≤g) (hE:g<E) (hn:n≤1048576) (h0:0<k0) (h1:k0≤200000000000000) :
  Calls Tryz.prog 24 #[.slice (some ⟨g,0,none⟩) n n,.int .i64 k0] w fun e w'=>∃k',e=.returned (.int .i64 k')∧k0≤k'∧k'≤k0+6291458*(n:Int)∧Mkd B E w w':=by
 have HQ0:=hide h
 clear h
 go_enter Tryz.func24,Tryz.ntmps24
 go_wp2
 go_loopw [1,5] (fun s i wr=>∃(j:Nat) (k:Int),j≤n∧i=.int .i64 j∧s=.int .i64 k∧k0≤k∧k≤k0+6291458*(j:Int)∧Hid (RWh wr B E g n)∧Hid (Mkd B E w wr)) (fun _ i _=>n - (intOf i).toNat)
 case atStart=>exact ⟨0,k0,Nat.zero_le _,rfl,rfl,by omega,by omega,HQ0,hide (Mkd.refl _ _ _)⟩
 case round=>
  obtain ⟨j,k,hj,rfl,rfl,hk,hk',HQ,HG⟩:=hrel
  by_cases hlt:j<n
  ·have hk0:0<k:=by omega
   have hk1:k≤210000000000000:=by omega
   have HK:=hide hk'
   clear hk'
   obtain ⟨v0,d0⟩:=(uH HQ).1.cell (j:=j*4) (by omega)
   have f0:=(uH HQ).1.frozen (j*4)
   have HQ1:=hide ((uH HQ).sc (j*4) (.int .i64 k) (by omega))
   have HG1:=hide ((uH HG).sc g (j*4) (.int .i64 k) hB hE)
   obtain ⟨v1,d1⟩:=(uH HQ1).1.cell (j:=j*4+1) (by omega)
   have f1:=(uH HQ1).1.frozen (j*4+1)
   have HQ2:=hide ((uH HQ1).sc (j*4+1) (.int .i64 (k+1)) (by omega))
   have HG2:=hide ((uH HG1).sc g (j*4+1) (.int .i64 (k+1)) hB hE)
   obtain ⟨b,xl,c,yl,d2,d3,hcx,hcy,hxl,hyl,hb1,hb2,hbg,hc1,hc2,hcg⟩:=(uH HQ2).2 j hlt
   have CA:=hide (markContS_from b xl xl (k+1+1) _ hcx (yJ _) hxl (by omega) (by omega))
   clear HQ HG HQ1 HG1 hcx hcy d3
   go_wp2_with fail
   refine (uH CA).mono ?_
   rintro e w2 ⟨rfl,hm⟩
   have HQ3:=hide ((uH HQ2).mkd hm hbg)
   have HG3:=hide ((uH HG2).trans (hm.mono hb1 (by omega)))
   clear hm CA HQ2 HG2 d0 f0 d1 f1 d2 hb1 hb2 hbg hc1 hc2 hcg
   obtain ⟨b',xl',c',yl',d2',d3',hcx',hcy',hxl',hyl',hb1',hb2',hbg',hc1',hc2',hcg'⟩:=(uH HQ3).2 j hlt
   have CI:=hide (markIntS_from c' yl' (k+1+1+5*(xl:Int)) _ hcy' hyl' (by omega) (by omega))
   clear hcx' hcy' d2' hb1' hb2' hbg'
   go_wp2_with fail
   refine (uH CI).mono ?_
   rintro e w3 ⟨rfl,hm⟩
   have HQ4:=hide ((uH HQ3).mkd hm hcg')
   have HG4:=hide ((uH HG3).trans (hm.mono hc1' (by omega)))
   clear hm CI HQ3 HG3 d3' hc1' hc2' hcg'
   go_wp2
   go_roundw
   case rel=>exact ⟨j+1,k+1+1+5*(xl:Int)+(yl':Int),by omega,by go_num,by go_num,by omega,by have:=uH HK;omega,HQ4,HG4⟩
   case measure=>simp [intOf];omega
  ·have hjn:j=n:=by omega
   subst hjn
   go_wp2
   go_ret
   exact ⟨k,rfl,hk,hk',uH HG⟩
end
section
open Go.ChangeShapes Go.WideShapes Go.ChangeAt Go.RowKit Go.Deep
def AgtFit (q:Agt):Prop:=(q.name.length≤9223372036854775807∧(Lit.int .i64 q.mem).wf=true∧(Lit.int .i64 q.cpu).wf=true)∧q.cs.length≤9223372036854775807∧∀a ∈ q.cs,ConFit a
theorem AgtFit.big {q:Agt} (h:AgtFit q):AgtBig q:=⟨h.1.1,h.2.1,fun a ha=>(h.2.2 a ha).1⟩
end
section
open Go.RowKit
def AgtTwo (w0:World) (b p c r:Nat) (q:Agt) (xo:Option Addr) (xl xc:Nat) (xo':Option Addr) (xc':Nat) (w:World):Prop:=AgtAt w b p q xo xl xc∧AgtAt w c r q xo' xl xc'∧Below w0.heap.size w0 w
theorem AgtTwo.call {w0 w w':World} {b p c r:Nat} {q:Agt} {xo:Option Addr} {xl xc:Nat} {xo':Option Addr} {xc':Nat} (h:AgtTwo w0 b p c r q xo xl xc xo' xc' w) (hb:Below w.heap.size w w'):AgtTwo w0 b p c r q xo xl xc xo' xc' w':=⟨h.1.below hb,h.2.1.below hb,yB h.2.2 hb⟩
theorem AgtTwo.drew {w0 w:World} {b p c r:Nat} {q:Agt} {xo:Option Addr} {xl xc:Nat} {xo':Option Addr} {xc':Nat} (h:AgtTwo w0 b p c r q xo xl xc xo' xc' w):AgtTwo w0 b p c r q xo xl xc xo' xc' w.drew:=h.call (yH _ _).drew
theorem AgtTwo.read (w0:World) (b p c r:Nat) (q:Agt) (xo:Option Addr) (xl xc:Nat) (xo':Option Addr) (xc':Nat):∀wx,AgtTwo w0 b p c r q xo xl xc xo' xc' wx→wx.cell? ⟨b,p,none⟩=some (.string (bs q.name))∧wx.cell? ⟨b,p+1,none⟩=some (.int .i64 q.mem)∧wx.cell? ⟨b,p+2,none⟩=some (.int .i64 q.cpu)∧wx.cell? ⟨b,p+3,none⟩=some (.slice xo xl xc)∧wx.cell? ⟨c,r,none⟩=some (.string (bs q.name))∧wx.cell? ⟨c,r+1,none⟩=some (.int .i64 q.mem)∧wx.cell? ⟨c,r+2,none⟩=some (.int .i64 q.cpu)∧wx.cell? ⟨c,r+3,none⟩=some (.slice xo' xl xc'):=
 fun wx h=>⟨h.1.1,h.1.2.1,h.1.2.2.1,h.1.2.2.2.1,h.2.1.1,h.2.1.2.1,h.2.1.2.2.1,h.2.1.2.2.2.1⟩
end
end Go.Proofs.YtjkfappkpopbdaaGreat
