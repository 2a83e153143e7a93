/-
  Texts in one: AKey, MarkP, MarkO, IntL, IntLaw, AddR, NsV, AgV, RunM, RpV, AgK, AgT.
-/
import Derived.Test.YtmkedfdnokmglaaGreatPackD
import Derived.Test.YtmkedfdnokmglaaGreatPackF
import Derived.Test.YtmkedfdnokmglaaGreatPackE
import Derived.ChangeSlices
import Derived.Laws.Tables
import Derived.Deep.MidRow
import Derived.Laws.Rows
set_option maxRecDepth 100000
set_option maxHeartbeats 16000000
set_option linter.unusedVariables false
set_option linter.unusedSimpArgs false
namespace Go.Proofs.YtmkedfdnokmglaaGreat
section
open Go.RowKit Go.Maps
structure AV where
 id:Int
 queue:List UInt8
 ao:Option Addr
 len:Nat
 cap:Nat
def AVAt (w:World) (b p:Nat) (v:AV):Prop:=
 w.cell? ⟨b,p,none⟩=some (.int .i64 v.id)∧w.cell? ⟨b,p+1,none⟩=some (.string (bs v.queue))∧w.cell? ⟨b,p+2,none⟩=some (.slice v.ao v.len v.cap)
theorem AVAt.lt {w:World} {b p:Nat} {v:AV} (h:AVAt w b p v):b<w.heap.size:=yG h.1
theorem AVAt.below {w w':World} {b p:Nat} {v:AV} (h:AVAt w b p v) (hb:Below w.heap.size w w'):AVAt w' b p v:=
 ⟨(hb.cell h.lt).trans h.1,(hb.cell h.lt).trans h.2.1,(hb.cell h.lt).trans h.2.2⟩
def AVRow (w:World) (ao:Option Addr) (len:Nat) (l:List AV):Prop:=
 len=l.length∧(len=0∨∃b off,ao=some ⟨b,off,none⟩∧∀i (h:i<l.length),AVAt w b (off+i*3) l[i])
theorem AVRow.below {w w':World} {ao:Option Addr} {len:Nat} {l:List AV} (h:AVRow w ao len l) (hb:Below w.heap.size w w'):AVRow w' ao len l:=by
 obtain ⟨h1,h2⟩:=h
 refine ⟨h1,?_⟩
 rcases h2 with h2 | ⟨b,off,h3,h4⟩
 ·exact .inl h2
 ·exact .inr ⟨b,off,h3,fun i h=>(h4 i h).below hb⟩
theorem AVRow.at {w:World} {ao:Option Addr} {len:Nat} {l:List AV} (h:AVRow w ao len l) {i:Nat} (hi:i<len):∃b off,ao=some ⟨b,off,none⟩∧∀(h:i<l.length),AVAt w b (off+i*3) l[i]:=by
 obtain ⟨h1,h2⟩:=h
 rcases h2 with h2 | ⟨b,off,h3,h4⟩
 ·omega
 ·exact ⟨b,off,h3,fun hi=>h4 i hi⟩
def addrD:Option Addr→DataW Unit
 | none=>.agg []
 | some ⟨b,o,none⟩=>.agg [.lit (.int .i64 b),.lit (.int .i64 o)]
 | some ⟨b,o,some k⟩=>.agg [.lit (.int .i64 b),.lit (.int .i64 o),.lit (.int .i64 k)]
def ad (v:AV):DataW Unit:=.agg [.lit (.int .i64 v.id),.lit (.string v.queue),addrD v.ao,.lit (.int .i64 v.len),.lit (.int .i64 v.cap)]
def findA (id:Int) (l:List AV):Option AV:=l.find? (fun v=>decide (v.id=id))
def KnownA (l:List AV) (keep:Lit→AV→Bool) (D:DataW Unit):Prop:=
 (∀kl,Maps.has D kl=true→∃v,findA v.id l=some v∧keyOf Tryz.prog 217 (keyv [] v.id)=some kl∧∀zd,D.atKey kl zd=ad v)∧
 (∀v kl,findA v.id l=some v→keyOf Tryz.prog 217 (keyv [] v.id)=some kl→Maps.has D kl=keep kl v)
abbrev allA:Lit→AV→Bool:=fun _ _=>true
theorem KnownA.put {l:List AV} {D:DataW Unit} (h:KnownA l allA D) (hD:IsMap D) {m:AV} {kl:Lit} (hk:keyOf Tryz.prog 217 (keyv [] m.id)=some kl):KnownA (m::l) allA (D.put kl (ad m)):=by
 have hne:∀(kl':Lit) (v:AV),kl'≠kl→keyOf Tryz.prog 217 (keyv [] v.id)=some kl'→¬m.id=v.id:=fun kl' v e hv e'=>e (by rw [←e'] at hv;rw [hk] at hv;exact (Option.some.inj hv).symm)
 refine ⟨fun kl' hh=>?_,fun v kl' h1 h2=>?_⟩
 ·by_cases e:kl'=kl
  ·subst e
   exact ⟨m,by simp [findA],hk,fun zd=>atKey_put_same hD (keyLaw.key hk) _ _⟩
  ·rw [has_put_other e] at hh
   obtain ⟨v,h1,h2,h3⟩:=h.1 kl' hh
   exact ⟨v,by have:=hne kl' v e h2;simpa [findA,this] using h1,h2,fun zd=>by rw [atKey_put_other e];exact h3 zd⟩
 ·by_cases e:kl'=kl
  ·subst e
   exact has_put_same hD (keyLaw.key hk) _
  ·rw [has_put_other e]
   exact h.2 v kl' (by have:=hne kl' v e h2;simpa [findA,this] using h1) h2
end
section
open Go.RowKit
def AsksM (w:World):Nat→List AV→Prop
 | _,[]=>True
 | K,v::t=>AskRow w v.ao v.len (marksA (K+2) v.len)∧AsksM w (K+2+5*v.len) t
theorem AsksM.below {w w':World} (hb:Below w.heap.size w w'):∀(l:List AV) (K:Nat),AsksM w K l→AsksM w' K l
 | [],_,_=>trivial
 | v::t,K,h=>⟨h.1.below hb,AsksM.below hb t _ h.2⟩
def AVOne (w0:World) (b p:Nat) (q:AV) (w:World):Prop:=AVAt w b p q∧Below w0.heap.size w0 w
theorem AVOne.call {w0 w w':World} {b p:Nat} {q:AV} (h:AVOne w0 b p q w) (hb:Below w.heap.size w w'):AVOne w0 b p q w':=⟨h.1.below hb,yB h.2 hb⟩
theorem AVOne.drew {w0 w:World} {b p:Nat} {q:AV} (h:AVOne w0 b p q w):AVOne w0 b p q w.drew:=h.call (yH _ _).drew
theorem AVOne.read (w0:World) (b p:Nat) (q:AV):∀wx,AVOne w0 b p q wx→wx.cell? ⟨b,p,none⟩=some (.int .i64 q.id)∧wx.cell? ⟨b,p+1,none⟩=some (.string (bs q.queue))∧wx.cell? ⟨b,p+2,none⟩=some (.slice q.ao q.len q.cap):=fun wx h=>h.1
structure Mks (S:Nat→Prop) (w w':World):Prop where
 os:w'.os=w.os
 tape:w'.tape=w.tape
 output:w'.output=w.output
 size:w.heap.size≤w'.heap.size
 block:∀k,k<w.heap.size→¬S k→w'.heap[k]? = w.heap[k]?
 cel:∀t g N,Cel w t g N→Cel w' t g N
theorem Mks.refl (S:Nat→Prop) (w:World):Mks S w w:=⟨rfl,rfl,rfl,yJ _,fun _ _ _=>rfl,fun _ _ _ h=>h⟩
theorem Mks.trans {S:Nat→Prop} {a b c:World} (h:Mks S a b) (k:Mks S b c):Mks S a c:=
 ⟨k.os.trans h.os,k.tape.trans h.tape,k.output.trans h.output,Nat.le_trans h.size k.size,fun i hi ho=>(k.block i (Nat.lt_of_lt_of_le hi h.size) ho).trans (h.block i hi ho),fun t g N x=>k.cel t g N (h.cel t g N x)⟩
theorem Mks.mono {S S':Nat→Prop} {a b:World} (h:Mks S a b) (hs:∀k,S k→S' k):Mks S' a b:=
 ⟨h.os,h.tape,h.output,h.size,fun i hi ho=>h.block i hi (fun hk=>ho (hs i hk)),h.cel⟩
theorem Mks.of_below {S:Nat→Prop} {w w':World} (hb:Below w.heap.size w w'):Mks S w w':=⟨hb.os,hb.tape,hb.output,hb.size,fun i hi _=>hb.block i hi,fun t g N x=>x.below hb⟩
theorem Mks.on {S:Nat→Prop} {a w w':World} (h:Mks S a w) (hb:Below w.heap.size w w'):Mks S a w':=h.trans (.of_below hb)
theorem Mks.one (S:Nat→Prop) (w:World) (g j:Nat) (v:Value) (hg:S g):Mks S w (w.setCell ⟨g,j,none⟩ v):=
 ⟨rfl,rfl,rfl,by simp [World.setCell],fun k _ ho=>Below.heap_setCell _ _ _ _ (by show k≠g;intro e;exact ho (e ▸ hg)),fun t g' N x=>x.set g j v⟩
theorem Mks.sc {S:Nat→Prop} {a w:World} (h:Mks S a w) (g j:Nat) (v:Value) (hg:S g):Mks S a (w.setCell ⟨g,j,none⟩ v):=h.trans (.one S w g j v hg)
theorem Mkd.mks {g:Nat} {w w':World} (h:Mkd g (g+1) w w'):Mks (fun k=>k=g) w w':=⟨h.os,h.tape,h.output,h.size,fun i hi ho=>h.block i hi (by omega),h.cel⟩
theorem Mks.below {S:Nat→Prop} {B:Nat} {a w:World} (h:Mks S a w) (hS:∀k,S k→B≤k) (hB:B≤a.heap.size):Below B a w:=
 ⟨h.os,h.tape,h.output,h.size,fun k hk=>h.block k (by omega) (fun hs=>by have:=hS k hs;omega)⟩
theorem Mks.blk {S:Nat→Prop} {g:Nat} {a w:World} {arr:Array Value} {t:TypeId} (h:Mks S a w) (hb:Blk a g arr t) (ho:¬S g):Blk w g arr t:=(h.block g hb.lt ho).trans hb
def inR (ao:Option Addr) (n:Nat) (k:Nat):Prop:=n≠0∧∃o,ao=some ⟨k,o,none⟩
def Own1 (B E:Nat) (w:World) (t:TypeId) (sz:Nat) (ao:Option Addr) (n:Nat):Prop:=n=0∨∃g M,ao=some ⟨g,0,none⟩∧B≤g∧g<E∧Cel w t g (M*sz)∧n≤M
theorem Own1.below {B E:Nat} {w w':World} {t:TypeId} {sz n:Nat} {ao:Option Addr} (h:Own1 B E w t sz ao n) (hb:Below w.heap.size w w'):Own1 B E w' t sz ao n:=by
 rcases h with h | ⟨g,M,h1,h2,h3,h4,h5⟩
 ·exact .inl h
 ·exact .inr ⟨g,M,h1,h2,h3,h4.below hb,h5⟩
theorem Own1.mks {B E:Nat} {w w':World} {t:TypeId} {sz n:Nat} {ao:Option Addr} {S:Nat→Prop} (h:Own1 B E w t sz ao n) (hb:Mks S w w'):Own1 B E w' t sz ao n:=by
 rcases h with h | ⟨g,M,h1,h2,h3,h4,h5⟩
 ·exact .inl h
 ·exact .inr ⟨g,M,h1,h2,h3,hb.cel _ _ _ h4,h5⟩
theorem Own1.sc {B E:Nat} {w:World} {t:TypeId} {sz n:Nat} {ao:Option Addr} (h:Own1 B E w t sz ao n) (k j:Nat) (v:Value):Own1 B E (w.setCell ⟨k,j,none⟩ v) t sz ao n:=by
 rcases h with h | ⟨g,M,h1,h2,h3,h4,h5⟩
 ·exact .inl h
 ·exact .inr ⟨g,M,h1,h2,h3,h4.set k j v,h5⟩
theorem Own1.mono {B E B' E':Nat} {w:World} {t:TypeId} {sz n:Nat} {ao:Option Addr} (h:Own1 B E w t sz ao n) (h1:B'≤B) (h2:E≤E'):Own1 B' E' w t sz ao n:=by
 rcases h with h | ⟨g,M,a,b,c,d⟩
 ·exact .inl h
 ·exact .inr ⟨g,M,a,by omega,by omega,d⟩
theorem cellMks {S:Nat→Prop} {w w':World} {g p:Nat} {u:Value} (h:w.cell? ⟨g,p,none⟩=some u) (hm:Mks S w w') (hg:¬S g):w'.cell? ⟨g,p,none⟩=some u:=
 (World.cell?_of_block (w:=w) (a:=⟨g,p,none⟩) (hm.block g (yG h) hg)).trans h
theorem QRow.mks {S:Nat→Prop} {w w':World} {ao:Option Addr} {len:Nat} {l:List Q} (h:QRow w ao len l) (hm:Mks S w w') (hs:∀k,inR ao len k→¬S k):QRow w' ao len l:=by
 obtain ⟨h1,h2⟩:=h
 refine ⟨h1,?_⟩
 rcases h2 with h2 | ⟨b,off,h3,h4⟩
 ·exact .inl h2
 ·by_cases hz:len=0
  ·exact .inl hz
  ·have hb:=hs b ⟨hz,off,h3⟩
   exact .inr ⟨b,off,h3,fun i h=>let ⟨a,c,d,e⟩:=h4 i h;⟨cellMks a hm hb,cellMks c hm hb,cellMks d hm hb,cellMks e hm hb⟩⟩
theorem MacRow.mks {S:Nat→Prop} {w w':World} {ao:Option Addr} {len:Nat} {l:List Mac} (h:MacRow w ao len l) (hm:Mks S w w') (hs:∀k,inR ao len k→¬S k):MacRow w' ao len l:=by
 obtain ⟨h1,h2⟩:=h
 refine ⟨h1,?_⟩
 rcases h2 with h2 | ⟨b,off,h3,h4⟩
 ·exact .inl h2
 ·by_cases hz:len=0
  ·exact .inl hz
  ·have hb:=hs b ⟨hz,off,h3⟩
   exact .inr ⟨b,off,h3,fun i h=>let ⟨a,c,d,e⟩:=h4 i h;⟨cellMks a hm hb,cellMks c hm hb,cellMks d hm hb,cellMks e hm hb⟩⟩
theorem ConRow.mks {S:Nat→Prop} {w w':World} {ao:Option Addr} {len:Nat} {l:List Con} (h:ConRow w ao len l) (hm:Mks S w w') (hs:∀k,inR ao len k→¬S k):ConRow w' ao len l:=by
 obtain ⟨h1,h2⟩:=h
 refine ⟨h1,?_⟩
 rcases h2 with h2 | ⟨b,off,h3,h4⟩
 ·exact .inl h2
 ·by_cases hz:len=0
  ·exact .inl hz
  ·have hb:=hs b ⟨hz,off,h3⟩
   exact .inr ⟨b,off,h3,fun i h=>let ⟨a,c,d,e,f⟩:=h4 i h;⟨cellMks a hm hb,cellMks c hm hb,cellMks d hm hb,cellMks e hm hb,cellMks f hm hb⟩⟩
theorem AskRow.mks {S:Nat→Prop} {w w':World} {ao:Option Addr} {len:Nat} {l:List Ask} (h:AskRow w ao len l) (hm:Mks S w w') (hs:∀k,inR ao len k→¬S k):AskRow w' ao len l:=by
 obtain ⟨h1,h2⟩:=h
 refine ⟨h1,?_⟩
 rcases h2 with h2 | ⟨b,off,h3,h4⟩
 ·exact .inl h2
 ·by_cases hz:len=0
  ·exact .inl hz
  ·have hb:=hs b ⟨hz,off,h3⟩
   exact .inr ⟨b,off,h3,fun i h=>let ⟨a,c,d,e,f⟩:=h4 i h;⟨cellMks a hm hb,cellMks c hm hb,cellMks d hm hb,cellMks e hm hb,cellMks f hm hb⟩⟩
theorem AVRow.mks {S:Nat→Prop} {w w':World} {ao:Option Addr} {len:Nat} {l:List AV} (h:AVRow w ao len l) (hm:Mks S w w') (hs:∀k,inR ao len k→¬S k):AVRow w' ao len l:=by
 obtain ⟨h1,h2⟩:=h
 refine ⟨h1,?_⟩
 rcases h2 with h2 | ⟨b,off,h3,h4⟩
 ·exact .inl h2
 ·by_cases hz:len=0
  ·exact .inl hz
  ·have hb:=hs b ⟨hz,off,h3⟩
   exact .inr ⟨b,off,h3,fun i h=>let ⟨a,c,d⟩:=h4 i h;⟨cellMks a hm hb,cellMks c hm hb,cellMks d hm hb⟩⟩
theorem AsksM.mks {S:Nat→Prop} {w w':World} (hm:Mks S w w'):∀(l:List AV) (K:Nat),AsksM w K l→(∀v ∈ l,∀k,inR v.ao v.len k→¬S k)→AsksM w' K l
 | [],_,_,_=>trivial
 | v::t,K,h,hs=>⟨h.1.mks hm (hs v (by simp)),AsksM.mks hm t _ h.2 (fun u hu=>hs u (by simp [hu]))⟩
def AVBlk (w:World) (g M:Nat) (l:List AV):Prop:=Cel w 174 g (M*3)∧l.length≤M∧∀i (h:i<l.length),AVAt w g (i*3) l[i]
theorem AVBlk.below {w w':World} {g M:Nat} {l:List AV} (h:AVBlk w g M l) (hb:Below w.heap.size w w'):AVBlk w' g M l:=⟨h.1.below hb,h.2.1,fun i hi=>(h.2.2 i hi).below hb⟩
theorem AVBlk.mks {S:Nat→Prop} {w w':World} {g M:Nat} {l:List AV} (h:AVBlk w g M l) (hm:Mks S w w') (hs:¬S g):AVBlk w' g M l:=
 ⟨hm.cel _ _ _ h.1,h.2.1,fun i hi=>let ⟨a,b,c⟩:=h.2.2 i hi;⟨cellMks a hm hs,cellMks b hm hs,cellMks c hm hs⟩⟩
theorem AVBlk.id {w:World} {g M i:Nat} {l:List AV} (h:AVBlk w g M l) (hi:i<l.length) (x:Int):AVBlk (w.setCell ⟨g,i*3,none⟩ (.int .i64 x)) g M (l.set i ⟨x,l[i].queue,l[i].ao,l[i].len,l[i].cap⟩):=by
 refine ⟨h.1.set _ _ _,by simpa using h.2.1,fun j hj=>?_⟩
 have hj':j<l.length:=by simpa using hj
 obtain ⟨a,b,c⟩:=h.2.2 j hj'
 by_cases e:i=j
 ·subst e
  simp only [List.getElem_set_self]
  exact ⟨World.cell?_setCell_same _ ⟨g,i*3,none⟩ _ a,cellKeep b (by omega),cellKeep c (by omega)⟩
 ·rw [List.getElem_set_ne e]
  exact ⟨cellKeep a (by omega),cellKeep b (by omega),cellKeep c (by omega)⟩
theorem AVBlk.row {w:World} {g M:Nat} {l:List AV} (h:AVBlk w g M l):AVRow w (some ⟨g,0,none⟩) l.length l:=⟨rfl,.inr ⟨g,0,rfl,fun i hi=>by rw [Nat.zero_add];exact h.2.2 i hi⟩⟩
end
section
open Go.RowKit Go.ChangeShapes
def IBlk (w:World) (t:TypeId) (g n k:Nat) (l:List Int):Prop:=
 ∃arr:Array Value,w.heap[g]? = some (.cells arr t (0,0))∧arr.size=n∧∀i (h:i<l.length),i<k→arr[i]? = some (.int .i64 l[i])
theorem IBlk.lt {w:World} {t:TypeId} {g n k:Nat} {l:List Int} (h:IBlk w t g n k l):g<w.heap.size:=let ⟨_,h,_⟩:=h;lt_of_block h
theorem IBlk.below {w w':World} {t:TypeId} {g n k:Nat} {l:List Int} (h:IBlk w t g n k l) (hb:Below w.heap.size w w'):IBlk w' t g n k l:=by
 have hlt:=h.lt
 obtain ⟨arr,h1,h2⟩:=h
 exact ⟨arr,(hb.block g hlt).trans h1,h2⟩
theorem IBlk.cell {w:World} {t:TypeId} {g n k:Nat} {l:List Int} (h:IBlk w t g n k l) {j:Nat} (hj:j<n):∃v,w.cell? ⟨g,j,none⟩=some v:=by
 obtain ⟨arr,h1,h2,_⟩:=h
 exact ⟨arr[j]'(by omega),by simp [World.cell?,h1,Array.getElem?_eq_getElem (show j<arr.size by omega)]⟩
theorem IBlk.frozen {w:World} {t:TypeId} {g n k:Nat} {l:List Int} (h:IBlk w t g n k l) (j:Nat):w.frozen? ⟨g,j,none⟩=false:=by
 obtain ⟨arr,h1,h2,_⟩:=h
 simp [World.frozen?,h1]
theorem IBlk.row {w:World} {t:TypeId} {g n:Nat} {l:List Int} (h:IBlk w t g n n l) (hl:n=l.length):NRow w (some ⟨g,0,none⟩) n l:=by
 obtain ⟨arr,h1,h2,h3⟩:=h
 refine ⟨hl,.inr ⟨g,0,rfl,fun i hi=>?_⟩⟩
 have a:=h3 i hi (by omega)
 simp only [Nat.zero_add]
 simp [World.cell?,h1,a]
theorem iblk_made (w:World) (t:TypeId) (z:Array Value) (n:Nat) (l:List Int):IBlk (w.alloc (.cells (madeCells z n) t)) t w.heap.size n 0 l:=
 ⟨madeCells z n,by show (w.heap.push _)[w.heap.size]? = _;simp,size_madeCells _ _,fun i _ h=>absurd h (by omega)⟩
theorem IBlk.step {w:World} {t:TypeId} {g n k:Nat} {l:List Int} (h:IBlk w t g n k l) (hk:k<n) (hl:k<l.length):IBlk (w.setCell ⟨g,k,none⟩ (.int .i64 l[k])) t g n (k+1) l:=by
 obtain ⟨arr,h1,h2,h3⟩:=h
 refine ⟨_,heap_setCell_same w g k _ _ (.int .i64 l[k]) h1,by simp [h2],fun i hi hik=>?_⟩
 by_cases e:i=k
 ·subst e
  simp [Array.getElem?_setIfInBounds,h2]
  omega
 ·have a:=h3 i hi (by omega)
  rw [←a];simp only [Array.getElem?_setIfInBounds];rw [if_neg (by omega)]
theorem IBlk.put {w:World} {t:TypeId} {g n k:Nat} {l:List Int} (h:IBlk w t g n k l) (j:Nat) (v:Value):IBlk (w.setCell ⟨g,j,none⟩ v) t g n 0 l:=by
 obtain ⟨arr,h1,h2,h3⟩:=h
 exact ⟨_,heap_setCell_same w g j _ _ v h1,by simp [h2],fun i hi hik=>absurd hik (by omega)⟩
theorem IBlk.none {w:World} {t:TypeId} {g n k:Nat} {l:List Int} (h:IBlk w t g n k l):IBlk w t g n 0 l:=by
 obtain ⟨arr,h1,h2,h3⟩:=h
 exact ⟨arr,h1,h2,fun i hi hik=>absurd hik (by omega)⟩
theorem IBlk.mks {S:Nat→Prop} {w w':World} {t:TypeId} {g n k:Nat} {l:List Int} (h:IBlk w t g n k l) (hm:Mks S w w') (hg:¬S g):IBlk w' t g n k l:=by
 have hlt:=h.lt
 obtain ⟨arr,h1,h2⟩:=h
 exact ⟨arr,(hm.block g hlt hg).trans h1,h2⟩
theorem IBlk.mkd {B E:Nat} {w w':World} {t:TypeId} {g n k:Nat} {l:List Int} (h:IBlk w t g n k l) (hm:Mkd B E w w') (hg:g<B∨E≤g):IBlk w' t g n k l:=by
 have hlt:=h.lt
 obtain ⟨arr,h1,h2⟩:=h
 exact ⟨arr,(hm.block g hlt hg).trans h1,h2⟩
theorem IBlk.al {w:World} {t:TypeId} {g n k:Nat} {l:List Int} (h:IBlk w t g n k l) (o:Obj):IBlk (w.alloc o) t g n k l:=h.below (yA (yH _ _) o)
theorem make_ints (n:Nat) (hn:n≤1048576) (w:World) :
  (Instr.makeSlice 35 (.int .i64 (n:Int)) (.int .i64 (n:Int))).run Tryz.prog w=.ok (.slice (some ⟨w.heap.size,0,none⟩) n n) (w.alloc (.cells (madeCells (Value.int .i64 0).cells n) 3)):=by
 obtain ⟨i,hi,hz⟩:=Option.map_eq_some_iff.1 Tryz.infoI
 simp only [Prod.mk.injEq] at hz
 obtain ⟨hz,hs,hb⟩:=hz
 have hr:=run_make (P:=Tryz.prog) w 35 3 i _ Tryz.underlying35 hi hz .i64 .i64 n n (by omega) (Int.le_refl _) (by rw [hb];omega) (by omega)
 simp only [Int.toNat_natCast,hs,Nat.mul_one] at hr
 exact hr
theorem toIntS_any (ao:Option Addr) (len cap:Nat) (l:List Int) (w:World) (h:NRow w ao len l) (hl:len≤1048576) :
  Calls Tryz.prog 86 #[.slice ao len cap] w fun e w'=>e=.returned (.slice (some ⟨w.heap.size,0,none⟩) len len)∧IBlk w' 3 w.heap.size len len l∧Below w.heap.size w w':=by
 have HR:=hide h
 have HL:=hide h.1
 have hmk:=make_ints len hl w
 obtain ⟨zs,hzs⟩:∃z,z=(Value.int .i64 0).cells:=⟨_,rfl⟩
 rw [←hzs] at hmk
 clear h hzs
 go_enter Tryz.func86,Tryz.ntmps86
 go_wp2
 clear hmk
 go_loopw [4] (fun i wr=>∃k:Nat,k≤len∧i=.int .i64 k∧Hid (IBlk wr 3 w.heap.size len k l)∧Hid (Below w.heap.size w wr)) (fun i _=>len - (intOf i).toNat)
 case atStart=>exact ⟨0,Nat.zero_le _,rfl,hide (iblk_made w _ _ _ _),hide (yA (yH _ _) _)⟩
 case round=>
  obtain ⟨k,hk,rfl,HQ,HB⟩:=hrel
  by_cases hlt:k<len
  ·obtain ⟨b,off,rfl,hq⟩:=((uH HR).below (uH HB)).at hlt
   have hkl:k<l.length:=by have:=uH HL;omega
   have c0:=hq hkl
   have HST:=hide ((uH HQ).step hlt hkl)
   obtain ⟨q,hs⟩:∃q,l[k]=q:=⟨_,rfl⟩
   rw [hs] at c0 HST
   clear hq hs hkl
   obtain ⟨v0,d0⟩:=(uH HQ).cell (j:=k) (by omega)
   have f0:=(uH HQ).frozen k
   go_wp2
   go_roundw
   case rel=>exact ⟨k+1,by omega,by go_num,HST,hide (yC (uH HB) _ _ _ (by omega))⟩
   case measure=>simp [intOf];omega
  ·have hkk:k=len:=by omega
   subst hkk
   go_wp2
   go_ret
   exact ⟨rfl,uH HQ,uH HB⟩
def ITwo (w0:World) (b p c r:Nat) (q:Int) (w:World):Prop:=w.cell? ⟨b,p,none⟩=some (.int .i64 q)∧w.cell? ⟨c,r,none⟩=some (.int .i64 q)∧Below w0.heap.size w0 w
theorem ITwo.call {w0 w w':World} {b p c r:Nat} {q:Int} (h:ITwo w0 b p c r q w) (hb:Below w.heap.size w w'):ITwo w0 b p c r q w':=⟨(hb.cell (yG h.1)).trans h.1,(hb.cell (yG h.2.1)).trans h.2.1,yB h.2.2 hb⟩
theorem ITwo.drew {w0 w:World} {b p c r:Nat} {q:Int} (h:ITwo w0 b p c r q w):ITwo w0 b p c r q w.drew:=h.call (yH _ _).drew
theorem ITwo.read (w0:World) (b p c r:Nat) (q:Int):∀wx,ITwo w0 b p c r q wx→wx.cell? ⟨b,p,none⟩=some (.int .i64 q)∧wx.cell? ⟨c,r,none⟩=some (.int .i64 q):=fun wx h=>⟨h.1,h.2.1⟩
theorem eqIntS_big (ao bo:Option Addr) (len cap ccap:Nat) (l:List Int) (w:World) (h:NRow w ao len l) (h':NRow w bo len l) (hl:len≤2000000000000) :
  Calls Tryz.prog 9 #[.slice ao len cap,.slice bo len ccap] w fun e w'=>e=.returned (.bool true)∧Below w.heap.size w w':=by
 have HR:=hide h
 have HR':=hide h'
 have HL:=hide h.1
 clear h h'
 go_enter Tryz.func9,Tryz.ntmps9
 go_wp2
 go_loopw [5] (fun i wr=>∃k:Nat,k≤len∧i=.int .i64 k∧Hid (Below w.heap.size w wr)) (fun i _=>len - (intOf i).toNat)
 case atStart=>exact ⟨0,Nat.zero_le _,rfl,hide (yH _ _)⟩
 case round=>
  obtain ⟨k,hk,rfl,HB⟩:=hrel
  by_cases hlt:k<len
  ·obtain ⟨b,off,rfl,hq⟩:=((uH HR).below (uH HB)).at hlt
   obtain ⟨c,coff,rfl,hq'⟩:=((uH HR').below (uH HB)).at hlt
   have hkl:k<l.length:=by have:=uH HL;omega
   have A0:=hide (show ITwo w b (off+k) c (coff+k) l[k] wr from ⟨hq hkl,hq' hkl,uH HB⟩)
   obtain ⟨q,hs⟩:∃q,l[k]=q:=⟨_,rfl⟩
   rw [hs] at A0
   have R:=ITwo.read w b (off+k) c (coff+k) q
   have k0:(0:Int)≤k:=by omega
   have k1:(k:Int)<len:=by omega
   clear hq hq' hs hkl
   go_wp2_with fail
   go_region_held3 (fun wx=>ITwo w b (off+k) c (coff+k) q wx)
    (first | (with_reducible assumption) | exact (uH A0).drew | exact ITwo.call (by assumption) (by assumption))
    (fail)
   all_goals
    have HB2:=hide (uH A0).drew.2.2
    clear R A0
    go_wp2
    go_roundw
    case rel=>exact ⟨k+1,by omega,by go_num,HB2⟩
    case measure=>simp [intOf];omega
  ·go_wp2
   go_ret
   exact ⟨rfl,uH HB⟩
theorem eqIntS_same (ao bo:Option Addr) (len cap ccap:Nat) (l:List Int) (w:World) (h:NRow w ao len l) (h':NRow w bo len l) (hl:len≤1048576) :
  Calls Tryz.prog 9 #[.slice ao len cap,.slice bo len ccap] w fun e w'=>e=.returned (.bool true)∧Below w.heap.size w w':=eqIntS_big ao bo len cap ccap l w h h' (by omega)
theorem open_introw {H:Type} {enc:TypeId×Value→H} {W:World} {base:Nat} {held:Bool} {ao:Option Addr} {len cap:Nat} {d:DataW H} {p:List MemPlace}
  (h:DataW.Trod enc Tryz.prog W base (fun _=>true) held 35 (.slice ao len cap) d p) :
  ∃l:List Int,NRow W ao len l∧len≤9223372036854775807:=by
 obtain ⟨fuel,hf⟩:=h
 rcases open_ints Tryz.underlying35 Tryz.underlying3 (by kernel_rfl) hf with ⟨hcs,_⟩ | ⟨a,l,c,zs,hcs,_,hl,hm,hz,_,hcell,hwz⟩
 ·simp [Value.cells] at hcs
  obtain ⟨rfl,rfl,rfl⟩:=hcs
  exact ⟨[],⟨rfl,.inl rfl⟩,by omega⟩
 ·simp [Value.cells] at hcs
  obtain ⟨rfl,rfl,rfl⟩:=hcs
  simp only [if_true] at hz
  have hmx:maxLen=9223372036854775807:=rfl
  refine ⟨zs.take len,⟨by simp;omega,?_⟩,by omega⟩
  by_cases h0:len=0
  ·exact .inl h0
  ·right
   obtain ⟨b,off,spot⟩:=a
   have hc0:=hcell 0 (by omega)
   have hspot:spot=none:=by simpa [Addr.add] using World.cell?_spot hc0
   subst hspot
   refine ⟨b,off,rfl,fun i hi=>?_⟩
   have hi':i<len∧i<zs.length:=by simp only [List.length_take] at hi;omega
   have:=hcell i hi'.2
   rw [Lib.add_plain] at this
   rw [this]
   simp [List.getElem?_eq_getElem hi'.2]
end
section
open Go.RowKit
def imarks (k:Int) (n:Nat):List Int:=(List.range n).map (fun i:Nat=>k+(i:Int))
theorem imarks_len (k:Int) (n:Nat):(imarks k n).length=n:=by simp [imarks]
theorem imarks_at {k:Int} {n i:Nat} (h:i<(imarks k n).length):(imarks k n)[i]=k+(i:Int):=by simp [imarks]
def IAns (B E:Nat) (w:World) (v:Value) (l:List Int):Prop:=∃ao cap,v=.slice ao l.length cap∧(l≠[]→∃g M,ao=some ⟨g,0,none⟩∧l.length≤M∧IBlk w 3 g M l.length l∧B≤g∧g<E)
theorem IOwn.ans {B:Nat} {w:World} {v:Value} {l:List Int} (h:IOwn B w v l):IAns B w.heap.size w v l:=by
 rcases h.2 with ⟨rfl,h0⟩ | ⟨g,cap,cur,rfl,h1,h2,h3,h4,h5,h6⟩
 ·exact ⟨none,0,by rw [h0],fun e=>absurd (List.length_eq_zero_iff.1 h0) e⟩
 ·refine ⟨_,cap,rfl,fun _=>⟨g,cap,rfl,h3,⟨cur,h2,by omega,fun i hi _=>?_⟩,h1,lt_of_block h2⟩⟩
  have hv:(icells l)[i]? = some (.int .i64 l[i]):=by simp [icells,hi]
  rw [←h6,List.getElem?_take_of_lt (by simpa using hi)] at hv
  simpa using hv
theorem IAns.below {B E:Nat} {w w':World} {v:Value} {l:List Int} (h:IAns B E w v l) (hb:Below w.heap.size w w'):IAns B E w' v l:=by
 obtain ⟨ao,c,rfl,k⟩:=h
 exact ⟨ao,c,rfl,fun hp=>let ⟨g,M,e,hM,hs,h1,h2⟩:=k hp;⟨g,M,e,hM,hs.below hb,h1,h2⟩⟩
theorem IAns.mkd {B E B' E':Nat} {w w':World} {v:Value} {l:List Int} (h:IAns B E w v l) (hm:Mkd B' E' w w') (hd:E≤B'∨E'≤B):IAns B E w' v l:=by
 obtain ⟨ao,c,rfl,k⟩:=h
 exact ⟨ao,c,rfl,fun hp=>let ⟨g,M,e,hM,hs,h1,h2⟩:=k hp;⟨g,M,e,hM,hs.mkd hm (by omega),h1,h2⟩⟩
theorem IAns.low {B E C:Nat} {w w':World} {v:Value} {l:List Int} (h:IAns B E w v l) (hb:Below C w w') (hE:E≤C):IAns B E w' v l:=by
 obtain ⟨ao,c,rfl,k⟩:=h
 refine ⟨ao,c,rfl,fun hp=>?_⟩
 obtain ⟨g,M,e,hM,⟨arr,a1,a2⟩,h1,h2⟩:=k hp
 exact ⟨g,M,e,hM,⟨arr,(hb.block g (by omega)).trans a1,a2⟩,h1,h2⟩
theorem iblk_nrow {w:World} {t:TypeId} {g M:Nat} {l:List Int} (h:IBlk w t g M l.length l):NRow w (some ⟨g,0,none⟩) l.length l:=by
 obtain ⟨arr,h1,h2,h3⟩:=h
 refine ⟨rfl,.inr ⟨g,0,rfl,fun i hi=>?_⟩⟩
 have a:=h3 i hi hi
 simp only [Nat.zero_add]
 simp [World.cell?,h1,a]
theorem IAns.row {B E:Nat} {w:World} {v:Value} {l:List Int} (h:IAns B E w v l):∃ao cap,v=.slice ao l.length cap∧NRow w ao l.length l:=by
 obtain ⟨ao,c,rfl,k⟩:=h
 refine ⟨ao,c,rfl,?_⟩
 by_cases hp:l=[]
 ·subst hp
  exact ⟨rfl,.inl rfl⟩
 ·obtain ⟨g,M,rfl,hM,hs,_⟩:=k hp
  exact iblk_nrow hs
def IMk (B E:Nat) (w:World) (v:Value) (n:Nat):Prop:=∃ao cap,v=.slice ao n cap∧NRow w ao n (imarks 1 n)
theorem IMk.below {B E:Nat} {w w':World} {v:Value} {n:Nat} (h:IMk B E w v n) (hb:Below w.heap.size w w'):IMk B E w' v n:=by
 obtain ⟨ao,c,rfl,k⟩:=h
 exact ⟨ao,c,rfl,k.below hb⟩
theorem eqI_any' {B E B' E':Nat} {w:World} {v u:Value} {l:List Int} (h:IAns B E w v l) (k:IAns B' E' w u l) (hl:l.length≤1099511627776) :
  Calls Tryz.prog 9 #[v,u] w fun e w'=>e=.returned (.bool true)∧Below w.heap.size w w':=by
 obtain ⟨ao,c,rfl,h1⟩:=h.row
 obtain ⟨bo,d,rfl,k1⟩:=k.row
 exact eqIntS_big ao bo l.length c d l w h1 k1 (by omega)
theorem markI_nil (a:Option Addr) (c:Nat) (k:Int) (w:World) :
  Calls Tryz.prog 12 #[.slice a 0 c,.int .i64 k] w fun e w'=>e=.returned (.int .i64 k)∧w=w':=by
 go_enter Tryz.func12,Tryz.ntmps12
 go_wp2
 refine wp_loop_rounds 1 ?_
 rw [rounds_succ]
 go_wp2
 go_ret
 exact ⟨rfl,rfl⟩
theorem markI_own (g M n c K:Nat) (l:List Int) (w:World) (h:IBlk w 3 g M 0 l) (hM:n≤M) (hn:n≤2000000000000) (hK:K≤4611686018427387904) :
  Calls Tryz.prog 12 #[.slice (some ⟨g,0,none⟩) n c,.int .i64 (K:Int)] w fun e w'=>e=.returned (.int .i64 ((K:Int)+(n:Int)))∧IBlk w' 3 g M n (imarks K n)∧Mks (fun k=>k=g) w w':=by
 have HI:=hide (show IBlk w 3 g M 0 (imarks K n) from (let ⟨arr,h1,h2,_⟩:=h;⟨arr,h1,h2,fun i _ hk=>absurd hk (by omega)⟩))
 clear h
 go_enter Tryz.func12,Tryz.ntmps12
 go_wp2
 go_loopw [1,5] (fun s i wr=>∃(j:Nat) (k:Int),j≤n∧i=.int .i64 j∧s=.int .i64 k∧Hid (k=(K:Int)+(j:Int))∧Hid (IBlk wr 3 g M j (imarks K n))∧Hid (Mks (fun k=>k=g) w wr)) (fun _ i _=>n - (intOf i).toNat)
 case atStart=>exact ⟨0,K,Nat.zero_le _,rfl,rfl,hide (by simp),HI,hide (Mks.refl _ _)⟩
 case round=>
  obtain ⟨j,k,hj,rfl,rfl,hk,HV,HM⟩:=hrel
  have hkk:=uH hk
  by_cases hlt:j<n
  ·obtain ⟨v0,d0⟩:=(uH HV).cell (j:=j) (by omega)
   have f0:=(uH HV).frozen j
   have hjl:j<(imarks (K:Int) n).length:=by rw [imarks_len];exact hlt
   have HS:=hide (show IBlk (wr.setCell ⟨g,j,none⟩ (.int .i64 ((K:Int)+(j:Int)))) 3 g M (j+1) (imarks K n) from by
    have:=(uH HV).step (by omega) hjl
    rwa [imarks_at hjl] at this)
   clear hjl
   go_wp2
   go_roundw
   case rel=>exact ⟨j+1,k+1,by omega,by go_num,by go_num,hide (by omega),HS,hide ((uH HM).sc _ _ _ rfl)⟩
   case measure=>simp [intOf];omega
  ·obtain rfl:j=n:=by omega
   rw [hkk]
   go_wp2
   go_ret
   exact ⟨rfl,uH HV,uH HM⟩
theorem markI_any' {B E:Nat} {w:World} {v:Value} {l:List Int} (h:IAns B E w v l) (hE:E≤w.heap.size) (hB:B≤E) (hl:l.length≤1099511627776) :
  Calls Tryz.prog 12 #[v,.int .i64 1] w fun e w'=>e=.returned (.int .i64 (1+(l.length:Int)))∧IMk B E w' v l.length∧Below B w w'∧∀k,k<w.heap.size→(k<B∨E≤k)→w'.heap[k]? = w.heap[k]?:=by
 obtain ⟨ao,c,rfl,h1⟩:=h
 by_cases hp:l=[]
 ·subst hp
  refine (markI_nil ao c 1 w).mono ?_
  rintro e w' ⟨rfl,rfl⟩
  exact ⟨by simp,⟨ao,c,rfl,⟨by rw [imarks_len],.inl rfl⟩⟩,yH _ _,fun _ _ _=>rfl⟩
 ·obtain ⟨g,M,rfl,hM,hs,hb,he⟩:=h1 hp
  refine (markI_own g M l.length c 1 l w hs.none hM (by omega) (by omega)).mono ?_
  rintro e w' ⟨rfl,hm,hg⟩
  refine ⟨by simp,⟨_,c,rfl,?_⟩,hg.below (fun k e=>by subst e;exact hb) (by omega),fun k hk hd=>hg.block k hk (by intro e;omega)⟩
  have:=imarks_len 1 l.length
  have r:NRow w' (some ⟨g,0,none⟩) (imarks 1 l.length).length (imarks 1 l.length):=iblk_nrow (M:=M) (by rw [this];exact hm)
  rw [this] at r
  exact r
theorem heldI_row (ao:Option Addr) (n c K:Nat) (w:World) (h:NRow w ao n (imarks K n)) (hn:n≤2000000000000) (hK:K≤4611686018427387904) :
  Calls Tryz.prog 13 #[.slice ao n c,.int .i64 (K:Int)] w fun e w'=>e=.returned (.int .i64 ((K:Int)+(n:Int)))∧Below w.heap.size w w':=by
 have HR:=hide h
 clear h
 go_enter Tryz.func13,Tryz.ntmps13
 go_wp2
 go_loopw [1,5] (fun s i wr=>∃(j:Nat) (k:Int),j≤n∧i=.int .i64 j∧s=.int .i64 k∧Hid (k=(K:Int)+(j:Int))∧Hid (Below w.heap.size w wr)) (fun _ i _=>n - (intOf i).toNat)
 case atStart=>exact ⟨0,K,Nat.zero_le _,rfl,rfl,hide (by simp),hide (yH _ _)⟩
 case round=>
  obtain ⟨j,k,hj,rfl,rfl,hk,HB⟩:=hrel
  have hkk:=uH hk
  by_cases hlt:j<n
  ·obtain ⟨b,off,rfl,hq⟩:=((uH HR).below (uH HB)).at hlt
   have hjl:j<(imarks (K:Int) n).length:=by rw [imarks_len];exact hlt
   have c0:=hq hjl
   rw [imarks_at hjl,←hkk] at c0
   clear hq hjl
   go_wp2
   go_roundw
   case rel=>exact ⟨j+1,k+1,by omega,by go_num,by go_num,hide (by omega),HB⟩
   case measure=>simp [intOf];omega
  ·obtain rfl:j=n:=by omega
   rw [hkk]
   go_wp2
   go_ret
   exact ⟨rfl,uH HB⟩
theorem heldI_any' {B E:Nat} {w:World} {v:Value} {n:Nat} (h:IMk B E w v n) (hl:n≤1099511627776) :
  Calls Tryz.prog 13 #[v,.int .i64 1] w fun e w'=>e=.returned (.int .i64 (1+(n:Int)))∧Below w.heap.size w w':=by
 obtain ⟨ao,c,rfl,h1⟩:=h
 exact heldI_row ao n c 1 w h1 (by omega) (by omega)
def placeC (id:Int):List Con→Nat
 | []=>0
 | c::t=>if c.id<id then placeC id t+1 else 0
theorem placeC_le (id:Int):∀l:List Con,placeC id l≤l.length
 | []=>yJ _
 | c::t=>by
  rw [placeC]
  have:=placeC_le id t
  split<;>simp<;>omega
def insC (l:List Con) (c:Con):List Con:=l.take (placeC c.id l)++c::l.drop (placeC c.id l)
theorem insC_len (l:List Con) (c:Con):(insC l c).length=l.length+1:=by
 have:=placeC_le c.id l
 unfold insC
 rw [List.length_append,List.length_cons,List.length_take,List.length_drop]
 omega
theorem ccells_append:∀a b:List Con,ccells (a++b)=ccells a++ccells b
 | [],b=>rfl
 | q::t,b=>by rw [List.cons_append,ccells,ccells,ccells_append t b,List.append_assoc]
theorem ccells_split (l:List Con) (i:Nat):ccells l=ccells (l.take i)++ccells (l.drop i):=by rw [←ccells_append,List.take_append_drop]
theorem ccells_take_len (l:List Con) {i:Nat} (h:i≤l.length):(ccells (l.take i)).length=i*5:=by rw [ccells_len,List.length_take,Nat.min_eq_left h]
theorem ccells_drop_len (l:List Con) (i:Nat):(ccells (l.drop i)).length=(l.length - i)*5:=by rw [ccells_len,List.length_drop]
theorem ccells_ins (l:List Con) (q:Con) (i:Nat):ccells (l.take i++q::l.drop i)=ccells (l.take i)++(ccell q++ccells (l.drop i)):=by
 rw [ccells_append];rfl
theorem cont_load {w:World} {b:Nat} {arr:Array Value} (h:Blk w b arr 74) (hs:arr.size=5):(Instr.loadAt 74 (.pointer (some ⟨b,0,none⟩))).run Tryz.prog w=.ok (.agg arr) w:=by
 simp only [Instr.loadAt,Instr.sureAddr,Sem.run_bind,Sem.run_pure,Result.andThen]
 exact run_loadVar_row w b 74 74 arr (0,0) _ h Tryz.underlying74 rfl (by rw [show (Tryz.prog.info? 74).map (·.size)=some 5 by kernel_rfl,hs])
theorem owns_base {w:World} {B B' sz n:Nat} {t:TypeId} {v:Value} {xs:List Value} (h:w.ownsRow B t sz v n xs) (hb:B'≤B):w.ownsRow B' t sz v n xs:=by
 obtain ⟨h1,h2⟩:=h
 rcases h2 with h2 | ⟨g,cap,cur,e,hg,r⟩
 ·exact ⟨h1,.inl h2⟩
 ·exact ⟨h1,.inr ⟨g,cap,cur,e,Nat.le_trans hb hg,r⟩⟩
theorem placeC_step {id:Int} {l:List Con} {k:Nat} (h:k<l.length):placeC id (l.drop k)=if l[k].id<id then placeC id (l.drop (k+1))+1 else 0:=by
 rw [List.drop_eq_getElem_cons h,placeC]
theorem cutC_lo (g n cap k:Nat) (hk:k≤cap) (wx:World):(Instr.slice 40 (.slice (some ⟨g,0,none⟩) n cap) none (some (.int .i64 (k:Int))) none).run Tryz.prog wx=.ok (.slice (some ⟨g,0,none⟩) k cap) wx:=by
 rw [run_slice_h (P:=Tryz.prog) (w:=wx) 40 (some ⟨g,0,none⟩) n cap Tryz.underlying40 .i64 (k:Int) (by omega) (by omega)]
 rw [show (sizeOf (Tryz.prog.elem 40)).run Tryz.prog wx=.ok 5 wx from by kernel_rfl]
 simp [Result.andThen,sliced,Addr.add]
theorem cutC_hi (g n cap k:Nat) (hk:k≤n) (wx:World):(Instr.slice 40 (.slice (some ⟨g,0,none⟩) n cap) (some (.int .i64 (k:Int))) none none).run Tryz.prog wx=.ok (.slice (some (hiA g cap k 5)) (n - k) (cap - k)) wx:=by
 rw [run_slice_l (P:=Tryz.prog) (w:=wx) 40 (some ⟨g,0,none⟩) n cap Tryz.underlying40 .i64 (k:Int) (by omega) (by omega)]
 rw [show (sizeOf (Tryz.prog.elem 40)).run Tryz.prog wx=.ok 5 wx from by kernel_rfl]
 simp only [Result.andThen,sliced,Int.toNat_natCast,hiA]
 by_cases h:cap=k
 ·rw [if_pos h,if_pos h]
 ·rw [if_neg h,if_neg h]
  simp [Addr.add]
  try omega
def ADC0 (w1:World) (g n0 cap j g3:Nat) (NC1 NC2:List Value) (c0 c1:Int) (cn:List UInt8) (c3 c4:Int) (x6 x7 x8 x9 x10 x11 x12 x13 x14 x15 x16 x17 x18 x19 x20 x21:Value) (n:Nat) (lz:Array Bool) (az:Act) (wz:World):Prop:=(n=6∧lz=#[false,true,true,true,false,true,false,false,true,true,true,false,false]∧az = { tmps:=#[.slice (some ⟨g,0,none⟩) n0 cap,.agg #[.int .i64 c0,.int .i64 c1,.string (bs cn),.int .i64 c3,.int .i64 c4],undef,.pointer (some ⟨g3,0,none⟩),.slice none 0 0,.int .i64 (j:Int),x6,x7,x8,x9,x10,x11,x12,x13,x14,x15,x16,x17,x18,x19,x20,x21,undef,.slice (some ⟨g,0,none⟩) n0 cap,.int .i64 (j:Int),.slice (some ⟨g,0,none⟩) j cap,undef,.agg #[.int .i64 c0,.int .i64 c1,.string (bs cn),.int .i64 c3,.int .i64 c4],undef,undef,.slice (some ⟨g,0,none⟩) n0 cap,.int .i64 (j:Int),.slice (some (hiA g cap j 5)) (n0 - j) (cap - j),undef],defers:=[] }∧Kp w1 wz)
def ADC1 (w1:World) (g n0 cap j g3:Nat) (NC1 NC2:List Value) (c0 c1:Int) (cn:List UInt8) (c3 c4:Int) (x6 x7 x8 x9 x10 x11 x12 x13 x14 x15 x16 x17 x18 x19 x20 x21:Value) (n:Nat) (lz:Array Bool) (az:Act) (wz:World):Prop:=(∃gb:Nat,n=5∧lz=#[false,true,true,true,false,true,true,false,true,true,true,false,false]∧az = { tmps:=#[.slice (some ⟨g,0,none⟩) n0 cap,.agg #[.int .i64 c0,.int .i64 c1,.string (bs cn),.int .i64 c3,.int .i64 c4],undef,.pointer (some ⟨g3,0,none⟩),.slice none 0 0,.int .i64 (j:Int),x6,x7,x8,x9,x10,x11,x12,x13,x14,x15,x16,x17,x18,x19,x20,x21,undef,.slice (some ⟨g,0,none⟩) n0 cap,.int .i64 (j:Int),.slice (some ⟨g,0,none⟩) j cap,undef,.agg #[.int .i64 c0,.int .i64 c1,.string (bs cn),.int .i64 c3,.int .i64 c4],.slice (some ⟨gb,0,none⟩) 1 1,undef,.slice (some ⟨g,0,none⟩) n0 cap,.int .i64 (j:Int),.slice (some (hiA g cap j 5)) (n0 - j) (cap - j),undef],defers:=[] }∧IBox 74 w1 wz gb #[.int .i64 c0,.int .i64 c1,.string (bs cn),.int .i64 c3,.int .i64 c4]∧Kp w1 wz)
def ADC2 (w1:World) (g n0 cap j g3:Nat) (NC1 NC2:List Value) (c0 c1:Int) (cn:List UInt8) (c3 c4:Int) (x6 x7 x8 x9 x10 x11 x12 x13 x14 x15 x16 x17 x18 x19 x20 x21:Value) (n:Nat) (lz:Array Bool) (az:Act) (wz:World):Prop:=(∃g0:Nat,n=5∧lz=#[true,true,true,true,false,true,false,false,true,true,true,false,false]∧az = { tmps:=#[.slice (some ⟨g,0,none⟩) n0 cap,.agg #[.int .i64 c0,.int .i64 c1,.string (bs cn),.int .i64 c3,.int .i64 c4],undef,.pointer (some ⟨g3,0,none⟩),.slice none 0 0,.int .i64 (j:Int),x6,x7,x8,x9,x10,x11,x12,x13,x14,x15,x16,x17,x18,x19,x20,x21,.slice (some ⟨g0,0,none⟩) 0 0,.slice (some ⟨g,0,none⟩) n0 cap,.int .i64 (j:Int),.slice (some ⟨g,0,none⟩) j cap,undef,.agg #[.int .i64 c0,.int .i64 c1,.string (bs cn),.int .i64 c3,.int .i64 c4],undef,undef,.slice (some ⟨g,0,none⟩) n0 cap,.int .i64 (j:Int),.slice (some (hiA g cap j 5)) (n0 - j) (cap - j),undef],defers:=[] }∧IRow 74 5 w1.heap.size wz (.slice (some ⟨g0,0,none⟩) 0 0) 0 []∧Kp w1 wz)
def ADC3 (w1:World) (g n0 cap j g3:Nat) (NC1 NC2:List Value) (c0 c1:Int) (cn:List UInt8) (c3 c4:Int) (x6 x7 x8 x9 x10 x11 x12 x13 x14 x15 x16 x17 x18 x19 x20 x21:Value) (n:Nat) (lz:Array Bool) (az:Act) (wz:World):Prop:=(∃g0:Nat,∃gb:Nat,n=4∧lz=#[true,true,true,true,false,true,true,false,true,true,true,false,false]∧az = { tmps:=#[.slice (some ⟨g,0,none⟩) n0 cap,.agg #[.int .i64 c0,.int .i64 c1,.string (bs cn),.int .i64 c3,.int .i64 c4],undef,.pointer (some ⟨g3,0,none⟩),.slice none 0 0,.int .i64 (j:Int),x6,x7,x8,x9,x10,x11,x12,x13,x14,x15,x16,x17,x18,x19,x20,x21,.slice (some ⟨g0,0,none⟩) 0 0,.slice (some ⟨g,0,none⟩) n0 cap,.int .i64 (j:Int),.slice (some ⟨g,0,none⟩) j cap,undef,.agg #[.int .i64 c0,.int .i64 c1,.string (bs cn),.int .i64 c3,.int .i64 c4],.slice (some ⟨gb,0,none⟩) 1 1,undef,.slice (some ⟨g,0,none⟩) n0 cap,.int .i64 (j:Int),.slice (some (hiA g cap j 5)) (n0 - j) (cap - j),undef],defers:=[] }∧IRow 74 5 w1.heap.size wz (.slice (some ⟨g0,0,none⟩) 0 0) 0 []∧IBox 74 w1 wz gb #[.int .i64 c0,.int .i64 c1,.string (bs cn),.int .i64 c3,.int .i64 c4]∧gb≠g0∧Kp w1 wz)
def ADC4 (w1:World) (g n0 cap j g3:Nat) (NC1 NC2:List Value) (c0 c1:Int) (cn:List UInt8) (c3 c4:Int) (x6 x7 x8 x9 x10 x11 x12 x13 x14 x15 x16 x17 x18 x19 x20 x21:Value) (n:Nat) (lz:Array Bool) (az:Act) (wz:World):Prop:=(∃g0:Nat,∃v1:Value,n=4∧lz=#[true,true,true,true,true,true,false,false,true,true,true,false,false]∧az = { tmps:=#[.slice (some ⟨g,0,none⟩) n0 cap,.agg #[.int .i64 c0,.int .i64 c1,.string (bs cn),.int .i64 c3,.int .i64 c4],undef,.pointer (some ⟨g3,0,none⟩),.slice none 0 0,.int .i64 (j:Int),x6,x7,x8,x9,x10,x11,x12,x13,x14,x15,x16,x17,x18,x19,x20,x21,.slice (some ⟨g0,0,none⟩) 0 0,.slice (some ⟨g,0,none⟩) n0 cap,.int .i64 (j:Int),.slice (some ⟨g,0,none⟩) j cap,v1,.agg #[.int .i64 c0,.int .i64 c1,.string (bs cn),.int .i64 c3,.int .i64 c4],undef,undef,.slice (some ⟨g,0,none⟩) n0 cap,.int .i64 (j:Int),.slice (some (hiA g cap j 5)) (n0 - j) (cap - j),undef],defers:=[] }∧IRow 74 5 w1.heap.size wz v1 j NC1∧Kp w1 wz)
def ADC5 (w1:World) (g n0 cap j g3:Nat) (NC1 NC2:List Value) (c0 c1:Int) (cn:List UInt8) (c3 c4:Int) (x6 x7 x8 x9 x10 x11 x12 x13 x14 x15 x16 x17 x18 x19 x20 x21:Value) (n:Nat) (lz:Array Bool) (az:Act) (wz:World):Prop:=(∃g0:Nat,∃v1:Value,∃gb:Nat,n=3∧lz=#[true,true,true,true,true,true,true,false,true,true,true,false,false]∧az = { tmps:=#[.slice (some ⟨g,0,none⟩) n0 cap,.agg #[.int .i64 c0,.int .i64 c1,.string (bs cn),.int .i64 c3,.int .i64 c4],undef,.pointer (some ⟨g3,0,none⟩),.slice none 0 0,.int .i64 (j:Int),x6,x7,x8,x9,x10,x11,x12,x13,x14,x15,x16,x17,x18,x19,x20,x21,.slice (some ⟨g0,0,none⟩) 0 0,.slice (some ⟨g,0,none⟩) n0 cap,.int .i64 (j:Int),.slice (some ⟨g,0,none⟩) j cap,v1,.agg #[.int .i64 c0,.int .i64 c1,.string (bs cn),.int .i64 c3,.int .i64 c4],.slice (some ⟨gb,0,none⟩) 1 1,undef,.slice (some ⟨g,0,none⟩) n0 cap,.int .i64 (j:Int),.slice (some (hiA g cap j 5)) (n0 - j) (cap - j),undef],defers:=[] }∧IRow 74 5 w1.heap.size wz v1 j NC1∧IBox 74 w1 wz gb #[.int .i64 c0,.int .i64 c1,.string (bs cn),.int .i64 c3,.int .i64 c4]∧Kp w1 wz)
def ADC6 (w1:World) (g n0 cap j g3:Nat) (NC1 NC2:List Value) (c0 c1:Int) (cn:List UInt8) (c3 c4:Int) (x6 x7 x8 x9 x10 x11 x12 x13 x14 x15 x16 x17 x18 x19 x20 x21:Value) (n:Nat) (lz:Array Bool) (az:Act) (wz:World):Prop:=(∃g0:Nat,∃v1:Value,∃gb:Nat,∃v2:Value,n=2∧lz=#[true,true,true,true,true,true,true,true,true,true,true,false,false]∧az = { tmps:=#[.slice (some ⟨g,0,none⟩) n0 cap,.agg #[.int .i64 c0,.int .i64 c1,.string (bs cn),.int .i64 c3,.int .i64 c4],undef,.pointer (some ⟨g3,0,none⟩),.slice none 0 0,.int .i64 (j:Int),x6,x7,x8,x9,x10,x11,x12,x13,x14,x15,x16,x17,x18,x19,x20,x21,.slice (some ⟨g0,0,none⟩) 0 0,.slice (some ⟨g,0,none⟩) n0 cap,.int .i64 (j:Int),.slice (some ⟨g,0,none⟩) j cap,v1,.agg #[.int .i64 c0,.int .i64 c1,.string (bs cn),.int .i64 c3,.int .i64 c4],.slice (some ⟨gb,0,none⟩) 1 1,v2,.slice (some ⟨g,0,none⟩) n0 cap,.int .i64 (j:Int),.slice (some (hiA g cap j 5)) (n0 - j) (cap - j),undef],defers:=[] }∧IRow 74 5 w1.heap.size wz v2 (j+1) (NC1++#[.int .i64 c0,.int .i64 c1,.string (bs cn),.int .i64 c3,.int .i64 c4].toList)∧Kp w1 wz)
def ADC7 (w1:World) (g n0 cap j g3:Nat) (NC1 NC2:List Value) (c0 c1:Int) (cn:List UInt8) (c3 c4:Int) (x6 x7 x8 x9 x10 x11 x12 x13 x14 x15 x16 x17 x18 x19 x20 x21:Value) (n:Nat) (lz:Array Bool) (az:Act) (wz:World):Prop:=(∃g0:Nat,∃v1:Value,∃gb:Nat,∃v2:Value,∃v3:Value,n=1∧lz=#[true,true,true,true,true,true,true,true,true,true,true,true,false]∧az = { tmps:=#[.slice (some ⟨g,0,none⟩) n0 cap,.agg #[.int .i64 c0,.int .i64 c1,.string (bs cn),.int .i64 c3,.int .i64 c4],undef,.pointer (some ⟨g3,0,none⟩),.slice none 0 0,.int .i64 (j:Int),x6,x7,x8,x9,x10,x11,x12,x13,x14,x15,x16,x17,x18,x19,x20,x21,.slice (some ⟨g0,0,none⟩) 0 0,.slice (some ⟨g,0,none⟩) n0 cap,.int .i64 (j:Int),.slice (some ⟨g,0,none⟩) j cap,v1,.agg #[.int .i64 c0,.int .i64 c1,.string (bs cn),.int .i64 c3,.int .i64 c4],.slice (some ⟨gb,0,none⟩) 1 1,v2,.slice (some ⟨g,0,none⟩) n0 cap,.int .i64 (j:Int),.slice (some (hiA g cap j 5)) (n0 - j) (cap - j),v3],defers:=[] }∧IRow 74 5 w1.heap.size wz v3 (j+1+(n0 - j)) (NC1++#[.int .i64 c0,.int .i64 c1,.string (bs cn),.int .i64 c3,.int .i64 c4].toList++NC2)∧Kp w1 wz)
def ADC8 (w1:World) (g n0 cap j g3:Nat) (NC1 NC2:List Value) (c0 c1:Int) (cn:List UInt8) (c3 c4:Int) (x6 x7 x8 x9 x10 x11 x12 x13 x14 x15 x16 x17 x18 x19 x20 x21:Value) (n:Nat) (lz:Array Bool) (az:Act) (wz:World):Prop:=(∃g0:Nat,∃v1:Value,∃gb:Nat,∃v2:Value,∃v3:Value,n=0∧lz=#[true,true,true,true,true,true,true,true,true,true,true,true,true]∧az = { tmps:=#[.slice (some ⟨g,0,none⟩) n0 cap,.agg #[.int .i64 c0,.int .i64 c1,.string (bs cn),.int .i64 c3,.int .i64 c4],undef,.pointer (some ⟨g3,0,none⟩),v3,.int .i64 (j:Int),x6,x7,x8,x9,x10,x11,x12,x13,x14,x15,x16,x17,x18,x19,x20,x21,.slice (some ⟨g0,0,none⟩) 0 0,.slice (some ⟨g,0,none⟩) n0 cap,.int .i64 (j:Int),.slice (some ⟨g,0,none⟩) j cap,v1,.agg #[.int .i64 c0,.int .i64 c1,.string (bs cn),.int .i64 c3,.int .i64 c4],.slice (some ⟨gb,0,none⟩) 1 1,v2,.slice (some ⟨g,0,none⟩) n0 cap,.int .i64 (j:Int),.slice (some (hiA g cap j 5)) (n0 - j) (cap - j),v3],defers:=[] }∧IRow 74 5 w1.heap.size wz v3 (j+1+(n0 - j)) (NC1++#[.int .i64 c0,.int .i64 c1,.string (bs cn),.int .i64 c3,.int .i64 c4].toList++NC2)∧Kp w1 wz)
def ADC (w1:World) (g n0 cap j g3:Nat) (NC1 NC2:List Value) (c0 c1:Int) (cn:List UInt8) (c3 c4:Int) (x6 x7 x8 x9 x10 x11 x12 x13 x14 x15 x16 x17 x18 x19 x20 x21:Value) (n:Nat) (lz:Array Bool) (az:Act) (wz:World):Prop:=ADC0 w1 g n0 cap j g3 NC1 NC2 c0 c1 cn c3 c4 x6 x7 x8 x9 x10 x11 x12 x13 x14 x15 x16 x17 x18 x19 x20 x21 n lz az wz∨ADC1 w1 g n0 cap j g3 NC1 NC2 c0 c1 cn c3 c4 x6 x7 x8 x9 x10 x11 x12 x13 x14 x15 x16 x17 x18 x19 x20 x21 n lz az wz∨ADC2 w1 g n0 cap j g3 NC1 NC2 c0 c1 cn c3 c4 x6 x7 x8 x9 x10 x11 x12 x13 x14 x15 x16 x17 x18 x19 x20 x21 n lz az wz∨ADC3 w1 g n0 cap j g3 NC1 NC2 c0 c1 cn c3 c4 x6 x7 x8 x9 x10 x11 x12 x13 x14 x15 x16 x17 x18 x19 x20 x21 n lz az wz∨ADC4 w1 g n0 cap j g3 NC1 NC2 c0 c1 cn c3 c4 x6 x7 x8 x9 x10 x11 x12 x13 x14 x15 x16 x17 x18 x19 x20 x21 n lz az wz∨ADC5 w1 g n0 cap j g3 NC1 NC2 c0 c1 cn c3 c4 x6 x7 x8 x9 x10 x11 x12 x13 x14 x15 x16 x17 x18 x19 x20 x21 n lz az wz∨ADC6 w1 g n0 cap j g3 NC1 NC2 c0 c1 cn c3 c4 x6 x7 x8 x9 x10 x11 x12 x13 x14 x15 x16 x17 x18 x19 x20 x21 n lz az wz∨ADC7 w1 g n0 cap j g3 NC1 NC2 c0 c1 cn c3 c4 x6 x7 x8 x9 x10 x11 x12 x13 x14 x15 x16 x17 x18 x19 x20 x21 n lz az wz∨ADC8 w1 g n0 cap j g3 NC1 NC2 c0 c1 cn c3 c4 x6 x7 x8 x9 x10 x11 x12 x13 x14 x15 x16 x17 x18 x19 x20 x21 n lz az wz
theorem l05Add_any (g n cap:Nat) (l:List Con) (q:Con) (w:World) (h:ConRow w (some ⟨g,0,none⟩) n l) (hnc:n≤cap) (hl:n≤2000000000000) :
  Calls Tryz.prog 27 #[.slice (some ⟨g,0,none⟩) n cap,conv q] w fun e w'=>∃v,e=.returned v∧Hid (COwn w.heap.size w' v (insC l q))∧Hid (v≠.slice none 0 0)∧Hid (Below w.heap.size w w'):=by
 obtain ⟨c0,c1,cn,c3,c4⟩:=q
 have HLN:=hide h.1
 have hb1:=yA (yH _ w) (.cells #[.int .i64 c0,.int .i64 c1,.string (bs cn),.int .i64 c3,.int .i64 c4] 74)
 have R1:=hide (h.below hb1)
 have G1:=hide (yD w #[.int .i64 c0,.int .i64 c1,.string (bs cn),.int .i64 c3,.int .i64 c4] 74)
 have B1:=hide hb1
 clear h hb1
 obtain ⟨g3,hg3⟩:∃g,w.heap.size=g:=⟨_,rfl⟩
 rw [hg3] at G1
 go_enter Tryz.func27,Tryz.ntmps27
 go_wp2_with fail
 clear hg3
 generalize w.alloc (.cells #[.int .i64 c0,.int .i64 c1,.string (bs cn),.int .i64 c3,.int .i64 c4] 74)=w1 at R1 G1 B1 ⊢
 go_loopw [5] (fun i wr=>∃k:Nat,k≤n∧i=.int .i64 k∧Hid (placeC c0 l=k+placeC c0 (l.drop k))∧Hid (Below w1.heap.size w1 wr)) (fun i _=>n - (intOf i).toNat)
 case atStart=>exact ⟨0,Nat.zero_le _,rfl,hide (by simp),hide (yH _ _)⟩
 case round=>
  obtain ⟨k,hk,rfl,HP,BZ⟩:=hrel
  have G2:=hide ((uH G1).below (uH BZ))
  have R2:=hide ((uH R1).below (uH BZ))
  have A0:=hide (Kp.new wr)
  have HS:=hide (kp_holds wr)
  have HB:=hide (show ∃bt:Bool,(bt=true→k<n∧placeC c0 l=((k+1:Nat):Nat)+placeC c0 (l.drop (k+1)))∧(bt=false→placeC c0 l=k)∧(∀hk2:k<l.length,k<n→bt=decide (l[k].id<c0))∧(¬k<n→bt=false) from by
   by_cases hlt:k<n
   ·have hkl:k<l.length:=by have:=uH HLN;omega
    have hs:=placeC_step (id:=c0) hkl
    have hp:=uH HP
    by_cases hc:l[k].id<c0
    ·rw [if_pos hc] at hs
     exact ⟨true,fun _=>⟨hlt,by omega⟩,(fun e=>by cases e),fun _ _=>by simp [hc],fun e=>absurd hlt e⟩
    ·rw [if_neg hc] at hs
     exact ⟨false,(fun e=>by cases e),fun _=>by omega,fun _ _=>by simp [hc],fun e=>absurd hlt e⟩
   ·have hp:=uH HP
    rw [List.drop_of_length_le (by have:=uH HLN;omega)] at hp
    exact ⟨false,(fun e=>by cases e),fun _=>by simpa [placeC] using hp,fun _ e=>absurd e hlt,fun _=>rfl⟩)
  obtain ⟨bt,hb1,hb2,hb3,hb4⟩:=uH HB
  have HB1:=hide hb1
  have HB2:=hide hb2
  have HB3:=hide hb3
  have HB4:=hide hb4
  clear HB hb1 hb2 hb3 hb4 HP
  go_upto_region 2 with fail
  go_cut [19] from 6 to 18 (fun v19 wx=>v19=.bool bt∧Hid (Below wr.heap.size wr wx))
  case first=>
   refine wp_region_held_drew (S:=fun wx=>Kp wr wx) (by kernel_rfl) ((uH HS).drew (uH A0)) (fun S0=>?_)
   generalize wr.drew=wn at S0 ⊢
   by_cases hlt:k<n
   ·have hkl:k<l.length:=by have:=uH HLN;omega
    have hv:=uH HB3 hkl hlt
    have hid:=((uH R2).at hlt)
    obtain ⟨b',off',he,hq⟩:=hid
    cases he
    have d0:=(hq hkl).1
    obtain ⟨x,hx⟩:∃x,l[k].id=x:=⟨_,rfl⟩
    rw [hx] at d0 hv
    have q0:=(uH G2).at 0
    simp at q0
    have R:∀wx,Kp wr wx→wx.cell? ⟨g,0+k*5,none⟩=some (.int .i64 x)∧wx.cell? ⟨g,k*5,none⟩=some (.int .i64 x)∧wx.cell? ⟨g3,0,none⟩=some (.int .i64 c0):=fun wx h=>⟨h.cell d0,by have:=h.cell d0;rwa [Nat.zero_add] at this,h.cell q0⟩
    have k0:(0:Int)≤k:=by omega
    have k1:(k:Int)<n:=by omega
    clear hq d0 q0 hx
    refine tW 0 6 _ S0 ?_
    try simp only [zW]
    refine tW 1 7 _ S0 ?_
    try simp only [zW]
    refine tW 2 8 _ S0 ?_
    try simp only [zW]
    refine tW 3 9 (.bool true) S0 ?_
    try simp only [zW]
    refine tW 4 10 _ S0 ?_
    try simp only [zW]
    refine tW 5 11 _ S0 ?_
    try simp only [zW]
    refine tW 6 12 _ S0 ?_
    try simp only [zW]
    refine tW 7 13 (.pointer (some ⟨g,k*5,none⟩)) S0 ?_
    try simp only [zW]
    refine tW 8 14 (.pointer (some ⟨g,k*5,none⟩)) S0 ?_
    try simp only [zW]
    refine takeW 9 15 (.int .i64 x) rfl rfl S0 ?_ (hy:=Or.inl ⟨by rfl,fun wz hz=>by (have hr:=R wz hz;clear R;go_simp)⟩)
    try simp only [zW]
    refine tW 10 16 _ S0 ?_
    try simp only [zW]
    refine takeW 11 17 (.int .i64 c0) rfl rfl S0 ?_ (hy:=Or.inl ⟨by rfl,fun wz hz=>by (have hr:=R wz hz;clear R;go_simp)⟩)
    try simp only [zW]
    refine takeW 12 18 (.bool bt) rfl rfl S0 ?_ (hy:=Or.inl ⟨by rfl,fun wz hz=>by (subst hv;go_simp)⟩)
    try simp only [zW]
    refine tW 13 19 (.bool bt) S0 ?_
    try simp only [zW]
    refine wpAnyH_done (by kernel_rfl) ?_ _
    go_wp2_with fail
    go_meet
    exact ⟨rfl,hide S0⟩
   ·have hv:=uH HB4 hlt
    have k1:¬(k:Int)<n:=by omega
    subst hv
    refine tW 0 6 _ S0 ?_
    try simp only [zW]
    refine tW 1 7 _ S0 ?_
    try simp only [zW]
    refine tW 2 8 _ S0 ?_
    try simp only [zW]
    refine tW 3 9 (.bool false) S0 ?_
    try simp only [zW]
    refine tW 4 10 _ S0 ?_
    try simp only [zW]
    refine tU 5 11 S0 ?_
    try simp only [zW]
    refine tU 6 12 S0 ?_
    try simp only [zW]
    refine tU 7 13 S0 ?_
    try simp only [zW]
    refine tU 8 14 S0 ?_
    try simp only [zW]
    refine tU 9 15 S0 ?_
    try simp only [zW]
    refine tU 10 16 S0 ?_
    try simp only [zW]
    refine tU 11 17 S0 ?_
    try simp only [zW]
    refine tU 12 18 S0 ?_
    try simp only [zW]
    refine tW 13 19 (.bool false) S0 ?_
    try simp only [zW]
    refine wpAnyH_done (by kernel_rfl) ?_ _
    go_wp2_with fail
    go_meet
    exact ⟨rfl,hide S0⟩
  case rest=>
   obtain ⟨rfl,hbz⟩:=hcut
   have BY:=hide (yB (uH BZ) (uH hbz))
   have G3:=hide ((uH G2).below (uH hbz))
   have R3:=hide ((uH R2).below (uH hbz))
   obtain ⟨w2,rfl⟩:∃z,z=wc:=⟨_,rfl⟩
   clear hbz BZ G2 R2 A0 HS HB3 HB4
   cases bt with
   | true=>
    obtain ⟨hlt,hp⟩:=uH HB1 rfl
    have HPN:=hide hp
    clear hp HB1 HB2
    go_wp2
    go_roundw
    case rel=>exact ⟨k+1,by omega,by go_num,HPN,BY⟩
    case measure=>simp [intOf];omega
   | false=>
    have HPK:=hide (uH HB2 rfl)
    clear HB1 HB2
    obtain ⟨i0,hi,hz0,hz1,hz2⟩:=info_parts Tryz.infoCont
    obtain ⟨j,rfl⟩:∃j,j=k:=⟨_,rfl⟩
    have B2:=hide (yB (uH B1) (uH BY))
    have HIN:=hide (show insC l ⟨c0,c1,cn,c3,c4⟩=l.take j++⟨c0,c1,cn,c3,c4⟩::l.drop j by unfold insC;simp only;rw [uH HPK])
    have hjl:j≤l.length:=by have:=uH HLN;omega
    have hlo:=cutC_lo g n cap j (by omega)
    have hhi:=cutC_hi g n cap j hk
    obtain ⟨NC1,hc1⟩:∃c,ccells (l.take j)=c:=⟨_,rfl⟩
    obtain ⟨NC2,hc2⟩:∃c,ccells (l.drop j)=c:=⟨_,rfl⟩
    have HLO:=hide (show ∀wx:World,Kp w2 wx→∀i u,NC1[i]? = some u→wx.cell? (Addr.add ⟨g,0,none⟩ i)=some u from fun wx hb i u hu=>by
     rw [Lib.add_plain]
     refine ccells_row ((uH R3).below hb) i u ?_
     rw [ccells_split l j,hc1,List.getElem?_append_left (List.getElem?_eq_some_iff.1 hu).1]
     exact hu)
    have HL1:=hide (show NC1.length=j*5 by rw [←hc1];exact ccells_take_len l hjl)
    have HL2:=hide (show NC2.length=(n - j)*5 by rw [←hc2,ccells_drop_len,uH HLN])
    have HHI:=hide (show ∀wx:World,Kp w2 wx→∀i u,NC2[i]? = some u→wx.cell? (Addr.add (hiA g cap j 5) i)=some u from fun wx hb i u hu=>by
     have hlt:=(List.getElem?_eq_some_iff.1 hu).1
     rw [uH HL2] at hlt
     rw [hiA_at (by omega)]
     have h1:=ccells_row ((uH R3).below hb) (j*5+i) u (by
      rw [ccells_split l j,hc1,hc2,List.getElem?_append_right (by rw [uH HL1];omega),uH HL1,Nat.add_sub_cancel_left]
      exact hu)
     rwa [Nat.zero_add] at h1)
    have HO1:=hide (show ∀u ∈ NC1,u.oneCell'=true by rw [←hc1];exact ccells_one _)
    have HO2:=hide (show ∀u ∈ NC2,u.oneCell'=true by rw [←hc2];exact ccells_one _)
    have HOX:=hide (show ∀u ∈ (#[.int .i64 c0,.int .i64 c1,.string (bs cn),.int .i64 c3,.int .i64 c4]:Array Value).toList,u.oneCell'=true from fun u hu=>ccells_one [⟨c0,c1,cn,c3,c4⟩] u (by simpa [ccells,ccell] using hu))
    have HC1:=hide hc1.symm
    have HC2:=hide hc2.symm
    have A0:=hide (Kp.new w2)
    have HS:=hide (kp_holds w2)
    clear hc1 hc2 HPK R3 R1 G1 B1 BY hjl
    go_upto_region 4 with fail
    refine wp_region_held_drew (S:=fun wx=>Kp w2 wx) (by kernel_rfl) ((uH HS).drew (uH A0)) (fun S0=>?_)
    refine tW 1 23 _ S0 ?_
    try simp only [zW]
    refine tW 2 24 _ S0 ?_
    try simp only [zW]
    refine takeW 3 25 (.slice (some ⟨g,0,none⟩) j cap) rfl rfl S0 ?_ (hy:=Or.inl ⟨by rfl,fun wz hz=>run_v (hlo wz)⟩)
    try simp only [zW]
    refine takeW 5 27 (.agg #[.int .i64 c0,.int .i64 c1,.string (bs cn),.int .i64 c3,.int .i64 c4]) rfl rfl S0 ?_ (hy:=Or.inl ⟨by rfl,fun wz hz=>run_v (cont_load ((uH G3).below hz) rfl)⟩)
    try simp only [zW]
    refine tW 8 30 _ S0 ?_
    try simp only [zW]
    refine tW 9 31 _ S0 ?_
    try simp only [zW]
    refine takeW 10 32 (.slice (some (hiA g cap j 5)) (n - j) (cap - j)) rfl rfl S0 ?_ (hy:=Or.inl ⟨by rfl,fun wz hz=>run_v (hhi wz)⟩)
    try simp only [zW]
    refine wpAnyH_inv (ADC w2 g n cap j g3 NC1 NC2 c0 c1 cn c3 c4 _ _ _ _ _ _ _ _ _ _ _ _ _ _ _ _) ?step ?fin 6 _ _ _ (.inl (⟨rfl,by kernel_rfl,rfl,S0⟩))
    case fin=>
     intro lz az wz hI
     rcases hI with h | h | h | h | h | h | h | h | h
     ·obtain ⟨hn,_⟩:=h
      cases hn
     ·obtain ⟨_,hn,_⟩:=h
      cases hn
     ·obtain ⟨_,hn,_⟩:=h
      cases hn
     ·obtain ⟨_,_,hn,_⟩:=h
      cases hn
     ·obtain ⟨_,_,hn,_⟩:=h
      cases hn
     ·obtain ⟨_,_,_,hn,_⟩:=h
      cases hn
     ·obtain ⟨_,_,_,_,hn,_⟩:=h
      cases hn
     ·obtain ⟨_,_,_,_,_,hn,_⟩:=h
      cases hn
     ·obtain ⟨g0,v1,gb,v2,v3,-,rfl,rfl,hr,kp⟩:=h
      refine ⟨by kernel_rfl,?_⟩
      have HOW:=hide (show COwn w.heap.size wz v3 (insC l ⟨c0,c1,cn,c3,c4⟩) from by
       have h1:=hr.1
       have e:NC1++#[.int .i64 c0,.int .i64 c1,.string (bs cn),.int .i64 c3,.int .i64 c4].toList++NC2=ccells (insC l ⟨c0,c1,cn,c3,c4⟩):=by
        rw [uH HC1,uH HC2,uH HIN,ccells_ins]
        simp
       rw [e] at h1
       unfold COwn
       rw [insC_len,←uH HLN,show n+1=j+1+(n - j) by omega]
       exact owns_base h1 (uH B2).size)
      have HNE:=hide hr.2
      have B9:=hide (yB (uH B2) kp)
      clear hr kp
      go_wp2
      go_ret
      exact ⟨v3,rfl,HOW,HNE,B9⟩
    case step=>
     intro n lz az wz hI
     rcases hI with h | h | h | h | h | h | h | h | h
     ·obtain ⟨hn,rfl,rfl,kp⟩:=h
      obtain rfl:n=5:=by omega
      refine ready_step (rs:=[0,6]) (by kernel_rfl) (by simp) ?_
      refine AllReadyI.cons rfl (fun K hK=>?_) ?_
      ·go_simp
       go_wp2_with fail
       exact hK.out _ _ (yA kp _) (.inr (.inr (.inl (⟨wz.heap.size,rfl,rfl,rfl,irow_new kp,yA kp _⟩))))
      refine AllReadyI.cons rfl (fun K hK=>?_) ?_
      ·go_simp
       go_wp2_with fail
       exact hK.out _ _ (yA kp _) (.inr (.inl (⟨wz.heap.size,rfl,rfl,rfl,ibox_new kp _,yA kp _⟩)))
      exact AllReadyI.nil
     ·obtain ⟨gb,hn,rfl,rfl,hbx,kp⟩:=h
      obtain rfl:n=4:=by omega
      refine ready_step (rs:=[0]) (by kernel_rfl) (by simp) ?_
      refine AllReadyI.cons rfl (fun K hK=>?_) ?_
      ·go_simp
       go_wp2_with fail
       exact hK.out _ _ (yA kp _) (.inr (.inr (.inr (.inl (⟨wz.heap.size,gb,rfl,rfl,rfl,irow_new kp,hbx.al _,Nat.ne_of_lt hbx.lt,yA kp _⟩)))))
      exact AllReadyI.nil
     ·obtain ⟨g0,hn,rfl,rfl,hr,kp⟩:=h
      obtain rfl:n=4:=by omega
      refine ready_step (rs:=[4,6]) (by kernel_rfl) (by simp) ?_
      refine AllReadyI.cons rfl (fun K hK=>?_) ?_
      ·refine ins_app (w1:=w2) rfl (.tmp 22) (.tmp 25) 40 rfl 74 i0 (.agg #[.int .i64 0,.int .i64 0,.string ByteArray.empty,.int .i64 0,.int .i64 0]) 5 48 Tryz.underlying40 hi hz0 hz1 hz2 rfl (by decide) (.slice (some ⟨g0,0,none⟩) 0 0) 0 [] rfl hr kp ⟨g,0,none⟩ j cap NC1 rfl (uH HL1) (fun i u hu=>uH HLO _ kp i u hu) (uH HO1) (by unfold maxLen;omega) (by omega) ?_
       intro v1 wz2 hr2 kp2 hsame
       try simp only [zW]
       exact hK.out _ _ kp2 (.inr (.inr (.inr (.inr (.inl (⟨g0,v1,rfl,by kernel_rfl,rfl,owns_re hr2 (by omega) (List.nil_append _),kp2⟩))))))
      refine AllReadyI.cons rfl (fun K hK=>?_) ?_
      ·go_simp
       go_wp2_with fail
       exact hK.out _ _ (yA kp _) (.inr (.inr (.inr (.inl (⟨g0,wz.heap.size,rfl,rfl,rfl,hr.al _,ibox_new kp _,(Nat.ne_of_gt (by obtain ⟨q,q2,q3,q4,q5,q6⟩:=hr.open;cases q3;exact (World.ownsRow.lt q5 g0 rfl).2)),yA kp _⟩)))))
      exact AllReadyI.nil
     ·obtain ⟨g0,gb,hn,rfl,rfl,hr,hbx,hne,kp⟩:=h
      obtain rfl:n=3:=by omega
      refine ready_step (rs:=[4]) (by kernel_rfl) (by simp) ?_
      refine AllReadyI.cons rfl (fun K hK=>?_) ?_
      ·refine ins_app (w1:=w2) rfl (.tmp 22) (.tmp 25) 40 rfl 74 i0 (.agg #[.int .i64 0,.int .i64 0,.string ByteArray.empty,.int .i64 0,.int .i64 0]) 5 48 Tryz.underlying40 hi hz0 hz1 hz2 rfl (by decide) (.slice (some ⟨g0,0,none⟩) 0 0) 0 [] rfl hr kp ⟨g,0,none⟩ j cap NC1 rfl (uH HL1) (fun i u hu=>uH HLO _ kp i u hu) (uH HO1) (by unfold maxLen;omega) (by omega) ?_
       intro v1 wz2 hr2 kp2 hsame
       try simp only [zW]
       exact hK.out _ _ kp2 (.inr (.inr (.inr (.inr (.inr (.inl (⟨g0,v1,gb,rfl,by kernel_rfl,rfl,owns_re hr2 (by omega) (List.nil_append _),hbx.same (hsame gb hbx.lt (by simp [Value.ownBlock];omega)),kp2⟩)))))))
      exact AllReadyI.nil
     ·obtain ⟨g0,v1,hn,rfl,rfl,hr,kp⟩:=h
      obtain rfl:n=3:=by omega
      refine ready_step (rs:=[6]) (by kernel_rfl) (by simp) ?_
      refine AllReadyI.cons rfl (fun K hK=>?_) ?_
      ·go_simp
       go_wp2_with fail
       exact hK.out _ _ (yA kp _) (.inr (.inr (.inr (.inr (.inr (.inl (⟨g0,v1,wz.heap.size,rfl,rfl,rfl,hr.al _,ibox_new kp _,yA kp _⟩)))))))
      exact AllReadyI.nil
     ·obtain ⟨g0,v1,gb,hn,rfl,rfl,hr,hbx,kp⟩:=h
      obtain rfl:n=2:=by omega
      refine ready_step (rs:=[7]) (by kernel_rfl) (by simp) ?_
      refine AllReadyI.cons rfl (fun K hK=>?_) ?_
      ·refine ins_app (w1:=w2) rfl (.tmp 26) (.tmp 28) 40 rfl 74 i0 (.agg #[.int .i64 0,.int .i64 0,.string ByteArray.empty,.int .i64 0,.int .i64 0]) 5 48 Tryz.underlying40 hi hz0 hz1 hz2 rfl (by decide) v1 j NC1 rfl hr kp ⟨gb,0,none⟩ 1 1 #[.int .i64 c0,.int .i64 c1,.string (bs cn),.int .i64 c3,.int .i64 c4].toList rfl (by rfl) hbx.news (uH HOX) (by unfold maxLen;omega) (by omega) ?_
       intro v2 wz2 hr2 kp2 hsame
       try simp only [zW]
       exact hK.out _ _ kp2 (.inr (.inr (.inr (.inr (.inr (.inr (.inl (⟨g0,v1,gb,v2,rfl,by kernel_rfl,rfl,hr2,kp2⟩))))))))
      exact AllReadyI.nil
     ·obtain ⟨g0,v1,gb,v2,hn,rfl,rfl,hr,kp⟩:=h
      obtain rfl:n=1:=by omega
      refine ready_step (rs:=[11]) (by kernel_rfl) (by simp) ?_
      refine AllReadyI.cons rfl (fun K hK=>?_) ?_
      ·refine ins_app (w1:=w2) rfl (.tmp 29) (.tmp 32) 40 rfl 74 i0 (.agg #[.int .i64 0,.int .i64 0,.string ByteArray.empty,.int .i64 0,.int .i64 0]) 5 48 Tryz.underlying40 hi hz0 hz1 hz2 rfl (by decide) v2 (j+1) (NC1++#[.int .i64 c0,.int .i64 c1,.string (bs cn),.int .i64 c3,.int .i64 c4].toList) rfl hr kp (hiA g cap j 5) (n - j) (cap - j) NC2 rfl (uH HL2) (fun i u hu=>uH HHI _ kp i u hu) (uH HO2) (by unfold maxLen;omega) (by omega) ?_
       intro v3 wz2 hr2 kp2 hsame
       try simp only [zW]
       exact hK.out _ _ kp2 (.inr (.inr (.inr (.inr (.inr (.inr (.inr (.inl (⟨g0,v1,gb,v2,v3,rfl,by kernel_rfl,rfl,hr2,kp2⟩)))))))))
      exact AllReadyI.nil
     ·obtain ⟨g0,v1,gb,v2,v3,hn,rfl,rfl,hr,kp⟩:=h
      obtain rfl:n=0:=by omega
      refine ready_step (rs:=[12]) (by kernel_rfl) (by simp) ?_
      refine AllReadyI.cons rfl (fun K hK=>?_) ?_
      ·go_simp
       go_wp2_with fail
       exact hK.out _ _ kp (.inr (.inr (.inr (.inr (.inr (.inr (.inr (.inr (⟨g0,v1,gb,v2,v3,rfl,rfl,rfl,hr,kp⟩)))))))))
      exact AllReadyI.nil
     ·obtain ⟨_,_,_,_,_,hn,_⟩:=h
      cases hn
theorem ConRow.other {w:World} {ao:Option Addr} {len:Nat} {l:List Con} (h:ConRow w ao len l) (g j:Nat) (v:Value) (hg:∀b off,ao=some ⟨b,off,none⟩→b≠g):ConRow (w.setCell ⟨g,j,none⟩ v) ao len l:=by
 obtain ⟨h1,h2⟩:=h
 refine ⟨h1,?_⟩
 rcases h2 with h2 | ⟨b,off,h3,h4⟩
 ·exact .inl h2
 ·have hn:=hg b off h3
  have hc:∀p,(w.setCell ⟨g,j,none⟩ v).cell? ⟨b,p,none⟩=w.cell? ⟨b,p,none⟩:=fun p=>by
   unfold World.cell?;rw [heap_setCell_other w ⟨g,j,none⟩ b v hn]
  refine .inr ⟨b,off,h3,fun i h=>?_⟩
  obtain ⟨a,b,c,d,e⟩:=h4 i h
  exact ⟨by rw [hc];exact a,by rw [hc];exact b,by rw [hc];exact c,by rw [hc];exact d,by rw [hc];exact e⟩
theorem NRow.other {w:World} {ao:Option Addr} {len:Nat} {l:List Int} (h:NRow w ao len l) (g j:Nat) (v:Value) (hg:∀b off,ao=some ⟨b,off,none⟩→b≠g):NRow (w.setCell ⟨g,j,none⟩ v) ao len l:=by
 obtain ⟨h1,h2⟩:=h
 refine ⟨h1,?_⟩
 rcases h2 with h2 | ⟨b,off,h3,h4⟩
 ·exact .inl h2
 ·have hn:=hg b off h3
  refine .inr ⟨b,off,h3,fun i h=>?_⟩
  rw [←h4 i h]
  unfold World.cell?;rw [heap_setCell_other w ⟨g,j,none⟩ b v hn]
theorem conblk_any {w:World} {t:TypeId} {g n k:Nat} {l:List Con} (h:ConBlk w t g n k l):ConBlk w t g n 0 []:=by
 obtain ⟨arr,h1,h2,_⟩:=h
 exact ⟨arr,h1,h2,fun i hi=>absurd hi (by simp)⟩
theorem iblk_other {w:World} {t:TypeId} {g n k:Nat} {l:List Int} (h:IBlk w t g n k l) (b j:Nat) (v:Value) (hn:g≠b):IBlk (w.setCell ⟨b,j,none⟩ v) t g n k l:=by
 obtain ⟨arr,h1,h2⟩:=h
 exact ⟨arr,(heap_setCell_other w ⟨b,j,none⟩ g v hn).trans h1,h2⟩
theorem iblk_any {w:World} {t:TypeId} {g n k:Nat} {l:List Int} (h:IBlk w t g n k l):IBlk w t g n 0 []:=by
 obtain ⟨arr,h1,h2,_⟩:=h
 exact ⟨arr,h1,h2,fun i hi=>absurd hi (by simp)⟩
theorem iblk_cel {w:World} {t:TypeId} {g n k:Nat} {l:List Int} (h:IBlk w t g n k l):Cel w t g n:=by
 obtain ⟨arr,h1,h2,_⟩:=h
 exact ⟨arr,h1,h2⟩
theorem conblk_cel {w:World} {t:TypeId} {g n k:Nat} {l:List Con} (h:ConBlk w t g n k l):Cel w t g (n*5):=by
 obtain ⟨arr,h1,h2,_⟩:=h
 exact ⟨arr,h1,h2⟩
theorem conblk_mks {S:Nat→Prop} {w w':World} {t:TypeId} {g n k:Nat} {l:List Con} (h:ConBlk w t g n k l) (hm:Mks S w w') (hg:¬S g):ConBlk w' t g n k l:=by
 have hlt:=h.lt
 obtain ⟨arr,h1,h2⟩:=h
 exact ⟨arr,(hm.block g hlt hg).trans h1,h2⟩
theorem ns_blk {w:World} {b:Nat} {old:Array Value} {t:TypeId} (h:Blk w b old t) (arr:Array Value):Blk (w.setRow b arr) b arr t:=setRow_heap w b old arr t (0,0) h
theorem ns_mks {w:World} {b:Nat} {old:Array Value} {t:TypeId} (h:Blk w b old t) (arr:Array Value) (hs:arr.size=old.size):Mks (fun k=>k=b) w (w.setRow b arr):=by
 refine ⟨rfl,rfl,rfl,by rw [setRow_size];exact yJ _,fun k _ hk=>setRow_other w b k arr hk,fun t' g N hc=>?_⟩
 by_cases e:g=b
 ·subst e
  obtain ⟨c,h1,h2⟩:=hc
  rw [h] at h1
  cases h1
  exact ⟨arr,ns_blk h arr,by omega⟩
 ·exact hc.of_block (setRow_other w b g arr e)
theorem ns_store {P:Program} {w:World} {b:Nat} {old arr:Array Value} {t:TypeId} (ty:TypeId) (h:Blk w b old t) (hi:(P.info? ty).map (·.size)=some arr.size) (ho:old.size=arr.size) (h1:arr.all (·.oneCell')=true) :
  (Instr.storeAt ty (.pointer (some ⟨b,0,none⟩)) (.agg arr)).run P w=.ok () (w.setRow b arr):=by
 simp only [Instr.storeAt,Instr.sureAddr,Sem.run_bind,Sem.run_pure,Result.andThen]
 exact run_storeVar_row w b t ty old arr h hi ho h1
theorem ns_load {P:Program} {w:World} {b:Nat} {arr:Array Value} {t:TypeId} (ty:TypeId) {d:TypeDesc} (h:Blk w b arr t) (hu:P.underlying ty=some d) (ha:(match d with | .struct _ | .array _ _=>true | _=>false)=true) (hi:(P.info? ty).map (·.size)=some arr.size):(Instr.loadAt ty (.pointer (some ⟨b,0,none⟩))).run P w=.ok (.agg arr) w:=by
 simp only [Instr.loadAt,Instr.sureAddr,Sem.run_bind,Sem.run_pure,Result.andThen]
 exact run_loadVar_row w b t ty arr (0,0) _ h hu ha hi
def CsOwn (w:World) (g:Nat) (ao:Option Addr) (len cap:Nat) (l:List Con):Prop:=ConRow w ao len l∧cap=len∧∃b,ao=some ⟨b,0,none⟩∧g<b∧ConBlk w 74 b len 0 []
theorem CsOwn.below {w w':World} {g:Nat} {ao:Option Addr} {len cap:Nat} {l:List Con} (h:CsOwn w g ao len cap l) (hb:Below w.heap.size w w'):CsOwn w' g ao len cap l:=⟨h.1.below hb,h.2.1,let ⟨b,e,c,d⟩:=h.2.2;⟨b,e,c,d.below hb⟩⟩
theorem CsOwn.put {w:World} {g:Nat} {ao:Option Addr} {len cap:Nat} {l:List Con} (h:CsOwn w g ao len cap l) (j:Nat) (v:Value):CsOwn (w.setCell ⟨g,j,none⟩ v) g ao len cap l:=by
 obtain ⟨h1,h2,b,rfl,h3,h4⟩:=h
 exact ⟨h1.other g j v (fun c off e=>by cases e;omega),h2,b,rfl,h3,ConBlk.other h4 g j v (by omega)⟩
def KlOwn (w:World) (g:Nat) (ao:Option Addr) (len cap:Nat) (l:List Int):Prop:=NRow w ao len l∧cap=len∧∃b,ao=some ⟨b,0,none⟩∧g<b∧IBlk w 3 b len 0 []
theorem KlOwn.below {w w':World} {g:Nat} {ao:Option Addr} {len cap:Nat} {l:List Int} (h:KlOwn w g ao len cap l) (hb:Below w.heap.size w w'):KlOwn w' g ao len cap l:=⟨h.1.below hb,h.2.1,let ⟨b,e,c,d⟩:=h.2.2;⟨b,e,c,d.below hb⟩⟩
theorem KlOwn.put {w:World} {g:Nat} {ao:Option Addr} {len cap:Nat} {l:List Int} (h:KlOwn w g ao len cap l) (j:Nat) (v:Value):KlOwn (w.setCell ⟨g,j,none⟩ v) g ao len cap l:=by
 obtain ⟨h1,h2,b,rfl,h3,h4⟩:=h
 exact ⟨h1.other g j v (fun c off e=>by cases e;omega),h2,b,rfl,h3,iblk_other h4 g j v (by omega)⟩
structure Agt where
 name:List UInt8
 mem:Int
 cpu:Int
 cs:List Con
abbrev agtv (name:List UInt8) (mem:Int) (cpu:Int) (xo:Option Addr) (xl xc:Nat):Value:=.agg #[.string (bs name),.int .i64 mem,.int .i64 cpu,.slice xo xl xc]
def AgtAt (w:World) (b p:Nat) (q:Agt) (xo:Option Addr) (xl xc:Nat):Prop:=
 w.cell? ⟨b,p,none⟩=some (.string (bs q.name))∧w.cell? ⟨b,p+1,none⟩=some (.int .i64 q.mem)∧w.cell? ⟨b,p+2,none⟩=some (.int .i64 q.cpu)∧w.cell? ⟨b,p+3,none⟩=some (.slice xo xl xc)∧ConRow w xo xl q.cs
def AgtRow (w:World) (ao:Option Addr) (len:Nat) (l:List Agt):Prop:=
 len=l.length∧(len=0∨∃b off,ao=some ⟨b,off,none⟩∧∀i (h:i<l.length),∃(xo:Option Addr) (xl xc:Nat),AgtAt w b (off+i*4) l[i] xo xl xc)
theorem AgtAt.lt {w:World} {b p:Nat} {q:Agt} {xo:Option Addr} {xl xc:Nat} (h:AgtAt w b p q xo xl xc):b<w.heap.size:=yG h.1
theorem AgtAt.below {w w':World} {b p:Nat} {q:Agt} {xo:Option Addr} {xl xc:Nat} (h:AgtAt w b p q xo xl xc) (hb:Below w.heap.size w w'):AgtAt w' b p q xo xl xc:=
 ⟨(hb.cell h.lt).trans h.1,(hb.cell h.lt).trans h.2.1,(hb.cell h.lt).trans h.2.2.1,(hb.cell h.lt).trans h.2.2.2.1,h.2.2.2.2.below hb⟩
theorem AgtRow.below {w w':World} {ao:Option Addr} {len:Nat} {l:List Agt} (h:AgtRow w ao len l) (hb:Below w.heap.size w w'):AgtRow w' ao len l:=by
 obtain ⟨h1,h2⟩:=h
 refine ⟨h1,?_⟩
 rcases h2 with h2 | ⟨b,off,h3,h4⟩
 ·exact .inl h2
 ·exact .inr ⟨b,off,h3,fun i h=>let ⟨xo,xl,xc,hh⟩:=h4 i h;⟨xo,xl,xc,hh.below hb⟩⟩
theorem AgtRow.nil (w:World) (ao:Option Addr):AgtRow w ao 0 []:=⟨rfl,.inl rfl⟩
theorem AgtRow.at {w:World} {ao:Option Addr} {len:Nat} {l:List Agt} (h:AgtRow w ao len l) {i:Nat} (hi:i<len):∃b off,ao=some ⟨b,off,none⟩∧∀(h:i<l.length),∃(xo:Option Addr) (xl xc:Nat),AgtAt w b (off+i*4) l[i] xo xl xc:=by
 obtain ⟨h1,h2⟩:=h
 rcases h2 with h2 | ⟨b,off,h3,h4⟩
 ·omega
 ·exact ⟨b,off,h3,fun hi=>h4 i hi⟩
def AgtBlk (w:World) (t:TypeId) (g n k:Nat) (l:List Agt):Prop:=
 ∃arr:Array Value,w.heap[g]? = some (.cells arr t (0,0))∧arr.size=n*4∧∀i (h:i<l.length),i<k→arr[i*4]? = some (.string (bs l[i].name))∧arr[i*4+1]? = some (.int .i64 l[i].mem)∧arr[i*4+2]? = some (.int .i64 l[i].cpu)∧∃(xo:Option Addr) (xl xc:Nat),arr[i*4+3]? = some (.slice xo xl xc)∧CsOwn w g xo xl xc l[i].cs
theorem AgtBlk.lt {w:World} {t:TypeId} {g n k:Nat} {l:List Agt} (h:AgtBlk w t g n k l):g<w.heap.size:=let ⟨_,h,_⟩:=h;lt_of_block h
theorem AgtBlk.below {w w':World} {t:TypeId} {g n k:Nat} {l:List Agt} (h:AgtBlk w t g n k l) (hb:Below w.heap.size w w'):AgtBlk w' t g n k l:=by
 have hlt:=h.lt
 obtain ⟨arr,h1,h2,h3⟩:=h
 exact ⟨arr,(hb.block g hlt).trans h1,h2,fun i h hk=>let ⟨s0,s1,s2,xo,xl,xc,t0,o0⟩:=h3 i h hk;⟨s0,s1,s2,xo,xl,xc,t0,o0.below hb⟩⟩
theorem AgtBlk.cell {w:World} {t:TypeId} {g n k:Nat} {l:List Agt} (h:AgtBlk w t g n k l) {j:Nat} (hj:j<n*4):∃v,w.cell? ⟨g,j,none⟩=some v:=by
 obtain ⟨arr,h1,h2,_⟩:=h
 exact ⟨arr[j]'(by omega),by simp [World.cell?,h1,Array.getElem?_eq_getElem (show j<arr.size by omega)]⟩
theorem AgtBlk.frozen {w:World} {t:TypeId} {g n k:Nat} {l:List Agt} (h:AgtBlk w t g n k l) (j:Nat):w.frozen? ⟨g,j,none⟩=false:=by
 obtain ⟨arr,h1,h2,_⟩:=h
 simp [World.frozen?,h1]
theorem AgtBlk.row {w:World} {t:TypeId} {g n:Nat} {l:List Agt} (h:AgtBlk w t g n n l) (hl:n=l.length):AgtRow w (some ⟨g,0,none⟩) n l:=by
 obtain ⟨arr,h1,h2,h3⟩:=h
 refine ⟨hl,.inr ⟨g,0,rfl,fun i hi=>?_⟩⟩
 obtain ⟨s0,s1,s2,xo,xl,xc,t0,o0⟩:=h3 i hi (by omega)
 refine ⟨xo,xl,xc,?_⟩
 unfold AgtAt
 simp only [Nat.zero_add]
 exact ⟨by simp [World.cell?,h1,s0],by simp [World.cell?,h1,s1],by simp [World.cell?,h1,s2],by simp [World.cell?,h1,t0],o0.1⟩
theorem agtblk_made (w:World) (t:TypeId) (z:Array Value) (n:Nat) (l:List Agt):AgtBlk (w.alloc (.cells (madeCells z (n*4)) t)) t w.heap.size n 0 l:=
 ⟨madeCells z (n*4),by show (w.heap.push _)[w.heap.size]? = _;simp,size_madeCells _ _,fun i _ h=>absurd h (by omega)⟩
def putAgt (w:World) (g p:Nat) (name:List UInt8) (mem:Int) (cpu:Int) (xo:Option Addr) (xl xc:Nat):World:=((((w.setCell ⟨g,p,none⟩ (.string (bs name))).setCell ⟨g,p+1,none⟩ (.int .i64 mem)).setCell ⟨g,p+2,none⟩ (.int .i64 cpu)).setCell ⟨g,p+3,none⟩ (.slice xo xl xc))
theorem AgtBlk.step {w:World} {t:TypeId} {g n k:Nat} {l:List Agt} (h:AgtBlk w t g n k l) (hk:k<n) (hl:k<l.length) (xo:Option Addr) (xl xc:Nat) (ow0:CsOwn w g xo xl xc l[k].cs):AgtBlk (putAgt w g (k*4) l[k].name l[k].mem l[k].cpu xo xl xc) t g n (k+1) l:=by
 obtain ⟨arr,h1,h2,h3⟩:=h
 have e1:=heap_setCell_same w g (k*4) _ _ (.string (bs l[k].name)) h1
 have e2:=heap_setCell_same _ g (k*4+1) _ _ (.int .i64 l[k].mem) e1
 have e3:=heap_setCell_same _ g (k*4+2) _ _ (.int .i64 l[k].cpu) e2
 have e4:=heap_setCell_same _ g (k*4+3) _ _ (.slice xo xl xc) e3
 refine ⟨_,e4,by simp [h2],fun i hi hik=>?_⟩
 by_cases e:i=k
 ·subst e
  have q1:i*4+3<arr.size:=by omega
  refine ⟨?_,?_,?_,xo,xl,xc,?_,((((ow0.put (i*4) (.string (bs l[i].name))).put (i*4+1) (.int .i64 l[i].mem)).put (i*4+2) (.int .i64 l[i].cpu)).put (i*4+3) (.slice xo xl xc))⟩<;>simp [Array.getElem?_setIfInBounds,h2]<;>omega
 ·obtain ⟨s0,s1,s2,z0,z1,z2,t0,o0⟩:=h3 i hi (by omega)
  refine ⟨?_,?_,?_,z0,z1,z2,?_,((((o0.put (k*4) (.string (bs l[k].name))).put (k*4+1) (.int .i64 l[k].mem)).put (k*4+2) (.int .i64 l[k].cpu)).put (k*4+3) (.slice xo xl xc))⟩
  ·rw [←s0];simp only [Array.getElem?_setIfInBounds];repeat rw [if_neg (by omega)]
  ·rw [←s1];simp only [Array.getElem?_setIfInBounds];repeat rw [if_neg (by omega)]
  ·rw [←s2];simp only [Array.getElem?_setIfInBounds];repeat rw [if_neg (by omega)]
  ·rw [←t0];simp only [Array.getElem?_setIfInBounds];repeat rw [if_neg (by omega)]
def flatC (l:List Agt):List Con:=l.flatMap (·.cs)
def runsV (l:List Agt):List Int:=((flatC l).map (·.id)).mergeSort (fun x y=>decide (x≤y))
theorem flat_step {l:List Agt} {i:Nat} (h:i<l.length):flatC (l.take (i+1))=flatC (l.take i)++l[i].cs:=by
 have e:=List.take_succ_eq_append_getElem h
 unfold flatC
 rw [e,List.flatMap_append]
 congr 1
 simp only [List.flatMap_cons,List.flatMap_nil,List.append_nil]
theorem cfold_step {l:List Con} {k:Nat} (a:List Con) (h:k<l.length):(l.take (k+1)).foldl insC a=insC ((l.take k).foldl insC a) l[k]:=by
 rw [List.take_succ_eq_append_getElem h,List.foldl_append]
 rfl
theorem insC_cons (d:Con) (t:List Con) (c:Con):insC (d::t) c=if d.id<c.id then d::insC t c else c::d::t:=by
 unfold insC
 rw [placeC]
 split<;>simp
theorem insC_perm (l:List Con) (c:Con):(insC l c).Perm (c::l):=by
 unfold insC
 refine List.perm_middle.trans ?_
 rw [List.take_append_drop]
theorem insC_sorted {c:Con}:∀{l:List Con},(l.map (·.id)).Pairwise (fun x y=>decide (x≤y)=true)→((insC l c).map (·.id)).Pairwise (fun x y=>decide (x≤y)=true)
 | [],_=>by simp [insC,placeC]
 | d::t,h=>by
  rw [insC_cons]
  rw [List.map_cons,List.pairwise_cons] at h
  split
  ·rename_i hd
   rw [List.map_cons,List.pairwise_cons]
   refine ⟨fun x hx=>?_,insC_sorted h.2⟩
   obtain ⟨y,hy,rfl⟩:=List.mem_map.1 hx
   rcases List.mem_cons.1 ((insC_perm t c).subset hy) with rfl | hy
   ·exact decide_eq_true (by omega)
   ·exact h.1 _ (List.mem_map.2 ⟨y,hy,rfl⟩)
  ·rename_i hd
   rw [List.map_cons,List.map_cons,List.pairwise_cons]
   refine ⟨fun x hx=>?_,by rw [List.pairwise_cons];exact h⟩
   rcases List.mem_cons.1 hx with rfl | hx
   ·exact decide_eq_true (by omega)
   ·have:=of_decide_eq_true (h.1 _ hx)
    exact decide_eq_true (by omega)
theorem cfold_sorted:∀(l a:List Con),(a.map (·.id)).Pairwise (fun x y=>decide (x≤y)=true)→((l.foldl insC a).map (·.id)).Pairwise (fun x y=>decide (x≤y)=true)
 | [],a,h=>h
 | c::t,a,h=>by rw [List.foldl_cons];exact cfold_sorted t _ (insC_sorted h)
theorem cfold_perm:∀(l a:List Con),(l.foldl insC a).Perm (a++l)
 | [],a=>by simp
 | c::t,a=>by
  rw [List.foldl_cons]
  refine (cfold_perm t _).trans ?_
  refine ((insC_perm a c).append_right t).trans ?_
  exact (List.perm_middle (l₁:=a) (l₂:=t) (a:=c)).symm
theorem ids_fold (l:List Agt):((flatC l).foldl insC []).map (·.id)=runsV l:=by
 refine List.Perm.eq_of_pairwise (le:=fun x y=>decide (x≤y)=true) (fun a b _ _ h1 h2=>?_) (cfold_sorted _ [] (by simp)) (List.pairwise_mergeSort (fun a b c h1 h2=>?_) (fun a b=>?_) _) ?_
 ·have h3:=of_decide_eq_true h1
  have h4:=of_decide_eq_true h2
  omega
 ·have h3:=of_decide_eq_true h1
  have h4:=of_decide_eq_true h2
  exact decide_eq_true (by omega)
 ·rw [Bool.or_eq_true,yL,yL]
  omega
 ·refine List.Perm.trans ?_ (List.mergeSort_perm _ _).symm
  have:=(cfold_perm (flatC l) []).map (·.id)
  simpa using this
theorem flat_len {l:List Agt} (h:∀q ∈ l,q.cs.length≤1048576) (i:Nat):(flatC (l.take i)).length≤i*1048576:=by
 obtain ⟨N,hN⟩:∃N,N=1048576:=⟨_,rfl⟩
 rw [←hN] at h ⊢
 clear hN
 induction i with
 | zero=>simp [flatC]
 | succ i ih=>
  rw [Nat.succ_mul]
  by_cases hi:i<l.length
  ·rw [flat_step hi,List.length_append]
   have:=h _ (yM hi)
   omega
  ·have e1:l.take (i+1)=l:=List.take_of_length_le (by omega)
   have e2:l.take i=l:=List.take_of_length_le (by omega)
   rw [e1]
   rw [e2] at ih
   omega
theorem runs_len (l:List Agt):(runsV l).length=(flatC l).length:=by
 unfold runsV
 rw [List.length_mergeSort,List.length_map]
theorem icl (l:List Int):(icells l).length=l.length:=by simp [icells]
theorem icells_app (a b:List Int):icells (a++b)=icells a++icells b:=by simp [icells]
theorem iown_src {B:Nat} {w:World} {v:Value} {l:List Int} (h:IOwn B w v l):∃ao cap,v=.slice ao l.length cap∧(ao=none→l.length=0∧cap=0)∧∀ad,ao=some ad→∀j u,(icells l)[j]? = some u→w.cell? (ad.add j)=some u:=by
 rcases h.2 with ⟨rfl,h0⟩ | ⟨g,cap,cur,rfl,h1,h2,h3,h4,h5,h6⟩
 ·exact ⟨none,0,by rw [h0],fun _=>⟨h0,rfl⟩,fun _ e=>by cases e⟩
 ·refine ⟨_,cap,rfl,(fun e=>by cases e),fun ad e j u hu=>?_⟩
  cases e
  have hj:=(List.getElem?_eq_some_iff.1 hu).1
  rw [icl] at hj
  rw [←h6,List.getElem?_take_of_lt (by simpa using hj)] at hu
  rw [Lib.add_plain,Nat.zero_add]
  simp [World.cell?,h2]
  simpa using hu
theorem iown_more {w wr w1:World} {B:Nat} {v v':Value} {l m:List Int} (hb:Below B w wr) (hown:IOwn B wr v l)
  (h1:w1.ownsRow B 3 1 v' (l.length+m.length) (icells l++icells m)) (hg:wr.grownBy w1 v.ownBlock) (hB:B≤wr.heap.size):IOwn B w1 v' (l++m)∧Below B w w1:=by
 refine ⟨?_,hb.grown hg hB ?_⟩
 ·unfold IOwn
  rw [List.length_append,icells_app]
  exact h1
 ·intro k hk
  rcases hown.2 with ⟨rfl,_⟩ | ⟨g,cap,cur,rfl,hg',_⟩
  ·simp [Value.ownBlock] at hk
  ·simp [Value.ownBlock] at hk;omega
structure Rpl where
 code:Int
 app:Int
 cs:List Con
 kill:List Int
abbrev rplv (code:Int) (app:Int) (xo:Option Addr) (xl xc:Nat) (yo:Option Addr) (yl yc:Nat):Value:=.agg #[.int .i64 code,.int .i64 app,.slice xo xl xc,.slice yo yl yc]
def RplAt (w:World) (b p:Nat) (q:Rpl) (xo:Option Addr) (xl xc:Nat) (yo:Option Addr) (yl yc:Nat):Prop:=
 w.cell? ⟨b,p,none⟩=some (.int .i64 q.code)∧w.cell? ⟨b,p+1,none⟩=some (.int .i64 q.app)∧w.cell? ⟨b,p+2,none⟩=some (.slice xo xl xc)∧w.cell? ⟨b,p+3,none⟩=some (.slice yo yl yc)∧ConRow w xo xl q.cs∧NRow w yo yl q.kill
def RplRow (w:World) (ao:Option Addr) (len:Nat) (l:List Rpl):Prop:=
 len=l.length∧(len=0∨∃b off,ao=some ⟨b,off,none⟩∧∀i (h:i<l.length),∃(xo:Option Addr) (xl xc:Nat) (yo:Option Addr) (yl yc:Nat),RplAt w b (off+i*4) l[i] xo xl xc yo yl yc)
theorem RplAt.lt {w:World} {b p:Nat} {q:Rpl} {xo:Option Addr} {xl xc:Nat} {yo:Option Addr} {yl yc:Nat} (h:RplAt w b p q xo xl xc yo yl yc):b<w.heap.size:=yG h.1
theorem RplAt.below {w w':World} {b p:Nat} {q:Rpl} {xo:Option Addr} {xl xc:Nat} {yo:Option Addr} {yl yc:Nat} (h:RplAt w b p q xo xl xc yo yl yc) (hb:Below w.heap.size w w'):RplAt w' b p q xo xl xc yo yl yc:=
 ⟨(hb.cell h.lt).trans h.1,(hb.cell h.lt).trans h.2.1,(hb.cell h.lt).trans h.2.2.1,(hb.cell h.lt).trans h.2.2.2.1,h.2.2.2.2.1.below hb,h.2.2.2.2.2.below hb⟩
theorem RplRow.below {w w':World} {ao:Option Addr} {len:Nat} {l:List Rpl} (h:RplRow w ao len l) (hb:Below w.heap.size w w'):RplRow w' ao len l:=by
 obtain ⟨h1,h2⟩:=h
 refine ⟨h1,?_⟩
 rcases h2 with h2 | ⟨b,off,h3,h4⟩
 ·exact .inl h2
 ·exact .inr ⟨b,off,h3,fun i h=>let ⟨xo,xl,xc,yo,yl,yc,hh⟩:=h4 i h;⟨xo,xl,xc,yo,yl,yc,hh.below hb⟩⟩
theorem RplRow.nil (w:World) (ao:Option Addr):RplRow w ao 0 []:=⟨rfl,.inl rfl⟩
theorem RplRow.at {w:World} {ao:Option Addr} {len:Nat} {l:List Rpl} (h:RplRow w ao len l) {i:Nat} (hi:i<len):∃b off,ao=some ⟨b,off,none⟩∧∀(h:i<l.length),∃(xo:Option Addr) (xl xc:Nat) (yo:Option Addr) (yl yc:Nat),RplAt w b (off+i*4) l[i] xo xl xc yo yl yc:=by
 obtain ⟨h1,h2⟩:=h
 rcases h2 with h2 | ⟨b,off,h3,h4⟩
 ·omega
 ·exact ⟨b,off,h3,fun hi=>h4 i hi⟩
def RplBlk (w:World) (t:TypeId) (g n k:Nat) (l:List Rpl):Prop:=
 ∃arr:Array Value,w.heap[g]? = some (.cells arr t (0,0))∧arr.size=n*4∧∀i (h:i<l.length),i<k→arr[i*4]? = some (.int .i64 l[i].code)∧arr[i*4+1]? = some (.int .i64 l[i].app)∧∃(xo:Option Addr) (xl xc:Nat) (yo:Option Addr) (yl yc:Nat),arr[i*4+2]? = some (.slice xo xl xc)∧arr[i*4+3]? = some (.slice yo yl yc)∧CsOwn w g xo xl xc l[i].cs∧KlOwn w g yo yl yc l[i].kill
theorem RplBlk.lt {w:World} {t:TypeId} {g n k:Nat} {l:List Rpl} (h:RplBlk w t g n k l):g<w.heap.size:=let ⟨_,h,_⟩:=h;lt_of_block h
theorem RplBlk.below {w w':World} {t:TypeId} {g n k:Nat} {l:List Rpl} (h:RplBlk w t g n k l) (hb:Below w.heap.size w w'):RplBlk w' t g n k l:=by
 have hlt:=h.lt
 obtain ⟨arr,h1,h2,h3⟩:=h
 exact ⟨arr,(hb.block g hlt).trans h1,h2,fun i h hk=>let ⟨s0,s1,xo,xl,xc,yo,yl,yc,t0,t1,o0,o1⟩:=h3 i h hk;⟨s0,s1,xo,xl,xc,yo,yl,yc,t0,t1,o0.below hb,o1.below hb⟩⟩
theorem RplBlk.cell {w:World} {t:TypeId} {g n k:Nat} {l:List Rpl} (h:RplBlk w t g n k l) {j:Nat} (hj:j<n*4):∃v,w.cell? ⟨g,j,none⟩=some v:=by
 obtain ⟨arr,h1,h2,_⟩:=h
 exact ⟨arr[j]'(by omega),by simp [World.cell?,h1,Array.getElem?_eq_getElem (show j<arr.size by omega)]⟩
theorem RplBlk.frozen {w:World} {t:TypeId} {g n k:Nat} {l:List Rpl} (h:RplBlk w t g n k l) (j:Nat):w.frozen? ⟨g,j,none⟩=false:=by
 obtain ⟨arr,h1,h2,_⟩:=h
 simp [World.frozen?,h1]
theorem RplBlk.row {w:World} {t:TypeId} {g n:Nat} {l:List Rpl} (h:RplBlk w t g n n l) (hl:n=l.length):RplRow w (some ⟨g,0,none⟩) n l:=by
 obtain ⟨arr,h1,h2,h3⟩:=h
 refine ⟨hl,.inr ⟨g,0,rfl,fun i hi=>?_⟩⟩
 obtain ⟨s0,s1,xo,xl,xc,yo,yl,yc,t0,t1,o0,o1⟩:=h3 i hi (by omega)
 refine ⟨xo,xl,xc,yo,yl,yc,?_⟩
 unfold RplAt
 simp only [Nat.zero_add]
 exact ⟨by simp [World.cell?,h1,s0],by simp [World.cell?,h1,s1],by simp [World.cell?,h1,t0],by simp [World.cell?,h1,t1],o0.1,o1.1⟩
theorem rplblk_made (w:World) (t:TypeId) (z:Array Value) (n:Nat) (l:List Rpl):RplBlk (w.alloc (.cells (madeCells z (n*4)) t)) t w.heap.size n 0 l:=
 ⟨madeCells z (n*4),by show (w.heap.push _)[w.heap.size]? = _;simp,size_madeCells _ _,fun i _ h=>absurd h (by omega)⟩
def putRpl (w:World) (g p:Nat) (code:Int) (app:Int) (xo:Option Addr) (xl xc:Nat) (yo:Option Addr) (yl yc:Nat):World:=((((w.setCell ⟨g,p,none⟩ (.int .i64 code)).setCell ⟨g,p+1,none⟩ (.int .i64 app)).setCell ⟨g,p+2,none⟩ (.slice xo xl xc)).setCell ⟨g,p+3,none⟩ (.slice yo yl yc))
theorem RplBlk.step {w:World} {t:TypeId} {g n k:Nat} {l:List Rpl} (h:RplBlk w t g n k l) (hk:k<n) (hl:k<l.length) (xo:Option Addr) (xl xc:Nat) (yo:Option Addr) (yl yc:Nat) (ow0:CsOwn w g xo xl xc l[k].cs) (ow1:KlOwn w g yo yl yc l[k].kill):RplBlk (putRpl w g (k*4) l[k].code l[k].app xo xl xc yo yl yc) t g n (k+1) l:=by
 obtain ⟨arr,h1,h2,h3⟩:=h
 have e1:=heap_setCell_same w g (k*4) _ _ (.int .i64 l[k].code) h1
 have e2:=heap_setCell_same _ g (k*4+1) _ _ (.int .i64 l[k].app) e1
 have e3:=heap_setCell_same _ g (k*4+2) _ _ (.slice xo xl xc) e2
 have e4:=heap_setCell_same _ g (k*4+3) _ _ (.slice yo yl yc) e3
 refine ⟨_,e4,by simp [h2],fun i hi hik=>?_⟩
 by_cases e:i=k
 ·subst e
  have q1:i*4+3<arr.size:=by omega
  refine ⟨?_,?_,xo,xl,xc,yo,yl,yc,?_,?_,((((ow0.put (i*4) (.int .i64 l[i].code)).put (i*4+1) (.int .i64 l[i].app)).put (i*4+2) (.slice xo xl xc)).put (i*4+3) (.slice yo yl yc)),((((ow1.put (i*4) (.int .i64 l[i].code)).put (i*4+1) (.int .i64 l[i].app)).put (i*4+2) (.slice xo xl xc)).put (i*4+3) (.slice yo yl yc))⟩<;>simp [Array.getElem?_setIfInBounds,h2]<;>omega
 ·obtain ⟨s0,s1,z0,z1,z2,z3,z4,z5,t0,t1,o0,o1⟩:=h3 i hi (by omega)
  refine ⟨?_,?_,z0,z1,z2,z3,z4,z5,?_,?_,((((o0.put (k*4) (.int .i64 l[k].code)).put (k*4+1) (.int .i64 l[k].app)).put (k*4+2) (.slice xo xl xc)).put (k*4+3) (.slice yo yl yc)),((((o1.put (k*4) (.int .i64 l[k].code)).put (k*4+1) (.int .i64 l[k].app)).put (k*4+2) (.slice xo xl xc)).put (k*4+3) (.slice yo yl yc))⟩
  ·rw [←s0];simp only [Array.getElem?_setIfInBounds];repeat rw [if_neg (by omega)]
  ·rw [←s1];simp only [Array.getElem?_setIfInBounds];repeat rw [if_neg (by omega)]
  ·rw [←t0];simp only [Array.getElem?_setIfInBounds];repeat rw [if_neg (by omega)]
  ·rw [←t1];simp only [Array.getElem?_setIfInBounds];repeat rw [if_neg (by omega)]
def GWh (w:World) (B E g n:Nat):Prop:=Cel w 71 g (n*4)∧∀i,i<n→∃b xl,w.cell? ⟨g,i*4+3,none⟩=some (.slice (some ⟨b,0,none⟩) xl xl)∧Cel w 74 b (xl*5)∧xl≤1048576∧B≤b∧b<E∧b≠g
theorem GWh.below {w w':World} {B E g n:Nat} (h:GWh w B E g n) (hb:Below w.heap.size w w'):GWh w' B E g n:=
 ⟨h.1.below hb,fun i hi=>let ⟨b,xl,a1,k1,d⟩:=h.2 i hi;⟨b,xl,cellBel a1 hb,k1.below hb,d⟩⟩
theorem GWh.sc {w:World} {B E g n:Nat} (h:GWh w B E g n) (j:Nat) (v:Value) (hj:∀i,j≠i*4+3):GWh (w.setCell ⟨g,j,none⟩ v) B E g n:=
 ⟨h.1.set _ _ _,fun i hi=>let ⟨b,xl,a1,k1,d⟩:=h.2 i hi;⟨b,xl,cellKeep a1 (hj i),k1.set _ _ _,d⟩⟩
theorem GWh.mkd {w w':World} {B E g n b:Nat} (h:GWh w B E g n) (hm:Mkd b (b+1) w w') (hn:b≠g):GWh w' B E g n:=
 ⟨hm.cel _ _ _ h.1,fun i hi=>let ⟨b,xl,a1,k1,d⟩:=h.2 i hi;⟨b,xl,(World.cell?_of_block (w:=w) (a:=⟨g,i*4+3,none⟩) (hm.block g h.1.lt (by omega))).trans a1,hm.cel _ _ _ k1,d⟩⟩
theorem GWh.mkdo {w w':World} {B E B' E' g n:Nat} (h:GWh w B E g n) (hm:Mkd B' E' w w') (hn:g<B'∨E'≤g):GWh w' B E g n:=
 ⟨hm.cel _ _ _ h.1,fun i hi=>let ⟨b,xl,a1,k1,d⟩:=h.2 i hi;⟨b,xl,(World.cell?_of_block (w:=w) (a:=⟨g,i*4+3,none⟩) (hm.block g h.1.lt (by omega))).trans a1,hm.cel _ _ _ k1,d⟩⟩
theorem GWh.mono {w:World} {B E B' E' g n:Nat} (h:GWh w B E g n) (h1:B'≤B) (h2:E≤E'):GWh w B' E' g n:=
 ⟨h.1,fun i hi=>let ⟨b,xl,a1,k1,d⟩:=h.2 i hi;⟨b,xl,a1,k1,d.1,by have:=d.2.1;omega,by have:=d.2.2.1;omega,d.2.2.2⟩⟩
theorem AgtBlk.wh {w:World} {g n:Nat} {l:List Agt} (h:AgtBlk w 71 g n n l) (hl:n=l.length) (hk:∀q ∈ l,q.cs.length≤1048576):GWh w (g+1) w.heap.size g n:=by
 refine ⟨let ⟨arr,h1,h2,_⟩:=h;⟨arr,h1,h2⟩,fun i hi=>?_⟩
 obtain ⟨arr,h1,h2,h3⟩:=h
 have hil:i<l.length:=by omega
 obtain ⟨_,_,_,xo,xl,xc,t0,o0⟩:=h3 i hil hi
 have hlen:=hk l[i] (yM _)
 obtain ⟨r0,rfl,b,rfl,hb,kb⟩:=o0
 have e0:=r0.1
 exact ⟨b,_,by simp [World.cell?,h1,t0],conblk_cel kb,by omega,by omega,kb.lt,by omega⟩
theorem markAgentS_from (B E g n:Nat) (k0:Int) (w:World) (h:GWh w B E g n) (hB:B≤g) (hE:g<E) (hn:n≤1048576) (h0:0<k0) (h1:k0≤200000000000000) :
  Calls Tryz.prog 23 #[.slice (some ⟨g,0,none⟩) n n,.int .i64 k0] w fun e w'=>∃k',e=.returned (.int .i64 k')∧k0≤k'∧k'≤k0+5242883*(n:Int)∧Mkd B E w w':=by
 have HQ0:=hide h
 clear h
 go_enter Tryz.func23,Tryz.ntmps23
 go_wp2
 go_loopw [1,5] (fun s i wr=>∃(j:Nat) (k:Int),j≤n∧i=.int .i64 j∧s=.int .i64 k∧k0≤k∧k≤k0+5242883*(j:Int)∧Hid (GWh wr B E g n)∧Hid (Mkd B E w wr)) (fun _ i _=>n - (intOf i).toNat)
 case atStart=>exact ⟨0,k0,Nat.zero_le _,rfl,rfl,by omega,by omega,HQ0,hide (Mkd.refl _ _ _)⟩
 case round=>
  obtain ⟨j,k,hj,rfl,rfl,hk,hk',HQ,HG⟩:=hrel
  by_cases hlt:j<n
  ·have hk0:0<k:=by omega
   have hk1:k≤210000000000000:=by omega
   have HK:=hide hk'
   clear hk'
   go_wp2_with fail
   refine (markText_int k _ (by omega) (by omega)).mono ?_
   rintro e w1 ⟨rfl,hb⟩
   have HQ0:=hide ((uH HQ).below hb)
   have HG0:=hide ((uH HG).on hb)
   clear hb HQ HG
   obtain ⟨v0,d0⟩:=(uH HQ0).1.cell (j:=j*4) (by omega)
   have f0:=(uH HQ0).1.frozen (j*4)
   have HQ1:=hide ((uH HQ0).sc (j*4) (.string (mk k.toNat)) (by omega))
   have HG1:=hide ((uH HG0).sc g (j*4) (.string (mk k.toNat)) hB hE)
   obtain ⟨v1,d1⟩:=(uH HQ1).1.cell (j:=j*4+1) (by omega)
   have f1:=(uH HQ1).1.frozen (j*4+1)
   have HQ2:=hide ((uH HQ1).sc (j*4+1) (.int .i64 (k+1)) (by omega))
   have HG2:=hide ((uH HG1).sc g (j*4+1) (.int .i64 (k+1)) hB hE)
   obtain ⟨v2,d2⟩:=(uH HQ2).1.cell (j:=j*4+2) (by omega)
   have f2:=(uH HQ2).1.frozen (j*4+2)
   have HQ3:=hide ((uH HQ2).sc (j*4+2) (.int .i64 (k+1+1)) (by omega))
   have HG3:=hide ((uH HG2).sc g (j*4+2) (.int .i64 (k+1+1)) hB hE)
   obtain ⟨b,xl,d3,hcx,hxl,hb1,hb2,hbg⟩:=(uH HQ3).2 j hlt
   have CA:=hide (markContS_from b xl xl (k+1+1+1) _ hcx (yJ _) hxl (by omega) (by omega))
   clear HQ0 HG0 HQ1 HG1 HQ2 HG2 hcx
   go_wp2_with fail
   refine (uH CA).mono ?_
   rintro e w2 ⟨rfl,hm⟩
   have HQ4:=hide ((uH HQ3).mkd hm hbg)
   have HG4:=hide ((uH HG3).trans (hm.mono hb1 (by omega)))
   clear hm CA HQ3 HG3 d0 f0 d1 f1 d2 f2 d3
   go_wp2
   go_roundw
   case rel=>exact ⟨j+1,k+1+1+1+5*(xl:Int),by omega,by go_num,by go_num,by omega,by have:=uH HK;omega,HQ4,HG4⟩
   case measure=>simp [intOf];omega
  ·have hjn:j=n:=by omega
   subst hjn
   go_wp2
   go_ret
   exact ⟨k,rfl,hk,hk',uH HG⟩
theorem toAgent_any (name:List UInt8) (mem cpu:Int) (xo:Option Addr) (xl xc:Nat) (cs:List Con) (w:World) (h:ConRow w xo xl cs) (hl:xl≤1048576) :
  Calls Tryz.prog 44 #[agtv name mem cpu xo xl xc] w fun e w'=>∃g1,e=.returned (agtv name mem cpu (some ⟨g1,0,none⟩) xl xl)∧w.heap.size<g1∧ConBlk w' 74 g1 xl xl cs∧Below w.heap.size w w':=by
 have HR:=hide h
 clear h
 have HB0:=hide (yA (yA (yA (yH _ w) (.cells #[.string (bs name),.int .i64 mem,.int .i64 cpu,.slice xo xl xc] 89)) (.cells #[.string ⟨#[]⟩,.int .i64 0,.int .i64 0,.slice none 0 0] 71)) (.cells #[.string (bs name),.int .i64 0,.int .i64 0,.slice none 0 0] 71))
 have P0:=hide (((yD w #[.string (bs name),.int .i64 mem,.int .i64 cpu,.slice xo xl xc] 89).al (.cells #[.string ⟨#[]⟩,.int .i64 0,.int .i64 0,.slice none 0 0] 71)).al (.cells #[.string (bs name),.int .i64 0,.int .i64 0,.slice none 0 0] 71))
 have R0:=hide (show Blk _ (w.heap.size+1) #[.string ⟨#[]⟩,.int .i64 0,.int .i64 0,.slice none 0 0] 71 by have:=(yD (w.alloc (.cells #[.string (bs name),.int .i64 mem,.int .i64 cpu,.slice xo xl xc] 89)) #[.string ⟨#[]⟩,.int .i64 0,.int .i64 0,.slice none 0 0] 71).al (.cells #[.string (bs name),.int .i64 0,.int .i64 0,.slice none 0 0] 71);rwa [yE] at this)
 have O0:=hide (show Blk _ (w.heap.size+1+1) #[.string (bs name),.int .i64 0,.int .i64 0,.slice none 0 0] 71 by have:=yD ((w.alloc (.cells #[.string (bs name),.int .i64 mem,.int .i64 cpu,.slice xo xl xc] 89)).alloc (.cells #[.string ⟨#[]⟩,.int .i64 0,.int .i64 0,.slice none 0 0] 71)) #[.string (bs name),.int .i64 0,.int .i64 0,.slice none 0 0] 71;rwa [yE,yE] at this)
 go_enter Tryz.func44,Tryz.ntmps44
 go_wp2_with fail
 refine (toRes_ex _ _ _).mono ?_
 rintro e w1 ⟨rfl,o1,o2,o3,rfl⟩
 have HB1:=hide (yA (yA (yA (uH HB0) o1) o2) o3)
 have P1:=hide ((((uH P0).al o1).al o2).al o3)
 have R1:=hide ((((uH R0).al o1).al o2).al o3)
 have O1:=hide ((((uH O0).al o1).al o2).al o3)
 generalize ((((((w.alloc (.cells #[.string (bs name),.int .i64 mem,.int .i64 cpu,.slice xo xl xc] 89)).alloc (.cells #[.string ⟨#[]⟩,.int .i64 0,.int .i64 0,.slice none 0 0] 71)).alloc (.cells #[.string (bs name),.int .i64 0,.int .i64 0,.slice none 0 0] 71)).alloc o1).alloc o2).alloc o3)=w1 at HB1 P1 R1 O1 ⊢
 clear HB0 P0 R0 O0 o1 o2 o3
 have p3:=(uH P1).at 3
 have o1:=(uH O1).at 1;have o2:=(uH O1).at 2
 have of1:=(uH O1).f 1;have of2:=(uH O1).f 2
 simp at p3 o1 o2
 go_wp2_with fail
 refine (toContS_any xo xl xc cs _ ((uH HR).below (yC (yC (uH HB1) _ _ _ (by omega)) _ _ _ (by omega))) hl).mono ?_
 rintro e w2 ⟨rfl,hq,hb⟩
 simp only [set_size] at hq
 have hz1:=(uH O1).lt
 have HB2:=hide (yB (yC (yC (uH HB1) _ _ _ (show w.heap.size≤w.heap.size+1+1 by omega)) _ _ _ (show w.heap.size≤w.heap.size+1+1 by omega)) hb)
 have R2:=hide ((((uH R1).other _ _ _ (show w.heap.size+1≠w.heap.size+1+1 by omega)).other _ _ _ (show w.heap.size+1≠w.heap.size+1+1 by omega)).below hb)
 have O2:=hide (show Blk w2 (w.heap.size+1+1) #[.string (bs name),.int .i64 mem,.int .i64 cpu,.slice none 0 0] 71 from (((uH O1).set 1 _).set 2 _).below hb)
 obtain ⟨g2,hg2⟩:∃g,w1.heap.size=g:=⟨_,rfl⟩
 simp only [set_size]
 rw [hg2] at hq hz1 ⊢
 have C2:=hide hq
 have z2:=hq.lt
 clear hb P1 R1 O1 HB1 HR hq p3 o1 o2 of1 of2 hg2
 have o3:=(uH O2).at 3
 have of3:=(uH O2).f 3
 simp at o3
 go_upto_region 5 with fail
 have HB3:=hide (yC (uH HB2) (w.heap.size+1+1) 3 (.slice (some ⟨g2,0,none⟩) xl xl) (by omega))
 have R3:=hide ((uH R2).other (w.heap.size+1+1) 3 (.slice (some ⟨g2,0,none⟩) xl xl) (by omega))
 have O3:=hide (show Blk (w2.setCell ⟨w.heap.size+1+1,3,none⟩ (.slice (some ⟨g2,0,none⟩) xl xl)) (w.heap.size+1+1) #[.string (bs name),.int .i64 mem,.int .i64 cpu,.slice (some ⟨g2,0,none⟩) xl xl] 71 from (uH O2).set 3 _)
 have C3:=hide ((uH C2).other (w.heap.size+1+1) 3 (.slice (some ⟨g2,0,none⟩) xl xl) (by omega))
 generalize w2.setCell ⟨w.heap.size+1+1,3,none⟩ (.slice (some ⟨g2,0,none⟩) xl xl)=w3 at HB3 R3 O3 C3 ⊢
 clear o3 of3 HB2 R2 O2 C2
 refine wp_region_lit ?_
 refine wpList_same (v:=.agg #[.string (bs name),.int .i64 mem,.int .i64 cpu,.slice (some ⟨g2,0,none⟩) xl xl]) (d:=some 15) rfl rfl (run_v (ns_load 71 (uH O3) Tryz.underlying71 rfl (by kernel_rfl))) ?_
 simp only [zW]
 refine wpList_none (d:=none) rfl rfl (run_u (ns_store 71 (uH R3) (by kernel_rfl) rfl (by kernel_rfl))) ?_
 simp only [Act.put]
 have M:=ns_mks (uH R3) #[.string (bs name),.int .i64 mem,.int .i64 cpu,.slice (some ⟨g2,0,none⟩) xl xl] rfl
 have R4:=hide (ns_blk (uH R3) #[.string (bs name),.int .i64 mem,.int .i64 cpu,.slice (some ⟨g2,0,none⟩) xl xl])
 have HB4:=hide ((uH HB3).trans (M.below (fun k e=>by subst e;omega) (uH HB3).size))
 have C4:=hide (conblk_mks (uH C3) M (by omega))
 clear M HB3 R3 O3 C3
 generalize World.setRow w3 (w.heap.size+1) #[.string (bs name),.int .i64 mem,.int .i64 cpu,.slice (some ⟨g2,0,none⟩) xl xl]=w4 at R4 HB4 C4 ⊢
 have r0:=(uH R4).at 0;have r1:=(uH R4).at 1;have r2:=(uH R4).at 2;have r3:=(uH R4).at 3
 simp at r0 r1 r2 r3
 clear R4
 go_wp2
 exact bodyPost_ret (v:=agtv name mem cpu (some ⟨g2,0,none⟩) xl xl) (by simp [results,Tryz.results44,go_sem,r0,r1,r2,r3]) rfl ⟨_,rfl,by omega,uH C4,uH HB4⟩
theorem agtInfo:(Tryz.prog.info? 71).map (fun i=>(i.zero,i.size,i.bytes))=some (some (agtv [] 0 0 none 0 0),4,56):=by kernel_rfl
theorem make_agts (n:Nat) (hn:n≤1048576) (w:World) :
  (Instr.makeSlice 46 (.int .i64 (n:Int)) (.int .i64 (n:Int))).run Tryz.prog w=.ok (.slice (some ⟨w.heap.size,0,none⟩) n n) (w.alloc (.cells (madeCells (agtv [] 0 0 none 0 0).cells (n*4)) 71)):=by
 obtain ⟨i,hi,hz⟩:=Option.map_eq_some_iff.1 agtInfo
 simp only [Prod.mk.injEq] at hz
 obtain ⟨hz,hs,hb⟩:=hz
 have hr:=run_make (P:=Tryz.prog) w 46 71 i _ Tryz.underlying46 hi hz .i64 .i64 n n (by omega) (Int.le_refl _) (by rw [hb];omega) (by omega)
 simp only [Int.toNat_natCast,hs] at hr
 exact hr
theorem toAgentS_any (ao:Option Addr) (len cap:Nat) (l:List Agt) (w:World) (h:AgtRow w ao len l) (hl:len≤1048576) (hk:∀q ∈ l,q.cs.length≤1048576) :
  Calls Tryz.prog 18 #[.slice ao len cap] w fun e w'=>e=.returned (.slice (some ⟨w.heap.size,0,none⟩) len len)∧AgtBlk w' 71 w.heap.size len len l∧Below w.heap.size w w':=by
 have HR:=hide h
 have HL:=hide h.1
 have HK:=hide hk
 have hmk:=make_agts len hl w
 obtain ⟨zs,hzs⟩:∃z,z=(agtv [] 0 0 none 0 0).cells:=⟨_,rfl⟩
 rw [←hzs] at hmk
 clear h hzs hk
 go_enter Tryz.func18,Tryz.ntmps18
 go_wp2
 clear hmk
 go_loopw [4] (fun i wr=>∃k:Nat,k≤len∧i=.int .i64 k∧Hid (AgtBlk wr 71 w.heap.size len k l)∧Hid (Below w.heap.size w wr)) (fun i _=>len - (intOf i).toNat)
 case atStart=>exact ⟨0,Nat.zero_le _,rfl,hide (agtblk_made w _ _ _ _),hide (yA (yH _ _) _)⟩
 case round=>
  obtain ⟨k,hk,rfl,HQ,HB⟩:=hrel
  by_cases hlt:k<len
  ·obtain ⟨b,off,rfl,hq⟩:=((uH HR).below (uH HB)).at hlt
   have hkl:k<l.length:=by have:=uH HL;omega
   have hkn:=uH HK l[k] (yM _)
   obtain ⟨xo,xl,xc,c0,c1,c2,c3,hrow⟩:=hq hkl
   have hst:=fun wx (hx:AgtBlk wx 71 w.heap.size len k l) xo xl xc (h0:CsOwn wx w.heap.size xo xl xc l[k].cs)=>hx.step hlt hkl xo xl xc h0
   obtain ⟨q,hs⟩:∃q,l[k]=q:=⟨_,rfl⟩
   rw [hs] at c0 c1 c2 hst hrow hkn
   obtain ⟨name,mem,cpu,cs⟩:=q
   simp only at c0 c1 c2 hst hrow hkn
   have HXL:=hide hrow.1
   have hxl:xl≤1048576:=by have:=hrow.1;omega
   have HST:=hide hst
   have HROW:=hide hrow
   have hsz:=(uH HQ).lt
   clear hst hq hs hkl hrow hkn
   go_wp2_with fail
   refine (toAgent_any name mem cpu xo xl xc cs _ (uH HROW) hxl).mono ?_
   rintro e w1 ⟨g1,rfl,hg1,hab,hb⟩
   have HQ1:=hide ((uH HQ).below hb)
   have HB1:=hide (yB (uH HB) hb)
   have HO:=hide (show CsOwn w1 w.heap.size (some ⟨g1,0,none⟩) xl xl cs from ⟨hab.row (uH HXL),rfl,g1,rfl,by omega,conblk_any hab⟩)
   clear hb c0 c1 c2 c3 hab
   obtain ⟨v0,d0⟩:=(uH HQ1).cell (j:=k*4) (by omega)
   obtain ⟨v1,d1⟩:=(uH HQ1).cell (j:=k*4+1) (by omega)
   obtain ⟨v2,d2⟩:=(uH HQ1).cell (j:=k*4+2) (by omega)
   obtain ⟨v3,d3⟩:=(uH HQ1).cell (j:=k*4+3) (by omega)
   have f0:=(uH HQ1).frozen (k*4)
   have f1:=(uH HQ1).frozen (k*4+1)
   have f2:=(uH HQ1).frozen (k*4+2)
   have f3:=(uH HQ1).frozen (k*4+3)
   go_wp2
   go_roundw
   case rel=>exact ⟨k+1,by omega,by go_num,hide (uH HST _ (uH HQ1) _ _ _ (uH HO)),hide (yC (yC (yC (yC (uH HB1) _ _ _ (by omega)) _ _ _ (by omega)) _ _ _ (by omega)) _ _ _ (by omega))⟩
   case measure=>simp [intOf];omega
  ·have hkk:k=len:=by omega
   subst hkk
   go_wp2
   go_ret
   exact ⟨rfl,uH HQ,uH HB⟩
end
end Go.Proofs.YtmkedfdnokmglaaGreat
