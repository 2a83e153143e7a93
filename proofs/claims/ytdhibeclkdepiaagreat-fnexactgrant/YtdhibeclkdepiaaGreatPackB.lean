/-
  Several texts of this claim in one, made short by program: HeapM, OrdM, LessK, HeapU, StdM, KeptV, StdC.
-/
import Derived.Test.YtdhibeclkdepiaaGreatPackA
import Derived.Laws.AppendOwn
import Derived.Laws.OwnMore
set_option maxRecDepth 100000
set_option maxHeartbeats 16000000
set_option linter.unusedVariables false
set_option linter.unusedSimpArgs false
namespace Go.Proofs.YtdhibeclkdepiaaGreat.HeapM
set_option linter.unusedVariables false
variable {α:Type} (le:α→α→Prop) (d:α)
def at' (l:List α) (k:Nat):α:=l.getD k d
def swapL (l:List α) (i j:Nat):List α:=(l.set i (l.getD j d)).set j (l.getD i d)
theorem swap_len (l:List α) (i j:Nat):(swapL d l i j).length=l.length:=by simp [swapL]
theorem swap_at (l:List α) (i j k:Nat) (hi:i<l.length) (hj:j<l.length):at' d (swapL d l i j) k=if k=j then at' d l i else if k=i then at' d l j else at' d l k:=by
 unfold at' swapL
 simp only [List.getD_eq_getElem?_getD,List.getElem?_set,List.length_set]
 by_cases h1:k=j
 ·subst h1;simp [hj]
 ·by_cases h2:k=i
  ·subst h2;simp [h1,hi,Ne.symm h1]
  ·simp [h1,h2,Ne.symm h1,Ne.symm h2]
theorem swap_perm (l:List α) (i j:Nat) (hi:i<l.length) (hj:j<l.length):(swapL d l i j).Perm l:=by
 have h:=Array.swap_perm (xs:=l.toArray) (i:=i) (j:=j) (by simpa using hi) (by simpa using hj)
 have e:(l.toArray.swap i j (by simpa using hi) (by simpa using hj)).toList=swapL d l i j:=by
  apply List.ext_getElem?
  intro k
  unfold swapL
  simp [Array.swap,List.getElem?_set,List.getD_eq_getElem?_getD,hi,hj]
 have h2:=h.toList
 rw [e] at h2
 simpa using h2
def par (k:Nat):Nat:=(k - 1) / 2
theorem par_lt {k:Nat} (h:0<k):par k<k:=by unfold par;omega
def Heap (n:Nat) (l:List α):Prop:=∀k,0<k→k<n→le (at' d l (par k)) (at' d l k)
def UpBut (n:Nat) (l:List α) (j:Nat):Prop:=
 (∀k,0<k→k<n→k≠j→le (at' d l (par k)) (at' d l k))∧(∀k,0<k→k<n→par k=j→0<j→le (at' d l (par j)) (at' d l k))
def DownBut (n:Nat) (l:List α) (i:Nat):Prop:=
 (∀k,0<k→k<n→par k≠i→le (at' d l (par k)) (at' d l k))∧(∀k,0<k→k<n→par k=i→0<i→le (at' d l (par i)) (at' d l k))
structure Order:Prop where
 trans:∀x y z,le x y→le y z→le x z
 total:∀x y,le x y∨le y x
variable {le d}
theorem Order.refl (O:Order le) (x:α):le x x:=(O.total x x).elim id id
theorem up_done {n:Nat} {l:List α} {j:Nat} (h:UpBut le d n l j) (hj:j=0∨le (at' d l (par j)) (at' d l j)):Heap le d n l:=fun k h0 h1=>by
 by_cases e:k=j
 ·subst e
  rcases hj with h | h
  ·omega
  ·exact h
 ·exact h.1 k h0 h1 e
theorem up_step (O:Order le) {n:Nat} {l:List α} {j:Nat} (hn:n≤l.length) (h:UpBut le d n l j) (h0:0<j) (h1:j<n) (hb:le (at' d l j) (at' d l (par j))):UpBut le d n (swapL d l (par j) j) (par j):=by
 have hp:=par_lt h0
 have hsw:=fun k=>swap_at d l (par j) j k (by omega) (by omega)
 refine ⟨fun k k0 k1 kn=>?_,fun k k0 k1 kp p0=>?_⟩
 ·rw [hsw,hsw]
  by_cases e:k=j
  ·subst e
   rw [if_pos rfl,if_neg (by omega),if_pos rfl]
   exact hb
  ·rw [if_neg e,if_neg kn]
   have hkp:=par_lt k0
   by_cases e1:par k=j
   ·rw [if_pos e1]
    exact h.2 k k0 k1 e1 h0
   ·rw [if_neg e1]
    by_cases e2:par k=par j
    ·rw [if_pos e2]
     have:=h.1 k k0 k1 e
     rw [e2] at this
     exact O.trans _ _ _ hb this
    ·rw [if_neg e2]
     exact h.1 k k0 k1 e
 ·rw [hsw,hsw]
  have hpp:=par_lt p0
  rw [if_neg (by omega),if_neg (by omega)]
  have hg:=h.1 (par j) p0 (by omega) (by omega)
  by_cases e:k=j
  ·subst e
   rw [if_pos rfl]
   exact hg
  ·rw [if_neg e]
   have hkp:=par_lt k0
   rw [if_neg (by omega)]
   have:=h.1 k k0 k1 e
   rw [kp] at this
   exact O.trans _ _ _ hg this
theorem up_begin {n:Nat} {l:List α} (h:Heap le d n l):UpBut le d (n+1) l n:=by
 refine ⟨fun k h0 h1 hn=>h k h0 (by omega),fun k h0 h1 hk _=>?_⟩
 have:=par_lt h0
 omega
theorem heap_congr {n:Nat} {l l':List α} (h:Heap le d n l) (e:∀k,k<n→at' d l' k=at' d l k):Heap le d n l':=fun k h0 h1=>by
 rw [e _ (by have:=par_lt h0;omega),e _ h1]
 exact h k h0 h1
theorem down_done {n:Nat} {l:List α} {i:Nat} (h:DownBut le d n l i) (hk:∀k,0<k→k<n→par k=i→le (at' d l i) (at' d l k)):Heap le d n l:=fun k h0 h1=>by
 by_cases e:par k=i
 ·rw [e];exact hk k h0 h1 e
 ·exact h.1 k h0 h1 e
theorem down_step (O:Order le) {n:Nat} {l:List α} {i j:Nat} (hn:n≤l.length) (h:DownBut le d n l i) (h0:0<j) (h1:j<n) (hj:par j=i) (hb:le (at' d l j) (at' d l i)) (hmin:∀k,0<k→k<n→par k=i→le (at' d l j) (at' d l k)):DownBut le d n (swapL d l i j) j:=by
 have hp:=par_lt h0
 have hsw:=fun k=>swap_at d l i j k (by omega) (by omega)
 refine ⟨fun k k0 k1 kn=>?_,fun k k0 k1 kp p0=>?_⟩
 ·have hkp:=par_lt k0
  rw [hsw,hsw,if_neg kn]
  by_cases e:k=j
  ·subst e
   rw [if_pos rfl,if_pos hj]
   exact hb
  ·rw [if_neg e]
   by_cases e1:par k=i
   ·rw [if_pos e1]
    rw [if_neg (by omega)]
    exact hmin k k0 k1 e1
   ·rw [if_neg e1]
    by_cases e2:k=i
    ·rw [if_pos e2]
     subst e2
     exact h.2 j h0 h1 hj k0
    ·rw [if_neg e2]
     exact h.1 k k0 k1 e1
 ·have hkp:=par_lt k0
  rw [hsw,hsw,hj,if_neg (by omega),if_pos rfl,if_neg (by omega),if_neg (by omega)]
  have:=h.1 k k0 k1 (by omega)
  rw [kp] at this
  exact this
theorem down_begin {n:Nat} {l l':List α} (h:Heap le d n l) (m:Nat) (hm:m≤n) (e:∀k,0<k→k<m→at' d l' k=at' d l k):DownBut le d m l' 0:=by
 refine ⟨fun k h0 h1 hn=>?_,fun k h0 h1 hk hz=>by omega⟩
 have:=par_lt h0
 rw [e _ (by omega) (by omega),e k h0 h1]
 exact h k h0 (by omega)
theorem heap_min (O:Order le) {n:Nat} {l:List α} (h:Heap le d n l):∀k,k<n→le (at' d l 0) (at' d l k):=by
 intro k
 induction k using Nat.strongRecOn with
 | _ k ih=>
  intro hk
  by_cases e:k=0
  ·subst e;exact O.refl _
  ·have hp:=par_lt (k:=k) (by omega)
   exact O.trans _ _ _ (ih _ hp (by omega)) (h k (by omega) hk)
theorem par_kids {i k:Nat} (h:0<k):par k=i↔k=2*i+1∨k=2*i+2:=by unfold par;omega
def Sorted (le:α→α→Prop):List α→Prop
 | []=>True
 | x::t=>(∀y ∈ t,le x y)∧Sorted le t
theorem sorted_unique (anti:∀x y,le x y→le y x→x=y):∀(a b:List α),Sorted le a→Sorted le b→a.Perm b→a=b
 | [],b,_,_,h=>h.nil_eq
 | x::t,[],_,_,h=>by simpa using h.length_eq
 | x::t,y::u,ha,hb,h=>by
  have hx:x ∈ y::u:=h.subset (by simp)
  have hy:y ∈ x::t:=h.symm.subset (by simp)
  have e:x=y:=by
   rcases List.mem_cons.1 hx with h1 | h1
   ·exact h1
   ·rcases List.mem_cons.1 hy with h2 | h2
    ·exact h2.symm
    ·exact anti _ _ (ha.1 y h2) (hb.1 x h1)
  subst e
  have:=sorted_unique anti t u ha.2 hb.2 ((List.perm_cons x).1 h)
  rw [this]
theorem sorted_snoc:∀(a:List α) (x:α),Sorted le a→(∀y ∈ a,le y x)→Sorted le (a++[x])
 | [],x,_,_=>⟨by simp,trivial⟩
 | y::t,x,h,hx=>by
  refine ⟨fun z hz=>?_,sorted_snoc t x h.2 (fun z hz=>hx z (by simp [hz]))⟩
  rcases List.mem_append.1 hz with h1 | h1
  ·exact h.1 z h1
  ·simp at h1;subst h1;exact hx y (by simp)
theorem pop_parts (O:Order le) {l l':List α} (hl:0<l.length) (hh:Heap le d l.length l) (hp:l'.Perm (swapL d l 0 (l.length - 1))) (hlast:at' d l' (l.length - 1)=at' d l 0) (hq:Heap le d (l.length - 1) l') :
  Heap le d (l.length - 1) (l'.take (l.length - 1))∧(l'.take (l.length - 1)++[at' d l 0]).Perm l∧∀x ∈ l'.take (l.length - 1),le (at' d l 0) x:=by
 have hpl:l'.Perm l:=hp.trans (swap_perm d l 0 (l.length - 1) (by omega) (by omega))
 have hlen:l'.length=l.length:=hpl.length_eq
 have hsplit:l'=l'.take (l.length - 1)++[at' d l 0]:=by
  conv=>lhs;rw [←List.take_append_drop (l.length - 1) l']
  congr 1
  have h1:l'.drop (l.length - 1)=[l'[l.length - 1]'(by omega)]:=by
   rw [List.drop_eq_getElem_cons (by omega),List.drop_of_length_le (by omega)]
  rw [h1,←hlast]
  unfold at'
  rw [List.getD_eq_getElem?_getD,List.getElem?_eq_getElem (by omega)]
  rfl
 refine ⟨heap_congr hq (fun k hk=>?_),by rw [←hsplit];exact hpl,fun x hx=>?_⟩
 ·unfold at'
  rw [List.getD_eq_getElem?_getD,List.getD_eq_getElem?_getD,List.getElem?_take_of_lt hk]
 ·have hm:x ∈ l:=hpl.subset (List.mem_of_mem_take hx)
  obtain ⟨k,hk,e⟩:=List.mem_iff_getElem.1 hm
  have:=heap_min O hh k hk
  unfold at' at this
  rw [List.getD_eq_getElem?_getD (i:=k),List.getElem?_eq_getElem hk] at this
  rw [←e]
  exact this
end Go.Proofs.YtdhibeclkdepiaaGreat.HeapM
namespace Go.Proofs.YtdhibeclkdepiaaGreat.OrdM
set_option linter.unusedVariables false
variable {β:Type} (lt:β→β→Bool) (nl:List UInt8→List UInt8→Bool)
def ahead (x y:List UInt8×β):Bool:=lt x.2 y.2||(!lt y.2 x.2&&nl x.1 y.1)
structure Weak:Prop where
 irr:∀a,lt a a=false
 asym:∀a b,lt a b=true→lt b a=false
 ntrans:∀a b c,lt b a=false→lt c b=false→lt c a=false
structure Names:Prop where
 irr:∀a,nl a a=false
 trans:∀a b c,nl a b=true→nl b c=true→nl a c=true
 tri:∀a b,nl a b=false→a≠b→nl b a=true
variable {lt nl}
theorem Names.asym (N:Names nl) {a b:List UInt8} (h:nl a b=true):nl b a=false:=by
 cases hb:nl b a with
 | false=>rfl
 | true=>have:=N.trans _ _ _ h hb;rw [N.irr] at this;exact absurd this (by simp)
theorem Names.ntrans (N:Names nl) {a b c:List UInt8} (h:nl b a=false) (k:nl c b=false):nl c a=false:=by
 cases hc:nl c a with
 | false=>rfl
 | true=>
  by_cases e:b=a
  ·subst e;rw [hc] at k;exact absurd k (by simp)
  ·have h1:=N.tri _ _ h e
   have h2:=N.trans _ _ _ hc h1
   rw [h2] at k;exact absurd k (by simp)
theorem ahead_asym (W:Weak lt) (N:Names nl) {x y:List UInt8×β} (h:ahead lt nl x y=true):ahead lt nl y x=false:=by
 unfold ahead at *
 simp only [Bool.or_eq_true,Bool.and_eq_true,Bool.not_eq_true',Bool.or_eq_false_iff,Bool.and_eq_false_iff,Bool.not_eq_false'] at *
 rcases h with h | ⟨h1,h2⟩
 ·exact ⟨W.asym _ _ h,.inl h⟩
 ·exact ⟨h1,.inr (N.asym h2)⟩
theorem ahead_ntrans (W:Weak lt) (N:Names nl) {x y z:List UInt8×β} (h:ahead lt nl y x=false) (k:ahead lt nl z y=false):ahead lt nl z x=false:=by
 unfold ahead at *
 simp only [Bool.or_eq_false_iff,Bool.and_eq_false_iff,Bool.not_eq_false'] at *
 obtain ⟨h1,h2⟩:=h
 obtain ⟨k1,k2⟩:=k
 refine ⟨W.ntrans _ _ _ h1 k1,?_⟩
 cases hx:lt x.2 z.2 with
 | true=>exact .inl rfl
 | false=>
  right
  have hxy:lt x.2 y.2=false:=by
   cases e:lt x.2 y.2 with
   | false=>rfl
   | true=>have:=W.ntrans _ _ _ k1 hx;rw [this] at e;exact absurd e (by simp)
  have hyz:lt y.2 z.2=false:=by
   cases e:lt y.2 z.2 with
   | false=>rfl
   | true=>have:=W.ntrans _ _ _ hx h1;rw [this] at e;exact absurd e (by simp)
  rw [hxy] at h2
  rw [hyz] at k2
  exact N.ntrans (h2.resolve_left (by simp)) (k2.resolve_left (by simp))
theorem ahead_anti (W:Weak lt) (N:Names nl) {x y:List UInt8×β} (h:ahead lt nl y x=false) (k:ahead lt nl x y=false):x.1=y.1:=by
 unfold ahead at *
 simp only [Bool.or_eq_false_iff,Bool.and_eq_false_iff,Bool.not_eq_false'] at *
 obtain ⟨h1,h2⟩:=h
 obtain ⟨k1,k2⟩:=k
 have a1:=h2.resolve_left (by rw [k1];simp)
 have a2:=k2.resolve_left (by rw [h1];simp)
 apply Classical.byContradiction
 intro e
 have:=N.tri _ _ a2 e
 rw [a1] at this
 exact absurd this (by simp)
def ins {α:Type} (p:α→α→Bool) (x:α):List α→List α
 | []=>[x]
 | y::t=>if p y x=true then y::ins p x t else x::y::t
theorem ins_perm {α:Type} (p:α→α→Bool) (x:α):∀l:List α,(ins p x l).Perm (x::l)
 | []=>List.Perm.refl _
 | y::t=>by
  unfold ins
  split
  ·exact ((ins_perm p x t).cons y).trans (List.Perm.swap x y t)
  ·exact List.Perm.refl _
theorem ins_sorted {α:Type} {p:α→α→Bool} (asym:∀a b,p a b=true→p b a=false) (nt:∀a b c,p b a=false→p c b=false→p c a=false) (x:α):∀l:List α,HeapM.Sorted (fun a b=>p b a=false) l→HeapM.Sorted (fun a b=>p b a=false) (ins p x l)
 | [],_=>⟨by simp,trivial⟩
 | y::t,h=>by
  unfold ins
  split
  ·rename_i hp
   refine ⟨fun z hz=>?_,ins_sorted asym nt x t h.2⟩
   rcases List.mem_cons.1 ((ins_perm p x t).subset hz) with e | e
   ·subst e;exact asym _ _ hp
   ·exact h.1 z e
  ·rename_i hp
   have hp':p y x=false:=by simpa using hp
   refine ⟨fun z hz=>?_,h⟩
   rcases List.mem_cons.1 hz with e | e
   ·subst e;exact hp'
   ·exact nt _ _ _ hp' (h.1 z e)
end Go.Proofs.YtdhibeclkdepiaaGreat.OrdM
namespace Go.Proofs.YtdhibeclkdepiaaGreat
section
open Go.RowKit Go.Maps
def PairsK (K:List P4) (w0:World) (bm:Nat) (a b c d e f g h:Int) (wx:World):Prop:=
 Var4 wx 192 w0.heap.size a b c d∧Var4 wx 192 (w0.heap.size+1) e f g h∧w0.grownBy wx (some bm)∧bm<w0.heap.size∧HoldsK K bm wx
theorem PairsK.call {K:List P4} {w0 w1 w2:World} {bm:Nat} {a b c d e f g h:Int} (p:PairsK K w0 bm a b c d e f g h w1) (hk:HoldsK K bm w2) (hg:w1.grownBy w2 (some bm)):PairsK K w0 bm a b c d e f g h w2:=by
 obtain ⟨p1,p2,p3,p4,_⟩:=p
 exact ⟨p1.grown hg (by simp;omega),p2.grown hg (by simp;omega),grownBy_trans p3 hg,p4,hk⟩
theorem PairsK.below {K:List P4} {w0 w1 w2:World} {bm:Nat} {a b c d e f g h:Int} (p:PairsK K w0 bm a b c d e f g h w1) (hb:Below w1.heap.size w1 w2):PairsK K w0 bm a b c d e f g h w2:=p.call (p.2.2.2.2.below hb) (grownBy_below (grownBy_refl _ _) hb)
theorem PairsK.drew {K:List P4} {w0 w1:World} {bm:Nat} {a b c d e f g h:Int} (p:PairsK K w0 bm a b c d e f g h w1):PairsK K w0 bm a b c d e f g h w1.drew:=p.below (Below.refl _ _).drew
theorem PairsK.read (K:List P4) (w0:World) (bm:Nat) (a b c d e f g h:Int):∀wx,PairsK K w0 bm a b c d e f g h wx→wx.cell? ⟨w0.heap.size,0,none⟩=some (.int .i64 a)∧wx.cell? ⟨w0.heap.size,1,none⟩=some (.int .i64 b)∧wx.cell? ⟨w0.heap.size,2,none⟩=some (.int .i64 c)∧wx.cell? ⟨w0.heap.size,3,none⟩=some (.int .i64 d)
  ∧wx.cell? ⟨w0.heap.size+1,0,none⟩=some (.int .i64 e)∧wx.cell? ⟨w0.heap.size+1,1,none⟩=some (.int .i64 f)∧wx.cell? ⟨w0.heap.size+1,2,none⟩=some (.int .i64 g)∧wx.cell? ⟨w0.heap.size+1,3,none⟩=some (.int .i64 h):=
 fun wx p=>⟨p.1.c0,p.1.c1,p.1.c2,p.1.c3,p.2.1.c0,p.2.1.c1,p.2.1.c2,p.2.1.c3⟩
def Wf4 (a b c d:Int):Prop:=(Lit.int .i64 a).wf=true∧(Lit.int .i64 b).wf=true∧(Lit.int .i64 c).wf=true∧(Lit.int .i64 d).wf=true
theorem lessK_any (K:List P4) (hK:K.length≤1000000000) (a b c d e f g h:Int) (h1:Wf4 a b c d) (h2:Wf4 e f g h) (i1:(a,b,c,d) ∈ K) (i2:(e,f,g,h) ∈ K) (bm:Nat) (w:World) (hm:HoldsK K bm w) :
  Calls Tryz.prog 190 #[.map (some bm),pv a b c d,pv e f g h] w fun o w'=>o=.returned (.bool (lessR a b c d e f g h))∧HoldsK K bm w'∧w.grownBy w' (some bm):=by
 have C1:=hide (fun wx (hx:HoldsK K bm wx)=>ofK_any K hK a b c d h1.1 h1.2.1 h1.2.2.1 h1.2.2.2 i1 bm wx hx)
 have C2:=hide (fun wx (hx:HoldsK K bm wx)=>ofK_any K hK e f g h h2.1 h2.2.1 h2.2.2.1 h2.2.2.2 i2 bm wx hx)
 have C3:=hide (fun wx=>fracLess_any _ _ _ _ wx (ratio_frac a b c d) (ratio_frac e f g h))
 have hlt:=hm.lt
 have A0:=hide (show PairsK K w bm a b c d e f g h ((w.alloc (.cells #[.int .i64 a,.int .i64 b,.int .i64 c,.int .i64 d] 192)).alloc (.cells #[.int .i64 e,.int .i64 f,.int .i64 g,.int .i64 h] 192)) from
  ⟨(var4_new w 192 a b c d).al _,by have:=var4_new (w.alloc (.cells #[.int .i64 a,.int .i64 b,.int .i64 c,.int .i64 d] 192)) 192 e f g h;simpa using this,grownBy_below (grownBy_refl _ _) (yA (yA (Below.refl _ _) _) _),hlt,hm.below (yA (yA (Below.refl _ w) _) _)⟩)
 have R:=PairsK.read K w bm a b c d e f g h
 unfold lessR
 obtain ⟨l,hl⟩:∃l,less (ratio a b c d).1 (ratio a b c d).2 (ratio e f g h).1 (ratio e f g h).2=l:=⟨_,rfl⟩
 rw [hl] at C3 ⊢
 obtain ⟨⟨x1,y1⟩,e1⟩:∃p,ratio a b c d=p:=⟨_,rfl⟩
 obtain ⟨⟨x2,y2⟩,e2⟩:∃p,ratio e f g h=p:=⟨_,rfl⟩
 rw [e1] at C1 C3
 rw [e2] at C2 C3
 clear hl e1 e2 h1 h2 hm i1 i2
 go_enter Tryz.func190,Tryz.ntmps190
 go_wp2_with fail
 go_region_held3 (fun wx=>PairsK K w bm a b c d e f g h wx)
  (first | (with_reducible assumption) | exact (uH A0).drew | exact PairsK.drew (by assumption))
  (first
  | (go_at_call_of 201 a;refine (uH C1 _ ?_).mono ?_;(exact (show PairsK K w bm a b c d e f g h _ by assumption).2.2.2.2);rintro o wt ⟨rfl,hh,hg⟩;have SA:=PairsK.call (K:=K) (w0:=w) (bm:=bm) (a:=a) (b:=b) (c:=c) (d:=d) (e:=e) (f:=f) (g:=g) (h:=h) (by assumption) hh hg)
  | (go_at_call_of 201 e;refine (uH C2 _ ?_).mono ?_;(exact (show PairsK K w bm a b c d e f g h _ by assumption).2.2.2.2);rintro o wt ⟨rfl,hh,hg⟩;have SA:=PairsK.call (K:=K) (w0:=w) (bm:=bm) (a:=a) (b:=b) (c:=c) (d:=d) (e:=e) (f:=f) (g:=g) (h:=h) (by assumption) hh hg)
  | (go_at_call 202;refine (uH C3 _).mono ?_;rintro o wt ⟨rfl,hb⟩;have SA:=PairsK.below (K:=K) (w0:=w) (bm:=bm) (a:=a) (b:=b) (c:=c) (d:=d) (e:=e) (f:=f) (g:=g) (h:=h) (by assumption) hb))
 all_goals
  have HG:=hide SA.2.2
  go_wp2
  go_ret
  exact ⟨rfl,(uH HG).2.2,(uH HG).1⟩
end
end Go.Proofs.YtdhibeclkdepiaaGreat
namespace Go.Proofs.YtdhibeclkdepiaaGreat.HeapM
set_option linter.unusedVariables false
def upL {α:Type} (d:α) (ah:α→α→Bool):Nat→List α→Nat→List α
 | 0,l,_=>l
 | n+1,l,j=>if j=0 then l else if ah (at' d l j) (at' d l (par j))=true then upL d ah n (swapL d l (par j) j) (par j) else l
theorem upL_fuel {α:Type} (d:α) (ah:α→α→Bool):∀(n m:Nat) (l:List α) (j:Nat),j<n→j<m→upL d ah n l j=upL d ah m l j
 | n+1,m+1,l,j,h1,h2=>by
  rw [upL,upL]
  by_cases h0:j=0
  ·rw [if_pos h0,if_pos h0]
  ·rw [if_neg h0,if_neg h0]
   have hp:=par_lt (k:=j) (by omega)
   rw [upL_fuel d ah n m _ _ (by omega) (by omega)]
def kidL {α:Type} (d:α) (ah:α→α→Bool) (n:Nat) (l:List α) (i:Nat):Nat:=if 2*i+2<n∧ah (at' d l (2*i+2)) (at' d l (2*i+1))=true then 2*i+2 else 2*i+1
def downL {α:Type} (d:α) (ah:α→α→Bool) (n:Nat):Nat→List α→Nat→List α
 | 0,l,_=>l
 | f+1,l,i=>if n≤2*i+1 then l else if ah (at' d l (kidL d ah n l i)) (at' d l i)=true then downL d ah n f (swapL d l i (kidL d ah n l i)) (kidL d ah n l i) else l
theorem kid_lt {α:Type} {d:α} {ah:α→α→Bool} {n:Nat} {l:List α} {i:Nat} (h:¬n≤2*i+1):i<kidL d ah n l i∧kidL d ah n l i<n:=by unfold kidL;split<;>omega
theorem downL_fuel {α:Type} (d:α) (ah:α→α→Bool) (n:Nat):∀(f m:Nat) (l:List α) (i:Nat),n - i<f→n - i<m→downL d ah n f l i=downL d ah n m l i
 | f+1,m+1,l,i,h1,h2=>by
  rw [downL,downL]
  by_cases h0:n≤2*i+1
  ·rw [if_pos h0,if_pos h0]
  ·rw [if_neg h0,if_neg h0]
   have hk:=kid_lt (d:=d) (ah:=ah) (l:=l) h0
   rw [downL_fuel d ah n f m _ _ (by omega) (by omega)]
variable {α:Type} {le:α→α→Prop} {d:α} {ah:α→α→Bool}
theorem upL_heap (O:Order le) (h1:∀x y,ah x y=true→le x y) (h2:∀x y,ah x y=false→le y x) (n:Nat):∀(f:Nat) (l:List α) (j:Nat),j<f→j<n→n≤l.length→UpBut le d n l j→Heap le d n (upL d ah f l j)∧(upL d ah f l j).Perm l
 | f+1,l,j,hf,hj,hn,hu=>by
  rw [upL]
  by_cases h0:j=0
  ·rw [if_pos h0]
   exact ⟨up_done hu (Or.inl h0),List.Perm.refl _⟩
  ·rw [if_neg h0]
   have hp:=par_lt (k:=j) (by omega)
   by_cases hb:ah (at' d l j) (at' d l (par j))=true
   ·rw [if_pos hb]
    have:=upL_heap O h1 h2 n f (swapL d l (par j) j) (par j) (by omega) (by omega) (by rw [swap_len];exact hn) (up_step O hn hu (by omega) hj (h1 _ _ hb))
    exact ⟨this.1,this.2.trans (swap_perm d l (par j) j (by omega) (by omega))⟩
   ·rw [if_neg hb]
    exact ⟨up_done hu (Or.inr (h2 _ _ (by simpa using hb))),List.Perm.refl _⟩
theorem kid_par {n:Nat} {l:List α} {i:Nat}:par (kidL d ah n l i)=i:=by unfold kidL par;split<;>omega
theorem kid_min (O:Order le) (h1:∀x y,ah x y=true→le x y) (h2:∀x y,ah x y=false→le y x) {n:Nat} {l:List α} {i:Nat}:∀k,0<k→k<n→par k=i→le (at' d l (kidL d ah n l i)) (at' d l k):=fun k k0 k1 kp=>by
 unfold kidL
 rcases (par_kids k0).1 kp with e | e<;>subst e<;>split
 ·next h=>exact h1 _ _ h.2
 ·exact O.refl _
 ·exact O.refl _
 ·next h=>exact h2 _ _ (by simpa [k1] using h)
theorem downL_heap (O:Order le) (h1:∀x y,ah x y=true→le x y) (h2:∀x y,ah x y=false→le y x) (n:Nat):∀(f:Nat) (l:List α) (i:Nat),n - i<f→n≤l.length→DownBut le d n l i→Heap le d n (downL d ah n f l i)∧(downL d ah n f l i).Perm l∧∀k,n≤k→at' d (downL d ah n f l i) k=at' d l k
 | f+1,l,i,hf,hn,hu=>by
  rw [downL]
  by_cases h0:n≤2*i+1
  ·rw [if_pos h0]
   exact ⟨down_done hu (fun k k0 k1 kp=>by have:=(par_kids k0).1 kp;omega),List.Perm.refl _,fun _ _=>rfl⟩
  ·rw [if_neg h0]
   have hk:=kid_lt (d:=d) (ah:=ah) (l:=l) h0
   have hm:=kid_min (d:=d) (l:=l) (n:=n) (i:=i) O h1 h2
   have hp:=kid_par (d:=d) (ah:=ah) (l:=l) (n:=n) (i:=i)
   by_cases hb:ah (at' d l (kidL d ah n l i)) (at' d l i)=true
   ·rw [if_pos hb]
    have:=downL_heap O h1 h2 n f (swapL d l i (kidL d ah n l i)) (kidL d ah n l i) (by omega) (by rw [swap_len];exact hn) (down_step O hn hu (by omega) hk.2 hp (h1 _ _ hb) hm)
    refine ⟨this.1,this.2.1.trans (swap_perm d l _ _ (by omega) (by omega)),fun k h=>?_⟩
    rw [this.2.2 k h,swap_at d l _ _ _ (by omega) (by omega),if_neg (by omega),if_neg (by omega)]
   ·rw [if_neg hb]
    exact ⟨down_done hu (fun k k0 k1 kp=>O.trans _ _ _ (h2 _ _ (by simpa using hb)) (hm k k0 k1 kp)),List.Perm.refl _,fun _ _=>rfl⟩
theorem push_heap (O:Order le) (h1:∀x y,ah x y=true→le x y) (h2:∀x y,ah x y=false→le y x) (l:List α) (x:α) (h:Heap le d l.length l):Heap le d (l.length+1) (upL d ah (l.length+1) (l++[x]) l.length)∧(upL d ah (l.length+1) (l++[x]) l.length).Perm (l++[x]):=by
 refine upL_heap O h1 h2 _ _ _ _ (by omega) (by omega) (by simp) (up_begin (heap_congr h (fun k hk=>?_)))
 unfold at'
 simp [List.getD_eq_getElem?_getD,List.getElem?_append_left hk]
def popL (d:α) (ah:α→α→Bool) (l:List α):List α:=downL d ah (l.length - 1) (l.length - 1+1) (swapL d l 0 (l.length - 1)) 0
theorem pop_heap (O:Order le) (h1:∀x y,ah x y=true→le x y) (h2:∀x y,ah x y=false→le y x) (l:List α) (hl:0<l.length) (h:Heap le d l.length l) :
  at' d (popL d ah l) (l.length - 1)=at' d l 0∧Heap le d (l.length - 1) ((popL d ah l).take (l.length - 1))∧((popL d ah l).take (l.length - 1)++[at' d l 0]).Perm l∧∀x ∈ (popL d ah l).take (l.length - 1),le (at' d l 0) x:=by
 have hd:=downL_heap (d:=d) O h1 h2 (l.length - 1) (l.length - 1+1) (swapL d l 0 (l.length - 1)) 0 (by omega) (by rw [swap_len];omega) (down_begin h (l.length - 1) (by omega) (fun k k0 k1=>by rw [swap_at d l _ _ _ (by omega) (by omega),if_neg (by omega),if_neg (by omega)]))
 have hlast:at' d (popL d ah l) (l.length - 1)=at' d l 0:=by
  unfold popL
  rw [hd.2.2 _ (Nat.le_refl _),swap_at d l _ _ _ (by omega) (by omega),if_pos rfl]
 exact ⟨hlast,pop_parts O hl h hd.2.1 hlast hd.1⟩
end Go.Proofs.YtdhibeclkdepiaaGreat.HeapM
namespace Go.Proofs.YtdhibeclkdepiaaGreat
section
open Go.RowKit Go.Maps
abbrev SE:=List UInt8×P4
def stc (x:SE):List Value:=[.string (bs x.1),.int .i64 x.2.1,.int .i64 x.2.2.1,.int .i64 x.2.2.2.1,.int .i64 x.2.2.2.2]
abbrev stv (x:SE):Value:=.agg #[.string (bs x.1),.int .i64 x.2.1,.int .i64 x.2.2.1,.int .i64 x.2.2.2.1,.int .i64 x.2.2.2.2]
def stcs:List SE→List Value
 | []=>[]
 | x::t=>stc x++stcs t
theorem stcs_len:∀l:List SE,(stcs l).length=l.length*5
 | []=>rfl
 | x::t=>by rw [stcs,List.length_append,stcs_len t];simp [stc];omega
theorem stcs_app:∀a b:List SE,stcs (a++b)=stcs a++stcs b
 | [],b=>rfl
 | x::t,b=>by rw [List.cons_append,stcs,stcs_app t b,stcs,List.append_assoc]
theorem stcs_take:∀(l:List SE) (k:Nat),stcs (l.take k)=(stcs l).take (k*5)
 | l,0=>by simp [stcs]
 | [],k+1=>by simp [stcs]
 | x::t,k+1=>by
  rw [List.take_succ_cons,stcs,stcs,stcs_take t k,show (k+1)*5=(stc x).length+k*5 by simp [stc];omega,List.take_length_add_append]
theorem stcs_at:∀(l:List SE) (i:Nat) (h:i<l.length),(stcs l)[i*5]? = some (.string (bs l[i].1))∧(stcs l)[i*5+1]? = some (.int .i64 l[i].2.1)∧(stcs l)[i*5+2]? = some (.int .i64 l[i].2.2.1)∧(stcs l)[i*5+3]? = some (.int .i64 l[i].2.2.2.1)∧(stcs l)[i*5+4]? = some (.int .i64 l[i].2.2.2.2)
 | x::t,0,_=>by simp [stcs,stc]
 | x::t,i+1,h=>by
  have ih:=stcs_at t i (by simpa using h)
  have e:∀r,(stcs (x::t))[(i+1)*5+r]? = (stcs t)[i*5+r]?:=fun r=>by
   rw [stcs,List.getElem?_append_right (by simp [stc];omega)]
   congr 1
   simp [stc];omega
  have e0:=e 0
  simp only [Nat.add_zero] at e0
  rw [e0,e 1,e 2,e 3,e 4]
  simpa using ih
def stset (xs:List Value) (i:Nat) (x:SE):List Value:=((((xs.set (i*5) (.string (bs x.1))).set (i*5+1) (.int .i64 x.2.1)).set (i*5+2) (.int .i64 x.2.2.1)).set (i*5+3) (.int .i64 x.2.2.2.1)).set (i*5+4) (.int .i64 x.2.2.2.2)
theorem stcs_set:∀(l:List SE) (i:Nat) (x:SE),stset (stcs l) i x=stcs (l.set i x)
 | [],i,x=>by simp [stcs,stset]
 | y::t,0,x=>by simp [stcs,stc,stset]
 | y::t,i+1,x=>by
  have ih:=stcs_set t i x
  have e:∀(s:List Value) r v,(stc y++s).set ((i+1)*5+r) v=stc y++s.set (i*5+r) v:=fun s r v=>by
   rw [List.set_append,if_neg (by simp [stc];omega)]
   congr 2
   simp [stc];omega
  rw [sC,stcs,stcs,←ih,stset,stset]
  have e0:=fun s v=>e s 0 v
  simp only [Nat.add_zero] at e0
  rw [e0,e,e,e,e]
theorem own_set {w:World} {B g cap n j sz:Nat} {e:TypeId} {xs:List Value} (h:w.ownsRow B e sz (.slice (some ⟨g,0,none⟩) n cap) n xs) (hj:j<n*sz) (v:Value):(w.setCell ⟨g,j,none⟩ v).ownsRow B e sz (.slice (some ⟨g,0,none⟩) n cap) n (xs.set j v):=by
 obtain ⟨h1,h2⟩:=h
 refine ⟨by simpa using h1,?_⟩
 rcases h2 with ⟨e,_⟩ | ⟨g',cap',cur,e,hb,hc,k1,k2,k3,k4⟩
 ·cases e
 ·cases e
  refine .inr ⟨g,cap,_,rfl,hb,heap_setCell_same w g j cur _ _ hc,k1,k2,by simpa using k3,?_⟩
  rw [Array.toList_setIfInBounds,List.take_set,k4]
def stW (w:World) (g i:Nat) (x:SE):World:=((((w.setCell ⟨g,i*5,none⟩ (.string (bs x.1))).setCell ⟨g,i*5+1,none⟩ (.int .i64 x.2.1)).setCell ⟨g,i*5+2,none⟩ (.int .i64 x.2.2.1)).setCell ⟨g,i*5+3,none⟩ (.int .i64 x.2.2.2.1)).setCell ⟨g,i*5+4,none⟩ (.int .i64 x.2.2.2.2)
theorem own_stset {w:World} {B g cap i:Nat} {l:List SE} (h:w.ownsRow B 209 5 (.slice (some ⟨g,0,none⟩) l.length cap) l.length (stcs l)) (hi:i<l.length) (x:SE):(stW w g i x).ownsRow B 209 5 (.slice (some ⟨g,0,none⟩) l.length cap) l.length (stcs (l.set i x)):=by
 rw [←stcs_set]
 exact own_set (own_set (own_set (own_set (own_set h (by omega) _) (by omega) _) (by omega) _) (by omega) _) (by omega) _
def lessP (p q:P4):Bool:=lessR p.1 p.2.1 p.2.2.1 p.2.2.2 q.1 q.2.1 q.2.2.1 q.2.2.2
def aheadS (x y:SE):Bool:=OrdM.ahead lessP Op.bytesLess x y
end
section
open Go.RowKit
def Blk (w:World) (g:Nat) (arr:Array Value) (t:TypeId):Prop:=w.heap[g]? = some (.cells arr t (0,0))
theorem Blk.lt {w:World} {g:Nat} {arr:Array Value} {t:TypeId} (h:Blk w g arr t):g<w.heap.size:=lt_of_block h
theorem Blk.below {w w':World} {g:Nat} {arr:Array Value} {t:TypeId} (h:Blk w g arr t) (hb:Below w.heap.size w w'):Blk w' g arr t:=(hb.block g h.lt).trans h
theorem Blk.at {w:World} {g:Nat} {arr:Array Value} {t:TypeId} (h:Blk w g arr t) (j:Nat):w.cell? ⟨g,j,none⟩=arr[j]?:=by
 unfold Blk at h;simp [World.cell?,h]
theorem Blk.f {w:World} {g:Nat} {arr:Array Value} {t:TypeId} (h:Blk w g arr t) (j:Nat):w.frozen? ⟨g,j,none⟩=false:=by
 unfold Blk at h;simp [World.frozen?,h]
theorem Blk.al {w:World} {g:Nat} {arr:Array Value} {t:TypeId} (h:Blk w g arr t) (o:Obj):Blk (w.alloc o) g arr t:=h.below (yA (Below.refl _ _) o)
theorem Blk.drew {w:World} {g:Nat} {arr:Array Value} {t:TypeId} (h:Blk w g arr t):Blk w.drew g arr t:=h
theorem Blk.set {w:World} {g:Nat} {arr:Array Value} {t:TypeId} (h:Blk w g arr t) (j:Nat) (v:Value):Blk (w.setCell ⟨g,j,none⟩ v) g (arr.setIfInBounds j v) t:=heap_setCell_same w g j _ _ v h
theorem Blk.other {w:World} {g:Nat} {arr:Array Value} {t:TypeId} (h:Blk w g arr t) (k j:Nat) (v:Value) (hn:g≠k):Blk (w.setCell ⟨k,j,none⟩ v) g arr t:=(heap_setCell_other w ⟨k,j,none⟩ g v hn).trans h
theorem yD (w:World) (arr:Array Value) (t:TypeId):Blk (w.alloc (.cells arr t)) w.heap.size arr t:=by show (w.heap.push _)[w.heap.size]? = _;simp
theorem yE (w:World) (o:Obj):(w.alloc o).heap.size=w.heap.size+1:=by show (w.heap.push _).size=_;simp
theorem below_dn {w w1:World} (h:Below w.heap.size w w1) (n:Nat):Below w.heap.size w (w1.drewN n):=by
 induction n with
 | zero=>exact h
 | succ n ih=>exact ih.drew
theorem set_size (w:World) (a:Addr) (v:Value):(w.setCell a v).heap.size=w.heap.size:=by unfold World.setCell;simp
end
section
open Go.RowKit Go.Maps
theorem Blk.gby1 {w w':World} {g k:Nat} {arr:Array Value} {t:TypeId} (h:Blk w k arr t) (hg:w.grownBy w' (some g)) (hn:k≠g):Blk w' k arr t:=(hg.block k h.lt (fun e=>hn (by simpa using e))).trans h
abbrev cloV (bk:Nat):Value:=.func (.func 189) #[] #[.pointer (some ⟨bk,0,none⟩)]
theorem leastFn_any (K:List P4) (hK:K.length≤1000000000) (KW:∀p ∈ K,Wf4 p.1 p.2.1 p.2.2.1 p.2.2.2) (x y:SE) (hx:x.2 ∈ K) (hy:y.2 ∈ K) (bm bk:Nat) (w:World) (hc:Blk w bk #[.map (some bm)] 222) (hm:HoldsK K bm w) (hne:bk≠bm) :
  Calls Tryz.prog 189 #[stv x,stv y,.pointer (some ⟨bk,0,none⟩)] w fun e w'=>e=.returned (.bool (aheadS x y))∧HoldsK K bm w'∧w.grownBy w' (some bm):=by
 obtain ⟨n1,a,b,c,d⟩:=x
 obtain ⟨n2,e,f,g,h⟩:=y
 have C1:=hide (fun wx hm=>lessK_any K hK a b c d e f g h (KW _ hx) (KW _ hy) hx hy bm wx hm)
 have C2:=hide (fun wx hm=>lessK_any K hK e f g h a b c d (KW _ hy) (KW _ hx) hy hx bm wx hm)
 have HA:=hide (show aheadS (n1,a,b,c,d) (n2,e,f,g,h)=(lessR a b c d e f g h||(!lessR e f g h a b c d&&Op.bytesLess n1 n2)) from rfl)
 obtain ⟨l1,hl1⟩:∃z,lessR a b c d e f g h=z:=⟨_,rfl⟩
 obtain ⟨l2,hl2⟩:∃b',lessR e f g h a b c d=b':=⟨_,rfl⟩
 obtain ⟨o,ho⟩:∃b',aheadS (n1,a,b,c,d) (n2,e,f,g,h)=b':=⟨_,rfl⟩
 rw [hl1] at C1 HA
 rw [hl2] at C2 HA
 rw [ho] at HA ⊢
 have X0:=hide ((yD w #[.string (bs n1),.int .i64 a,.int .i64 b,.int .i64 c,.int .i64 d] 209).al (.cells #[.string (bs n2),.int .i64 e,.int .i64 f,.int .i64 g,.int .i64 h] 209))
 have Y0:=hide (show Blk ((w.alloc (.cells #[.string (bs n1),.int .i64 a,.int .i64 b,.int .i64 c,.int .i64 d] 209)).alloc (.cells #[.string (bs n2),.int .i64 e,.int .i64 f,.int .i64 g,.int .i64 h] 209)) (w.heap.size+1) #[.string (bs n2),.int .i64 e,.int .i64 f,.int .i64 g,.int .i64 h] 209 from by have:=yD (w.alloc (.cells #[.string (bs n1),.int .i64 a,.int .i64 b,.int .i64 c,.int .i64 d] 209)) #[.string (bs n2),.int .i64 e,.int .i64 f,.int .i64 g,.int .i64 h] 209;rw [yE] at this;exact this)
 have M0:=hide ((hc.al (.cells #[.string (bs n1),.int .i64 a,.int .i64 b,.int .i64 c,.int .i64 d] 209)).al (.cells #[.string (bs n2),.int .i64 e,.int .i64 f,.int .i64 g,.int .i64 h] 209))
 have hb0:=yA (yA (Below.refl _ w) (.cells #[.string (bs n1),.int .i64 a,.int .i64 b,.int .i64 c,.int .i64 d] 209)) (.cells #[.string (bs n2),.int .i64 e,.int .i64 f,.int .i64 g,.int .i64 h] 209)
 have H0:=hide (hm.below hb0)
 have G0:=hide (grownBy_below (grownBy_refl w (some bm)) hb0)
 have hlm:bm<w.heap.size:=hm.lt
 clear hl1 hl2 ho hc hm hb0 hx hy
 have c0:=(uH M0).at 0
 have x1:=(uH X0).at 1;have x2:=(uH X0).at 2;have x3:=(uH X0).at 3;have x4:=(uH X0).at 4
 have y1:=(uH Y0).at 1;have y2:=(uH Y0).at 2;have y3:=(uH Y0).at 3;have y4:=(uH Y0).at 4
 simp at c0 x1 x2 x3 x4 y1 y2 y3 y4
 go_enter Tryz.func189,Tryz.ntmps189
 go_wp2_with fail
 refine (uH C1 _ (uH H0)).mono ?_
 rintro e1 w1 ⟨rfl,hh,hg⟩
 have H1:=hide hh
 have G1:=hide (grownBy_trans (uH G0) hg)
 have X1:=hide ((uH X0).gby1 hg (by omega))
 have Y1:=hide ((uH Y0).gby1 hg (by omega))
 have M1:=hide ((uH M0).gby1 hg hne)
 clear hh hg H0 G0 X0 Y0 M0 C1 c0 x1 x2 x3 x4 y1 y2 y3 y4
 cases l1
 case true=>
  go_wp2
  go_ret
  exact ⟨yF (by rw [uH HA];rfl),uH H1,uH G1⟩
 have c0:=(uH M1).at 0
 have x1:=(uH X1).at 1;have x2:=(uH X1).at 2;have x3:=(uH X1).at 3;have x4:=(uH X1).at 4
 have y1:=(uH Y1).at 1;have y2:=(uH Y1).at 2;have y3:=(uH Y1).at 3;have y4:=(uH Y1).at 4
 simp at c0 x1 x2 x3 x4 y1 y2 y3 y4
 go_wp2_with fail
 refine (uH C2 _ (uH H1)).mono ?_
 rintro e2 w2 ⟨rfl,hh,hg⟩
 have H2:=hide hh
 have G2:=hide (grownBy_trans (uH G1) hg)
 have X2:=hide ((uH X1).gby1 hg (by omega))
 have Y2:=hide ((uH Y1).gby1 hg (by omega))
 clear hh hg H1 G1 X1 Y1 M1 C2 c0 x1 x2 x3 x4 y1 y2 y3 y4
 cases l2
 case true=>
  go_wp2
  go_ret
  exact ⟨yF (by rw [uH HA];rfl),uH H2,uH G2⟩
 have x0:=(uH X2).at 0
 have y0:=(uH Y2).at 0
 simp at x0 y0
 obtain ⟨bl,hbl⟩:∃z,Op.bytesLess (bs n1).toList (bs n2).toList=z:=⟨_,rfl⟩
 have HBL:=hide (show Op.bytesLess n1 n2=bl by rw [←hbl];simp [bs])
 go_wp2
 go_ret
 exact ⟨yF (by rw [uH HA,uH HBL];rfl),uH H2,uH G2⟩
end
end Go.Proofs.YtdhibeclkdepiaaGreat
