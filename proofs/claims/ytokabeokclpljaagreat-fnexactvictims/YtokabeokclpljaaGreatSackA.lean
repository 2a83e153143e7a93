/-
  Texts in one: Base, Grow, ResV, QV, TxtM, PlaceM, Place, QSum, In, All, NameS, QueuesOkM, PathM, FitsM, QBox, Digit, Name, KeptV, QBlk, SzQ2, ToQ, EqQ, OpenQ, Res, BothM, Both, StrS, SOwn, TextsR, ResI, PairI, OrI, AddI, ShareS, OfM, WithM, WithinS, HeapM, OrdM, BlM, StvO, RatioS, LessRatioS, Var4, HeapU, HeldK, TakeD, InsT, ShareI, RatN, CountI, SubI, WithinI, TxtB, IntS, DecM, MarkT, CelV, MarkH, HeldQ, QOwn, InvR, SortT, RegX, WpL, StoC, HBk, AppN.
-/
import Derived.Below
import Derived.Test.YtokabeokclpljaaGreatRows
import Derived.WalkKit
import Derived.WalkSpells
import Derived.WalkLawsBesides
import Derived.BigQuiet
import Derived.Laws.MakeOwn
import Derived.Deep.RegionHeld3
import Derived.ProofKit
import Derived.OpenShut
import Derived.ChangeSame
import Derived.Deep.Slices
import Derived.Lib.ItoaMem
import Derived.Sort.Walk0
import Derived.Laws.AppendOwn
import Derived.Lib.ItoaLen
import Derived.Laws.IdiomStrings
import Derived.Deep.QuietTactic
import Derived.Deep.RegionWith
import Derived.Test.YtokabeokclpljaaGreatShelf
import Derived.Sort.OwnSorted
import Derived.Deep.WholeRow
import Derived.Laws.Tables
import Derived.Deep.MidRow
import Derived.Great.BuildSlice
import Derived.Laws.AppendOwnNone
set_option maxRecDepth 100000
set_option maxHeartbeats 16000000
set_option linter.unusedVariables false
set_option linter.unusedSimpArgs false
namespace Go.Proofs.YtokabeokclpljaaGreat
section
open Go.RowKit
theorem hide {p:Prop} (h:p):Hid p:=h
theorem sA {α : Type _} (l : List α) (i : Nat) (a : α) : l.toArray.setIfInBounds i a = (l.set i a).toArray := List.setIfInBounds_toArray ..
theorem sB {α : Type _} (x : α) (l : List α) (a : α) : (x :: l).set 0 a = a :: l := rfl
theorem sC {α : Type _} (x : α) (l : List α) (n : Nat) (a : α) : (x :: l).set (n + 1) a = x :: l.set n a := rfl
theorem zW : (∀ (a : Act) (d : Nat) (v : Value), a.put (some d) v = { a with tmps := a.tmps.setIfInBounds d v }) ∧ (∀ (a : Act) (v : Value), a.put none v = a) ∧ (∀ {α : Type} (l : List α) (i : Nat) (a : α), l.toArray.setIfInBounds i a = (l.set i a).toArray) ∧ (∀ {α : Type} (x : α) (l : List α) (a : α), (x :: l).set 0 a = a :: l) ∧ (∀ {α : Type} (x : α) (l : List α) (n : Nat) (a : α), (x :: l).set (n + 1) a = x :: l.set n a) := ⟨fun _ _ _ => rfl, fun _ _ => rfl, fun _ _ _ => List.setIfInBounds_toArray .., fun _ _ _ => rfl, fun _ _ _ _ => rfl⟩
theorem yH (B : Nat) (w : World) : Below B w w := ⟨rfl, rfl, rfl, Nat.le.refl, fun _ _ => rfl⟩
theorem yJ (n : Nat) : n ≤ n := Nat.le.refl
theorem yK (a b : Bool) : ((a && b) = true) = (a = true ∧ b = true) := by cases a <;> cases b <;> simp
theorem yL {p : Prop} [Decidable p] : (decide p = true) = p := propext (decide_eq_true_iff ..)
theorem yM {α : Type _} {l : List α} {n : Nat} (h : n < l.length) : l[n] ∈ l := List.mem_of_getElem rfl
theorem uH {p:Prop} (h:Hid p):p:=h
theorem yF {a b:Bool} (h:a=b):Ending.returned (.bool a)=.returned (.bool b):=by rw [h]
theorem ret_int {k:IntKind} {a b:Int} (h:a=b):Ending.returned (.int k a)=.returned (.int k b):=by rw [h]
theorem byte_le (c:UInt8):(c.toNat:Int)≤255:=by have:=c.toNat_lt;omega
def inB (x a b:Int):Bool:=decide (a≤x∧x≤b)
theorem inB_true {x a b:Int} (h1:a≤x) (h2:x≤b):inB x a b=true:=by simp [inB,h1,h2]
theorem inB_false {x a b:Int} (h:¬(a≤x∧x≤b)):inB x a b=false:=by simp only [inB,decide_eq_false_iff_not];exact h
theorem str_eq {a b:ByteArray} (h:a=b):Value.string a=.string b:=by rw [h]
theorem ret_str {a b:ByteArray} (h:a=b):Ending.returned (.string a)=.returned (.string b):=by rw [h]
def bs (l:List UInt8):ByteArray:=⟨l.toArray⟩
theorem bs_size (l:List UInt8):(bs l).size=l.length:=by simp [bs,ByteArray.size]
theorem cons_bs (c:UInt8) (l:List UInt8):(ByteArray.mk #[c])++bs l=bs (c::l):=by
 unfold bs;rw [ByteArray.mk_append_mk];simp
theorem take_snoc (s:ByteArray) (k:Nat) (h:k<s.size):s.data.toList.take (k+1)=s.data.toList.take k++[s[k]]:=by
 rw [List.take_succ_eq_append_getElem (by simpa using h)];rfl
theorem take_all (s:ByteArray) (k:Nat) (h:s.size≤k):s.data.toList.take k=s.data.toList:=List.take_of_length_le (by simpa using h)
theorem len_eq (s:ByteArray):s.data.toList.length=s.size:=by simp
theorem grownBy_refl (w:World) (r:Option Nat):w.grownBy w r:=⟨rfl,rfl,rfl,yJ _,fun _ _ _=>rfl⟩
theorem grownBy_trans {w w1 w2:World} {r:Option Nat} (h:w.grownBy w1 r) (k:w1.grownBy w2 r):w.grownBy w2 r:=
 ⟨k.os.trans h.os,k.tape.trans h.tape,k.output.trans h.output,Nat.le_trans h.size k.size,fun i hi hn=>(k.block i (Nat.lt_of_lt_of_le hi h.size) hn).trans (h.block i hi hn)⟩
theorem grownBy_below {w w1 w2:World} {r:Option Nat} (h:w.grownBy w1 r) (hb:Below w1.heap.size w1 w2):w.grownBy w2 r:=
 ⟨hb.os.trans h.os,hb.tape.trans h.tape,hb.output.trans h.output,Nat.le_trans h.size hb.size,fun k hk hn=>(hb.block k (Nat.lt_of_lt_of_le hk h.size)).trans (h.block k hk hn)⟩
theorem grownBy_set {w w1:World} {g:Nat} (h:w.grownBy w1 (some g)) (j:Nat) (v:Value):w.grownBy (w1.setCell ⟨g,j,none⟩ v) (some g):=
 ⟨h.os,h.tape,h.output,by simpa using h.size,fun k hk hn=>by
  rw [heap_setCell_other w1 ⟨g,j,none⟩ k v (fun e=>hn (by rw [e]))]
  exact h.block k hk hn⟩
theorem below_grownBy {B:Nat} {a w w':World} {g:Nat} (h:Below B a w) (hg:w.grownBy w' (some g)) (hB:B≤w.heap.size) (hr:B≤g):Below B a w':=h.grown hg hB (fun k hk=>by cases hk;exact hr)
theorem yG {w:World} {b o:Nat} {v:Value} (h:w.cell? ⟨b,o,none⟩=some v):b<w.heap.size:=
 Nat.lt_of_not_le (fun hle=>by simp [World.cell?,Array.getElem?_eq_none hle] at h)
abbrev rv (a b:Int):Value:=.agg #[.int .i64 a,.int .i64 b]
def resOk (a b:Int):Bool:=inB a 0 1000000000&&inB b 0 1000000000
theorem resOk_bd {a b:Int} (h:resOk a b=true):0≤a∧a≤1000000000∧0≤b∧b≤1000000000:=by
 simp only [resOk,inB,yK,yL] at h
 omega
theorem yA {w w1:World} (h:Below w.heap.size w w1) (o:Obj):Below w.heap.size w (w1.alloc o):=h.alloc h.size o
theorem yC {w w1:World} (h:Below w.heap.size w w1) (b j:Nat) (v:Value) (hb:w.heap.size≤b):Below w.heap.size w (w1.setCell ⟨b,j,none⟩ v):=h.setCell hb v
theorem yB {w w1 w2:World} (h:Below w.heap.size w w1) (k:Below w1.heap.size w1 w2):Below w.heap.size w w2:=Below.trans h (k.mono h.size)
def Var (w:World) (t:TypeId) (g:Nat) (x y:Int):Prop:=w.heap[g]? = some (.cells #[.int .i64 x,.int .i64 y] t (0,0))
theorem Var.c0 {w:World} {t:TypeId} {g:Nat} {x y:Int} (h:Var w t g x y):w.cell? ⟨g,0,none⟩=some (.int .i64 x):=by unfold Var at h;simp [World.cell?,h]
theorem Var.c1 {w:World} {t:TypeId} {g:Nat} {x y:Int} (h:Var w t g x y):w.cell? ⟨g,1,none⟩=some (.int .i64 y):=by unfold Var at h;simp [World.cell?,h]
theorem Var.f {w:World} {t:TypeId} {g:Nat} {x y:Int} (h:Var w t g x y) (j:Nat):w.frozen? ⟨g,j,none⟩=false:=by unfold Var at h;simp [World.frozen?,h]
theorem Var.lt {w:World} {t:TypeId} {g:Nat} {x y:Int} (h:Var w t g x y):g<w.heap.size:=lt_of_block h
theorem Var.same {w w':World} {t:TypeId} {g:Nat} {x y:Int} (h:Var w t g x y) (e:w'.heap[g]? = w.heap[g]?):Var w' t g x y:=e.trans h
theorem Var.below {w w':World} {t:TypeId} {g:Nat} {x y:Int} (h:Var w t g x y) (hb:Below w.heap.size w w'):Var w' t g x y:=(hb.block g h.lt).trans h
theorem var_new (w:World) (t:TypeId) (x y:Int):Var (w.alloc (.cells #[.int .i64 x,.int .i64 y] t)) t w.heap.size x y:=by show (w.heap.push _)[w.heap.size]? = _;simp
theorem var_new2 (w:World) (t u:TypeId) (a b x y:Int):Var ((w.alloc (.cells #[.int .i64 a,.int .i64 b] t)).alloc (.cells #[.int .i64 x,.int .i64 y] u)) u (w.heap.size+1) x y:=by
 have:=var_new (w.alloc (.cells #[.int .i64 a,.int .i64 b] t)) u x y
 simpa using this
theorem Var.s0 {w:World} {t:TypeId} {g:Nat} {x y:Int} (h:Var w t g x y) (u:Value):(w.setCell ⟨g,0,none⟩ u).cell? ⟨g,0,none⟩=some u:=World.cell?_setCell_same w _ _ h.c0
theorem Var.s1 {w:World} {t:TypeId} {g:Nat} {x y:Int} (h:Var w t g x y) (u v:Value):((w.setCell ⟨g,0,none⟩ u).setCell ⟨g,1,none⟩ v).cell? ⟨g,1,none⟩=some v:=by
 refine World.cell?_setCell_same _ _ _ (u:=.int .i64 y) ?_
 have h1:=heap_setCell_same w g 0 _ _ u h
 simp [World.cell?,h1]
theorem Var.set {w:World} {t:TypeId} {g:Nat} {a b:Int} (h:Var w t g a b) (x y:Int):Var ((w.setCell ⟨g,0,none⟩ (.int .i64 x)).setCell ⟨g,1,none⟩ (.int .i64 y)) t g x y:=by
 have h1:=heap_setCell_same w g 0 _ _ (.int .i64 x) h
 exact heap_setCell_same _ g 1 _ _ (.int .i64 y) h1
theorem Var.al {w:World} {t:TypeId} {g:Nat} {x y:Int} (h:Var w t g x y) (o:Obj):Var (w.alloc o) t g x y:=h.below (yA (yH _ _) o)
theorem Var.drew {w:World} {t:TypeId} {g:Nat} {x y:Int} (h:Var w t g x y):Var w.drew t g x y:=h
theorem Var.other {w:World} {t:TypeId} {g:Nat} {x y:Int} (h:Var w t g x y) (k j:Nat) (v:Value) (hn:g≠k):Var (w.setCell ⟨k,j,none⟩ v) t g x y:=h.same (heap_setCell_other w ⟨k,j,none⟩ g v hn)
def Boxed (w0:World) (t:TypeId) (a b:Int) (wx:World):Prop:=Var wx t w0.heap.size a b∧Below w0.heap.size w0 wx
theorem Boxed.new (w0:World) (t:TypeId) (a b:Int):Boxed w0 t a b (w0.alloc (.cells #[.int .i64 a,.int .i64 b] t)):=⟨var_new w0 t a b,yA (yH _ _) _⟩
theorem Boxed.call {w0 w1 w2:World} {t:TypeId} {a b:Int} (h:Boxed w0 t a b w1) (hb:Below w1.heap.size w1 w2):Boxed w0 t a b w2:=⟨h.1.below hb,yB h.2 hb⟩
theorem Boxed.drew {w0 w1:World} {t:TypeId} {a b:Int} (h:Boxed w0 t a b w1):Boxed w0 t a b w1.drew:=h.call (yH _ _).drew
theorem Boxed.read (w0:World) (t:TypeId) (a b:Int):∀wx,Boxed w0 t a b wx→wx.cell? ⟨w0.heap.size,0,none⟩=some (.int .i64 a)∧wx.cell? ⟨w0.heap.size,1,none⟩=some (.int .i64 b):=fun wx h=>⟨h.1.c0,h.1.c1⟩
structure Q where
 name:List UInt8
 parent:List UInt8
 due:Int
 most:Int
abbrev qv (q:Q):Value:=.agg #[.string (bs q.name),.string (bs q.parent),.int .i64 q.due,.int .i64 q.most]
def QAt (w:World) (b p:Nat) (q:Q):Prop:=
 w.cell? ⟨b,p,none⟩=some (.string (bs q.name))∧w.cell? ⟨b,p+1,none⟩=some (.string (bs q.parent))∧w.cell? ⟨b,p+2,none⟩=some (.int .i64 q.due)∧w.cell? ⟨b,p+3,none⟩=some (.int .i64 q.most)
def QRow (w:World) (ao:Option Addr) (len:Nat) (l:List Q):Prop:=
 len=l.length∧(len=0∨∃b off,ao=some ⟨b,off,none⟩∧∀i (h:i<l.length),QAt w b (off+i*4) l[i])
theorem QAt.lt {w:World} {b p:Nat} {q:Q} (h:QAt w b p q):b<w.heap.size:=yG h.1
theorem QAt.below {w w':World} {b p:Nat} {q:Q} (h:QAt w b p q) (hb:Below w.heap.size w w'):QAt w' b p q:=
 ⟨(hb.cell h.lt).trans h.1,(hb.cell h.lt).trans h.2.1,(hb.cell h.lt).trans h.2.2.1,(hb.cell h.lt).trans h.2.2.2⟩
theorem QRow.below {w w':World} {ao:Option Addr} {len:Nat} {l:List Q} (h:QRow w ao len l) (hb:Below w.heap.size w w'):QRow w' ao len l:=by
 obtain ⟨h1,h2⟩:=h
 refine ⟨h1,?_⟩
 rcases h2 with h2 | ⟨b,off,h3,h4⟩
 ·exact .inl h2
 ·exact .inr ⟨b,off,h3,fun i h=>(h4 i h).below hb⟩
theorem QRow.nil (w:World) (ao:Option Addr):QRow w ao 0 []:=⟨rfl,.inl rfl⟩
theorem QRow.at {w:World} {ao:Option Addr} {len:Nat} {l:List Q} (h:QRow w ao len l) {i:Nat} (hi:i<len):∃b off,ao=some ⟨b,off,none⟩∧∀(h:i<l.length),QAt w b (off+i*4) l[i]:=by
 obtain ⟨h1,h2⟩:=h
 rcases h2 with h2 | ⟨b,off,h3,h4⟩
 ·omega
 ·exact ⟨b,off,h3,fun hi=>h4 i hi⟩
end
section
theorem bs_back (s:ByteArray):bs s.data.toList=s:=by simp [bs]
theorem bs_eq (l m:List UInt8):((bs l).toList==(bs m).toList)=decide (l=m):=by
 rw [ByteArray.toList_eq,ByteArray.toList_eq]
 by_cases h:l=m
 ·subst h;simp
 ·simp [bs,h]
theorem bs_empty (l:List UInt8):(bs l).toList.isEmpty=decide (l=[]):=by
 rw [ByteArray.toList_eq]
 cases l<;>simp [bs]
end
section
open Go.RowKit
def placeFrom (nm:List UInt8):List Q→Nat→Int
 | [],_=>-1
 | q::t,k=>if q.name=nm then k else placeFrom nm t (k+1)
def place (l:List Q) (nm:List UInt8):Int:=placeFrom nm l 0
theorem placeFrom_step {nm:List UInt8} {l:List Q} {k:Nat} (h:k<l.length):placeFrom nm (l.drop k) k=if l[k].name=nm then (k:Int) else placeFrom nm (l.drop (k+1)) (k+1):=by
 rw [List.drop_eq_getElem_cons h,placeFrom]
theorem placeFrom_end {nm:List UInt8} {l:List Q} {k:Nat} (h:l.length≤k):placeFrom nm (l.drop k) k = -1:=by
 rw [List.drop_of_length_le h];rfl
theorem l03Place_any (ao:Option Addr) (len cap:Nat) (l:List Q) (nm:List UInt8) (w:World) (h:QRow w ao len l) (hl:len≤1048576) :
  Calls Tryz.prog 103 #[.slice ao len cap,.string (bs nm)] w fun e w'=>e=.returned (.int .i64 (place l nm))∧w=w':=by
 have HR:=hide h
 have HL:=hide h.1
 clear h
 go_enter Tryz.func103,Tryz.ntmps103
 go_wp2
 go_loopw [5] (fun i wr=>∃k:Nat,k≤len∧i=.int .i64 k∧Hid (place l nm=placeFrom nm (l.drop k) k)∧wr=w) (fun i _=>len - (intOf i).toNat)
 case atStart=>exact ⟨0,Nat.zero_le _,rfl,hide (by simp [place]),rfl⟩
 case round=>
  obtain ⟨k,hk,rfl,hp,rfl⟩:=hrel
  by_cases hlt:k<len
  ·obtain ⟨b,off,rfl,hq⟩:=(uH HR).at hlt
   have hkl:k<l.length:=by have:=uH HL;omega
   have hst:=hide (placeFrom_step (nm:=nm) (l:=l) (k:=k) hkl)
   have hq0:=(hq hkl).1
   clear hq
   obtain ⟨s,hs⟩:∃s,l[k].name=s:=⟨_,rfl⟩
   rw [hs] at hq0 hst
   have hbe:=bs_eq s nm
   clear hs hkl
   by_cases he:s=nm
   ·have HE:=hide he
    rw [decide_eq_true he] at hbe
    clear he
    go_wp2
    go_ret
    exact ⟨ret_int (by rw [uH hp,uH hst,if_pos (uH HE)]),rfl⟩
   ·have HE:=hide he
    rw [decide_eq_false he] at hbe
    clear he
    go_wp2
    go_roundw
    case rel=>exact ⟨k+1,by omega,by go_num,hide (by rw [uH hp,uH hst,if_neg (uH HE)]),trivial⟩
    case measure=>simp [intOf];omega
  ·go_wp2
   go_ret
   exact ⟨ret_int (by rw [uH hp,placeFrom_end (by have:=uH HL;omega)]),rfl⟩
def dueSum (nm:List UInt8):List Q→Int
 | []=>0
 | q::t=>(if q.parent=nm then q.due else 0)+dueSum nm t
def kidsSum (l:List Q) (nm:List UInt8):Int:=dueSum nm (l.drop 1)
theorem dueSum_step {nm:List UInt8} {l:List Q} {k:Nat} (h:k<l.length):dueSum nm (l.drop k)=(if l[k].parent=nm then l[k].due else 0)+dueSum nm (l.drop (k+1)):=by
 rw [List.drop_eq_getElem_cons h,dueSum]
theorem dueSum_end {nm:List UInt8} {l:List Q} {k:Nat} (h:l.length≤k):dueSum nm (l.drop k)=0:=by
 rw [List.drop_of_length_le h];rfl
theorem l03Sum_any (ao:Option Addr) (len cap:Nat) (l:List Q) (nm:List UInt8) (w:World) (h:QRow w ao len l) (hl:len≤1048576) (hd:∀q ∈ l,0≤q.due∧q.due≤10000) :
  Calls Tryz.prog 104 #[.slice ao len cap,.string (bs nm)] w fun e w'=>e=.returned (.int .i64 (kidsSum l nm))∧w=w':=by
 have HR:=hide h
 have HL:=hide h.1
 have HD:=hide hd
 clear h hd
 go_enter Tryz.func104,Tryz.ntmps104
 go_wp2
 go_loopw [5,6] (fun s i wr=>∃(k:Nat) (a:Int),1≤k∧k≤len+1∧i=.int .i64 k∧s=.int .i64 a∧0≤a∧a≤10000*k∧Hid (kidsSum l nm=a+dueSum nm (l.drop k))∧wr=w) (fun _ i _=>len+1 - (intOf i).toNat)
 case atStart=>exact ⟨1,0,by omega,by omega,rfl,rfl,by omega,by omega,hide (by simp [kidsSum]),rfl⟩
 case round=>
  obtain ⟨k,a,hk1,hk,rfl,rfl,ha0,ha1,hp,rfl⟩:=hrel
  by_cases hlt:k<len
  ·obtain ⟨b,off,rfl,hq⟩:=(uH HR).at hlt
   have hkl:k<l.length:=by have:=uH HL;omega
   have hst:=hide (dueSum_step (nm:=nm) (l:=l) (k:=k) hkl)
   have hq1:=(hq hkl).2.1
   have hq2:=(hq hkl).2.2.1
   obtain ⟨d0,d1⟩:=uH HD l[k] (yM _)
   clear hq
   obtain ⟨s,hs⟩:∃s,l[k].parent=s:=⟨_,rfl⟩
   obtain ⟨d,hdd⟩:∃d,l[k].due=d:=⟨_,rfl⟩
   rw [hs] at hq1 hst
   rw [hdd] at hq2 hst d0 d1
   have hbe:=bs_eq s nm
   clear hs hdd hkl
   by_cases he:s=nm
   ·have HE:=hide he
    rw [decide_eq_true he] at hbe
    clear he
    go_wp2
    go_roundw
    case rel=>exact ⟨k+1,a+d,by omega,by omega,by go_num,by go_num,by omega,by omega,hide (by rw [uH hp,uH hst,if_pos (uH HE)];omega),trivial⟩
    case measure=>simp [intOf];omega
   ·have HE:=hide he
    rw [decide_eq_false he] at hbe
    clear he
    go_wp2
    go_roundw
    case rel=>exact ⟨k+1,a,by omega,by omega,by go_num,rfl,by omega,by omega,hide (by rw [uH hp,uH hst,if_neg (uH HE)];omega),trivial⟩
    case measure=>simp [intOf];omega
  ·go_wp2
   go_ret
   exact ⟨ret_int (by rw [uH hp,dueSum_end (by have:=uH HL;omega)];omega),rfl⟩
theorem l01In_any (x a b:Int) (w:World) :
  Calls Tryz.prog 52 #[.int .i64 x,.int .i64 a,.int .i64 b] w fun e w'=>e=.returned (.bool (inB x a b))∧w=w':=by
 by_cases h1:a≤x
 ·by_cases h2:x≤b
  ·go_enter Tryz.func52,Tryz.ntmps52
   go_wp2
   go_ret
   exact ⟨yF (inB_true h1 h2).symm,rfl⟩
  ·go_enter Tryz.func52,Tryz.ntmps52
   go_wp2
   go_ret
   exact ⟨yF (inB_false (by omega)).symm,rfl⟩
 ·go_enter Tryz.func52,Tryz.ntmps52
  go_wp2
  go_ret
  exact ⟨yF (inB_false (by omega)).symm,rfl⟩
theorem all_snoc (s:ByteArray) (k:Nat) (h:k<s.size) (p:UInt8→Bool) (h1:(s.data.toList.take k).all p=true) (h2:p s[k]=true):(s.data.toList.take (k+1)).all p=true:=by
 rw [take_snoc s k h,List.all_append,h1];simpa using h2
theorem not_all (s:ByteArray) (k:Nat) (h:k<s.size) (p:UInt8→Bool) (h2:p s[k]=false):s.data.toList.all p=false:=by
 rw [List.all_eq_false]
 exact ⟨s[k],by simp [ByteArray.getElem_eq_getElem_data],by simp [h2]⟩
def nameB (c:UInt8):Bool:=inB c.toNat 97 122||inB c.toNat 48 57
def nameOk (l:List UInt8):Bool:=inB l.length 1 10&&l.all nameB
theorem specNameOk_any (s:ByteArray) (w:World) (hs:s.size≤1048576) :
  Calls Tryz.prog 102 #[.string s] w fun e w'=>e=.returned (.bool (nameOk s.data.toList))∧w'=w:=by
 go_enter Tryz.func102,Tryz.ntmps102
 go_wp2
 go_loop [3] (fun i=>∃k:Nat,k≤s.size∧i=.int .i64 k∧(s.data.toList.take k).all nameB=true) (fun i=>s.size - (intOf i).toNat)
 case atStart=>exact ⟨0,Nat.zero_le _,rfl,by simp⟩
 case round=>
  obtain ⟨k,hk,rfl,hall⟩:=hrel
  have HA:=hide hall
  clear hall
  by_cases hlt:k<s.size
  ·have hb:(s[k].toNat:Int)≤255:=byte_le _
   by_cases h1:97≤(s[k].toNat:Int)∧(s[k].toNat:Int)≤122
   ·have e1:inB (s[k].toNat:Int) 97 122=true:=inB_true h1.1 h1.2
    clear h1
    go_wp2_with (go_at_call 52;refine (l01In_any _ _ _ _).mono ?_;rintro e w' ⟨rfl,rfl⟩)
    go_round
    case rel=>exact ⟨k+1,by omega,by go_num,all_snoc s k hlt _ (uH HA) (by simp [nameB,e1])⟩
    case measure=>simp [intOf];omega
   ·have e1:inB (s[k].toNat:Int) 97 122=false:=inB_false h1
    clear h1
    by_cases h2:48≤(s[k].toNat:Int)∧(s[k].toNat:Int)≤57
    ·have e2:inB (s[k].toNat:Int) 48 57=true:=inB_true h2.1 h2.2
     clear h2
     go_wp2_with (go_at_call 52;refine (l01In_any _ _ _ _).mono ?_;rintro e w' ⟨rfl,rfl⟩)
     go_round
     case rel=>exact ⟨k+1,by omega,by go_num,all_snoc s k hlt _ (uH HA) (by simp [nameB,e1,e2])⟩
     case measure=>simp [intOf];omega
    ·have e2:inB (s[k].toNat:Int) 48 57=false:=inB_false h2
     clear h2
     have hf:Hid (nameOk s.data.toList=false):=hide (by rw [nameOk,not_all s k hlt nameB (by simp [nameB,e1,e2])];simp)
     go_wp2_with (go_at_call 52;refine (l01In_any _ _ _ _).mono ?_;rintro e w' ⟨rfl,rfl⟩)
     go_ret
     exact ⟨yF (uH hf).symm,rfl⟩
  ·have hf:Hid (nameOk s.data.toList=inB (s.size:Int) 1 10):=hide (by rw [nameOk,←take_all s k (by omega),uH HA,take_all s k (by omega),len_eq];simp)
   go_wp2_with (go_at_call 52;refine (l01In_any _ _ _ _).mono ?_;rintro e w' ⟨rfl,rfl⟩)
   go_ret
   exact ⟨yF (uH hf).symm,rfl⟩
def qOk (l:List Q) (k:Nat) (q:Q):Bool:=
 nameOk q.name&&decide (place l q.name=k)&&inB q.most 0 10000&&inB q.due 0 q.most
  && (if k=0 then decide (q.parent=[])&&decide (q.due=10000) else inB (place l q.parent) 0 ((k:Int) - 1))
def okFrom (l:List Q):List Q→Nat→Bool
 | [],_=>true
 | q::t,k=>qOk l k q&&okFrom l t (k+1)
def sumsOk (l:List Q):List Q→Bool
 | []=>true
 | q::t=>decide (kidsSum l q.name≤10000)&&sumsOk l t
def queuesOk (l:List Q):Bool:=okFrom l l 0&&sumsOk l l&&inB l.length 1 20
theorem okFrom_step {l:List Q} {k:Nat} (h:k<l.length):okFrom l (l.drop k) k=(qOk l k l[k]&&okFrom l (l.drop (k+1)) (k+1)):=by
 rw [List.drop_eq_getElem_cons h,okFrom]
theorem okFrom_end {l:List Q} {k:Nat} (h:l.length≤k):okFrom l (l.drop k) k=true:=by
 rw [List.drop_of_length_le h];rfl
theorem sumsOk_step {l:List Q} {k:Nat} (h:k<l.length):sumsOk l (l.drop k)=(decide (kidsSum l l[k].name≤10000)&&sumsOk l (l.drop (k+1))):=by
 rw [List.drop_eq_getElem_cons h,sumsOk]
theorem sumsOk_end {l:List Q} {k:Nat} (h:l.length≤k):sumsOk l (l.drop k)=true:=by
 rw [List.drop_of_length_le h];rfl
theorem okFrom_due {l:List Q}:∀(m:List Q) (k:Nat),okFrom l m k=true→∀q ∈ m,0≤q.due∧q.due≤10000
 | [],_,_,q,h=>by simp at h
 | x::t,k,h,q,hq=>by
  rw [okFrom,yK] at h
  rcases List.mem_cons.1 hq with rfl | hq
  ·have:=h.1
   simp only [qOk,inB,yK,yL] at this
   omega
  ·exact okFrom_due t (k+1) h.2 q hq
theorem ok_no1 {l:List Q} (h:okFrom l l 0=false):queuesOk l=false:=by simp [queuesOk,h]
theorem ok_no2 {l:List Q} (h:sumsOk l l=false):queuesOk l=false:=by simp [queuesOk,h]
theorem ok_yes {l:List Q} (h1:okFrom l l 0=true) (h2:sumsOk l l=true):queuesOk l=inB l.length 1 20:=by simp [queuesOk,h1,h2]
theorem placeFrom_range (nm:List UInt8):∀(l:List Q) (k:Nat),placeFrom nm l k = -1∨((k:Int)≤placeFrom nm l k∧placeFrom nm l k<k+l.length)
 | [],_=>.inl rfl
 | q::t,k=>by
  rw [placeFrom]
  split
  ·right;simp;omega
  ·rcases placeFrom_range nm t (k+1) with h | h
   ·exact .inl h
   ·right;simp;omega
theorem place_range (l:List Q) (nm:List UInt8):place l nm = -1∨(0≤place l nm∧place l nm<l.length):=by
 rcases placeFrom_range nm l 0 with h | h
 ·exact .inl h
 ·right;unfold place;simp at h;omega
theorem placeFrom_none {nm:List UInt8}:∀{l:List Q} {k:Nat},(∀q ∈ l,q.name≠nm)→placeFrom nm l k = -1
 | [],_,_=>rfl
 | q::t,k,h=>by
  rw [placeFrom,if_neg (h q (by simp))]
  exact placeFrom_none (fun x hx=>h x (by simp [hx]))
theorem okFrom_at {l:List Q}:∀(m:List Q) (k:Nat),okFrom l m k=true→∀i (h:i<m.length),qOk l (k+i) m[i]=true
 | [],_,_,i,h=>by simp at h
 | x::t,k,ho,i,h=>by
  rw [okFrom,yK] at ho
  cases i with
  | zero=>simpa using ho.1
  | succ j=>
   have:=okFrom_at t (k+1) ho.2 j (by simpa using h)
   rw [show k+1+j=k+(j+1) by omega] at this
   simpa using this
theorem ok_at {l:List Q} (h:queuesOk l=true) (i:Nat) (hi:i<l.length):qOk l i l[i]=true:=by
 have h1:okFrom l l 0=true:=by simp only [queuesOk,yK] at h;exact h.1.1
 have:=okFrom_at l 0 h1 i hi
 simpa using this
theorem ok_named {l:List Q} (h:queuesOk l=true):∀q ∈ l,q.name≠[]:=fun q hq e=>by
 obtain ⟨i,hi,rfl⟩:=List.mem_iff_getElem.1 hq
 have:=ok_at h i hi
 simp [qOk,nameOk,e,inB] at this
theorem parent_ahead {l:List Q} (h:queuesOk l=true) {i:Nat} (hi:i<l.length):place l l[i].parent<i:=by
 have h1:=ok_at h i hi
 simp only [qOk,yK] at h1
 have h2:=h1.2
 by_cases h0:i=0
 ·rw [if_pos h0] at h2
  simp only [yK,yL] at h2
  rw [h2.1]
  have:place l [] = -1:=placeFrom_none (ok_named h)
  omega
 ·rw [if_neg h0] at h2
  simp only [inB,yL] at h2
  omega
def pathAt (l:List Q):Nat→Int→List (List UInt8)
 | 0,_=>[]
 | n+1,p=>if h:0≤p∧p.toNat<l.length then l[p.toNat].name::pathAt l n (place l l[p.toNat].parent) else []
def path (l:List Q) (nm:List UInt8):List (List UInt8):=if queuesOk l then pathAt l (l.length+1) (place l nm) else []
theorem pathAt_more {l:List Q} (h:queuesOk l=true):∀(n m:Nat) (p:Int),p<n→p<m→pathAt l n p=pathAt l m p
 | 0,0,_,_,_=>rfl
 | 0,m+1,p,h1,h2=>by rw [pathAt,pathAt,dif_neg (by omega)]
 | n+1,0,p,h1,h2=>by rw [pathAt,pathAt,dif_neg (by omega)]
 | n+1,m+1,p,h1,h2=>by
  rw [pathAt,pathAt]
  split
  ·rename_i hp
   have:=parent_ahead h hp.2
   rw [pathAt_more h n m _ (by omega) (by omega)]
  ·rfl
theorem path_step {l:List Q} (h:queuesOk l=true) {k n:Nat} (hk:k<l.length) (hn:k<n):pathAt l n k=l[k].name::pathAt l n (place l l[k].parent):=by
 cases n with
 | zero=>omega
 | succ n=>
  have hp:=parent_ahead h hk
  rw [pathAt,dif_pos (by simp;exact hk)]
  simp only [Int.toNat_natCast]
  rw [pathAt_more h n (n+1) _ (by omega) (by omega)]
theorem path_end {l:List Q} {n:Nat} {p:Int} (hp:p<0):pathAt l n p=[]:=by
 cases n with
 | zero=>rfl
 | succ n=>rw [pathAt,dif_neg (by omega)]
/-- a tree of queues, or nothing, is one with this one behind it -/
def fits (l : List Q) (q : Q) : Bool :=
  decide (l.length < 20) && nameOk q.name && decide (place l q.name < 0) && decide (0 ≤ q.due ∧ q.due ≤ q.most ∧ q.most ≤ 10000)
    && (if l.length = 0 then decide (q.parent = [] ∧ q.due = 10000 ∧ q.most = 10000) else decide (0 ≤ place l q.parent ∧ dueSum q.parent l + q.due ≤ 10000))
/-- a tree of queues, or nothing -/
def okT (l : List Q) : Bool := okFrom l l 0 && sumsOk l l && decide (l.length ≤ 20)
theorem placeFrom_snoc (nm : List UInt8) (q : Q) : ∀ (l : List Q) (k : Nat), placeFrom nm (l ++ [q]) k = if placeFrom nm l k < 0 then (if q.name = nm then ((k + l.length : Nat) : Int) else -1) else placeFrom nm l k
  | [], k => by simp [placeFrom]
  | x :: t, k => by
    rw [List.cons_append, placeFrom, placeFrom]
    by_cases h : x.name = nm
    · rw [if_pos h, if_pos h, if_neg (by omega)]
    · rw [if_neg h, if_neg h, placeFrom_snoc nm q t (k + 1)]
      simp only [List.length_cons, show k + 1 + t.length = k + (t.length + 1) by omega]
theorem place_snoc (l : List Q) (q : Q) (nm : List UInt8) : place (l ++ [q]) nm = if place l nm < 0 then (if q.name = nm then (l.length : Int) else -1) else place l nm := by
  unfold place
  rw [placeFrom_snoc, Nat.zero_add]
theorem placeFrom_mem {nm : List UInt8} : ∀ {l : List Q} {k : Nat}, (∃ q ∈ l, q.name = nm) → 0 ≤ placeFrom nm l k
  | [], _, h => by obtain ⟨q, hq, _⟩ := h; simp at hq
  | x :: t, k, h => by
    rw [placeFrom]
    by_cases e : x.name = nm
    · rw [if_pos e]; omega
    · rw [if_neg e]
      obtain ⟨q, hq, hn⟩ := h
      rcases List.mem_cons.1 hq with rfl | hq
      · exact absurd hn e
      · exact placeFrom_mem ⟨q, hq, hn⟩
theorem place_mem {l : List Q} {nm : List UInt8} (h : ∃ q ∈ l, q.name = nm) : 0 ≤ place l nm := placeFrom_mem h
theorem place_has {l : List Q} {nm : List UInt8} (h : 0 ≤ place l nm) : ∃ q ∈ l, q.name = nm := by
  refine Classical.byContradiction fun hc => ?_
  have : place l nm = -1 := placeFrom_none (fun q hq e => hc ⟨q, hq, e⟩)
  omega
theorem place_not {l : List Q} {nm : List UInt8} (h : place l nm < 0) : ∀ q ∈ l, q.name ≠ nm := fun q hq e => by
  have := place_mem (l := l) (nm := nm) ⟨q, hq, e⟩
  omega
theorem dueSum_append (nm : List UInt8) (q : Q) : ∀ l : List Q, dueSum nm (l ++ [q]) = dueSum nm l + (if q.parent = nm then q.due else 0)
  | [] => by simp [dueSum]
  | x :: t => by rw [List.cons_append, dueSum, dueSum, dueSum_append nm q t]; omega
theorem kidsSum_snoc (l : List Q) (q : Q) (nm : List UInt8) (h : 0 < l.length) : kidsSum (l ++ [q]) nm = kidsSum l nm + (if q.parent = nm then q.due else 0) := by
  cases l with
  | nil => simp at h
  | cons x t => exact dueSum_append nm q t
theorem dueSum_zero {nm : List UInt8} : ∀ {l : List Q}, (∀ q ∈ l, q.parent ≠ nm) → dueSum nm l = 0
  | [], _ => rfl
  | x :: t, h => by rw [dueSum, if_neg (h x (by simp)), dueSum_zero (fun q hq => h q (by simp [hq]))]; omega
theorem okFrom_iff {l : List Q} : ∀ (m : List Q) (k : Nat), okFrom l m k = true ↔ ∀ i (h : i < m.length), qOk l (k + i) m[i] = true
  | [], k => by simp [okFrom]
  | x :: t, k => by
    constructor
    · exact okFrom_at (x :: t) k
    · intro h
      rw [okFrom, yK]
      refine ⟨by have := h 0 (by simp); rw [Nat.add_zero] at this; exact this, (okFrom_iff t (k + 1)).2 fun i hi => ?_⟩
      have := h (i + 1) (by simpa using hi)
      rw [show k + 1 + i = k + (i + 1) by omega]
      simpa using this
theorem sumsOk_iff {l : List Q} : ∀ (m : List Q), sumsOk l m = true ↔ ∀ q ∈ m, kidsSum l q.name ≤ 10000
  | [] => by simp [sumsOk]
  | x :: t => by rw [sumsOk, yK, sumsOk_iff t]; simp
theorem okT_iff {l : List Q} : okT l = true ↔ (∀ i (h : i < l.length), qOk l i l[i] = true) ∧ (∀ q ∈ l, kidsSum l q.name ≤ 10000) ∧ l.length ≤ 20 := by
  rw [okT, yK, yK, okFrom_iff l 0, sumsOk_iff l, and_assoc]
  simp
theorem queuesOk_okT (l : List Q) : queuesOk l = (okT l && decide (0 < l.length)) := by
  rw [queuesOk, okT]
  cases okFrom l l 0 <;> cases sumsOk l l <;> simp [inB]
  rw [Bool.eq_iff_iff]; simp; omega
theorem qOk_snoc {l : List Q} {q : Q} {i : Nat} (hi : i < l.length) : qOk (l ++ [q]) i l[i] = qOk l i l[i] := by
  have h1 : 0 ≤ place l l[i].name := place_mem ⟨l[i], yM _, rfl⟩
  have h2 : place (l ++ [q]) l[i].name = place l l[i].name := by rw [place_snoc, if_neg (by omega)]
  have h3 : inB (place (l ++ [q]) l[i].parent) 0 ((i : Int) - 1) = inB (place l l[i].parent) 0 ((i : Int) - 1) := by
    rw [place_snoc]
    by_cases h : place l l[i].parent < 0
    · rw [if_pos h]
      simp only [inB]
      rw [decide_eq_false (p := 0 ≤ place l l[i].parent ∧ _) (by omega)]
      refine decide_eq_false ?_
      split <;> omega
    · rw [if_neg h]
  simp only [qOk, h2, h3]
theorem kid_due {l : List Q} (h : ∀ i (h : i < l.length), qOk l i l[i] = true) : ∀ q ∈ l, nameOk q.name = true ∧ 0 ≤ q.due ∧ q.due ≤ 10000 ∧ (q.parent = [] ∨ ∃ x ∈ l, x.name = q.parent) := fun q hq => by
  obtain ⟨i, hi, rfl⟩ := List.mem_iff_getElem.1 hq
  have := h i hi
  simp only [qOk, yK, yL, inB] at this
  obtain ⟨⟨⟨⟨a1, a2⟩, a3⟩, a4⟩, a5⟩ := this
  refine ⟨a1, a4.1, by omega, ?_⟩
  by_cases e : i = 0
  · rw [if_pos e] at a5
    simp only [yK, yL] at a5
    exact .inl a5.1
  · rw [if_neg e] at a5
    simp only [yL] at a5
    exact .inr (place_has a5.1)
theorem nameOk_ne {n : List UInt8} (h : nameOk n = true) : n ≠ [] := fun e => by simp [nameOk, e, inB] at h
theorem okT_snoc (l : List Q) (q : Q) : okT (l ++ [q]) = (okT l && fits l q) := by
  rw [Bool.eq_iff_iff, yK, okT_iff, okT_iff]
  have hA : (∀ i (h : i < (l ++ [q]).length), qOk (l ++ [q]) i (l ++ [q])[i] = true) ↔ (∀ i (h : i < l.length), qOk l i l[i] = true) ∧ qOk (l ++ [q]) l.length q = true := by
    constructor
    · intro h
      refine ⟨fun i hi => ?_, ?_⟩
      · have := h i (by simp; omega)
        rw [List.getElem_append_left hi, qOk_snoc hi] at this
        exact this
      · have := h l.length (by simp)
        simpa using this
    · rintro ⟨h1, h2⟩ i hi
      by_cases e : i < l.length
      · rw [List.getElem_append_left e, qOk_snoc e]; exact h1 i e
      · have : i = l.length := by simp at hi; omega
        subst this
        simpa using h2
  rw [hA]
  have hP : qOk (l ++ [q]) l.length q = true ↔ nameOk q.name = true ∧ place l q.name < 0 ∧ (0 ≤ q.due ∧ q.due ≤ q.most ∧ q.most ≤ 10000) ∧ (if l.length = 0 then q.parent = [] ∧ q.due = 10000 else 0 ≤ place l q.parent) := by
    simp only [qOk, yK, yL, inB]
    have e1 : place (l ++ [q]) q.name = (l.length : Int) ↔ place l q.name < 0 := by
      rw [place_snoc]
      have := place_range l q.name
      by_cases h : place l q.name < 0
      · simp [h]
      · rw [if_neg h]; constructor <;> intro _ <;> omega
    rw [e1]
    by_cases h0 : l.length = 0
    · rw [if_pos h0, if_pos h0]
      simp only [yK, yL]
      constructor
      · rintro ⟨⟨⟨⟨a, b⟩, c⟩, d⟩, e⟩; exact ⟨a, b, by omega, e⟩
      · rintro ⟨a, b, c, e⟩; exact ⟨⟨⟨⟨a, b⟩, by omega⟩, by omega⟩, e⟩
    · rw [if_neg h0, if_neg h0]
      simp only [yL]
      have e2 : (0 ≤ place (l ++ [q]) q.parent ∧ place (l ++ [q]) q.parent ≤ (l.length : Int) - 1) ↔ 0 ≤ place l q.parent := by
        rw [place_snoc]
        have := place_range l q.parent
        by_cases h : place l q.parent < 0
        · rw [if_pos h]; constructor
          · intro h'; split at h' <;> omega
          · intro h'; omega
        · rw [if_neg h]; constructor <;> intro _ <;> omega
      rw [e2]
      constructor
      · rintro ⟨⟨⟨⟨a, b⟩, c⟩, d⟩, e⟩; exact ⟨a, b, by omega, e⟩
      · rintro ⟨a, b, c, e⟩; exact ⟨⟨⟨⟨a, b⟩, by omega⟩, by omega⟩, e⟩
  have hF : fits l q = true ↔ l.length < 20 ∧ nameOk q.name = true ∧ place l q.name < 0 ∧ (0 ≤ q.due ∧ q.due ≤ q.most ∧ q.most ≤ 10000) ∧ (if l.length = 0 then q.parent = [] ∧ q.due = 10000 ∧ q.most = 10000 else 0 ≤ place l q.parent ∧ dueSum q.parent l + q.due ≤ 10000) := by
    by_cases h0 : l.length = 0 <;> simp only [fits, h0, if_true, if_false, yK, yL, and_assoc]
  rw [hP, hF]
  by_cases h0 : l.length = 0
  · have hl : l = [] := List.eq_nil_of_length_eq_zero h0
    subst hl
    simp only [List.length_nil, if_true, List.nil_append, List.length_cons, List.mem_singleton, forall_eq]
    have hk : kidsSum [q] q.name = 0 := rfl
    rw [hk]
    constructor
    · rintro ⟨⟨_, a, b, c, d, e⟩, _⟩
      exact ⟨⟨fun i hi => by simp at hi, fun x hx => by simp at hx, by omega⟩, by omega, a, b, c, d, e, by omega⟩
    · rintro ⟨_, _, a, b, c, d, e, f⟩
      exact ⟨⟨fun i hi => by simp at hi, a, b, c, d, e⟩, by omega, by omega⟩
  · rw [if_neg h0, if_neg h0]
    have hlp : 0 < l.length := by omega
    constructor
    · rintro ⟨⟨h1, a, b, c, d⟩, h2, h3⟩
      have hk := kid_due h1
      have h4 : ∀ x ∈ l, kidsSum l x.name + (if q.parent = x.name then q.due else 0) ≤ 10000 := fun x hx => by
        have := h2 x (by simp [hx])
        rwa [kidsSum_snoc l q x.name hlp] at this
      refine ⟨⟨h1, fun x hx => ?_, by simp at h3; omega⟩, by simp at h3; omega, a, b, c, d, ?_⟩
      · have := h4 x hx
        split at this <;> omega
      · obtain ⟨x, hx, hn⟩ := place_has d
        have := h4 x hx
        rw [hn, if_pos rfl] at this
        have hd : dueSum q.parent l = kidsSum l q.parent := by
          cases l with
          | nil => simp at hlp
          | cons y t =>
            show dueSum q.parent (y :: t) = dueSum q.parent t
            rw [dueSum, if_neg, Int.zero_add]
            intro e
            have hy := h1 0 (by simp)
            simp only [qOk, List.getElem_cons_zero, if_true, yK, yL] at hy
            exact nameOk_ne (hk x hx).1 (by rw [hn, ← e, hy.2.1])
        omega
    · rintro ⟨⟨h1, h2, h3⟩, h4, a, b, c, d, e⟩
      have hk := kid_due h1
      have hd : kidsSum l q.parent ≤ dueSum q.parent l := by
        cases l with
        | nil => simp at hlp
        | cons y t =>
          show dueSum q.parent t ≤ dueSum q.parent (y :: t)
          rw [dueSum]
          have := (hk y (by simp)).2.1
          split <;> omega
      refine ⟨⟨h1, a, b, c, d⟩, fun x hx => ?_, by simp; omega⟩
      rw [kidsSum_snoc l q x.name hlp]
      rcases List.mem_append.1 hx with hx | hx
      · have := h2 x hx
        split
        · rename_i hq
          rw [hq] at hd e
          omega
        · omega
      · have : x = q := by simpa using hx
        subst this
        have hz : kidsSum l x.name = 0 := by
          cases l with
          | nil => simp at hlp
          | cons y t =>
            refine dueSum_zero (l := t) fun z hz hp => ?_
            rcases (hk z (by simp [hz])).2.2.2 with hn | ⟨u, hu, hn⟩
            · exact nameOk_ne a (by rw [← hp, hn])
            · exact place_not b u hu (by rw [hn, hp])
        have : x.parent ≠ x.name := fun hp => by rw [hp] at d; omega
        rw [if_neg this, hz]
        omega
theorem okT_take_succ {l : List Q} {k : Nat} (h : k < l.length) : okT (l.take (k + 1)) = (okT (l.take k) && fits (l.take k) l[k]) := by
  rw [List.take_succ_eq_append_getElem h, okT_snoc]
/-- where a beginning is none, the whole is none -/
theorem okT_take_false {l : List Q} {k : Nat} (h : okT (l.take k) = false) : okT l = false := by
  by_cases hk : k < l.length
  · have : ∀ n, k ≤ n → n ≤ l.length → okT (l.take n) = false := by
      intro n hn
      induction n with
      | zero => intro _; have : k = 0 := by omega
                subst this; exact h
      | succ m ih =>
        intro hm
        by_cases e : k = m + 1
        · subst e; exact h
        · rw [okT_take_succ (by omega), ih (by omega) (by omega)]; rfl
    have := this l.length (by omega) (yJ _)
    rwa [List.take_length] at this
  · rwa [List.take_of_length_le (by omega)] at h
theorem okT_due {l : List Q} (h : okT l = true) : ∀ q ∈ l, 0 ≤ q.due ∧ q.due ≤ 10000 := fun q hq => by
  have := kid_due (okT_iff.1 h).1 q hq
  exact ⟨this.2.1, this.2.2.1⟩
abbrev qobj (q:Q):Obj:=.cells #[.string (bs q.name),.string (bs q.parent),.int .i64 q.due,.int .i64 q.most] 99
def QBox (w:World) (g:Nat) (q:Q):Prop:=w.heap[g]? = some (qobj q)
theorem QBox.new (w:World) (q:Q):QBox (w.alloc (qobj q)) w.heap.size q:=by show (w.heap.push _)[w.heap.size]? = _;simp
theorem QBox.lt {w:World} {g:Nat} {q:Q} (h:QBox w g q):g<w.heap.size:=lt_of_block h
theorem QBox.below {w w':World} {g:Nat} {q:Q} (h:QBox w g q) (hb:Below w.heap.size w w'):QBox w' g q:=(hb.block g h.lt).trans h
theorem QBox.c0 {w:World} {g:Nat} {q:Q} (h:QBox w g q):w.cell? ⟨g,0,none⟩=some (.string (bs q.name)):=by unfold QBox at h;simp [World.cell?,h]
theorem QBox.c1 {w:World} {g:Nat} {q:Q} (h:QBox w g q):w.cell? ⟨g,1,none⟩=some (.string (bs q.parent)):=by unfold QBox at h;simp [World.cell?,h]
theorem QBox.c2 {w:World} {g:Nat} {q:Q} (h:QBox w g q):w.cell? ⟨g,2,none⟩=some (.int .i64 q.due):=by unfold QBox at h;simp [World.cell?,h]
theorem QBox.c3 {w:World} {g:Nat} {q:Q} (h:QBox w g q):w.cell? ⟨g,3,none⟩=some (.int .i64 q.most):=by unfold QBox at h;simp [World.cell?,h]
def QB (w0:World) (g:Nat) (q:Q) (w:World):Prop:=QBox w g q∧Below w0.heap.size w0 w
theorem QB.call {w0 w w':World} {g:Nat} {q:Q} (h:QB w0 g q w) (hb:Below w.heap.size w w'):QB w0 g q w':=⟨h.1.below hb,yB h.2 hb⟩
theorem QB.drew {w0 w:World} {g:Nat} {q:Q} (h:QB w0 g q w):QB w0 g q w.drew:=h.call (yH _ _).drew
theorem QB.read (w0:World) (g:Nat) (q:Q):∀wx,QB w0 g q wx→wx.cell? ⟨g,0,none⟩=some (.string (bs q.name))∧wx.cell? ⟨g,1,none⟩=some (.string (bs q.parent))∧wx.cell? ⟨g,2,none⟩=some (.int .i64 q.due)∧wx.cell? ⟨g,3,none⟩=some (.int .i64 q.most):=fun wx h=>⟨h.1.c0,h.1.c1,h.1.c2,h.1.c3⟩
theorem isDigit_any (x:Int) (w:World) :
  Calls Tryz.prog 160 #[.int .u8 x] w fun e w'=>e=.returned (.bool (inB x 48 57))∧w'=w:=by
 by_cases h1:48≤x
 ·by_cases h2:x≤57
  ·go_enter Tryz.func160,Tryz.ntmps160
   go_wp2
   go_ret
   exact ⟨yF (inB_true h1 h2).symm,rfl⟩
  ·go_enter Tryz.func160,Tryz.ntmps160
   go_wp2
   go_ret
   exact ⟨yF (inB_false (by omega)).symm,rfl⟩
 ·go_enter Tryz.func160,Tryz.ntmps160
  go_wp2
  go_ret
  exact ⟨yF (inB_false (by omega)).symm,rfl⟩
theorem implNameOk_any (s:ByteArray) (w:World) (hs:s.size≤1048576) :
  Calls Tryz.prog 119 #[.string s] w fun e w'=>e=.returned (.bool (nameOk s.data.toList))∧w'=w:=by
 by_cases h0:1≤s.size
 ·by_cases h1:s.size≤10
  ·have hin:Hid (inB (s.data.toList.length:Int) 1 10=true):=hide (by rw [len_eq];exact inB_true (by omega) (by omega))
   go_enter Tryz.func119,Tryz.ntmps119
   go_wp2
   go_loop [14] (fun i=>∃k:Nat,k≤s.size∧i=.int .i64 k∧(s.data.toList.take k).all nameB=true) (fun i=>s.size - (intOf i).toNat)
   case atStart=>exact ⟨0,Nat.zero_le _,rfl,by simp⟩
   case round=>
    obtain ⟨k,hk,rfl,hall⟩:=hrel
    have HA:=hide hall
    clear hall
    by_cases hlt:k<s.size
    ·have hb:(s[k].toNat:Int)≤255:=byte_le _
     by_cases h3:48≤(s[k].toNat:Int)∧(s[k].toNat:Int)≤57
     ·have e1:inB (s[k].toNat:Int) 48 57=true:=inB_true h3.1 h3.2
      clear h3
      go_wp2_with (go_at_call 160;refine (isDigit_any _ _).mono ?_;rintro e w' ⟨rfl,rfl⟩)
      go_round
      case rel=>exact ⟨k+1,by omega,by go_num,all_snoc s k hlt _ (uH HA) (by simp [nameB,e1])⟩
      case measure=>simp [intOf];omega
     ·have e1:inB (s[k].toNat:Int) 48 57=false:=inB_false h3
      clear h3
      by_cases h4:97≤(s[k].toNat:Int)
      ·by_cases h5:(s[k].toNat:Int)≤122
       ·have HN:Hid (nameB s[k]=true):=hide (by simp [nameB,e1,inB_true h4 h5])
        go_wp2_with (go_at_call 160;refine (isDigit_any _ _).mono ?_;rintro e w' ⟨rfl,rfl⟩)
        go_round
        case rel=>exact ⟨k+1,by omega,by go_num,all_snoc s k hlt _ (uH HA) (uH HN)⟩
        case measure=>simp [intOf];omega
       ·have hf:Hid (nameOk s.data.toList=false):=hide (by rw [nameOk,not_all s k hlt nameB (by simp [nameB,e1,inB_false (x:=(s[k].toNat:Int)) (a:=97) (b:=122) (by omega)])];simp)
        go_wp2_with (go_at_call 160;refine (isDigit_any _ _).mono ?_;rintro e w' ⟨rfl,rfl⟩)
        go_ret
        exact ⟨yF (uH hf).symm,rfl⟩
      ·have hf:Hid (nameOk s.data.toList=false):=hide (by rw [nameOk,not_all s k hlt nameB (by simp [nameB,e1,inB_false (x:=(s[k].toNat:Int)) (a:=97) (b:=122) (by omega)])];simp)
       go_wp2_with (go_at_call 160;refine (isDigit_any _ _).mono ?_;rintro e w' ⟨rfl,rfl⟩)
       go_ret
       exact ⟨yF (uH hf).symm,rfl⟩
    ·have hf:Hid (nameOk s.data.toList=true):=hide (by rw [nameOk,uH hin,←take_all s k (by omega),uH HA];rfl)
     go_wp2
     go_ret
     exact ⟨yF (uH hf).symm,rfl⟩
  ·have hf:Hid (nameOk s.data.toList=false):=hide (by rw [nameOk,len_eq,inB_false (by omega)];simp)
   go_enter Tryz.func119,Tryz.ntmps119
   go_wp2
   go_ret
   exact ⟨yF (uH hf).symm,rfl⟩
 ·have hf:Hid (nameOk s.data.toList=false):=hide (by rw [nameOk,len_eq,inB_false (by omega)];simp)
  go_enter Tryz.func119,Tryz.ntmps119
  go_wp2
  go_ret
  exact ⟨yF (uH hf).symm,rfl⟩
def Blk (w:World) (g:Nat) (arr:Array Value) (t:TypeId):Prop:=w.heap[g]? = some (.cells arr t (0,0))
theorem Blk.lt {w:World} {g:Nat} {arr:Array Value} {t:TypeId} (h:Blk w g arr t):g<w.heap.size:=lt_of_block h
theorem Blk.below {w w':World} {g:Nat} {arr:Array Value} {t:TypeId} (h:Blk w g arr t) (hb:Below w.heap.size w w'):Blk w' g arr t:=(hb.block g h.lt).trans h
theorem Blk.at {w:World} {g:Nat} {arr:Array Value} {t:TypeId} (h:Blk w g arr t) (j:Nat):w.cell? ⟨g,j,none⟩=arr[j]?:=by
 unfold Blk at h;simp [World.cell?,h]
theorem Blk.f {w:World} {g:Nat} {arr:Array Value} {t:TypeId} (h:Blk w g arr t) (j:Nat):w.frozen? ⟨g,j,none⟩=false:=by
 unfold Blk at h;simp [World.frozen?,h]
theorem Blk.al {w:World} {g:Nat} {arr:Array Value} {t:TypeId} (h:Blk w g arr t) (o:Obj):Blk (w.alloc o) g arr t:=h.below (yA (yH _ _) o)
theorem Blk.drew {w:World} {g:Nat} {arr:Array Value} {t:TypeId} (h:Blk w g arr t):Blk w.drew g arr t:=h
theorem Blk.set {w:World} {g:Nat} {arr:Array Value} {t:TypeId} (h:Blk w g arr t) (j:Nat) (v:Value):Blk (w.setCell ⟨g,j,none⟩ v) g (arr.setIfInBounds j v) t:=heap_setCell_same w g j _ _ v h
theorem Blk.other {w:World} {g:Nat} {arr:Array Value} {t:TypeId} (h:Blk w g arr t) (k j:Nat) (v:Value) (hn:g≠k):Blk (w.setCell ⟨k,j,none⟩ v) g arr t:=(heap_setCell_other w ⟨k,j,none⟩ g v hn).trans h
theorem yD (w:World) (arr:Array Value) (t:TypeId):Blk (w.alloc (.cells arr t)) w.heap.size arr t:=by show (w.heap.push _)[w.heap.size]? = _;simp
theorem yE (w:World) (o:Obj):(w.alloc o).heap.size=w.heap.size+1:=by show (w.heap.push _).size=_;simp
theorem below_dn {w w1:World} (h:Below w.heap.size w w1) (n:Nat):Below w.heap.size w (w1.drewN n):=by
 induction n with
 | zero=>exact h
 | succ n ih=>exact ih.drew
theorem set_size (w:World) (a:Addr) (v:Value):(w.setCell a v).heap.size=w.heap.size:=by unfold World.setCell;simp
theorem zq {w:World} {b:Nat} {t:TypeId} {a0 a1 a2 a3 a4 a5 a6 a7:Value} (h:Blk w b #[a0,a1,a2,a3,a4,a5,a6,a7] t):w.cell? ⟨b,0,none⟩=some a0∧w.cell? ⟨b,1,none⟩=some a1∧w.cell? ⟨b,2,none⟩=some a2∧w.cell? ⟨b,3,none⟩=some a3∧w.cell? ⟨b,4,none⟩=some a4∧w.cell? ⟨b,5,none⟩=some a5∧w.cell? ⟨b,6,none⟩=some a6∧w.cell? ⟨b,7,none⟩=some a7:=⟨h.at 0,h.at 1,h.at 2,h.at 3,h.at 4,h.at 5,h.at 6,h.at 7⟩
theorem zp {w:World} {b:Nat} {t:TypeId} {a0 a1 a2 a3 a4:Value} (h:Blk w b #[a0,a1,a2,a3,a4] t):w.cell? ⟨b,0,none⟩=some a0∧w.cell? ⟨b,1,none⟩=some a1∧w.cell? ⟨b,2,none⟩=some a2∧w.cell? ⟨b,3,none⟩=some a3∧w.cell? ⟨b,4,none⟩=some a4:=⟨h.at 0,h.at 1,h.at 2,h.at 3,h.at 4⟩
def QBlk (w:World) (t:TypeId) (g n k:Nat) (l:List Q):Prop:=
 ∃arr:Array Value,w.heap[g]? = some (.cells arr t (0,0))∧arr.size=n*4∧∀i (h:i<l.length),i<k→arr[i*4]? = some (.string (bs l[i].name))∧arr[i*4+1]? = some (.string (bs l[i].parent))∧arr[i*4+2]? = some (.int .i64 l[i].due)∧arr[i*4+3]? = some (.int .i64 l[i].most)
theorem QBlk.lt {w:World} {t:TypeId} {g n k:Nat} {l:List Q} (h:QBlk w t g n k l):g<w.heap.size:=let ⟨_,h,_⟩:=h;lt_of_block h
theorem QBlk.below {w w':World} {t:TypeId} {g n k:Nat} {l:List Q} (h:QBlk w t g n k l) (hb:Below w.heap.size w w'):QBlk w' t g n k l:=by
 have hlt:=h.lt
 obtain ⟨arr,h1,h2⟩:=h
 exact ⟨arr,(hb.block g hlt).trans h1,h2⟩
theorem QBlk.cell {w:World} {t:TypeId} {g n k:Nat} {l:List Q} (h:QBlk w t g n k l) {j:Nat} (hj:j<n*4):∃v,w.cell? ⟨g,j,none⟩=some v:=by
 obtain ⟨arr,h1,h2,_⟩:=h
 exact ⟨arr[j]'(by omega),by simp [World.cell?,h1,Array.getElem?_eq_getElem (show j<arr.size by omega)]⟩
theorem QBlk.frozen {w:World} {t:TypeId} {g n k:Nat} {l:List Q} (h:QBlk w t g n k l) (j:Nat):w.frozen? ⟨g,j,none⟩=false:=by
 obtain ⟨arr,h1,h2,_⟩:=h
 simp [World.frozen?,h1]
theorem QBlk.row {w:World} {t:TypeId} {g n:Nat} {l:List Q} (h:QBlk w t g n n l) (hl:n=l.length):QRow w (some ⟨g,0,none⟩) n l:=by
 obtain ⟨arr,h1,h2,h3⟩:=h
 refine ⟨hl,.inr ⟨g,0,rfl,fun i hi=>?_⟩⟩
 obtain ⟨a,b,c,d⟩:=h3 i hi (by omega)
 unfold QAt
 simp only [Nat.zero_add]
 exact ⟨by simp [World.cell?,h1,a],by simp [World.cell?,h1,b],by simp [World.cell?,h1,c],by simp [World.cell?,h1,d]⟩
theorem qblk_made (w:World) (t:TypeId) (z:Array Value) (n:Nat) (l:List Q):QBlk (w.alloc (.cells (madeCells z (n*4)) t)) t w.heap.size n 0 l:=
 ⟨madeCells z (n*4),by show (w.heap.push _)[w.heap.size]? = _;simp,size_madeCells _ _,fun i _ h=>absurd h (by omega)⟩
def putQ (w:World) (g p:Nat) (q:Q):World:=(((w.setCell ⟨g,p,none⟩ (.string (bs q.name))).setCell ⟨g,p+1,none⟩ (.string (bs q.parent))).setCell ⟨g,p+2,none⟩ (.int .i64 q.due)).setCell ⟨g,p+3,none⟩ (.int .i64 q.most)
theorem QBlk.step {w:World} {t:TypeId} {g n k:Nat} {l:List Q} (h:QBlk w t g n k l) (hk:k<n) (hl:k<l.length):QBlk (putQ w g (k*4) l[k]) t g n (k+1) l:=by
 obtain ⟨arr,h1,h2,h3⟩:=h
 have e1:=heap_setCell_same w g (k*4) _ _ (.string (bs l[k].name)) h1
 have e2:=heap_setCell_same _ g (k*4+1) _ _ (.string (bs l[k].parent)) e1
 have e3:=heap_setCell_same _ g (k*4+2) _ _ (.int .i64 l[k].due) e2
 have e4:=heap_setCell_same _ g (k*4+3) _ _ (.int .i64 l[k].most) e3
 refine ⟨_,e4,by simp [h2],fun i hi hik=>?_⟩
 by_cases e:i=k
 ·subst e
  have q1:i*4+3<arr.size:=by omega
  refine ⟨?_,?_,?_,?_⟩<;>simp [Array.getElem?_setIfInBounds,h2]<;>omega
 ·obtain ⟨a,b,c,d⟩:=h3 i hi (by omega)
  refine ⟨?_,?_,?_,?_⟩
  ·rw [←a];simp only [Array.getElem?_setIfInBounds];repeat rw [if_neg (by omega)]
  ·rw [←b];simp only [Array.getElem?_setIfInBounds];repeat rw [if_neg (by omega)]
  ·rw [←c];simp only [Array.getElem?_setIfInBounds];repeat rw [if_neg (by omega)]
  ·rw [←d];simp only [Array.getElem?_setIfInBounds];repeat rw [if_neg (by omega)]
def QAny (w:World) (t:TypeId) (g n:Nat):Prop:=QBlk w t g n 0 []
theorem QBlk.any {w:World} {t:TypeId} {g n k:Nat} {l:List Q} (h:QBlk w t g n k l):QAny w t g n:=by
 obtain ⟨arr,h1,h2,_⟩:=h
 exact ⟨arr,h1,h2,fun i hi=>absurd hi (by simp)⟩
theorem QAny.set {w:World} {t:TypeId} {g n:Nat} (h:QAny w t g n) (j:Nat) (v:Value):QAny (w.setCell ⟨g,j,none⟩ v) t g n:=by
 obtain ⟨arr,h1,h2,_⟩:=h
 exact ⟨_,heap_setCell_same w g j _ _ v h1,by simp [h2],fun i hi=>absurd hi (by simp)⟩
def szQ (q:Q) (a:Int):Int:=if a - q.name.length<0 then -1 else if a - q.name.length - q.parent.length<0 then -1 else a - q.name.length - q.parent.length
def FitQ (l:List Q):Prop:=l.length≤1048576∧∀q ∈ l,q.name.length≤1048576∧q.parent.length≤1048576
theorem szQueue_any (q:Q) (a:Int) (w:World) (ha0:0≤a) (ha1:a≤1048576) (hn:q.name.length≤9223372036854775807) (hp:q.parent.length≤9223372036854775807) :
  Calls Tryz.prog 47 #[qv q,.int .i64 a] w fun e w'=>e=.returned (.int .i64 (szQ q a))∧Below w.heap.size w w':=by
 obtain ⟨nm,pa,du,mo⟩:=q
 have z1:=bs_size nm
 have z2:=bs_size pa
 simp only at hn hp
 unfold szQ
 simp only
 by_cases h1:a - nm.length<0
 ·rw [if_pos h1]
  go_enter Tryz.func47,Tryz.ntmps47
  go_wp2
  go_ret
  refine ⟨rfl,?_⟩
  repeat (first | exact yH _ _ | refine yA ?_ _ | refine Below.drew ?_ | refine yC ?_ _ _ _ (by omega))
 ·rw [if_neg h1]
  by_cases h2:a - nm.length - pa.length<0
  ·rw [if_pos h2]
   go_enter Tryz.func47,Tryz.ntmps47
   go_wp2
   go_ret
   refine ⟨rfl,?_⟩
   repeat (first | exact yH _ _ | refine yA ?_ _ | refine Below.drew ?_ | refine yC ?_ _ _ _ (by omega))
  ·rw [if_neg h2]
   go_enter Tryz.func47,Tryz.ntmps47
   go_wp2
   go_ret
   refine ⟨rfl,?_⟩
   repeat (first | exact yH _ _ | refine yA ?_ _ | refine Below.drew ?_ | refine yC ?_ _ _ _ (by omega))
theorem szQ_cases (q:Q) (a:Int) (ha0:0≤a) (ha1:a≤1048576):szQ q a = -1∨(0≤szQ q a∧szQ q a≤a∧q.name.length≤1048576∧q.parent.length≤1048576):=by
 unfold szQ
 split
 ·exact .inl rfl
 ·split
  ·exact .inl rfl
  ·right;omega
theorem szQueueS_any (ao:Option Addr) (len cap:Nat) (l:List Q) (w:World) (h:QRow w ao len l) (hlen:len≤9223372036854775807) (hm:∀q ∈ l,q.name.length≤9223372036854775807∧q.parent.length≤9223372036854775807) :
  Calls Tryz.prog 13 #[.slice ao len cap,.int .i64 1048576] w fun e w'=>∃r:Int,e=.returned (.int .i64 r)∧(r = -1∨(0≤r∧r≤1048576∧FitQ l))∧Below w.heap.size w w':=by
 have HR:=hide h
 have HL:=hide h.1
 have HM:=hide hm
 clear h hm
 by_cases hbig:len≤1048576
 ·have hb1:¬(1048576:Int) - len<0:=by omega
  go_enter Tryz.func13,Tryz.ntmps13
  go_wp2
  go_loopw [1,5] (fun s i wr=>∃(k:Nat) (a:Int),k≤len∧i=.int .i64 k∧s=.int .i64 a∧0≤a∧a≤1048576∧Hid (∀q ∈ l.take k,q.name.length≤1048576∧q.parent.length≤1048576)∧Hid (Below w.heap.size w wr)) (fun _ i _=>len - (intOf i).toNat)
  case atStart=>exact ⟨0,(1048576:Int) - len,Nat.zero_le _,rfl,rfl,by omega,by omega,hide (by simp),hide (yH _ _)⟩
  case round=>
   obtain ⟨k,a,hk,rfl,rfl,ha0,ha1,HP,HB⟩:=hrel
   by_cases hlt:k<len
   ·obtain ⟨b,off,rfl,hq⟩:=((uH HR).below (uH HB)).at hlt
    have hkl:k<l.length:=by have:=uH HL;omega
    obtain ⟨c0,c1,c2,c3⟩:=hq hkl
    obtain ⟨n1,n2⟩:=uH HM l[k] (yM _)
    have htk:=List.take_succ_eq_append_getElem hkl
    obtain ⟨q,hs⟩:∃q,l[k]=q:=⟨_,rfl⟩
    rw [hs] at c0 c1 c2 c3 n1 n2 htk
    have HTK:=hide htk
    have C:=hide (fun wx=>szQueue_any q a wx ha0 ha1 n1 n2)
    obtain ⟨r,hr⟩:∃r,szQ q a=r:=⟨_,rfl⟩
    have hcs:=szQ_cases q a ha0 ha1
    rw [hr] at C hcs
    have HC:=hide hcs
    clear hq hs hkl hr hcs htk n1 n2
    go_wp2_with fail
    refine (uH C _).mono ?_
    rintro e w1 ⟨rfl,hb⟩
    have HB1:=hide (yB (uH HB) hb)
    clear hb C c0 c1 c2 c3
    rcases uH HC with hr | ⟨r0,r1,r2,r3⟩
    ·subst hr
     go_wp2
     go_ret
     exact ⟨-1,rfl,.inl rfl,uH HB1⟩
    ·have HN:=hide (show ∀q ∈ l.take (k+1),q.name.length≤1048576∧q.parent.length≤1048576 by
      rw [uH HTK]
      intro x hx
      rcases List.mem_append.1 hx with hx | hx
      ·exact uH HP x hx
      ·rw [List.mem_singleton.1 hx];exact ⟨r2,r3⟩)
     clear r2 r3 HP HTK HC
     go_wp2
     go_roundw
     case rel=>exact ⟨k+1,r,by omega,by go_num,rfl,by omega,by omega,HN,HB1⟩
     case measure=>simp [intOf];omega
   ·have HF:=hide (show FitQ l from ⟨by have:=uH HL;omega,fun q hq=>uH HP q (by rw [List.take_of_length_le (by have:=uH HL;omega)];exact hq)⟩)
    go_wp2
    go_ret
    exact ⟨a,rfl,.inr ⟨ha0,ha1,uH HF⟩,uH HB⟩
 ·have hb1:(1048576:Int) - len<0:=by omega
  go_enter Tryz.func13,Tryz.ntmps13
  go_wp2
  go_ret
  exact ⟨-1,rfl,.inl rfl,yH _ _⟩
theorem toQueue_any (q:Q) (w:World) :
  Calls Tryz.prog 70 #[qv q] w fun e w'=>e=.returned (qv q)∧Below w.heap.size w w':=by
 obtain ⟨nm,pa,du,mo⟩:=q
 go_enter Tryz.func70,Tryz.ntmps70
 go_wp2
 refine bodyPost_ret (v:=qv ⟨nm,pa,du,mo⟩) (by simp [results,Tryz.results70,go_sem]) rfl ⟨rfl,?_⟩
 repeat (first | exact yH _ _ | refine yA ?_ _ | refine Below.drew ?_ | refine yC ?_ _ _ _ (by omega))
theorem queueInfo:(Tryz.prog.info? 99).map (fun i=>(i.zero,i.size,i.bytes))=some (some (qv ⟨[],[],0,0⟩),4,48):=by kernel_rfl
theorem make_queues (n:Nat) (hn:n≤1048576) (w:World) :
  (Instr.makeSlice 31 (.int .i64 (n:Int)) (.int .i64 (n:Int))).run Tryz.prog w=.ok (.slice (some ⟨w.heap.size,0,none⟩) n n) (w.alloc (.cells (madeCells (qv ⟨[],[],0,0⟩).cells (n*4)) 99)):=by
 obtain ⟨i,hi,hz⟩:=Option.map_eq_some_iff.1 queueInfo
 simp only [Prod.mk.injEq] at hz
 obtain ⟨hz,hs,hb⟩:=hz
 have hr:=run_make (P:=Tryz.prog) w 31 99 i _ Tryz.underlying31 hi hz .i64 .i64 n n (by omega) (Int.le_refl _) (by rw [hb];omega) (by omega)
 simp only [Int.toNat_natCast,hs] at hr
 exact hr
theorem toQueueS_any (ao:Option Addr) (len cap:Nat) (l:List Q) (w:World) (h:QRow w ao len l) (hl:len≤1048576) :
  Calls Tryz.prog 25 #[.slice ao len cap] w fun e w'=>e=.returned (.slice (some ⟨w.heap.size,0,none⟩) len len)∧QBlk w' 99 w.heap.size len len l∧Below w.heap.size w w':=by
 have HR:=hide h
 have HL:=hide h.1
 have hmk:=make_queues len hl w
 obtain ⟨zs,hzs⟩:∃z,z=(qv ⟨[],[],0,0⟩).cells:=⟨_,rfl⟩
 rw [←hzs] at hmk
 clear h hzs
 go_enter Tryz.func25,Tryz.ntmps25
 go_wp2
 clear hmk
 go_loopw [4] (fun i wr=>∃k:Nat,k≤len∧i=.int .i64 k∧Hid (QBlk wr 99 w.heap.size len k l)∧Hid (Below w.heap.size w wr)) (fun i _=>len - (intOf i).toNat)
 case atStart=>exact ⟨0,Nat.zero_le _,rfl,hide (qblk_made w _ _ _ _),hide (yA (yH _ _) _)⟩
 case round=>
  obtain ⟨k,hk,rfl,HQ,HB⟩:=hrel
  by_cases hlt:k<len
  ·obtain ⟨b,off,rfl,hq⟩:=((uH HR).below (uH HB)).at hlt
   have hkl:k<l.length:=by have:=uH HL;omega
   obtain ⟨c0,c1,c2,c3⟩:=hq hkl
   obtain ⟨q,hs⟩:∃q,l[k]=q:=⟨_,rfl⟩
   rw [hs] at c0 c1 c2 c3
   have hst:∀wx,QBlk wx 99 w.heap.size len k l→QBlk (putQ wx w.heap.size (k*4) q) 99 w.heap.size len (k+1) l:=fun wx hx=>by have:=hx.step hlt hkl;rw [hs] at this;exact this
   have HST:=hide hst
   clear hst hq hs hkl
   go_wp2_with fail
   refine (toQueue_any q _).mono ?_
   rintro e w1 ⟨rfl,hb⟩
   have HQ1:=hide ((uH HQ).below hb)
   have HB1:=hide (yB (uH HB) hb)
   clear hb c0 c1 c2 c3
   obtain ⟨v0,d0⟩:=(uH HQ1).cell (j:=k*4) (by omega)
   obtain ⟨v1,d1⟩:=(uH HQ1).cell (j:=k*4+1) (by omega)
   obtain ⟨v2,d2⟩:=(uH HQ1).cell (j:=k*4+2) (by omega)
   obtain ⟨v3,d3⟩:=(uH HQ1).cell (j:=k*4+3) (by omega)
   have f0:=(uH HQ1).frozen (k*4)
   have f1:=(uH HQ1).frozen (k*4+1)
   have f2:=(uH HQ1).frozen (k*4+2)
   have f3:=(uH HQ1).frozen (k*4+3)
   go_wp2
   go_roundw
   case rel=>exact ⟨k+1,by omega,by go_num,hide (uH HST _ (uH HQ1)),hide (yC (yC (yC (yC (uH HB1) _ _ _ (by omega)) _ _ _ (by omega)) _ _ _ (by omega)) _ _ _ (by omega))⟩
   case measure=>simp [intOf];omega
  ·have hkk:k=len:=by omega
   subst hkk
   go_wp2
   go_ret
   exact ⟨rfl,uH HQ,uH HB⟩
theorem eqQueue_same (q:Q) (w:World) :
  Calls Tryz.prog 95 #[qv q,qv q] w fun e w'=>e=.returned (.bool true)∧Below w.heap.size w w':=by
 obtain ⟨nm,pa,du,mo⟩:=q
 go_enter Tryz.func95,Tryz.ntmps95
 go_wp2
 go_ret
 refine ⟨rfl,?_⟩
 repeat (first | exact yH _ _ | refine yA ?_ _ | refine Below.drew ?_ | refine yC ?_ _ _ _ (by omega))
def QTwo (w0:World) (b p c r:Nat) (q:Q) (w:World):Prop:=QAt w b p q∧QAt w c r q∧Below w0.heap.size w0 w
theorem QTwo.call {w0 w w':World} {b p c r:Nat} {q:Q} (h:QTwo w0 b p c r q w) (hb:Below w.heap.size w w'):QTwo w0 b p c r q w':=⟨h.1.below hb,h.2.1.below hb,yB h.2.2 hb⟩
theorem QTwo.drew {w0 w:World} {b p c r:Nat} {q:Q} (h:QTwo w0 b p c r q w):QTwo w0 b p c r q w.drew:=h.call (yH _ _).drew
theorem QTwo.read (w0:World) (b p c r:Nat) (q:Q):∀wx,QTwo w0 b p c r q wx→wx.cell? ⟨b,p,none⟩=some (.string (bs q.name))∧wx.cell? ⟨b,p+1,none⟩=some (.string (bs q.parent))∧wx.cell? ⟨b,p+2,none⟩=some (.int .i64 q.due)∧wx.cell? ⟨b,p+3,none⟩=some (.int .i64 q.most)
  ∧wx.cell? ⟨c,r,none⟩=some (.string (bs q.name))∧wx.cell? ⟨c,r+1,none⟩=some (.string (bs q.parent))∧wx.cell? ⟨c,r+2,none⟩=some (.int .i64 q.due)∧wx.cell? ⟨c,r+3,none⟩=some (.int .i64 q.most):=
 fun wx h=>⟨h.1.1,h.1.2.1,h.1.2.2.1,h.1.2.2.2,h.2.1.1,h.2.1.2.1,h.2.1.2.2.1,h.2.1.2.2.2⟩
theorem eqQueueS_same (ao bo:Option Addr) (len cap ccap:Nat) (l:List Q) (w:World) (h:QRow w ao len l) (h':QRow w bo len l) (hl:len≤1048576) :
  Calls Tryz.prog 39 #[.slice ao len cap,.slice bo len ccap] w fun e w'=>e=.returned (.bool true)∧Below w.heap.size w w':=by
 have HR:=hide h
 have HR':=hide h'
 have HL:=hide h.1
 clear h h'
 go_enter Tryz.func39,Tryz.ntmps39
 go_wp2
 go_loopw [5] (fun i wr=>∃k:Nat,k≤len∧i=.int .i64 k∧Hid (Below w.heap.size w wr)) (fun i _=>len - (intOf i).toNat)
 case atStart=>exact ⟨0,Nat.zero_le _,rfl,hide (yH _ _)⟩
 case round=>
  obtain ⟨k,hk,rfl,HB⟩:=hrel
  by_cases hlt:k<len
  ·obtain ⟨b,off,rfl,hq⟩:=((uH HR).below (uH HB)).at hlt
   obtain ⟨c,coff,rfl,hq'⟩:=((uH HR').below (uH HB)).at hlt
   have hkl:k<l.length:=by have:=uH HL;omega
   have A0:=hide (show QTwo w b (off+k*4) c (coff+k*4) l[k] wr from ⟨hq hkl,hq' hkl,uH HB⟩)
   obtain ⟨q,hs⟩:∃q,l[k]=q:=⟨_,rfl⟩
   rw [hs] at A0
   have R:=QTwo.read w b (off+k*4) c (coff+k*4) q
   have k0:(0:Int)≤k:=by omega
   have k1:(k:Int)<len:=by omega
   clear hq hq' hs hkl
   go_wp2_with fail
   go_region_held3 (fun wx=>QTwo w b (off+k*4) c (coff+k*4) q wx)
    (first | (with_reducible assumption) | exact (uH A0).drew | exact QTwo.call (by assumption) (by assumption))
    (first
    | (go_at_call 95;refine (eqQueue_same _ _).mono ?_;rintro e wt ⟨rfl,hb⟩;have SA:=QTwo.call (w0:=w) (b:=b) (p:=off+k*4) (c:=c) (r:=coff+k*4) (q:=q) (by assumption) hb))
   have HB2:=hide SA.2.2
   clear SA R A0
   go_wp2
   go_roundw
   case rel=>exact ⟨k+1,by omega,by go_num,HB2⟩
   case measure=>simp [intOf];omega
  ·go_wp2
   go_ret
   exact ⟨rfl,uH HB⟩
end
section
open Go.ChangeShapes Go.WideShapes Go.ChangeAt Go.RowKit Go.Deep
theorem cells_lq:Tryz.prog.cellsOf 82=4:=by kernel_rfl
theorem cells_qs:Tryz.prog.cellsOf 9=1:=by kernel_rfl
theorem cells_qi:Tryz.prog.cellsOf 3=1:=by kernel_rfl
def QFit (q:Q):Prop:=q.name.length≤9223372036854775807∧q.parent.length≤9223372036854775807
theorem open_q1 {H:Type} {enc:TypeId×Value→H} {W:World} {base:Nat} {sp:Nat→Bool} {held:Bool} {fuel:Nat} {cs:List Value} {x:DataW H×List MemPlace}
  (h:DataW.trod enc Tryz.prog W base sp held fuel 82 cs=some x) :
  ∃q:Q,cs=[.string (bs q.name),.string (bs q.parent),.int .i64 q.due,.int .i64 q.most]∧QFit q∧(Lit.int .i64 q.due).wf=true∧(Lit.int .i64 q.most).wf=true:=by
 obtain ⟨xs,n,rfl,rfl,hlen,hxs,hf⟩:=DataW.trod_struct Tryz.underlying82 h
 rw [cells_lq] at hlen
 have hxs:xs.length=4:=hxs
 match cs,hlen,xs,hxs with
 | [c0,c1,c2,c3],_,[x0,x1,x2,x3],_=>
  have h0:=hf 0 _ rfl
  have h1:=hf 1 _ rfl
  have h2:=hf 2 _ rfl
  have h3:=hf 3 _ rfl
  obtain ⟨s0,e0,_,b0⟩:=DataW.trod_string Tryz.underlying9 h0
  obtain ⟨s1,e1,_,b1⟩:=DataW.trod_string Tryz.underlying9 h1
  obtain ⟨d,e2,_,b2⟩:=DataW.trod_int Tryz.underlying3 h2
  obtain ⟨m,e3,_,b3⟩:=DataW.trod_int Tryz.underlying3 h3
  simp [cells_qs,cells_qi] at e0 e1 e2 e3
  subst e0 e1 e2 e3
  refine ⟨⟨s0.data.toList,s1.data.toList,d,m⟩,by simp only [bs_back],⟨?_,?_⟩,b2,b3⟩
  ·simpa [maxLen] using b0
  ·simpa [maxLen] using b1
theorem open_queues {H:Type} {enc:TypeId×Value→H} {W:World} {base:Nat} {held:Bool} {ao:Option Addr} {len cap:Nat} {d:DataW H} {p:List MemPlace}
  (h:DataW.Trod enc Tryz.prog W base (fun _=>true) held 22 (.slice ao len cap) d p) :
  ∃l:List Q,QRow W ao len l∧len≤9223372036854775807∧∀q ∈ l,QFit q∧(Lit.int .i64 q.due).wf=true∧(Lit.int .i64 q.most).wf=true:=by
 obtain ⟨fuel,hf⟩:=h
 rcases open_slice Tryz.underlying22 hf with ⟨hcs,_⟩ | ⟨a,len',cap',m,n,D,Pl,hcs,hb,hl,hm,hmm,hx,hel⟩
 ·simp [Value.cells] at hcs
  obtain ⟨rfl,rfl,rfl⟩:=hcs
  exact ⟨[],QRow.nil _ _,by omega,by simp⟩
 ·simp [Value.cells] at hcs
  obtain ⟨rfl,rfl,rfl⟩:=hcs
  simp only [if_true] at hmm
  subst hmm
  rw [cells_lq] at hel
  have inh:Inhabited Q:=⟨⟨[],[],0,0⟩⟩
  obtain ⟨F,hF⟩:=choose_lt (α:=Q) (n:=len) (p:=fun i q=>W.cells? base (a.add (i*4)) 4=some [.string (bs q.name),.string (bs q.parent),.int .i64 q.due,.int .i64 q.most]∧QFit q∧(Lit.int .i64 q.due).wf=true∧(Lit.int .i64 q.most).wf=true) (fun i hi=>by
   obtain ⟨cs',h1,h2⟩:=hel i (by omega)
   obtain ⟨q,rfl,h3⟩:=open_q1 h2
   exact ⟨q,h1,h3⟩)
  refine ⟨(List.range len).map F,?_,by have:maxLen=9223372036854775807:=rfl;omega,?_⟩
  ·refine ⟨by simp,?_⟩
   by_cases h0:len=0
   ·exact .inl h0
   ·right
    obtain ⟨b,off,spot⟩:=a
    have hc0:=(World.cells?_some (hF 0 (by omega)).1).2.2 0 (by omega)
    have hspot:spot=none:=by simpa [Addr.add] using World.cell?_spot hc0
    subst hspot
    refine ⟨b,off,rfl,fun i hi=>?_⟩
    have hi':i<len:=by simpa using hi
    obtain ⟨_,_,hc⟩:=World.cells?_some (hF i hi').1
    rw [Lib.add_plain] at hc
    have k0:=hc 0 (by omega)
    have k1:=hc 1 (by omega)
    have k2:=hc 2 (by omega)
    have k3:=hc 3 (by omega)
    rw [Lib.add_plain] at k0 k1 k2 k3
    simp only [List.getElem_map,List.getElem_range]
    exact ⟨k0,k1,k2,k3⟩
  ·intro q hq
   obtain ⟨i,hi,rfl⟩:=List.mem_map.1 hq
   exact (hF i (by simpa using hi)).2
end
section
open Go.RowKit
theorem specResOk_any (a b:Int) (w:World) :
  Calls Tryz.prog 65 #[rv a b] w fun e w'=>e=.returned (.bool (resOk a b))∧w'=w.alloc (.cells #[.int .i64 a,.int .i64 b] 52):=by
 cases h1:inB a 0 1000000000
 ·go_enter Tryz.func65,Tryz.ntmps65
  go_wp2_with (go_at_call 52;refine (l01In_any _ _ _ _).mono ?_;rintro e w' ⟨rfl,rfl⟩)
  go_ret
  exact ⟨yF (by simp [resOk,h1]),rfl⟩
 ·go_enter Tryz.func65,Tryz.ntmps65
  go_wp2_with (go_at_call 52;refine (l01In_any _ _ _ _).mono ?_;rintro e w' ⟨rfl,rfl⟩)
  go_ret
  exact ⟨yF (by simp [resOk,h1]),rfl⟩
theorem specResOk_bel (a b:Int) (w:World) :
  Calls Tryz.prog 65 #[rv a b] w fun e w'=>e=.returned (.bool (resOk a b))∧Below w.heap.size w w':=
 (specResOk_any a b w).mono fun e w' h=>⟨h.1,by rw [h.2];exact yA (yH _ _) _⟩
def bothOk (s a b c d:Int):Bool:=resOk a b&&resOk c d&&resOk (a+s*c) (b+s*d)
def bothV (s a b c d:Int):Value:=if bothOk s a b c d then rv (a+s*c) (b+s*d) else rv 0 0
theorem both_no {s a b c d:Int} (h:bothOk s a b c d=false):bothV s a b c d=rv 0 0:=by simp [bothV,h]
theorem both_yes {s a b c d:Int} (h:bothOk s a b c d=true):bothV s a b c d=rv (a+s*c) (b+s*d):=by simp [bothV,h]
theorem l02Both_any (a b c d s:Int) (w:World) (hs:s=1∨s = -1) :
  Calls Tryz.prog 69 #[rv a b,rv c d,.int .i64 s] w fun e w'=>e=.returned (.tuple #[bothV s a b c d,.bool (bothOk s a b c d)])∧Below w.heap.size w w':=by
 cases h1:resOk a b
 ·have hb:bothOk s a b c d=false:=by simp [bothOk,h1]
  rw [both_no hb,hb]
  go_enter Tryz.func69,Tryz.ntmps69
  go_wp2_with (go_at_call 65;refine (specResOk_any _ _ _).mono ?_;rintro e w' ⟨rfl,rfl⟩)
  refine bodyPost_ret (v:=.tuple #[rv 0 0,.bool false]) (by simp [results,Tryz.results69,go_sem]) rfl ⟨rfl,?_⟩
  repeat (first | exact yH _ _ | refine yA ?_ _ | refine yC ?_ _ _ _ (by omega))
 ·cases h2:resOk c d
  ·have hb:bothOk s a b c d=false:=by simp [bothOk,h2]
   rw [both_no hb,hb]
   go_enter Tryz.func69,Tryz.ntmps69
   go_wp2_with (go_at_call 65;refine (specResOk_any _ _ _).mono ?_;rintro e w' ⟨rfl,rfl⟩)
   refine bodyPost_ret (v:=.tuple #[rv 0 0,.bool false]) (by simp [results,Tryz.results69,go_sem]) rfl ⟨rfl,?_⟩
   repeat (first | exact yH _ _ | refine yA ?_ _ | refine yC ?_ _ _ _ (by omega))
  ·obtain ⟨q1,q2,q3,q4⟩:=resOk_bd h1
   obtain ⟨q5,q6,q7,q8⟩:=resOk_bd h2
   have m1:IntKind.i64.wrap (s*c)=s*c:=by rw [IntKind.wrap_i64];rcases hs with rfl | rfl<;>omega
   have m2:IntKind.i64.wrap (s*d)=s*d:=by rw [IntKind.wrap_i64];rcases hs with rfl | rfl<;>omega
   have m3:IntKind.i64.wrap (a+s*c)=a+s*c:=by rw [IntKind.wrap_i64];rcases hs with rfl | rfl<;>omega
   have m4:IntKind.i64.wrap (b+s*d)=b+s*d:=by rw [IntKind.wrap_i64];rcases hs with rfl | rfl<;>omega
   cases h3:resOk (a+s*c) (b+s*d)
   ·have hb:bothOk s a b c d=false:=by simp [bothOk,h3]
    rw [both_no hb,hb]
    go_enter Tryz.func69,Tryz.ntmps69
    go_wp2_with (go_at_call 65;refine (specResOk_any _ _ _).mono ?_;rintro e w' ⟨rfl,rfl⟩)
    refine bodyPost_ret (v:=.tuple #[rv 0 0,.bool false]) (by simp [results,Tryz.results69,go_sem]) rfl ⟨rfl,?_⟩
    repeat (first | exact yH _ _ | refine yA ?_ _ | refine yC ?_ _ _ _ (by omega))
   ·have hb:bothOk s a b c d=true:=by simp [bothOk,h1,h2,h3]
    rw [both_yes hb,hb]
    go_enter Tryz.func69,Tryz.ntmps69
    go_wp2_with (go_at_call 65;refine (specResOk_any _ _ _).mono ?_;rintro e w' ⟨rfl,rfl⟩)
    refine bodyPost_ret (v:=.tuple #[rv (a+s*c) (b+s*d),.bool true]) (by simp [results,Tryz.results69,go_sem]) rfl ⟨rfl,?_⟩
    repeat (first | exact yH _ _ | refine yA ?_ _ | refine yC ?_ _ _ _ (by omega))
def SS (w:World) (g cap:Nat) (xs:List ByteArray):Prop:=w.ownsRow g 9 1 (.slice (some ⟨g,0,none⟩) xs.length cap) xs.length (xs.map Value.string)
theorem SS.cell {w:World} {g cap:Nat} {xs:List ByteArray} (h:SS w g cap xs) (j:Nat) (hj:j<xs.length):w.cell? ⟨g,j,none⟩=some (.string xs[j]):=by
 have:=World.ownsRow.cellAt h j (by omega)
 rw [this];simp [hj]
theorem SS.frozen {w:World} {g cap:Nat} {xs:List ByteArray} (h:SS w g cap xs) (j:Nat):w.frozen? ⟨g,j,none⟩=false:=World.ownsRow.frozenAt h j
theorem SS.block {w:World} {g cap:Nat} {xs:List ByteArray} (h:SS w g cap xs):∃cur,w.heap[g]? = some (.cells cur 9 (0,0))∧xs.length≤cap∧cap≤maxLen∧cur.size=cap∧cur.toList.take xs.length=xs.map Value.string:=by
 rcases h.2 with ⟨h1,_⟩ | ⟨g',cap',cur,h1,_,h2,h3,h4,h5,h6⟩
 ·simp at h1
 ·simp only [Value.slice.injEq,Option.some.injEq,Addr.mk.injEq,and_true,true_and] at h1
  obtain ⟨rfl,rfl⟩:=h1
  exact ⟨cur,h2,h3,h4,by simpa using h5,by simpa using h6⟩
theorem SS.mk {w:World} {g cap:Nat} {xs:List ByteArray} {cur:Array Value} (h:w.heap[g]? = some (.cells cur 9 (0,0))) (h1:xs.length≤cap) (h2:cap≤maxLen) (h3:cur.size=cap) (h4:cur.toList.take xs.length=xs.map Value.string):SS w g cap xs:=
 ⟨by simp,.inr ⟨g,cap,cur,rfl,yJ _,h,h1,h2,by simpa using h3,by simpa using h4⟩⟩
theorem SS.lt {w:World} {g cap:Nat} {xs:List ByteArray} (h:SS w g cap xs):g<w.heap.size:=by
 obtain ⟨cur,h1,_⟩:=h.block
 exact lt_of_block h1
theorem SS.same {w w':World} {g cap:Nat} {xs:List ByteArray} (h:SS w g cap xs) (hg:w'.heap[g]? = w.heap[g]?):SS w' g cap xs:=by
 obtain ⟨cur,h1,h2,h3,h4,h5⟩:=h.block
 exact SS.mk (hg.trans h1) h2 h3 h4 h5
theorem SS.below {w w':World} {B g cap:Nat} {xs:List ByteArray} (h:SS w g cap xs) (hb:Below B w w') (hg:g<B):SS w' g cap xs:=h.same (hb.block g hg)
theorem SS.set {w:World} {g cap:Nat} {xs:List ByteArray} (h:SS w g cap xs) (j:Nat) (hj:j<xs.length) (x:ByteArray):SS (w.setCell ⟨g,j,none⟩ (.string x)) g cap (xs.set j x):=by
 obtain ⟨cur,h1,h2,h3,h4,h5⟩:=h.block
 refine SS.mk (heap_setCell_same w g j cur _ _ h1) (by simpa using h2) h3 (by simpa using h4) ?_
 rw [List.length_set,Array.toList_setIfInBounds,List.take_set,h5,List.map_set]
abbrev scells (o:List ByteArray):List Value:=o.map Value.string
theorem Tryz.infoS:(Tryz.prog.info? 9).map (fun i=>(i.zero,i.size,i.bytes))=some (some (.string ByteArray.empty),1,16):=by kernel_rfl
theorem sown_empty (w:World):(w.alloc (.cells #[] 9)).ownsRow w.heap.size 9 1 (.slice (some ⟨w.heap.size,0,none⟩) 0 0) ([]:List ByteArray).length (scells []):=
 ⟨rfl,.inr ⟨w.heap.size,0,#[],rfl,yJ _,by show (w.heap.push _)[w.heap.size]? = _;simp,yJ _,by unfold maxLen;omega,rfl,rfl⟩⟩
theorem srow_step {w wr w1:World} {B:Nat} {v v':Value} {o:List ByteArray} {x:ByteArray} {ob:Obj} (hb:Below B w wr) (hown:wr.ownsRow B 9 1 v o.length (scells o))
  (h1:w1.ownsRow B 9 1 v' (o.length+1) (scells o++[.string x])) (hg:(wr.alloc ob).grownBy w1 v.ownBlock) (hB:B≤wr.heap.size) :
  w1.ownsRow B 9 1 v' (o++[x]).length (scells (o++[x]))∧Below B w w1:=by
 refine ⟨by simpa [scells] using h1,(hb.alloc hB ob).grown hg (by simp;omega) ?_⟩
 intro k hk
 rcases hown.2 with ⟨rfl,_⟩ | ⟨g,cap,cur,rfl,hg',_⟩
 ·simp [Value.ownBlock] at hk
 ·simp [Value.ownBlock] at hk;omega
theorem ss_of_owns {w:World} {B:Nat} {v:Value} {o:List ByteArray} (h:w.ownsRow B 9 1 v o.length (scells o)) (ho:1≤o.length):∃g cap,v=.slice (some ⟨g,0,none⟩) o.length cap∧SS w g cap o∧B≤g:=by
 rcases h.2 with ⟨_,h0⟩ | ⟨g,cap,cur,rfl,h1,h2,h3,h4,h5,h6⟩
 ·omega
 ·exact ⟨g,cap,rfl,SS.mk h2 h3 h4 (by simpa using h5) (by simpa using h6),h1⟩
theorem sown_below {w w':World} {B:Nat} {v:Value} {o:List ByteArray} (h:w.ownsRow B 9 1 v o.length (scells o)) (hb:Below w.heap.size w w'):w'.ownsRow B 9 1 v o.length (scells o):=
 h.kept (grownBy_below (grownBy_refl w none) hb) (by by_cases e:v.ownBlock=none;exact .inl e;exact .inr e)
def Texts (B:Nat) (w:World) (v:Value) (ps:List (List UInt8)):Prop:=w.ownsRow B 9 1 v (ps.map bs).length (scells (ps.map bs))
theorem Texts.of {B:Nat} {w:World} {v:Value} {ps:List (List UInt8)} {o:List ByteArray} (h:w.ownsRow B 9 1 v o.length (scells o)) (e:o=ps.map bs):Texts B w v ps:=by subst e;exact h
theorem Texts.below {w w':World} {B:Nat} {v:Value} {ps:List (List UInt8)} (h:Texts B w v ps) (hb:Below w.heap.size w w'):Texts B w' v ps:=sown_below h hb
theorem texts_none {B:Nat} {w:World} {v:Value} (h:Texts B w v []):∃a cap,v=.slice a 0 cap:=by
 rcases h.2 with ⟨rfl,_⟩ | ⟨g,cap,cur,rfl,_⟩
 ·exact ⟨_,_,rfl⟩
 ·exact ⟨_,_,rfl⟩
theorem texts_some {B:Nat} {w:World} {v:Value} {ps:List (List UInt8)} (h:Texts B w v ps) (hp:ps≠[]):∃g cap,v=.slice (some ⟨g,0,none⟩) ps.length cap∧SS w g cap (ps.map bs)∧B≤g:=by
 have hl:0<ps.length:=List.length_pos_iff.2 hp
 obtain ⟨g,cap,h1,h2,h3⟩:=ss_of_owns h (by simp;omega)
 exact ⟨g,cap,by rw [h1];simp,h2,h3⟩
theorem SS.text {w:World} {g cap:Nat} {ps:List (List UInt8)} (h:SS w g cap (ps.map bs)) {j:Nat} (hj:j<ps.length):w.cell? ⟨g,j,none⟩=some (.string (bs ps[j])):=by
 have:=h.cell j (by simpa using hj)
 simpa using this
abbrev pv (a b c d:Int):Value:=.agg #[.int .i64 a,.int .i64 b,.int .i64 c,.int .i64 d]
theorem numberOk_any (n:Int) (w:World) :
  Calls Tryz.prog 115 #[.int .i64 n] w fun e w'=>e=.returned (.bool (inB n 0 1000000000))∧w=w':=by
 by_cases h1:0≤n
 ·by_cases h2:n≤1000000000
  ·go_enter Tryz.func115,Tryz.ntmps115
   go_wp2
   go_ret
   exact ⟨yF (inB_true h1 h2).symm,rfl⟩
  ·go_enter Tryz.func115,Tryz.ntmps115
   go_wp2
   go_ret
   exact ⟨yF (inB_false (by omega)).symm,rfl⟩
 ·go_enter Tryz.func115,Tryz.ntmps115
  go_wp2
  go_ret
  exact ⟨yF (inB_false (by omega)).symm,rfl⟩
theorem ok_any (a b:Int) (w:World) :
  Calls Tryz.prog 138 #[rv a b] w fun e w'=>e=.returned (.bool (resOk a b))∧w'=w.alloc (.cells #[.int .i64 a,.int .i64 b] 52):=by
 cases h1:inB a 0 1000000000
 ·go_enter Tryz.func138,Tryz.ntmps138
  go_wp2_with (go_at_call 115;refine (numberOk_any _ _).mono ?_;rintro e w' ⟨rfl,rfl⟩)
  go_ret
  exact ⟨yF (by simp [resOk,h1]),rfl⟩
 ·go_enter Tryz.func138,Tryz.ntmps138
  go_wp2_with (go_at_call 115;refine (numberOk_any _ _).mono ?_;rintro e w' ⟨rfl,rfl⟩)
  go_ret
  exact ⟨yF (by simp [resOk,h1]),rfl⟩
theorem ok_bel (a b:Int) (w:World) :
  Calls Tryz.prog 138 #[rv a b] w fun e w'=>e=.returned (.bool (resOk a b))∧Below w.heap.size w w':=
 (ok_any a b w).mono fun e w' h=>⟨h.1,by rw [h.2];exact yA (yH _ _) _⟩
theorem pairOk_any (a b c d:Int) (w:World) :
  Calls Tryz.prog 89 #[pv a b c d] w fun e w'=>e=.returned (.bool (resOk a b&&resOk c d))∧Below w.heap.size w w':=by
 cases h1:resOk a b
 ·go_enter Tryz.func89,Tryz.ntmps89
  go_wp2_with (go_at_call 138;refine (ok_any _ _ _).mono ?_;rintro e w' ⟨rfl,rfl⟩)
  go_ret
  refine ⟨rfl,?_⟩
  repeat (first | exact yH _ _ | refine yA ?_ _ | refine Below.drew ?_ | refine yC ?_ _ _ _ (by omega))
 ·go_enter Tryz.func89,Tryz.ntmps89
  go_wp2_with (go_at_call 138;refine (ok_any _ _ _).mono ?_;rintro e w' ⟨rfl,rfl⟩)
  go_ret
  refine ⟨rfl,?_⟩
  repeat (first | exact yH _ _ | refine yA ?_ _ | refine Below.drew ?_ | refine yC ?_ _ _ _ (by omega))
def orV (a b:Int):Value:=if resOk a b then rv a b else rv 0 0
theorem or_any (a b:Int) (w:World) :
  Calls Tryz.prog 94 #[rv a b] w fun e w'=>e=.returned (.tuple #[orV a b,.bool (resOk a b)])∧Below w.heap.size w w':=by
 cases h1:resOk a b
 ·rw [show orV a b=rv 0 0 by simp [orV,h1]]
  go_enter Tryz.func94,Tryz.ntmps94
  go_wp2_with (go_at_call 138;refine (ok_any _ _ _).mono ?_;rintro e w' ⟨rfl,rfl⟩)
  refine bodyPost_ret (v:=.tuple #[rv 0 0,.bool false]) (by simp [results,Tryz.results94,go_sem]) rfl ⟨rfl,?_⟩
  repeat (first | exact yH _ _ | refine yA ?_ _ | refine Below.drew ?_ | refine yC ?_ _ _ _ (by omega))
 ·rw [show orV a b=rv a b by simp [orV,h1]]
  go_enter Tryz.func94,Tryz.ntmps94
  go_wp2_with (go_at_call 138;refine (ok_any _ _ _).mono ?_;rintro e w' ⟨rfl,rfl⟩)
  refine bodyPost_ret (v:=.tuple #[rv a b,.bool true]) (by simp [results,Tryz.results94,go_sem]) rfl ⟨rfl,?_⟩
  repeat (first | exact yH _ _ | refine yA ?_ _ | refine Below.drew ?_ | refine yC ?_ _ _ _ (by omega))
theorem implAdd_any (a b c d:Int) (w:World) :
  Calls Tryz.prog 36 #[rv a b,rv c d] w fun e w'=>e=.returned (.tuple #[bothV 1 a b c d,.bool (bothOk 1 a b c d)])∧Below w.heap.size w w':=by
 have V1:=((var_new w 52 a b).al (.cells #[.int .i64 c,.int .i64 d] 52)).al (.cells #[.int .i64 0,.int .i64 0] 52)
 have V2:=(var_new2 w 52 52 a b c d).al (.cells #[.int .i64 0,.int .i64 0] 52)
 have V3:=var_new2 (w.alloc (.cells #[.int .i64 a,.int .i64 b] 52)) 52 52 c d 0 0
 have B3:=yA (yA (yA (yH _ w) (.cells #[.int .i64 a,.int .i64 b] 52)) (.cells #[.int .i64 c,.int .i64 d] 52)) (.cells #[.int .i64 0,.int .i64 0] 52)
 simp at V3
 have HV1:=hide V1
 have HV2:=hide V2
 have HV3:=hide V3
 have HB3:=hide B3
 have hc:=hide (pairOk_any a b c d)
 clear V1 V2 V3 B3
 cases h0:resOk a b&&resOk c d
 ·have hb:bothOk 1 a b c d=false:=by rw [bothOk,h0];rfl
  rw [both_no hb,hb]
  go_enter Tryz.func36,Tryz.ntmps36
  go_wp2_with fail
  refine (uH hc _).mono ?_
  rw [h0]
  rintro e w1 ⟨rfl,hb⟩
  have V3:=(uH HV3).below hb
  have k2:=V3.f 0
  have k3:=V3.f 1
  have k0:=V3.c0
  have k1:=V3.c1
  have k4:=V3.s0 (.int .i64 0)
  have k5:=V3.s1 (.int .i64 0) (.int .i64 0)
  have HB:=hide (yB (uH HB3) hb)
  clear hb HV1 HV2 HV3 HB3 V3 hc
  go_wp2
  refine bodyPost_ret (v:=.tuple #[rv 0 0,.bool false]) (by simp [results,Tryz.results36,go_sem,k4,k5]) rfl ⟨rfl,?_⟩
  repeat (first | exact uH HB | refine yA ?_ _ | refine Below.drew ?_ | refine yC ?_ _ _ _ (by omega))
 ·have h0':=h0
  simp only [yK] at h0'
  obtain ⟨q1,q2,q3,q4⟩:=resOk_bd h0'.1
  obtain ⟨q5,q6,q7,q8⟩:=resOk_bd h0'.2
  obtain ⟨x,hx⟩:∃x,a+c=x:=⟨_,rfl⟩
  obtain ⟨y,hy⟩:∃y,b+d=y:=⟨_,rfl⟩
  have m3:IntKind.i64.wrap (a+c)=x:=by rw [IntKind.wrap_i64];omega
  have m4:IntKind.i64.wrap (b+d)=y:=by rw [IntKind.wrap_i64];omega
  have e1:bothOk 1 a b c d=resOk x y:=by rw [bothOk,h0,show a+1*c=x by omega,show b+1*d=y by omega];rfl
  have e2:bothV 1 a b c d=orV x y:=by rw [bothV,orV,e1,show a+1*c=x by omega,show b+1*d=y by omega]
  obtain ⟨u,v,hv⟩:∃u v,orV x y=rv u v:=by unfold orV;split<;>exact ⟨_,_,rfl⟩
  obtain ⟨o,ho⟩:∃o,resOk x y=o:=⟨_,rfl⟩
  have ho2:∀wx,Calls Tryz.prog 94 #[rv x y] wx fun e w'=>e=.returned (.tuple #[rv u v,.bool o])∧Below wx.heap.size wx w':=fun wx=>by have:=or_any x y wx;rw [hv,ho] at this;exact this
  rw [e1,e2,hv,ho]
  have HO:=hide ho2
  clear e1 e2 hv ho ho2 h0' q1 q2 q3 q4 q5 q6 q7 q8 hx hy
  go_enter Tryz.func36,Tryz.ntmps36
  go_wp2_with fail
  refine (uH hc _).mono ?_
  rw [h0]
  rintro e w1 ⟨rfl,hb⟩
  have V1:=(uH HV1).below hb
  have V2:=(uH HV2).below hb
  have V3:=hide ((uH HV3).below hb)
  have a1:=V1.c0
  have a2:=V1.c1
  have a3:=V2.c0
  have a4:=V2.c1
  have HB:=hide (yB (uH HB3) hb)
  clear hb HV1 HV2 HV3 HB3 V1 V2 hc
  go_wp2_with fail
  refine (uH HO _).mono ?_
  rintro e w2 ⟨rfl,hb⟩
  have V4:=(uH V3).below hb
  have k0:=V4.c0
  have k1:=V4.c1
  have k2:=V4.f 0
  have k3:=V4.f 1
  have k4:=V4.s0 (.int .i64 u)
  have k5:=V4.s1 (.int .i64 u) (.int .i64 v)
  have HB2:=hide (yB (uH HB) hb)
  clear hb V4 V3 HB HO a1 a2 a3 a4
  go_wp2
  refine bodyPost_ret (v:=.tuple #[rv u v,.bool o]) (by simp [results,Tryz.results36,go_sem,k4,k5]) rfl ⟨rfl,?_⟩
  repeat (first | exact uH HB2 | refine yA ?_ _ | refine Below.drew ?_ | refine yC ?_ _ _ _ (by omega))
def shareOk (a b n:Int):Bool:=resOk a b&&inB n 0 10000
def shareM (a b n:Int):Int:=if shareOk a b n then a*n / 10000 else 0
def shareC (a b n:Int):Int:=if shareOk a b n then b*n / 10000 else 0
theorem mul_bd {a n A N:Int} (h0:0≤a) (h1:a≤A) (h2:0≤n) (h3:n≤N):0≤a*n∧a*n≤A*N:=
 ⟨Int.mul_nonneg h0 h2,Int.mul_le_mul h1 h3 h2 (Int.le_trans h0 h1)⟩
theorem specShare_any (a b n:Int) (w:World) :
  Calls Tryz.prog 150 #[rv a b,.int .i64 n] w fun e w'=>e=.returned (rv (shareM a b n) (shareC a b n))∧Below w.heap.size w w':=by
 cases h1:resOk a b
 ·rw [show shareM a b n=0 by simp [shareM,shareOk,h1],show shareC a b n=0 by simp [shareC,shareOk,h1]]
  go_enter Tryz.func150,Tryz.ntmps150
  go_wp2_with (first | (go_at_call 65;refine (specResOk_any _ _ _).mono ?_;rintro e w' ⟨rfl,rfl⟩) | (go_at_call 52;refine (l01In_any _ _ _ _).mono ?_;rintro e w' ⟨rfl,rfl⟩))
  refine bodyPost_ret (v:=rv 0 0) (by simp [results,Tryz.results150,go_sem]) rfl ⟨rfl,?_⟩
  repeat (first | exact yH _ _ | refine yA ?_ _ | refine Below.drew ?_ | refine yC ?_ _ _ _ (by omega))
 ·cases h2:inB n 0 10000
  ·rw [show shareM a b n=0 by simp [shareM,shareOk,h2],show shareC a b n=0 by simp [shareC,shareOk,h2]]
   go_enter Tryz.func150,Tryz.ntmps150
   go_wp2_with (first | (go_at_call 65;refine (specResOk_any _ _ _).mono ?_;rintro e w' ⟨rfl,rfl⟩) | (go_at_call 52;refine (l01In_any _ _ _ _).mono ?_;rintro e w' ⟨rfl,rfl⟩))
   refine bodyPost_ret (v:=rv 0 0) (by simp [results,Tryz.results150,go_sem]) rfl ⟨rfl,?_⟩
   repeat (first | exact yH _ _ | refine yA ?_ _ | refine Below.drew ?_ | refine yC ?_ _ _ _ (by omega))
  ·rw [show shareM a b n=a*n / 10000 by simp [shareM,shareOk,h1,h2],show shareC a b n=b*n / 10000 by simp [shareC,shareOk,h1,h2]]
   obtain ⟨q1,q2,q3,q4⟩:=resOk_bd h1
   have hn:0≤n∧n≤10000:=by simpa [inB] using h2
   obtain ⟨m1,m2⟩:=mul_bd q1 q2 hn.1 hn.2
   obtain ⟨m3,m4⟩:=mul_bd q3 q4 hn.1 hn.2
   go_enter Tryz.func150,Tryz.ntmps150
   go_wp2_with (first | (go_at_call 65;refine (specResOk_any _ _ _).mono ?_;rintro e w' ⟨rfl,rfl⟩) | (go_at_call 52;refine (l01In_any _ _ _ _).mono ?_;rintro e w' ⟨rfl,rfl⟩))
   refine bodyPost_ret (v:=rv (a*n / 10000) (b*n / 10000)) (by simp [results,Tryz.results150,go_sem]) rfl ⟨rfl,?_⟩
   repeat (first | exact yH _ _ | refine yA ?_ _ | refine Below.drew ?_ | refine yC ?_ _ _ _ (by omega))
def fieldOf (most:Bool) (q:Q):Int:=if most then q.most else q.due
def byName (l:List Q) (n:List UInt8):Q:=l.getD (place l n).toNat ⟨[],[],0,0⟩
def ofP (l:List Q) (most:Bool) (t:Int×Int):List (List UInt8)→Int×Int
 | []=>t
 | [_]=>t
 | n::m::r=>(shareM (ofP l most t (m::r)).1 (ofP l most t (m::r)).2 (fieldOf most (byName l n)),shareC (ofP l most t (m::r)).1 (ofP l most t (m::r)).2 (fieldOf most (byName l n)))
def ofR (l:List Q) (nm:List UInt8) (a b:Int) (most:Bool):Int×Int:=if path l nm=[]∨resOk a b=false then (0,0) else ofP l most (a,b) (path l nm)
theorem ofP_last (l:List Q) (most:Bool) (t:Int×Int) {p:List (List UInt8)} (h:p≠[]):ofP l most t (p.drop (p.length - 1))=t:=by
 have hl:0<p.length:=List.length_pos_iff.2 h
 rw [List.drop_eq_getElem_cons (by omega),show p.length - 1+1=p.length by omega,List.drop_length]
 rfl
theorem ofP_step (l:List Q) (most:Bool) (t:Int×Int) {p:List (List UInt8)} {j:Nat} (h:j+1<p.length) :
  ofP l most t (p.drop j)=(shareM (ofP l most t (p.drop (j+1))).1 (ofP l most t (p.drop (j+1))).2 (fieldOf most (byName l p[j])),shareC (ofP l most t (p.drop (j+1))).1 (ofP l most t (p.drop (j+1))).2 (fieldOf most (byName l p[j]))):=by
 rw [List.drop_eq_getElem_cons (show j<p.length by omega),List.drop_eq_getElem_cons h,ofP]
theorem pathAt_names {l:List Q} (h:queuesOk l=true):∀(n:Nat) (p:Int),∀x ∈ pathAt l n p,∃k:Nat,∃hk:k<l.length,place l x=k∧l[k].name=x
 | 0,_,x,hx=>by simp [pathAt] at hx
 | n+1,p,x,hx=>by
  rw [pathAt] at hx
  split at hx
  ·rename_i hp
   rcases List.mem_cons.1 hx with rfl | hx
   ·refine ⟨p.toNat,hp.2,?_,rfl⟩
    have:=ok_at h p.toNat hp.2
    simp only [qOk,yK,yL] at this
    exact this.1.1.1.2
   ·exact pathAt_names h n _ x hx
  ·simp at hx
theorem path_names {l:List Q} {nm:List UInt8}:∀x ∈ path l nm,∃k:Nat,∃hk:k<l.length,place l x=k∧byName l x=l[k]:=fun x hx=>by
 unfold path at hx
 split at hx
 ·rename_i h
  obtain ⟨k,hk,h1,h2⟩:=pathAt_names h _ _ x hx
  exact ⟨k,hk,h1,by rw [byName,h1];simp [List.getD_eq_getElem?_getD,List.getElem?_eq_getElem hk]⟩
 ·simp at hx
theorem pathAt_len {l:List Q}:∀(n:Nat) (p:Int),(pathAt l n p).length≤n
 | 0,_=>by simp [pathAt]
 | n+1,p=>by
  rw [pathAt]
  split
  ·have:=pathAt_len (l:=l) n (place l l[p.toNat].parent);simp;exact this
  ·simp
theorem path_len (l:List Q) (nm:List UInt8):(path l nm).length≤l.length+1:=by
 unfold path;split
 ·exact pathAt_len _ _
 ·simp
end
section
def within (a b c d:Int):Bool:=resOk a b&&resOk c d&&decide (a≤c)&&decide (b≤d)
end
section
open Go.RowKit
theorem specWithin_any (a b c d:Int) (w:World) :
  Calls Tryz.prog 22 #[rv a b,rv c d] w fun e w'=>e=.returned (.bool (within a b c d))∧Below w.heap.size w w':=by
 cases h1:resOk a b
 ·rw [show within a b c d=false by simp [within,h1]]
  go_enter Tryz.func22,Tryz.ntmps22
  go_wp2_with (go_at_call 65;refine (specResOk_any _ _ _).mono ?_;rintro e w' ⟨rfl,rfl⟩)
  go_ret
  refine ⟨rfl,?_⟩
  repeat (first | exact yH _ _ | refine yA ?_ _ | refine Below.drew ?_ | refine yC ?_ _ _ _ (by omega))
 ·cases h2:resOk c d
  ·rw [show within a b c d=false by simp [within,h2]]
   go_enter Tryz.func22,Tryz.ntmps22
   go_wp2_with (go_at_call 65;refine (specResOk_any _ _ _).mono ?_;rintro e w' ⟨rfl,rfl⟩)
   go_ret
   refine ⟨rfl,?_⟩
   repeat (first | exact yH _ _ | refine yA ?_ _ | refine Below.drew ?_ | refine yC ?_ _ _ _ (by omega))
  ·by_cases h3:a≤c
   ·by_cases h4:b≤d
    ·rw [show within a b c d=true by simp [within,h1,h2,h3,h4]]
     go_enter Tryz.func22,Tryz.ntmps22
     go_wp2_with (go_at_call 65;refine (specResOk_any _ _ _).mono ?_;rintro e w' ⟨rfl,rfl⟩)
     go_ret
     refine ⟨rfl,?_⟩
     repeat (first | exact yH _ _ | refine yA ?_ _ | refine Below.drew ?_ | refine yC ?_ _ _ _ (by omega))
    ·rw [show within a b c d=false by simp [within,h4]]
     go_enter Tryz.func22,Tryz.ntmps22
     go_wp2_with (go_at_call 65;refine (specResOk_any _ _ _).mono ?_;rintro e w' ⟨rfl,rfl⟩)
     go_ret
     refine ⟨yF (decide_eq_false (by omega)),?_⟩
     repeat (first | exact yH _ _ | refine yA ?_ _ | refine Below.drew ?_ | refine yC ?_ _ _ _ (by omega))
   ·rw [show within a b c d=false by simp [within,h3]]
    go_enter Tryz.func22,Tryz.ntmps22
    go_wp2_with (go_at_call 65;refine (specResOk_any _ _ _).mono ?_;rintro e w' ⟨rfl,rfl⟩)
    go_ret
    refine ⟨rfl,?_⟩
    repeat (first | exact yH _ _ | refine yA ?_ _ | refine Below.drew ?_ | refine yC ?_ _ _ _ (by omega))
end
end Go.Proofs.YtokabeokclpljaaGreat
namespace Go.Proofs.YtokabeokclpljaaGreat.HeapM
set_option linter.unusedVariables false
variable {α:Type} (le:α→α→Prop) (d:α)
def at' (l:List α) (k:Nat):α:=l.getD k d
def swapL (l:List α) (i j:Nat):List α:=(l.set i (l.getD j d)).set j (l.getD i d)
theorem swap_len (l:List α) (i j:Nat):(swapL d l i j).length=l.length:=by simp [swapL]
theorem swap_at (l:List α) (i j k:Nat) (hi:i<l.length) (hj:j<l.length):at' d (swapL d l i j) k=if k=j then at' d l i else if k=i then at' d l j else at' d l k:=by
 unfold at' swapL
 simp only [List.getD_eq_getElem?_getD,List.getElem?_set,List.length_set]
 by_cases h1:k=j
 ·subst h1;simp [hj]
 ·by_cases h2:k=i
  ·subst h2;simp [h1,hi,Ne.symm h1]
  ·simp [h1,h2,Ne.symm h1,Ne.symm h2]
theorem swap_perm (l:List α) (i j:Nat) (hi:i<l.length) (hj:j<l.length):(swapL d l i j).Perm l:=by
 have h:=Array.swap_perm (xs:=l.toArray) (i:=i) (j:=j) (by simpa using hi) (by simpa using hj)
 have e:(l.toArray.swap i j (by simpa using hi) (by simpa using hj)).toList=swapL d l i j:=by
  apply List.ext_getElem?
  intro k
  unfold swapL
  simp [Array.swap,List.getElem?_set,List.getD_eq_getElem?_getD,hi,hj]
 have h2:=h.toList
 rw [e] at h2
 simpa using h2
def par (k:Nat):Nat:=(k - 1) / 2
theorem par_lt {k:Nat} (h:0<k):par k<k:=by unfold par;omega
def Heap (n:Nat) (l:List α):Prop:=∀k,0<k→k<n→le (at' d l (par k)) (at' d l k)
def UpBut (n:Nat) (l:List α) (j:Nat):Prop:=
 (∀k,0<k→k<n→k≠j→le (at' d l (par k)) (at' d l k))∧(∀k,0<k→k<n→par k=j→0<j→le (at' d l (par j)) (at' d l k))
def DownBut (n:Nat) (l:List α) (i:Nat):Prop:=
 (∀k,0<k→k<n→par k≠i→le (at' d l (par k)) (at' d l k))∧(∀k,0<k→k<n→par k=i→0<i→le (at' d l (par i)) (at' d l k))
structure Order:Prop where
 trans:∀x y z,le x y→le y z→le x z
 total:∀x y,le x y∨le y x
variable {le d}
theorem Order.refl (O:Order le) (x:α):le x x:=(O.total x x).elim id id
theorem up_done {n:Nat} {l:List α} {j:Nat} (h:UpBut le d n l j) (hj:j=0∨le (at' d l (par j)) (at' d l j)):Heap le d n l:=fun k h0 h1=>by
 by_cases e:k=j
 ·subst e
  rcases hj with h | h
  ·omega
  ·exact h
 ·exact h.1 k h0 h1 e
theorem up_step (O:Order le) {n:Nat} {l:List α} {j:Nat} (hn:n≤l.length) (h:UpBut le d n l j) (h0:0<j) (h1:j<n) (hb:le (at' d l j) (at' d l (par j))):UpBut le d n (swapL d l (par j) j) (par j):=by
 have hp:=par_lt h0
 have hsw:=fun k=>swap_at d l (par j) j k (by omega) (by omega)
 refine ⟨fun k k0 k1 kn=>?_,fun k k0 k1 kp p0=>?_⟩
 ·rw [hsw,hsw]
  by_cases e:k=j
  ·subst e
   rw [if_pos rfl,if_neg (by omega),if_pos rfl]
   exact hb
  ·rw [if_neg e,if_neg kn]
   have hkp:=par_lt k0
   by_cases e1:par k=j
   ·rw [if_pos e1]
    exact h.2 k k0 k1 e1 h0
   ·rw [if_neg e1]
    by_cases e2:par k=par j
    ·rw [if_pos e2]
     have:=h.1 k k0 k1 e
     rw [e2] at this
     exact O.trans _ _ _ hb this
    ·rw [if_neg e2]
     exact h.1 k k0 k1 e
 ·rw [hsw,hsw]
  have hpp:=par_lt p0
  rw [if_neg (by omega),if_neg (by omega)]
  have hg:=h.1 (par j) p0 (by omega) (by omega)
  by_cases e:k=j
  ·subst e
   rw [if_pos rfl]
   exact hg
  ·rw [if_neg e]
   have hkp:=par_lt k0
   rw [if_neg (by omega)]
   have:=h.1 k k0 k1 e
   rw [kp] at this
   exact O.trans _ _ _ hg this
theorem up_begin {n:Nat} {l:List α} (h:Heap le d n l):UpBut le d (n+1) l n:=by
 refine ⟨fun k h0 h1 hn=>h k h0 (by omega),fun k h0 h1 hk _=>?_⟩
 have:=par_lt h0
 omega
theorem heap_congr {n:Nat} {l l':List α} (h:Heap le d n l) (e:∀k,k<n→at' d l' k=at' d l k):Heap le d n l':=fun k h0 h1=>by
 rw [e _ (by have:=par_lt h0;omega),e _ h1]
 exact h k h0 h1
theorem down_done {n:Nat} {l:List α} {i:Nat} (h:DownBut le d n l i) (hk:∀k,0<k→k<n→par k=i→le (at' d l i) (at' d l k)):Heap le d n l:=fun k h0 h1=>by
 by_cases e:par k=i
 ·rw [e];exact hk k h0 h1 e
 ·exact h.1 k h0 h1 e
theorem down_step (O:Order le) {n:Nat} {l:List α} {i j:Nat} (hn:n≤l.length) (h:DownBut le d n l i) (h0:0<j) (h1:j<n) (hj:par j=i) (hb:le (at' d l j) (at' d l i)) (hmin:∀k,0<k→k<n→par k=i→le (at' d l j) (at' d l k)):DownBut le d n (swapL d l i j) j:=by
 have hp:=par_lt h0
 have hsw:=fun k=>swap_at d l i j k (by omega) (by omega)
 refine ⟨fun k k0 k1 kn=>?_,fun k k0 k1 kp p0=>?_⟩
 ·have hkp:=par_lt k0
  rw [hsw,hsw,if_neg kn]
  by_cases e:k=j
  ·subst e
   rw [if_pos rfl,if_pos hj]
   exact hb
  ·rw [if_neg e]
   by_cases e1:par k=i
   ·rw [if_pos e1]
    rw [if_neg (by omega)]
    exact hmin k k0 k1 e1
   ·rw [if_neg e1]
    by_cases e2:k=i
    ·rw [if_pos e2]
     subst e2
     exact h.2 j h0 h1 hj k0
    ·rw [if_neg e2]
     exact h.1 k k0 k1 e1
 ·have hkp:=par_lt k0
  rw [hsw,hsw,hj,if_neg (by omega),if_pos rfl,if_neg (by omega),if_neg (by omega)]
  have:=h.1 k k0 k1 (by omega)
  rw [kp] at this
  exact this
theorem down_begin {n:Nat} {l l':List α} (h:Heap le d n l) (m:Nat) (hm:m≤n) (e:∀k,0<k→k<m→at' d l' k=at' d l k):DownBut le d m l' 0:=by
 refine ⟨fun k h0 h1 hn=>?_,fun k h0 h1 hk hz=>by omega⟩
 have:=par_lt h0
 rw [e _ (by omega) (by omega),e k h0 h1]
 exact h k h0 (by omega)
theorem heap_min (O:Order le) {n:Nat} {l:List α} (h:Heap le d n l):∀k,k<n→le (at' d l 0) (at' d l k):=by
 intro k
 induction k using Nat.strongRecOn with
 | _ k ih=>
  intro hk
  by_cases e:k=0
  ·subst e;exact O.refl _
  ·have hp:=par_lt (k:=k) (by omega)
   exact O.trans _ _ _ (ih _ hp (by omega)) (h k (by omega) hk)
theorem par_kids {i k:Nat} (h:0<k):par k=i↔k=2*i+1∨k=2*i+2:=by unfold par;omega
def Sorted (le:α→α→Prop):List α→Prop
 | []=>True
 | x::t=>(∀y ∈ t,le x y)∧Sorted le t
theorem sorted_unique (anti:∀x y,le x y→le y x→x=y):∀(a b:List α),Sorted le a→Sorted le b→a.Perm b→a=b
 | [],b,_,_,h=>h.nil_eq
 | x::t,[],_,_,h=>by simpa using h.length_eq
 | x::t,y::u,ha,hb,h=>by
  have hx:x ∈ y::u:=h.subset (by simp)
  have hy:y ∈ x::t:=h.symm.subset (by simp)
  have e:x=y:=by
   rcases List.mem_cons.1 hx with h1 | h1
   ·exact h1
   ·rcases List.mem_cons.1 hy with h2 | h2
    ·exact h2.symm
    ·exact anti _ _ (ha.1 y h2) (hb.1 x h1)
  subst e
  have:=sorted_unique anti t u ha.2 hb.2 ((List.perm_cons x).1 h)
  rw [this]
theorem sorted_snoc:∀(a:List α) (x:α),Sorted le a→(∀y ∈ a,le y x)→Sorted le (a++[x])
 | [],x,_,_=>⟨by simp,trivial⟩
 | y::t,x,h,hx=>by
  refine ⟨fun z hz=>?_,sorted_snoc t x h.2 (fun z hz=>hx z (by simp [hz]))⟩
  rcases List.mem_append.1 hz with h1 | h1
  ·exact h.1 z h1
  ·simp at h1;subst h1;exact hx y (by simp)
theorem pop_parts (O:Order le) {l l':List α} (hl:0<l.length) (hh:Heap le d l.length l) (hp:l'.Perm (swapL d l 0 (l.length - 1))) (hlast:at' d l' (l.length - 1)=at' d l 0) (hq:Heap le d (l.length - 1) l') :
  Heap le d (l.length - 1) (l'.take (l.length - 1))∧(l'.take (l.length - 1)++[at' d l 0]).Perm l∧∀x ∈ l'.take (l.length - 1),le (at' d l 0) x:=by
 have hpl:l'.Perm l:=hp.trans (swap_perm d l 0 (l.length - 1) (by omega) (by omega))
 have hlen:l'.length=l.length:=hpl.length_eq
 have hsplit:l'=l'.take (l.length - 1)++[at' d l 0]:=by
  conv=>lhs;rw [←List.take_append_drop (l.length - 1) l']
  congr 1
  have h1:l'.drop (l.length - 1)=[l'[l.length - 1]'(by omega)]:=by
   rw [List.drop_eq_getElem_cons (by omega),List.drop_of_length_le (by omega)]
  rw [h1,←hlast]
  unfold at'
  rw [List.getD_eq_getElem?_getD,List.getElem?_eq_getElem (by omega)]
  rfl
 refine ⟨heap_congr hq (fun k hk=>?_),by rw [←hsplit];exact hpl,fun x hx=>?_⟩
 ·unfold at'
  rw [List.getD_eq_getElem?_getD,List.getD_eq_getElem?_getD,List.getElem?_take_of_lt hk]
 ·have hm:x ∈ l:=hpl.subset (List.mem_of_mem_take hx)
  obtain ⟨k,hk,e⟩:=List.mem_iff_getElem.1 hm
  have:=heap_min O hh k hk
  unfold at' at this
  rw [List.getD_eq_getElem?_getD (i:=k),List.getElem?_eq_getElem hk] at this
  rw [←e]
  exact this
end Go.Proofs.YtokabeokclpljaaGreat.HeapM
namespace Go.Proofs.YtokabeokclpljaaGreat.OrdM
set_option linter.unusedVariables false
variable {β:Type} (lt:β→β→Bool) (nl:List UInt8→List UInt8→Bool)
def ahead (x y:List UInt8×β):Bool:=lt x.2 y.2||(!lt y.2 x.2&&nl x.1 y.1)
structure Weak:Prop where
 irr:∀a,lt a a=false
 asym:∀a b,lt a b=true→lt b a=false
 ntrans:∀a b c,lt b a=false→lt c b=false→lt c a=false
structure Names:Prop where
 irr:∀a,nl a a=false
 trans:∀a b c,nl a b=true→nl b c=true→nl a c=true
 tri:∀a b,nl a b=false→a≠b→nl b a=true
variable {lt nl}
theorem Names.asym (N:Names nl) {a b:List UInt8} (h:nl a b=true):nl b a=false:=by
 cases hb:nl b a with
 | false=>rfl
 | true=>have:=N.trans _ _ _ h hb;rw [N.irr] at this;exact absurd this (by simp)
theorem Names.ntrans (N:Names nl) {a b c:List UInt8} (h:nl b a=false) (k:nl c b=false):nl c a=false:=by
 cases hc:nl c a with
 | false=>rfl
 | true=>
  by_cases e:b=a
  ·subst e;rw [hc] at k;exact absurd k (by simp)
  ·have h1:=N.tri _ _ h e
   have h2:=N.trans _ _ _ hc h1
   rw [h2] at k;exact absurd k (by simp)
theorem ahead_asym (W:Weak lt) (N:Names nl) {x y:List UInt8×β} (h:ahead lt nl x y=true):ahead lt nl y x=false:=by
 unfold ahead at *
 simp only [Bool.or_eq_true,yK,Bool.not_eq_true',Bool.or_eq_false_iff,Bool.and_eq_false_iff,Bool.not_eq_false'] at *
 rcases h with h | ⟨h1,h2⟩
 ·exact ⟨W.asym _ _ h,.inl h⟩
 ·exact ⟨h1,.inr (N.asym h2)⟩
theorem ahead_ntrans (W:Weak lt) (N:Names nl) {x y z:List UInt8×β} (h:ahead lt nl y x=false) (k:ahead lt nl z y=false):ahead lt nl z x=false:=by
 unfold ahead at *
 simp only [Bool.or_eq_false_iff,Bool.and_eq_false_iff,Bool.not_eq_false'] at *
 obtain ⟨h1,h2⟩:=h
 obtain ⟨k1,k2⟩:=k
 refine ⟨W.ntrans _ _ _ h1 k1,?_⟩
 cases hx:lt x.2 z.2 with
 | true=>exact .inl rfl
 | false=>
  right
  have hxy:lt x.2 y.2=false:=by
   cases e:lt x.2 y.2 with
   | false=>rfl
   | true=>have:=W.ntrans _ _ _ k1 hx;rw [this] at e;exact absurd e (by simp)
  have hyz:lt y.2 z.2=false:=by
   cases e:lt y.2 z.2 with
   | false=>rfl
   | true=>have:=W.ntrans _ _ _ hx h1;rw [this] at e;exact absurd e (by simp)
  rw [hxy] at h2
  rw [hyz] at k2
  exact N.ntrans (h2.resolve_left (by simp)) (k2.resolve_left (by simp))
theorem ahead_anti (W:Weak lt) (N:Names nl) {x y:List UInt8×β} (h:ahead lt nl y x=false) (k:ahead lt nl x y=false):x.1=y.1:=by
 unfold ahead at *
 simp only [Bool.or_eq_false_iff,Bool.and_eq_false_iff,Bool.not_eq_false'] at *
 obtain ⟨h1,h2⟩:=h
 obtain ⟨k1,k2⟩:=k
 have a1:=h2.resolve_left (by rw [k1];simp)
 have a2:=k2.resolve_left (by rw [h1];simp)
 apply Classical.byContradiction
 intro e
 have:=N.tri _ _ a2 e
 rw [a1] at this
 exact absurd this (by simp)
def ins {α:Type} (p:α→α→Bool) (x:α):List α→List α
 | []=>[x]
 | y::t=>if p y x=true then y::ins p x t else x::y::t
theorem ins_perm {α:Type} (p:α→α→Bool) (x:α):∀l:List α,(ins p x l).Perm (x::l)
 | []=>List.Perm.refl _
 | y::t=>by
  unfold ins
  split
  ·exact ((ins_perm p x t).cons y).trans (List.Perm.swap x y t)
  ·exact List.Perm.refl _
theorem ins_sorted {α:Type} {p:α→α→Bool} (asym:∀a b,p a b=true→p b a=false) (nt:∀a b c,p b a=false→p c b=false→p c a=false) (x:α):∀l:List α,HeapM.Sorted (fun a b=>p b a=false) l→HeapM.Sorted (fun a b=>p b a=false) (ins p x l)
 | [],_=>⟨by simp,trivial⟩
 | y::t,h=>by
  unfold ins
  split
  ·rename_i hp
   refine ⟨fun z hz=>?_,ins_sorted asym nt x t h.2⟩
   rcases List.mem_cons.1 ((ins_perm p x t).subset hz) with e | e
   ·subst e;exact asym _ _ hp
   ·exact h.1 z e
  ·rename_i hp
   have hp':p y x=false:=by simpa using hp
   refine ⟨fun z hz=>?_,h⟩
   rcases List.mem_cons.1 hz with e | e
   ·subst e;exact hp'
   ·exact nt _ _ _ hp' (h.1 z e)
end Go.Proofs.YtokabeokclpljaaGreat.OrdM
namespace Go.Proofs.YtokabeokclpljaaGreat
section
open Go.RowKit
theorem bl_irr:∀a:List UInt8,Op.bytesLess a a=false
 | []=>rfl
 | c::t=>by simp [Op.bytesLess,bl_irr t]
theorem bl_trans:∀a b c:List UInt8,Op.bytesLess a b=true→Op.bytesLess b c=true→Op.bytesLess a c=true
 | _,[],_,h,_=>by simp [Op.bytesLess] at h
 | _,_::_,[],_,h=>by simp [Op.bytesLess] at h
 | [],_::_,_::_,_,_=>by simp [Op.bytesLess]
 | x::a,y::b,z::c,h,k=>by
  simp only [Op.bytesLess,Bool.or_eq_true,yK,yL,beq_iff_eq] at h k ⊢
  rcases h with h | ⟨rfl,h⟩
  ·rcases k with k | ⟨rfl,k⟩
   ·exact .inl (UInt8.lt_trans h k)
   ·exact .inl h
  ·rcases k with k | ⟨rfl,k⟩
   ·exact .inl k
   ·exact .inr ⟨rfl,bl_trans a b c h k⟩
theorem bl_tri:∀a b:List UInt8,Op.bytesLess a b=false→a≠b→Op.bytesLess b a=true
 | [],[],_,h=>absurd rfl h
 | [],_::_,h,_=>by simp [Op.bytesLess] at h
 | _::_,[],_,_=>by simp [Op.bytesLess]
 | x::a,y::b,h,k=>by
  simp only [Op.bytesLess,Bool.or_eq_false_iff,Bool.and_eq_false_iff,decide_eq_false_iff_not,beq_eq_false_iff_ne] at h
  simp only [Op.bytesLess,Bool.or_eq_true,yK,yL,beq_iff_eq]
  by_cases hxy:x=y
  ·subst hxy
   right
   refine ⟨rfl,bl_tri a b ?_ (fun e=>k (by rw [e]))⟩
   rcases h.2 with h2 | h2
   ·exact absurd rfl h2
   ·exact h2
  ·left
   have h1:=h.1
   have:x.toNat≠y.toNat:=fun e=>hxy (UInt8.toNat_inj.1 e)
   rw [UInt8.lt_iff_toNat_lt] at h1 ⊢
   omega
theorem sorted_of_pairwise {α:Type} {le:α→α→Prop}:∀l:List α,l.Pairwise le→HeapM.Sorted le l
 | [],_=>trivial
 | x::t,h=>⟨(List.pairwise_cons.1 h).1,sorted_of_pairwise t (List.pairwise_cons.1 h).2⟩
theorem bl_le (x y:List UInt8):Op.bytesLess y x=false↔x≤y:=by
 rw [bytesLess_eq]
 simp
theorem bl_asym (a b:List UInt8) (h:Op.bytesLess a b=true):Op.bytesLess b a=false:=by
 cases hb:Op.bytesLess b a with
 | false=>rfl
 | true=>have:=bl_trans _ _ _ h hb;rw [bl_irr] at this;exact absurd this (by simp)
theorem bl_ntrans (a b c:List UInt8) (h:Op.bytesLess b a=false) (k:Op.bytesLess c b=false):Op.bytesLess c a=false:=by
 rw [bl_le] at *
 exact List.le_trans h k
def insAll (l:List (List UInt8)) (o:List (List UInt8)):List (List UInt8):=l.foldl (fun o x=>OrdM.ins Op.bytesLess x o) o
theorem insAll_perm:∀(l o:List (List UInt8)),(insAll l o).Perm (l++o)
 | [],o=>List.Perm.refl _
 | x::t,o=>by
  refine (insAll_perm t (OrdM.ins Op.bytesLess x o)).trans ?_
  refine (List.Perm.append_left t (OrdM.ins_perm _ x o)).trans ?_
  exact List.perm_middle
theorem insAll_sorted:∀(l o:List (List UInt8)),HeapM.Sorted (fun a b=>Op.bytesLess b a=false) o→HeapM.Sorted (fun a b=>Op.bytesLess b a=false) (insAll l o)
 | [],o,h=>h
 | x::t,o,h=>insAll_sorted t _ (OrdM.ins_sorted bl_asym bl_ntrans x o h)
theorem insAll_eq (l:List (List UInt8)):insAll l []=l.mergeSort fun x y=>decide (x≤y):=by
 refine HeapM.sorted_unique (le:=fun a b=>Op.bytesLess b a=false) ?_ _ _ (insAll_sorted l [] trivial) ?_ ?_
 ·intro x y h k
  apply Classical.byContradiction
  intro e
  have:=bl_tri _ _ h (fun h=>e h.symm)
  rw [k] at this
  exact absurd this (by simp)
 ·refine sorted_of_pairwise _ ?_
  refine (List.pairwise_mergeSort (le:=fun x y=>decide (x≤y)) ?_ ?_ l).imp ?_
  ·intro a b c h k
   simp only [yL] at *
   exact List.le_trans h k
  ·intro a b
   simp only [Bool.or_eq_true,yL]
   exact List.le_total a b
  ·intro a b h
   rw [bl_le]
   simpa using h
 ·have:=insAll_perm l []
  rw [List.append_nil] at this
  exact this.trans (List.mergeSort_perm _ _).symm
theorem insAll_snoc (l:List (List UInt8)) (x:List UInt8):insAll (l++[x]) []=OrdM.ins Op.bytesLess x (insAll l []):=by
 rw [insAll,List.foldl_append];rfl
def place1 (p:List UInt8→List UInt8→Bool) (x:List UInt8):List (List UInt8)→Nat
 | []=>0
 | y::t=>if p y x=true then place1 p x t+1 else 0
theorem ins_place (p:List UInt8→List UInt8→Bool) (x:List UInt8):∀l,OrdM.ins p x l=l.take (place1 p x l)++x::l.drop (place1 p x l)
 | []=>rfl
 | y::t=>by
  unfold OrdM.ins place1
  by_cases h:p y x=true
  ·rw [if_pos h,if_pos h,List.take_succ_cons,List.drop_succ_cons,ins_place p x t];rfl
  ·rw [if_neg h,if_neg h];rfl
theorem place1_step (p:List UInt8→List UInt8→Bool) (x:List UInt8) {l:List (List UInt8)} {k:Nat} (h:k<l.length):k+place1 p x (l.drop k)=if p l[k] x=true then (k+1)+place1 p x (l.drop (k+1)) else k:=by
 rw [List.drop_eq_getElem_cons h,place1]
 split<;>omega
theorem place1_end (p:List UInt8→List UInt8→Bool) (x:List UInt8) {l:List (List UInt8)} {k:Nat} (h:l.length≤k):k+place1 p x (l.drop k)=k:=by
 rw [List.drop_of_length_le h];rfl
def part (u d:Int):Int×Int:=if 0<d then (u,d) else if 0<u then (1,0) else (0,1)
def less (a b c d:Int):Bool:=if b=0 then false else if d=0 then true else decide (a*d<c*b)
def ratio (a b c d:Int):Int×Int:=if resOk a b&&resOk c d then (if less (part a c).1 (part a c).2 (part b d).1 (part b d).2 then part b d else part a c) else (0,1)
def Small (x:Int):Prop:=0≤x∧x≤1000000000
theorem small_mul {a b:Int} (ha:Small a) (hb:Small b):0≤a*b∧a*b≤1000000000000000000:=
 ⟨Int.mul_nonneg ha.1 hb.1,Int.le_trans (Int.mul_le_mul ha.2 hb.2 hb.1 (by decide)) (by decide)⟩
theorem part_small {u d:Int} (hu:Small u) (hd:Small d):Small (part u d).1∧Small (part u d).2:=by
 unfold part Small at *
 split
 ·exact ⟨hu,hd⟩
 ·split<;>simp
theorem resOk_small {a b:Int} (h:resOk a b=true):Small a∧Small b:=by
 have:=resOk_bd h
 exact ⟨⟨this.1,this.2.1⟩,this.2.2⟩
theorem ratio_small (a b c d:Int):Small (ratio a b c d).1∧Small (ratio a b c d).2:=by
 unfold ratio
 split
 ·rename_i h
  simp only [yK] at h
  obtain ⟨s1,s2⟩:=resOk_small h.1
  obtain ⟨s3,s4⟩:=resOk_small h.2
  split
  ·exact part_small s2 s4
  ·exact part_small s1 s3
 ·exact ⟨by unfold Small;simp,by unfold Small;simp⟩
theorem specPart_any (u d:Int) (w:World) :
  Calls Tryz.prog 207 #[.int .i64 u,.int .i64 d] w fun e w'=>e=.returned (.tuple #[.int .i64 (part u d).1,.int .i64 (part u d).2])∧w'=w:=by
 by_cases h1:0<d
 ·rw [show part u d=(u,d) from if_pos h1]
  go_enter Tryz.func207,Tryz.ntmps207
  go_wp2
  go_ret2
  exact ⟨rfl,rfl⟩
 ·by_cases h2:0<u
  ·rw [show part u d=(1,0) by simp [part,h1,h2]]
   go_enter Tryz.func207,Tryz.ntmps207
   go_wp2
   go_ret2
   exact ⟨rfl,rfl⟩
  ·rw [show part u d=(0,1) by simp [part,h1,h2]]
   go_enter Tryz.func207,Tryz.ntmps207
   go_wp2
   go_ret2
   exact ⟨rfl,rfl⟩
theorem specLess_any (a b c d:Int) (w:World) (ha:Small a) (hb:Small b) (hc:Small c) (hd:Small d) :
  Calls Tryz.prog 189 #[.int .i64 a,.int .i64 b,.int .i64 c,.int .i64 d] w fun e w'=>e=.returned (.bool (less a b c d))∧w'=w:=by
 obtain ⟨m1,m2⟩:=small_mul ha hd
 obtain ⟨m3,m4⟩:=small_mul hc hb
 by_cases h1:b=0
 ·rw [show less a b c d=false from if_pos h1]
  go_enter Tryz.func189,Tryz.ntmps189
  go_wp2
  go_ret
  exact ⟨rfl,rfl⟩
 ·by_cases h2:d=0
  ·rw [show less a b c d=true by simp [less,h1,h2]]
   go_enter Tryz.func189,Tryz.ntmps189
   go_wp2
   go_ret
   exact ⟨rfl,rfl⟩
  ·rw [show less a b c d=decide (a*d<c*b) by simp [less,h1,h2]]
   go_enter Tryz.func189,Tryz.ntmps189
   go_wp2
   go_ret
   exact ⟨rfl,rfl⟩
theorem specRatio_any (a b c d:Int) (w:World) :
  Calls Tryz.prog 188 #[rv a b,rv c d] w fun e w'=>e=.returned (.tuple #[.int .i64 (ratio a b c d).1,.int .i64 (ratio a b c d).2])∧Below w.heap.size w w':=by
 cases h1:resOk a b
 ·rw [show ratio a b c d=(0,1) by simp [ratio,h1]]
  go_enter Tryz.func188,Tryz.ntmps188
  go_wp2_with (go_at_call 65;refine (specResOk_any _ _ _).mono ?_;rintro e w' ⟨rfl,rfl⟩)
  go_ret2
  refine ⟨rfl,?_⟩
  repeat (first | exact yH _ _ | refine yA ?_ _ | refine Below.drew ?_ | refine yC ?_ _ _ _ (by omega))
 ·cases h2:resOk c d
  ·rw [show ratio a b c d=(0,1) by simp [ratio,h2]]
   go_enter Tryz.func188,Tryz.ntmps188
   go_wp2_with (go_at_call 65;refine (specResOk_any _ _ _).mono ?_;rintro e w' ⟨rfl,rfl⟩)
   go_ret2
   refine ⟨rfl,?_⟩
   repeat (first | exact yH _ _ | refine yA ?_ _ | refine Below.drew ?_ | refine yC ?_ _ _ _ (by omega))
  ·obtain ⟨s1,s2⟩:=resOk_small h1
   obtain ⟨s3,s4⟩:=resOk_small h2
   obtain ⟨p1,p2⟩:=part_small s1 s3
   obtain ⟨p3,p4⟩:=part_small s2 s4
   cases h3:less (part a c).1 (part a c).2 (part b d).1 (part b d).2
   ·rw [show ratio a b c d=part a c by simp [ratio,h1,h2,h3]]
    go_enter Tryz.func188,Tryz.ntmps188
    go_wp2_with (first | (go_at_call 65;refine (specResOk_any _ _ _).mono ?_;rintro e w' ⟨rfl,rfl⟩) | (go_at_call 207;refine (specPart_any _ _ _).mono ?_;rintro e w' ⟨rfl,rfl⟩) | (go_at_call 189;refine (specLess_any _ _ _ _ _ p1 p2 p3 p4).mono ?_;rintro e w' ⟨rfl,rfl⟩))
    go_ret2
    refine ⟨rfl,?_⟩
    repeat (first | exact yH _ _ | refine yA ?_ _ | refine Below.drew ?_ | refine yC ?_ _ _ _ (by omega))
   ·rw [show ratio a b c d=part b d by simp [ratio,h1,h2,h3]]
    go_enter Tryz.func188,Tryz.ntmps188
    go_wp2_with (first | (go_at_call 65;refine (specResOk_any _ _ _).mono ?_;rintro e w' ⟨rfl,rfl⟩) | (go_at_call 207;refine (specPart_any _ _ _).mono ?_;rintro e w' ⟨rfl,rfl⟩) | (go_at_call 189;refine (specLess_any _ _ _ _ _ p1 p2 p3 p4).mono ?_;rintro e w' ⟨rfl,rfl⟩))
    go_ret2
    refine ⟨rfl,?_⟩
    repeat (first | exact yH _ _ | refine yA ?_ _ | refine Below.drew ?_ | refine yC ?_ _ _ _ (by omega))
def lessR (a b c d e f g h:Int):Bool:=less (ratio a b c d).1 (ratio a b c d).2 (ratio e f g h).1 (ratio e f g h).2
theorem specLessRatio_any (a b c d e f g h:Int) (w:World) :
  Calls Tryz.prog 151 #[rv a b,rv c d,rv e f,rv g h] w fun o w'=>o=.returned (.bool (lessR a b c d e f g h))∧Below w.heap.size w w':=by
 obtain ⟨p1,p2⟩:=ratio_small a b c d
 obtain ⟨p3,p4⟩:=ratio_small e f g h
 have V3:=((var_new ((w.alloc (.cells #[.int .i64 a,.int .i64 b] 52)).alloc (.cells #[.int .i64 c,.int .i64 d] 52)) 52 e f).al (.cells #[.int .i64 g,.int .i64 h] 52))
 have V4:=var_new (((w.alloc (.cells #[.int .i64 a,.int .i64 b] 52)).alloc (.cells #[.int .i64 c,.int .i64 d] 52)).alloc (.cells #[.int .i64 e,.int .i64 f] 52)) 52 g h
 have HV3:=hide V3
 have HV4:=hide V4
 clear V3 V4
 go_enter Tryz.func151,Tryz.ntmps151
 go_wp2_with fail
 refine (specRatio_any _ _ _ _ _).mono ?_
 rintro o w1 ⟨rfl,hb⟩
 have V3:=(uH HV3).below hb
 have V4:=(uH HV4).below hb
 simp at V3 V4
 have a1:=V3.c0
 have a2:=V3.c1
 have a3:=V4.c0
 have a4:=V4.c1
 have HB:=hide (yB (yA (yA (yA (yA (yH _ _) _) _) _) _) hb)
 clear hb HV3 HV4 V3 V4
 go_wp2_with fail
 refine (specRatio_any _ _ _ _ _).mono ?_
 rintro o w2 ⟨rfl,hb⟩
 have HB2:=hide (yB (uH HB) hb)
 clear hb HB a1 a2 a3 a4
 go_wp2_with fail
 refine (specLess_any _ _ _ _ _ p1 p2 p3 p4).mono ?_
 rintro o w3 ⟨rfl,rfl⟩
 go_wp2
 go_ret
 exact ⟨rfl,uH HB2⟩
def Var4 (w:World) (t:TypeId) (g:Nat) (x y u v:Int):Prop:=w.heap[g]? = some (.cells #[.int .i64 x,.int .i64 y,.int .i64 u,.int .i64 v] t (0,0))
theorem Var4.c0 {w:World} {t:TypeId} {g:Nat} {x y u v:Int} (h:Var4 w t g x y u v):w.cell? ⟨g,0,none⟩=some (.int .i64 x):=by unfold Var4 at h;simp [World.cell?,h]
theorem Var4.c1 {w:World} {t:TypeId} {g:Nat} {x y u v:Int} (h:Var4 w t g x y u v):w.cell? ⟨g,1,none⟩=some (.int .i64 y):=by unfold Var4 at h;simp [World.cell?,h]
theorem Var4.c2 {w:World} {t:TypeId} {g:Nat} {x y u v:Int} (h:Var4 w t g x y u v):w.cell? ⟨g,2,none⟩=some (.int .i64 u):=by unfold Var4 at h;simp [World.cell?,h]
theorem Var4.c3 {w:World} {t:TypeId} {g:Nat} {x y u v:Int} (h:Var4 w t g x y u v):w.cell? ⟨g,3,none⟩=some (.int .i64 v):=by unfold Var4 at h;simp [World.cell?,h]
theorem Var4.lt {w:World} {t:TypeId} {g:Nat} {x y u v:Int} (h:Var4 w t g x y u v):g<w.heap.size:=lt_of_block h
theorem Var4.same {w w':World} {t:TypeId} {g:Nat} {x y u v:Int} (h:Var4 w t g x y u v) (e:w'.heap[g]? = w.heap[g]?):Var4 w' t g x y u v:=e.trans h
theorem Var4.below {w w':World} {t:TypeId} {g:Nat} {x y u v:Int} (h:Var4 w t g x y u v) (hb:Below w.heap.size w w'):Var4 w' t g x y u v:=(hb.block g h.lt).trans h
theorem Var4.al {w:World} {t:TypeId} {g:Nat} {x y u v:Int} (h:Var4 w t g x y u v) (o:Obj):Var4 (w.alloc o) t g x y u v:=h.below (yA (yH _ _) o)
theorem var4_new (w:World) (t:TypeId) (x y u v:Int):Var4 (w.alloc (.cells #[.int .i64 x,.int .i64 y,.int .i64 u,.int .i64 v] t)) t w.heap.size x y u v:=by show (w.heap.push _)[w.heap.size]? = _;simp
theorem Var4.grown {w w':World} {t:TypeId} {g:Nat} {x y u v:Int} {row:Option Nat} (h:Var4 w t g x y u v) (hg:w.grownBy w' row) (hne:some g≠row):Var4 w' t g x y u v:=(hg.block g h.lt hne).trans h
theorem Var.grown' {w w':World} {t:TypeId} {g:Nat} {x y:Int} {row:Option Nat} (h:Var w t g x y) (hg:w.grownBy w' row) (hne:some g≠row):Var w' t g x y:=(hg.block g h.lt hne).trans h
end
end Go.Proofs.YtokabeokclpljaaGreat
namespace Go.Proofs.YtokabeokclpljaaGreat.HeapM
set_option linter.unusedVariables false
def upL {α:Type} (d:α) (ah:α→α→Bool):Nat→List α→Nat→List α
 | 0,l,_=>l
 | n+1,l,j=>if j=0 then l else if ah (at' d l j) (at' d l (par j))=true then upL d ah n (swapL d l (par j) j) (par j) else l
theorem upL_fuel {α:Type} (d:α) (ah:α→α→Bool):∀(n m:Nat) (l:List α) (j:Nat),j<n→j<m→upL d ah n l j=upL d ah m l j
 | n+1,m+1,l,j,h1,h2=>by
  rw [upL,upL]
  by_cases h0:j=0
  ·rw [if_pos h0,if_pos h0]
  ·rw [if_neg h0,if_neg h0]
   have hp:=par_lt (k:=j) (by omega)
   rw [upL_fuel d ah n m _ _ (by omega) (by omega)]
def kidL {α:Type} (d:α) (ah:α→α→Bool) (n:Nat) (l:List α) (i:Nat):Nat:=if 2*i+2<n∧ah (at' d l (2*i+2)) (at' d l (2*i+1))=true then 2*i+2 else 2*i+1
def downL {α:Type} (d:α) (ah:α→α→Bool) (n:Nat):Nat→List α→Nat→List α
 | 0,l,_=>l
 | f+1,l,i=>if n≤2*i+1 then l else if ah (at' d l (kidL d ah n l i)) (at' d l i)=true then downL d ah n f (swapL d l i (kidL d ah n l i)) (kidL d ah n l i) else l
theorem kid_lt {α:Type} {d:α} {ah:α→α→Bool} {n:Nat} {l:List α} {i:Nat} (h:¬n≤2*i+1):i<kidL d ah n l i∧kidL d ah n l i<n:=by unfold kidL;split<;>omega
theorem downL_fuel {α:Type} (d:α) (ah:α→α→Bool) (n:Nat):∀(f m:Nat) (l:List α) (i:Nat),n - i<f→n - i<m→downL d ah n f l i=downL d ah n m l i
 | f+1,m+1,l,i,h1,h2=>by
  rw [downL,downL]
  by_cases h0:n≤2*i+1
  ·rw [if_pos h0,if_pos h0]
  ·rw [if_neg h0,if_neg h0]
   have hk:=kid_lt (d:=d) (ah:=ah) (l:=l) h0
   rw [downL_fuel d ah n f m _ _ (by omega) (by omega)]
variable {α:Type} {le:α→α→Prop} {d:α} {ah:α→α→Bool}
theorem upL_heap (O:Order le) (h1:∀x y,ah x y=true→le x y) (h2:∀x y,ah x y=false→le y x) (n:Nat):∀(f:Nat) (l:List α) (j:Nat),j<f→j<n→n≤l.length→UpBut le d n l j→Heap le d n (upL d ah f l j)∧(upL d ah f l j).Perm l
 | f+1,l,j,hf,hj,hn,hu=>by
  rw [upL]
  by_cases h0:j=0
  ·rw [if_pos h0]
   exact ⟨up_done hu (Or.inl h0),List.Perm.refl _⟩
  ·rw [if_neg h0]
   have hp:=par_lt (k:=j) (by omega)
   by_cases hb:ah (at' d l j) (at' d l (par j))=true
   ·rw [if_pos hb]
    have:=upL_heap O h1 h2 n f (swapL d l (par j) j) (par j) (by omega) (by omega) (by rw [swap_len];exact hn) (up_step O hn hu (by omega) hj (h1 _ _ hb))
    exact ⟨this.1,this.2.trans (swap_perm d l (par j) j (by omega) (by omega))⟩
   ·rw [if_neg hb]
    exact ⟨up_done hu (Or.inr (h2 _ _ (by simpa using hb))),List.Perm.refl _⟩
theorem kid_par {n:Nat} {l:List α} {i:Nat}:par (kidL d ah n l i)=i:=by unfold kidL par;split<;>omega
theorem kid_min (O:Order le) (h1:∀x y,ah x y=true→le x y) (h2:∀x y,ah x y=false→le y x) {n:Nat} {l:List α} {i:Nat}:∀k,0<k→k<n→par k=i→le (at' d l (kidL d ah n l i)) (at' d l k):=fun k k0 k1 kp=>by
 unfold kidL
 rcases (par_kids k0).1 kp with e | e<;>subst e<;>split
 ·next h=>exact h1 _ _ h.2
 ·exact O.refl _
 ·exact O.refl _
 ·next h=>exact h2 _ _ (by simpa [k1] using h)
theorem downL_heap (O:Order le) (h1:∀x y,ah x y=true→le x y) (h2:∀x y,ah x y=false→le y x) (n:Nat):∀(f:Nat) (l:List α) (i:Nat),n - i<f→n≤l.length→DownBut le d n l i→Heap le d n (downL d ah n f l i)∧(downL d ah n f l i).Perm l∧∀k,n≤k→at' d (downL d ah n f l i) k=at' d l k
 | f+1,l,i,hf,hn,hu=>by
  rw [downL]
  by_cases h0:n≤2*i+1
  ·rw [if_pos h0]
   exact ⟨down_done hu (fun k k0 k1 kp=>by have:=(par_kids k0).1 kp;omega),List.Perm.refl _,fun _ _=>rfl⟩
  ·rw [if_neg h0]
   have hk:=kid_lt (d:=d) (ah:=ah) (l:=l) h0
   have hm:=kid_min (d:=d) (l:=l) (n:=n) (i:=i) O h1 h2
   have hp:=kid_par (d:=d) (ah:=ah) (l:=l) (n:=n) (i:=i)
   by_cases hb:ah (at' d l (kidL d ah n l i)) (at' d l i)=true
   ·rw [if_pos hb]
    have:=downL_heap O h1 h2 n f (swapL d l i (kidL d ah n l i)) (kidL d ah n l i) (by omega) (by rw [swap_len];exact hn) (down_step O hn hu (by omega) hk.2 hp (h1 _ _ hb) hm)
    refine ⟨this.1,this.2.1.trans (swap_perm d l _ _ (by omega) (by omega)),fun k h=>?_⟩
    rw [this.2.2 k h,swap_at d l _ _ _ (by omega) (by omega),if_neg (by omega),if_neg (by omega)]
   ·rw [if_neg hb]
    exact ⟨down_done hu (fun k k0 k1 kp=>O.trans _ _ _ (h2 _ _ (by simpa using hb)) (hm k k0 k1 kp)),List.Perm.refl _,fun _ _=>rfl⟩
theorem push_heap (O:Order le) (h1:∀x y,ah x y=true→le x y) (h2:∀x y,ah x y=false→le y x) (l:List α) (x:α) (h:Heap le d l.length l):Heap le d (l.length+1) (upL d ah (l.length+1) (l++[x]) l.length)∧(upL d ah (l.length+1) (l++[x]) l.length).Perm (l++[x]):=by
 refine upL_heap O h1 h2 _ _ _ _ (by omega) (by omega) (by simp) (up_begin (heap_congr h (fun k hk=>?_)))
 unfold at'
 simp [List.getD_eq_getElem?_getD,List.getElem?_append_left hk]
def popL (d:α) (ah:α→α→Bool) (l:List α):List α:=downL d ah (l.length - 1) (l.length - 1+1) (swapL d l 0 (l.length - 1)) 0
theorem pop_heap (O:Order le) (h1:∀x y,ah x y=true→le x y) (h2:∀x y,ah x y=false→le y x) (l:List α) (hl:0<l.length) (h:Heap le d l.length l) :
  at' d (popL d ah l) (l.length - 1)=at' d l 0∧Heap le d (l.length - 1) ((popL d ah l).take (l.length - 1))∧((popL d ah l).take (l.length - 1)++[at' d l 0]).Perm l∧∀x ∈ (popL d ah l).take (l.length - 1),le (at' d l 0) x:=by
 have hd:=downL_heap (d:=d) O h1 h2 (l.length - 1) (l.length - 1+1) (swapL d l 0 (l.length - 1)) 0 (by omega) (by rw [swap_len];omega) (down_begin h (l.length - 1) (by omega) (fun k k0 k1=>by rw [swap_at d l _ _ _ (by omega) (by omega),if_neg (by omega),if_neg (by omega)]))
 have hlast:at' d (popL d ah l) (l.length - 1)=at' d l 0:=by
  unfold popL
  rw [hd.2.2 _ (yJ _),swap_at d l _ _ _ (by omega) (by omega),if_pos rfl]
 exact ⟨hlast,pop_parts O hl h hd.2.1 hlast hd.1⟩
end Go.Proofs.YtokabeokclpljaaGreat.HeapM
namespace Go.Proofs.YtokabeokclpljaaGreat
section
open Go.RowKit
structure Holds (S:World→Prop) (w0:World) (n:Nat):Prop where
 call:∀{wx wy:World},S wx→Below wx.heap.size wx wy→S wy
 set:∀{wx:World} (k j:Nat) (v:Value),S wx→n≤k→S (wx.setCell ⟨k,j,none⟩ v)
 size:∀{wx:World},S wx→n≤wx.heap.size
 below:∀{wx:World},S wx→Below w0.heap.size w0 wx
theorem Holds.drew {S:World→Prop} {w0:World} {n:Nat} (h:Holds S w0 n) {wx:World} (hs:S wx):S wx.drew:=h.call hs (yH _ _).drew
theorem Holds.al {S:World→Prop} {w0:World} {n:Nat} (h:Holds S w0 n) {wx:World} (hs:S wx) (o:Obj):S (wx.alloc o):=h.call hs (yA (yH _ _) o)
def Kp (w1 wx:World):Prop:=Below w1.heap.size w1 wx
theorem kp_holds (w1:World):Holds (Kp w1) w1 w1.heap.size where
 call:=fun h hb=>yB h hb
 set:=fun k j v h hk=>yC h _ _ _ hk
 size:=fun h=>h.size
 below:=fun h=>h
theorem Kp.cell {w1 wx:World} (h:Kp w1 wx) {b j:Nat} {v:Value} (hc:w1.cell? ⟨b,j,none⟩=some v):wx.cell? ⟨b,j,none⟩=some v:=(Below.cell h (p:=⟨b,j,none⟩) (yG hc)).trans hc
theorem Kp.new (w1:World):Kp w1 w1:=yH _ _
theorem takeD {P:Program} {ops:Array Oper} {Q:Exit→Act→World→Prop} {md:Region.Mode} {S:World→Prop} {i:Nat} {oi:Oper} {v:Value} {d:Option Tmp} {fuel:Nat} {listed:Array Bool} {a:Act} {w:World} (hi:ops[i]? = some oi) (hd:oi.dst=d)
  (hs:Region.noSelect ops=true) (hf:Region.free md ops listed i=true) (hr:(Region.ready md ops listed).contains i=true)
  (hQ:∀c a w,Q (.panic c) (a.put d v) w→Q (.panic c) a w) (hy:YieldsIf P ops S oi v a) (hS:S w)
  (h:wpAnyH P md ops Q S fuel (listed.setIfInBounds i true) (a.put d v) w):wpAnyH P md ops Q S (fuel+1) listed a w:=by
 subst hd
 exact wpAnyH_take hi hs hf hr hQ hy hS h
theorem takeU {P:Program} {ops:Array Oper} {Q:Exit→Act→World→Prop} {md:Region.Mode} {S:World→Prop} {oi:Oper} {fuel:Nat} {listed:Array Bool} {a:Act} {w:World} (i d:Nat) (hi:ops[i]? = some oi) (hd:oi.dst=some d) (hS:S w)
  (h:wpAnyH P md ops Q S fuel (listed.setIfInBounds i true) (a.put (some d) undef) w)
  (hs:Region.noSelect ops=true:=by kernel_rfl) (hf:Region.free md ops listed i=true:=by kernel_rfl) (hr:(Region.ready md ops listed).contains i=true:=by kernel_rfl)
  (hQ:∀c a w,Q (.panic c) (a.put (some d) undef) w→Q (.panic c) a w:=by exact fun _ _ _ h=>h) (hw:Region.wanted oi (yielded ops a.tmps)=false:=by kernel_rfl):wpAnyH P md ops Q S (fuel+1) listed a w:=
 takeD hi hd hs hf hr hQ (Or.inr ⟨hw,rfl⟩) hS h
theorem takeW {P:Program} {ops:Array Oper} {Q:Exit→Act→World→Prop} {md:Region.Mode} {S:World→Prop} {oi:Oper} {fuel:Nat} {listed:Array Bool} {a:Act} {w:World} (i d:Nat) (v:Value) (hi:ops[i]? = some oi) (hd:oi.dst=some d) (hS:S w)
  (h:wpAnyH P md ops Q S fuel (listed.setIfInBounds i true) (a.put (some d) v) w)
  (hs:Region.noSelect ops=true:=by kernel_rfl) (hf:Region.free md ops listed i=true:=by kernel_rfl) (hr:(Region.ready md ops listed).contains i=true:=by kernel_rfl)
  (hQ:∀c a w,Q (.panic c) (a.put (some d) v) w→Q (.panic c) a w:=by exact fun _ _ _ h=>h) (hy:YieldsIf P ops S oi v a:=by exact Or.inl ⟨by rfl,fun wz hz=>by (go_simp;try with_reducible rfl)⟩):wpAnyH P md ops Q S (fuel+1) listed a w:=
 takeD hi hd hs hf hr hQ hy hS h
theorem tW {P:Program} {ops:Array Oper} {Q:Exit→Act→World→Prop} {md:Region.Mode} {S:World→Prop} {oi:Oper} {fuel:Nat} {listed:Array Bool} {a:Act} {w:World} (i d:Nat) (v:Value) (hS:S w) (h:wpAnyH P md ops Q S fuel (listed.setIfInBounds i true) (a.put (some d) v) w) (hi:ops[i]? = some oi:=by rfl) (hd:oi.dst=some d:=by rfl) (hs:Region.noSelect ops=true:=by kernel_rfl) (hf:Region.free md ops listed i=true:=by kernel_rfl) (hr:(Region.ready md ops listed).contains i=true:=by kernel_rfl) (hQ:∀c a w,Q (.panic c) (a.put (some d) v) w→Q (.panic c) a w:=by exact fun _ _ _ h=>h) (hy:YieldsIf P ops S oi v a:=by exact Or.inl ⟨by rfl,fun wz hz=>by (go_simp;try with_reducible rfl)⟩):wpAnyH P md ops Q S (fuel+1) listed a w:=takeW i d v hi hd hS h hs hf hr hQ hy
theorem tU {P:Program} {ops:Array Oper} {Q:Exit→Act→World→Prop} {md:Region.Mode} {S:World→Prop} {oi:Oper} {fuel:Nat} {listed:Array Bool} {a:Act} {w:World} (i d:Nat) (hS:S w) (h:wpAnyH P md ops Q S fuel (listed.setIfInBounds i true) (a.put (some d) undef) w) (hi:ops[i]? = some oi:=by rfl) (hd:oi.dst=some d:=by rfl) (hs:Region.noSelect ops=true:=by kernel_rfl) (hf:Region.free md ops listed i=true:=by kernel_rfl) (hr:(Region.ready md ops listed).contains i=true:=by kernel_rfl) (hQ:∀c a w,Q (.panic c) (a.put (some d) undef) w→Q (.panic c) a w:=by exact fun _ _ _ h=>h) (hw:Region.wanted oi (yielded ops a.tmps)=false:=by kernel_rfl):wpAnyH P md ops Q S (fuel+1) listed a w:=takeU i d hi hd hS h hs hf hr hQ hw
def IRow (E:TypeId) (sz B:Nat) (w:World) (v:Value) (n:Nat) (xs:List Value):Prop:=w.ownsRow B E sz v n xs∧v≠.slice none 0 0
theorem irow_new {E:TypeId} {sz:Nat} {w1 w:World} (h:Below w1.heap.size w1 w):IRow E sz w1.heap.size (w.alloc (.cells #[] E)) (.slice (some ⟨w.heap.size,0,none⟩) 0 0) 0 []:=
 ⟨⟨by simp,.inr ⟨w.heap.size,0,#[],rfl,h.size,by show (w.heap.push _)[w.heap.size]? = _;simp,yJ _,by unfold maxLen;omega,by simp,by simp⟩⟩,by simp⟩
theorem IRow.al {E:TypeId} {sz B n:Nat} {w:World} {v:Value} {xs:List Value} (h:IRow E sz B w v n xs) (o:Obj):IRow E sz B (w.alloc o) v n xs:=⟨h.1.alloc o,h.2⟩
theorem IRow.open {E:TypeId} {sz B n:Nat} {w:World} {v:Value} {xs:List Value} (h:IRow E sz B w v n xs):∃g cap,v=.slice (some ⟨g,0,none⟩) n cap∧B≤g∧w.ownsRow g E sz (.slice (some ⟨g,0,none⟩) n cap) n xs∧n≤cap:=by
 obtain ⟨⟨h1,h2⟩,h3⟩:=h
 rcases h2 with ⟨e,_⟩ | ⟨g,cap,cur,rfl,hg,hb,hc,k⟩
 ·exact absurd e h3
 ·exact ⟨g,cap,rfl,hg,⟨h1,.inr ⟨g,cap,cur,rfl,yJ _,hb,hc,k⟩⟩,hc⟩
def IBox (E:TypeId) (w1 w:World) (gb:Nat) (c:Array Value):Prop:=w1.heap.size≤gb∧w.heap[gb]? = some (.cells c E (0,0))
theorem ibox_new {E:TypeId} {w1 w:World} (h:Below w1.heap.size w1 w) (c:Array Value):IBox E w1 (w.alloc (.cells c E)) w.heap.size c:=⟨h.size,by show (w.heap.push _)[w.heap.size]? = _;simp⟩
theorem IBox.lt {E:TypeId} {w1 w:World} {gb:Nat} {c:Array Value} (h:IBox E w1 w gb c):gb<w.heap.size:=(Array.getElem?_eq_some_iff.1 h.2).1
theorem IBox.al {E:TypeId} {w1 w:World} {gb:Nat} {c:Array Value} (h:IBox E w1 w gb c) (o:Obj):IBox E w1 (w.alloc o) gb c:=⟨h.1,by
 have:=h.lt
 show (w.heap.push o)[gb]? = _
 rw [Array.getElem?_push,if_neg (by omega)];exact h.2⟩
theorem IBox.same {E:TypeId} {w1 w w':World} {gb:Nat} {c:Array Value} (h:IBox E w1 w gb c) (e:w'.heap[gb]? = w.heap[gb]?):IBox E w1 w' gb c:=⟨h.1,e.trans h.2⟩
theorem IBox.news {E:TypeId} {w1 w:World} {gb:Nat} {c:Array Value} (h:IBox E w1 w gb c):∀i u,c.toList[i]? = some u→w.cell? (Addr.add ⟨gb,0,none⟩ i)=some u:=fun i u hu=>by
 rw [Lib.add_plain,Nat.zero_add]
 rw [Array.getElem?_toList] at hu
 simp [World.cell?,h.2,hu]
theorem ins_app {P:Program} {w1 w:World} {ops:Array Oper} {o:Oper} {a:Act} {K:Act→World→Prop} {Q:Exit→Act→World→Prop} {Ex:Prop} (hgd:o.guard=none) (s x:Operand) (t:TypeId)
  (ho:o.op=.call { callee:=.builtin .append,args:=#[s,x],argTypes:=#[t,t] })
  (E:TypeId) (i:TypeInfo) (z:Value) (size bytes:Nat) (ht:P.underlying t=some (.slice E)) (hi:P.info? E=some i) (hz:i.zero=some z)
  (hsize:i.size=size) (hby:i.bytes=bytes) (hzs:z.cells.size=size) (hsz:0<size)
  (v:Value) (n:Nat) (xs:List Value) (hs:a.eval s=v) (hr:IRow E size w1.heap.size w v n xs) (kp:Below w1.heap.size w1 w)
  (ad:Addr) (m c:Nat) (news:List Value) (hx:a.eval x=.slice (some ad) m c) (hl:news.length=m*size) (hnews:∀j u,news[j]? = some u→w.cell? (ad.add j)=some u) (h1:∀u ∈ news,u.oneCell'=true)
  (h63:n+m≤maxLen) (hbytes:(n+m)*bytes≤140737488355328)
  (h:∀v' w',IRow E size w1.heap.size w' v' (n+m) (xs++news)→Below w1.heap.size w1 w'→(∀k,k<w.heap.size→some k≠v.ownBlock→w'.heap[k]? = w.heap[k]?)→K (a.put o.dst v') w') :
  if Region.wanted o (yielded ops a.tmps)=true then Oper.wp P o a w K Q else Ex:=by
 have hw:Region.wanted o (yielded ops a.tmps)=true:=by simp [Region.wanted,hgd]
 rw [if_pos hw]
 refine wp_append_own w s x t ho w1.heap.size E i z size bytes ht hi hz hsize hby hzs hsz v n xs hs hr.1 ad m c news hx hl hnews h1 h63 hbytes kp.size ?_
 intro v' w' hown hg hn
 refine h v' w' ⟨hown,fun e=>hr.2 (hn.1 e).1⟩ (kp.grown hg kp.size ?_) (fun k hk hne=>hg.block k hk hne)
 intro k hk
 rcases hr.1.2 with ⟨rfl,_⟩ | ⟨g,cap,cur,rfl,hg',_⟩
 ·simp [Value.ownBlock] at hk
 ·simp [Value.ownBlock] at hk;omega
theorem owns_re {E:TypeId} {sz B n n':Nat} {w:World} {v:Value} {xs xs':List Value} (h:IRow E sz B w v n xs) (hn:n=n') (hx:xs=xs'):IRow E sz B w v n' xs':=by subst hn hx;exact h
def hiA (g cap k sz:Nat):Addr:=if cap=k then ⟨g,0,none⟩ else ⟨g,k*sz,none⟩
theorem hiA_at {g cap k sz:Nat} (h:k<cap) (i:Nat):(hiA g cap k sz).add i=⟨g,k*sz+i,none⟩:=by
 rw [hiA,if_neg (by omega),Lib.add_plain]
theorem cutS_lo (g n cap k:Nat) (hk:k≤cap) (wx:World):(Instr.slice 49 (.slice (some ⟨g,0,none⟩) n cap) none (some (.int .i64 (k:Int))) none).run Tryz.prog wx=.ok (.slice (some ⟨g,0,none⟩) k cap) wx:=by
 rw [run_slice_h (P:=Tryz.prog) (w:=wx) 49 (some ⟨g,0,none⟩) n cap Tryz.underlying49 .i64 (k:Int) (by omega) (by omega)]
 rw [show (sizeOf (Tryz.prog.elem 49)).run Tryz.prog wx=.ok 1 wx from by kernel_rfl]
 simp [Result.andThen,sliced,Addr.add]
theorem cutS_hi (g n cap k:Nat) (hk:k≤n) (wx:World):(Instr.slice 49 (.slice (some ⟨g,0,none⟩) n cap) (some (.int .i64 (k:Int))) none none).run Tryz.prog wx=.ok (.slice (some (hiA g cap k 1)) (n - k) (cap - k)) wx:=by
 rw [run_slice_l (P:=Tryz.prog) (w:=wx) 49 (some ⟨g,0,none⟩) n cap Tryz.underlying49 .i64 (k:Int) (by omega) (by omega)]
 rw [show (sizeOf (Tryz.prog.elem 49)).run Tryz.prog wx=.ok 1 wx from by kernel_rfl]
 simp only [Result.andThen,sliced,Int.toNat_natCast,hiA]
 by_cases h:cap=k
 ·rw [if_pos h,if_pos h]
 ·rw [if_neg h,if_neg h]
  simp [Addr.add]
  try omega
theorem SS.lo {w w':World} {g cap:Nat} {xs:List ByteArray} (h:SS w g cap xs) (hb:Below w.heap.size w w') (k:Nat):∀i u,((xs.take k).map Value.string)[i]? = some u→w'.cell? (Addr.add ⟨g,0,none⟩ i)=some u:=fun i u hu=>by
 have hlt:=(List.getElem?_eq_some_iff.1 hu).1
 rw [List.length_map,List.length_take] at hlt
 have:=(h.below hb h.lt).cell i (by omega)
 rw [Lib.add_plain,Nat.zero_add,this,←hu]
 simp [show i<k by omega,show i<xs.length by omega]
theorem SS.hi {w w':World} {g cap:Nat} {xs:List ByteArray} (h:SS w g cap xs) (hb:Below w.heap.size w w') (k:Nat):∀i u,((xs.drop k).map Value.string)[i]? = some u→w'.cell? (Addr.add (hiA g cap k 1) i)=some u:=fun i u hu=>by
 have hlt:=(List.getElem?_eq_some_iff.1 hu).1
 rw [List.length_map,List.length_drop] at hlt
 obtain ⟨_,_,hc,_⟩:=h.block
 have:=(h.below hb h.lt).cell (k+i) (by omega)
 rw [hiA_at (by omega),Nat.mul_one,this,←hu]
 simp [show k+i<xs.length by omega]
theorem one_strings (l:List ByteArray):∀u ∈ l.map Value.string,u.oneCell'=true:=fun u hu=>by
 obtain ⟨x,_,rfl⟩:=List.mem_map.1 hu
 rfl
theorem implShare_any (a b n:Int) (w:World) :
  Calls Tryz.prog 169 #[rv a b,.int .i64 n] w fun e w'=>e=.returned (rv (shareM a b n) (shareC a b n))∧Below w.heap.size w w':=by
 cases h1:resOk a b
 ·rw [show shareM a b n=0 by simp [shareM,shareOk,h1],show shareC a b n=0 by simp [shareC,shareOk,h1]]
  go_enter Tryz.func169,Tryz.ntmps169
  go_wp2_with (go_at_call 138;refine (ok_any _ _ _).mono ?_;rintro e w' ⟨rfl,rfl⟩)
  refine bodyPost_ret (v:=rv 0 0) (by simp [results,Tryz.results169,go_sem]) rfl ⟨rfl,?_⟩
  repeat (first | exact yH _ _ | refine yA ?_ _ | refine Below.drew ?_ | refine yC ?_ _ _ _ (by omega))
 ·cases h2:inB n 0 10000
  ·rw [show shareM a b n=0 by simp [shareM,shareOk,h2],show shareC a b n=0 by simp [shareC,shareOk,h2]]
   by_cases n0:n<0
   ·go_enter Tryz.func169,Tryz.ntmps169
    go_wp2_with (go_at_call 138;refine (ok_any _ _ _).mono ?_;rintro e w' ⟨rfl,rfl⟩)
    refine bodyPost_ret (v:=rv 0 0) (by simp [results,Tryz.results169,go_sem]) rfl ⟨rfl,?_⟩
    repeat (first | exact yH _ _ | refine yA ?_ _ | refine Below.drew ?_ | refine yC ?_ _ _ _ (by omega))
   ·have n1:10000<n:=by
     apply Int.not_le.1
     intro h
     have:inB n 0 10000=true:=inB_true (by omega) h
     rw [this] at h2;cases h2
    go_enter Tryz.func169,Tryz.ntmps169
    go_wp2_with (go_at_call 138;refine (ok_any _ _ _).mono ?_;rintro e w' ⟨rfl,rfl⟩)
    refine bodyPost_ret (v:=rv 0 0) (by simp [results,Tryz.results169,go_sem]) rfl ⟨rfl,?_⟩
    repeat (first | exact yH _ _ | refine yA ?_ _ | refine Below.drew ?_ | refine yC ?_ _ _ _ (by omega))
  ·rw [show shareM a b n=a*n / 10000 by simp [shareM,shareOk,h1,h2],show shareC a b n=b*n / 10000 by simp [shareC,shareOk,h1,h2]]
   obtain ⟨q1,q2,q3,q4⟩:=resOk_bd h1
   have hn:0≤n∧n≤10000:=by simpa [inB] using h2
   obtain ⟨m1,m2⟩:=mul_bd q1 q2 hn.1 hn.2
   obtain ⟨m3,m4⟩:=mul_bd q3 q4 hn.1 hn.2
   go_enter Tryz.func169,Tryz.ntmps169
   go_wp2_with (go_at_call 138;refine (ok_any _ _ _).mono ?_;rintro e w' ⟨rfl,rfl⟩)
   refine bodyPost_ret (v:=rv (a*n / 10000) (b*n / 10000)) (by simp [results,Tryz.results169,go_sem]) rfl ⟨rfl,?_⟩
   repeat (first | exact yH _ _ | refine yA ?_ _ | refine Below.drew ?_ | refine yC ?_ _ _ _ (by omega))
end
section
theorem less_ntrans {a b c d e f:Int} (hb:Small b) (hd:Small d) (hf:Small f) (h:less c d a b=false) (k:less e f c d=false):less e f a b=false:=by
 unfold less at *
 by_cases f0:f=0
 ·simp [f0]
 ·by_cases d0:d=0
  ·simp [d0,f0] at k
  ·by_cases b0:b=0
   ·simp [b0,d0] at h
   ·simp only [b0,d0,f0,if_false,decide_eq_false_iff_not,Int.not_lt] at h k ⊢
    have pb:0≤b:=hb.1
    have pf:0≤f:=hf.1
    have pd:0<d:=by have:=hd.1;omega
    have h1:=Int.mul_le_mul_of_nonneg_right h pf
    have h2:=Int.mul_le_mul_of_nonneg_right k pb
    have e1:a*d*f=a*f*d:=by rw [Int.mul_assoc,Int.mul_comm d f,←Int.mul_assoc]
    have e2:c*b*f=c*f*b:=by rw [Int.mul_assoc,Int.mul_comm b f,←Int.mul_assoc]
    have e3:e*d*b=e*b*d:=by rw [Int.mul_assoc,Int.mul_comm d b,←Int.mul_assoc]
    have h3:a*f*d≤e*b*d:=by rw [←e1,←e3];rw [e2] at h1;exact Int.le_trans h1 h2
    exact Int.le_of_mul_le_mul_right h3 pd
end
section
open Go.RowKit
theorem countOk_any (n:Int) (w:World) :
  Calls Tryz.prog 116 #[.int .i64 n] w fun e w'=>e=.returned (.bool (inB n 1 1000000000))∧w=w':=by
 by_cases h1:1≤n
 ·by_cases h2:n≤1000000000
  ·go_enter Tryz.func116,Tryz.ntmps116
   go_wp2
   go_ret
   exact ⟨yF (inB_true h1 h2).symm,rfl⟩
  ·go_enter Tryz.func116,Tryz.ntmps116
   go_wp2
   go_ret
   exact ⟨yF (inB_false (by omega)).symm,rfl⟩
 ·go_enter Tryz.func116,Tryz.ntmps116
  go_wp2
  go_ret
  exact ⟨yF (inB_false (by omega)).symm,rfl⟩
theorem implSub_any (a b c d:Int) (w:World) :
  Calls Tryz.prog 124 #[rv a b,rv c d] w fun e w'=>e=.returned (.tuple #[bothV (-1) a b c d,.bool (bothOk (-1) a b c d)])∧Below w.heap.size w w':=by
 have V1:=((var_new w 52 a b).al (.cells #[.int .i64 c,.int .i64 d] 52)).al (.cells #[.int .i64 0,.int .i64 0] 52)
 have V2:=(var_new2 w 52 52 a b c d).al (.cells #[.int .i64 0,.int .i64 0] 52)
 have V3:=var_new2 (w.alloc (.cells #[.int .i64 a,.int .i64 b] 52)) 52 52 c d 0 0
 have B3:=yA (yA (yA (yH _ w) (.cells #[.int .i64 a,.int .i64 b] 52)) (.cells #[.int .i64 c,.int .i64 d] 52)) (.cells #[.int .i64 0,.int .i64 0] 52)
 simp at V3
 have HV1:=hide V1
 have HV2:=hide V2
 have HV3:=hide V3
 have HB3:=hide B3
 have hc:=hide (pairOk_any a b c d)
 clear V1 V2 V3 B3
 cases h0:resOk a b&&resOk c d
 ·have hb:bothOk (-1) a b c d=false:=by rw [bothOk,h0];rfl
  rw [both_no hb,hb]
  go_enter Tryz.func124,Tryz.ntmps124
  go_wp2_with fail
  refine (uH hc _).mono ?_
  rw [h0]
  rintro e w1 ⟨rfl,hb⟩
  have V3:=(uH HV3).below hb
  have k2:=V3.f 0
  have k3:=V3.f 1
  have k0:=V3.c0
  have k1:=V3.c1
  have k4:=V3.s0 (.int .i64 0)
  have k5:=V3.s1 (.int .i64 0) (.int .i64 0)
  have HB:=hide (yB (uH HB3) hb)
  clear hb HV1 HV2 HV3 HB3 V3 hc
  go_wp2
  refine bodyPost_ret (v:=.tuple #[rv 0 0,.bool false]) (by simp [results,Tryz.results124,go_sem,k4,k5]) rfl ⟨rfl,?_⟩
  repeat (first | exact uH HB | refine yA ?_ _ | refine Below.drew ?_ | refine yC ?_ _ _ _ (by omega))
 ·have h0':=h0
  simp only [yK] at h0'
  obtain ⟨q1,q2,q3,q4⟩:=resOk_bd h0'.1
  obtain ⟨q5,q6,q7,q8⟩:=resOk_bd h0'.2
  obtain ⟨x,hx⟩:∃x,a - c=x:=⟨_,rfl⟩
  obtain ⟨y,hy⟩:∃y,b - d=y:=⟨_,rfl⟩
  have m3:IntKind.i64.wrap (a - c)=x:=by rw [IntKind.wrap_i64];omega
  have m4:IntKind.i64.wrap (b - d)=y:=by rw [IntKind.wrap_i64];omega
  have e1:bothOk (-1) a b c d=resOk x y:=by rw [bothOk,h0,show a+(-1)*c=x by omega,show b+(-1)*d=y by omega];rfl
  have e2:bothV (-1) a b c d=orV x y:=by rw [bothV,orV,e1,show a+(-1)*c=x by omega,show b+(-1)*d=y by omega]
  obtain ⟨u,v,hv⟩:∃u v,orV x y=rv u v:=by unfold orV;split<;>exact ⟨_,_,rfl⟩
  obtain ⟨o,ho⟩:∃o,resOk x y=o:=⟨_,rfl⟩
  have ho2:∀wx,Calls Tryz.prog 94 #[rv x y] wx fun e w'=>e=.returned (.tuple #[rv u v,.bool o])∧Below wx.heap.size wx w':=fun wx=>by have:=or_any x y wx;rw [hv,ho] at this;exact this
  rw [e1,e2,hv,ho]
  have HO:=hide ho2
  clear e1 e2 hv ho ho2 h0' q1 q2 q3 q4 q5 q6 q7 q8 hx hy
  go_enter Tryz.func124,Tryz.ntmps124
  go_wp2_with fail
  refine (uH hc _).mono ?_
  rw [h0]
  rintro e w1 ⟨rfl,hb⟩
  have V1:=(uH HV1).below hb
  have V2:=(uH HV2).below hb
  have V3:=hide ((uH HV3).below hb)
  have a1:=V1.c0
  have a2:=V1.c1
  have a3:=V2.c0
  have a4:=V2.c1
  have HB:=hide (yB (uH HB3) hb)
  clear hb HV1 HV2 HV3 HB3 V1 V2 hc
  go_wp2_with fail
  refine (uH HO _).mono ?_
  rintro e w2 ⟨rfl,hb⟩
  have V4:=(uH V3).below hb
  have k0:=V4.c0
  have k1:=V4.c1
  have k2:=V4.f 0
  have k3:=V4.f 1
  have k4:=V4.s0 (.int .i64 u)
  have k5:=V4.s1 (.int .i64 u) (.int .i64 v)
  have HB2:=hide (yB (uH HB) hb)
  clear hb V4 V3 HB HO a1 a2 a3 a4
  go_wp2
  refine bodyPost_ret (v:=.tuple #[rv u v,.bool o]) (by simp [results,Tryz.results124,go_sem,k4,k5]) rfl ⟨rfl,?_⟩
  repeat (first | exact uH HB2 | refine yA ?_ _ | refine Below.drew ?_ | refine yC ?_ _ _ _ (by omega))
theorem implWithin_any (a b c d:Int) (w:World) :
  Calls Tryz.prog 34 #[rv a b,rv c d] w fun e w'=>e=.returned (.bool (within a b c d))∧Below w.heap.size w w':=by
 have HV1:=hide ((var_new w 52 a b).al (.cells #[.int .i64 c,.int .i64 d] 52))
 have HV2:=hide (var_new2 w 52 52 a b c d)
 have HB0:=hide (yA (yA (yH _ w) (.cells #[.int .i64 a,.int .i64 b] 52)) (.cells #[.int .i64 c,.int .i64 d] 52))
 have hc:=hide (pairOk_any a b c d)
 cases h0:resOk a b&&resOk c d
 ·rw [show within a b c d=false by rw [within,h0];rfl]
  go_enter Tryz.func34,Tryz.ntmps34
  go_wp2_with fail
  refine (uH hc _).mono ?_
  rw [h0]
  rintro e w1 ⟨rfl,hb⟩
  have V1:=(uH HV1).below hb
  have V2:=(uH HV2).below hb
  have a1:=V1.c0
  have a2:=V1.c1
  have a3:=V2.c0
  have a4:=V2.c1
  have HB:=hide (yB (uH HB0) hb)
  clear hb HV1 HV2 HB0 V1 V2 hc
  go_wp2
  go_ret
  exact ⟨rfl,uH HB⟩
 ·by_cases h3:a≤c
  ·by_cases h4:b≤d
   ·rw [show within a b c d=true by rw [within,h0];simp [h3,h4]]
    go_enter Tryz.func34,Tryz.ntmps34
    go_wp2_with fail
    refine (uH hc _).mono ?_
    rw [h0]
    rintro e w1 ⟨rfl,hb⟩
    have V1:=(uH HV1).below hb
    have V2:=(uH HV2).below hb
    have a1:=V1.c0
    have a2:=V1.c1
    have a3:=V2.c0
    have a4:=V2.c1
    have HB:=hide (yB (uH HB0) hb)
    clear hb HV1 HV2 HB0 V1 V2 hc
    go_wp2
    go_ret
    exact ⟨rfl,uH HB⟩
   ·rw [show within a b c d=false by rw [within,h0];simp [h4]]
    go_enter Tryz.func34,Tryz.ntmps34
    go_wp2_with fail
    refine (uH hc _).mono ?_
    rw [h0]
    rintro e w1 ⟨rfl,hb⟩
    have V1:=(uH HV1).below hb
    have V2:=(uH HV2).below hb
    have a1:=V1.c0
    have a2:=V1.c1
    have a3:=V2.c0
    have a4:=V2.c1
    have HB:=hide (yB (uH HB0) hb)
    clear hb HV1 HV2 HB0 V1 V2 hc
    go_wp2
    go_ret
    exact ⟨yF (decide_eq_false (by omega)),uH HB⟩
  ·rw [show within a b c d=false by rw [within,h0];simp [h3]]
   go_enter Tryz.func34,Tryz.ntmps34
   go_wp2_with fail
   refine (uH hc _).mono ?_
   rw [h0]
   rintro e w1 ⟨rfl,hb⟩
   have V1:=(uH HV1).below hb
   have V2:=(uH HV2).below hb
   have a1:=V1.c0
   have a2:=V1.c1
   have a3:=V2.c0
   have a4:=V2.c1
   have HB:=hide (yB (uH HB0) hb)
   clear hb HV1 HV2 HB0 V1 V2 hc
   go_wp2
   go_ret
   exact ⟨rfl,uH HB⟩
theorem Texts.base {w:World} {B B':Nat} {v:Value} {ps:List (List UInt8)} (h:Texts B w v ps) (hb:B'≤B):Texts B' w v ps:=by
 obtain ⟨h1,h2⟩:=h
 refine ⟨h1,?_⟩
 rcases h2 with h2 | ⟨g,cap,cur,a,b,c⟩
 ·exact .inl h2
 ·exact .inr ⟨g,cap,cur,a,by omega,c⟩
theorem SS.own {w:World} {g cap:Nat} {ps:List (List UInt8)} (h:SS w g cap (ps.map bs)):Texts g w (.slice (some ⟨g,0,none⟩) ps.length cap) ps:=by
 have:=h
 unfold SS at this
 rw [List.length_map] at this
 unfold Texts
 rw [List.length_map]
 exact this
def NRow (w:World) (ao:Option Addr) (len:Nat) (l:List Int):Prop:=
 len=l.length∧(len=0∨∃b off,ao=some ⟨b,off,none⟩∧∀i (h:i<l.length),w.cell? ⟨b,off+i,none⟩=some (.int .i64 l[i]))
theorem NRow.below {w w':World} {ao:Option Addr} {len:Nat} {l:List Int} (h:NRow w ao len l) (hb:Below w.heap.size w w'):NRow w' ao len l:=by
 obtain ⟨h1,h2⟩:=h
 refine ⟨h1,?_⟩
 rcases h2 with h2 | ⟨b,off,h3,h4⟩
 ·exact .inl h2
 ·exact .inr ⟨b,off,h3,fun i h=>(hb.cell (yG (h4 i h))).trans (h4 i h)⟩
theorem NRow.at {w:World} {ao:Option Addr} {len:Nat} {l:List Int} (h:NRow w ao len l) {i:Nat} (hi:i<len):∃b off,ao=some ⟨b,off,none⟩∧∀(h:i<l.length),w.cell? ⟨b,off+i,none⟩=some (.int .i64 l[i]):=by
 obtain ⟨h1,h2⟩:=h
 rcases h2 with h2 | ⟨b,off,h3,h4⟩
 ·omega
 ·exact ⟨b,off,h3,fun hi=>h4 i hi⟩
def icells (l:List Int):List Value:=l.map (Value.int .i64)
def IOwn (B:Nat) (w:World) (v:Value) (l:List Int):Prop:=w.ownsRow B 3 1 v l.length (icells l)
theorem iown_empty (w:World):IOwn w.heap.size (w.alloc (.cells #[] 3)) (.slice (some ⟨w.heap.size,0,none⟩) 0 0) []:=
 ⟨rfl,.inr ⟨w.heap.size,0,#[],rfl,yJ _,by show (w.heap.push _)[w.heap.size]? = _;simp,yJ _,by unfold maxLen;omega,rfl,rfl⟩⟩
theorem iown_below {w w':World} {B:Nat} {v:Value} {l:List Int} (h:IOwn B w v l) (hb:Below w.heap.size w w'):IOwn B w' v l:=
 World.ownsRow.kept h (grownBy_below (grownBy_refl w none) hb) (by by_cases e:v.ownBlock=none;exact .inl e;exact .inr e)
theorem Tryz.infoI:(Tryz.prog.info? 3).map (fun i=>(i.zero,i.size,i.bytes))=some (some (.int .i64 0),1,8):=by kernel_rfl
def dgs (u:Nat):List UInt8:=if u=0 then [] else Lib.decDigits u
theorem dgs_zero:dgs 0=[]:=rfl
theorem dgs_pos {u:Nat} (h:u≠0):dgs u=Lib.decDigits u:=by rw [dgs,if_neg h]
theorem dgs_step {u:Nat} (h:u≠0):dgs u=dgs (u / 10)++[UInt8.ofNat (48+u % 10)]:=by
 rw [dgs_pos h,Lib.decDigits]
 by_cases h10:u<10
 ·rw [dif_pos h10]
  have e:u / 10=0:=by omega
  rw [e,dgs_zero,Nat.mod_eq_of_lt h10];rfl
 ·rw [dif_neg h10,dgs_pos (by omega)]
def dch (d:Nat):UInt8:=UInt8.ofNat (48+d)
def mk (N:Nat):ByteArray:=bs (109::dgs N)
theorem markText_any (N:Nat) (w:World) (h0:0<N) (hN:(N:Int)≤9223372036854775807) :
  Calls Tryz.prog 99 #[.int .i64 (N:Int)] w fun e w'=>e=.returned (.string (mk N))∧Below w.heap.size w w':=by
 have hlen2:(dgs N).length≤20:=by rw [dgs_pos (by omega),Lib.decDigits_length];exact Lib.nDigits_le20 N (by omega)
 have hcv:∀(wr:World) (x:Nat),x<10→(convert 190 9 (.slice (some ⟨wr.heap.size,0,none⟩) 1 1)).run Tryz.prog (wr.alloc (.cells #[.int .u8 (48+(x:Int))] 5))=.ok (.string ⟨#[dch x]⟩) (wr.alloc (.cells #[.int .u8 (48+(x:Int))] 5)):=by
  intro wr x hx
  refine run_convert_bytes_back _ 190 9 5 ⟨wr.heap.size,0,none⟩ 1 [dch x] Tryz.underlying190 Tryz.underlying5 Tryz.underlying9 (fun j hj=>?_)
  match j,hj with
  | 0,_=>simp [Addr.add,dch];omega
 go_enter Tryz.func99,Tryz.ntmps99
 go_wp2
 go_loopw [0,3] (fun m o wr=>∃(u:Nat) (l:List UInt8),u≤N∧m=.int .i64 (u:Int)∧o=.string (bs l)∧dgs u++l=dgs N∧Below w.heap.size w wr) (fun m _ _=>(intOf m).toNat)
 case atStart=>exact ⟨N,[],yJ _,rfl,rfl,by simp,yH _ _⟩
 case round=>
  obtain ⟨u,l,hu,rfl,rfl,hcat,hbel⟩:=hrel
  have hl:l.length≤20:=by have:=congrArg List.length hcat;simp only [List.length_append] at this;omega
  have hl2:(bs l).size≤20:=by rw [bs_size];exact hl
  have hsz:=hbel.size
  have HC:=hide hcat
  have HB:=hide hbel
  clear hcat hl hbel
  by_cases hu0:u=0
  ·subst hu0
   clear hcv
   go_wp2
   go_ret
   exact ⟨ret_str (by rw [cons_bs,mk];exact congrArg bs (congrArg (fun t=>109::t) (uH HC))),uH HB⟩
  ·have hcw:=hcv wr (u % 10) (by omega)
   rw [show ((u % 10:Nat):Int)=(u:Int) % 10 from by omega] at hcw
   clear hcv
   have hcs:(ByteArray.mk #[dch (u % 10)]).size=1:=rfl
   go_wp2
   go_roundw
   case rel=>exact ⟨u / 10,dch (u % 10)::l,by omega,by go_num,str_eq (cons_bs _ _),by rw [←uH HC,dgs_step hu0,dch];simp,(uH HB).alloc hsz _⟩
   case measure=>simp [intOf];omega
theorem markText_int (x:Int) (w:World) (h0:0<x) (hN:x≤9223372036854775807) :
  Calls Tryz.prog 99 #[.int .i64 x] w fun e w'=>e=.returned (.string (mk x.toNat))∧Below w.heap.size w w':=by
 obtain ⟨N,rfl⟩:=Int.eq_ofNat_of_zero_le (a:=x) (by omega)
 rw [Int.toNat_natCast]
 exact markText_any N w (by omega) hN
def marks (k:Nat):Nat→List ByteArray
 | 0=>[]
 | n+1=>mk k::marks (k+1) n
def marked (k:Nat) (xs:List ByteArray) (j:Nat):List ByteArray:=(marks k xs.length).take j++xs.drop j
def Cel (w:World) (t:TypeId) (g N:Nat):Prop:=∃arr:Array Value,w.heap[g]? = some (.cells arr t (0,0))∧arr.size=N
theorem Cel.lt {w:World} {t:TypeId} {g N:Nat} (h:Cel w t g N):g<w.heap.size:=let ⟨_,h,_⟩:=h;lt_of_block h
theorem Cel.of_block {w w':World} {t:TypeId} {g N:Nat} (h:Cel w t g N) (e:w'.heap[g]? = w.heap[g]?):Cel w' t g N:=by
 obtain ⟨arr,h1,h2⟩:=h
 exact ⟨arr,e.trans h1,h2⟩
theorem Cel.below {w w':World} {t:TypeId} {g N:Nat} (h:Cel w t g N) (hb:Below w.heap.size w w'):Cel w' t g N:=h.of_block (hb.block g h.lt)
theorem Cel.set {w:World} {t:TypeId} {g N:Nat} (h:Cel w t g N) (b j:Nat) (v:Value):Cel (w.setCell ⟨b,j,none⟩ v) t g N:=by
 by_cases e:g=b
 ·subst e
  obtain ⟨arr,h1,h2⟩:=h
  exact ⟨_,heap_setCell_same w g j _ _ v h1,by simp [h2]⟩
 ·exact h.of_block (heap_setCell_other w ⟨b,j,none⟩ g v e)
theorem Cel.cell {w:World} {t:TypeId} {g N:Nat} (h:Cel w t g N) {j:Nat} (hj:j<N):∃v,w.cell? ⟨g,j,none⟩=some v:=by
 obtain ⟨arr,h1,h2⟩:=h
 exact ⟨arr[j]'(by omega),by simp [World.cell?,h1,Array.getElem?_eq_getElem (show j<arr.size by omega)]⟩
theorem Cel.frozen {w:World} {t:TypeId} {g N:Nat} (h:Cel w t g N) (j:Nat):w.frozen? ⟨g,j,none⟩=false:=by
 obtain ⟨arr,h1,h2⟩:=h
 simp [World.frozen?,h1]
structure Mkd (B E:Nat) (w w':World):Prop where
 os:w'.os=w.os
 tape:w'.tape=w.tape
 output:w'.output=w.output
 size:w.heap.size≤w'.heap.size
 block:∀k,k<w.heap.size→(k<B∨E≤k)→w'.heap[k]? = w.heap[k]?
 cel:∀t g N,Cel w t g N→Cel w' t g N
theorem Mkd.refl (B E:Nat) (w:World):Mkd B E w w:=⟨rfl,rfl,rfl,yJ _,fun _ _ _=>rfl,fun _ _ _ h=>h⟩
theorem Mkd.trans {B E:Nat} {a b c:World} (h:Mkd B E a b) (k:Mkd B E b c):Mkd B E a c:=
 ⟨k.os.trans h.os,k.tape.trans h.tape,k.output.trans h.output,Nat.le_trans h.size k.size,fun i hi ho=>(k.block i (Nat.lt_of_lt_of_le hi h.size) ho).trans (h.block i hi ho),fun t g N x=>k.cel t g N (h.cel t g N x)⟩
theorem Mkd.mono {B E B' E':Nat} {a b:World} (h:Mkd B E a b) (h1:B'≤B) (h2:E≤E'):Mkd B' E' a b:=
 ⟨h.os,h.tape,h.output,h.size,fun i hi ho=>h.block i hi (by omega),h.cel⟩
theorem Mkd.of_below {B E:Nat} {w w':World} (hb:Below w.heap.size w w'):Mkd B E w w':=⟨hb.os,hb.tape,hb.output,hb.size,fun i hi _=>hb.block i hi,fun t g N x=>x.below hb⟩
theorem Mkd.on {B E:Nat} {a w w':World} (h:Mkd B E a w) (hb:Below w.heap.size w w'):Mkd B E a w':=h.trans (.of_below hb)
theorem Mkd.sc {B E:Nat} {a w:World} (h:Mkd B E a w) (g j:Nat) (v:Value) (h1:B≤g) (h2:g<E):Mkd B E a (w.setCell ⟨g,j,none⟩ v):=
 h.trans ⟨rfl,rfl,rfl,by simp [World.setCell],fun k _ ho=>Below.heap_setCell _ _ _ _ (by show k≠g;omega),fun t g' N x=>x.set g j v⟩
theorem Mkd.below {B E:Nat} {a w:World} (h:Mkd B E a w) (hB:B≤a.heap.size):Below B a w:=⟨h.os,h.tape,h.output,h.size,fun k hk=>h.block k (by omega) (.inl hk)⟩
theorem Mkd.blk {B E g:Nat} {a w:World} {arr:Array Value} {t:TypeId} (h:Mkd B E a w) (hb:Blk a g arr t) (ho:g<B∨E≤g):Blk w g arr t:=(h.block g hb.lt ho).trans hb
def markQ (j:Nat):Q:=⟨109::dgs (1+4*j),109::dgs (1+4*j+1),1+4*(j:Int)+1+1,1+4*(j:Int)+1+1+1⟩
def marksQ (n:Nat):List Q:=(List.range n).map markQ
theorem QBlk.tail {w:World} {t:TypeId} {g n k:Nat} {l:List Q} (h:QBlk w t g n k l) {p:Nat} (hp:k*4≤p) (v:Value):QBlk (w.setCell ⟨g,p,none⟩ v) t g n k l:=by
 obtain ⟨arr,h1,h2,h3⟩:=h
 refine ⟨_,heap_setCell_same w g p _ _ v h1,by simp [h2],fun i hi hik=>?_⟩
 obtain ⟨a,b,c,d⟩:=h3 i hi hik
 refine ⟨?_,?_,?_,?_⟩
 ·rw [←a,Array.getElem?_setIfInBounds,if_neg (by omega)]
 ·rw [←b,Array.getElem?_setIfInBounds,if_neg (by omega)]
 ·rw [←c,Array.getElem?_setIfInBounds,if_neg (by omega)]
 ·rw [←d,Array.getElem?_setIfInBounds,if_neg (by omega)]
theorem QBlk.next {w:World} {t:TypeId} {g n k:Nat} {l:List Q} (h:QBlk w t g n k l) (c:∀hk:k<l.length,QAt w g (k*4) l[k]):QBlk w t g n (k+1) l:=by
 obtain ⟨arr,h1,h2,h3⟩:=h
 refine ⟨arr,h1,h2,fun i hi hik=>?_⟩
 by_cases e:i=k
 ·subst e
  obtain ⟨c0,c1,c2,c3⟩:=c hi
  simp [World.cell?,h1] at c0 c1 c2 c3
  exact ⟨c0,c1,c2,c3⟩
 ·exact h3 i hi (by omega)
theorem QBlk.rowOf {w:World} {t:TypeId} {g c n:Nat} {l:List Q} (h:QBlk w t g c n l) (hl:n=l.length):QRow w (some ⟨g,0,none⟩) n l:=by
 obtain ⟨arr,h1,h2,h3⟩:=h
 refine ⟨hl,.inr ⟨g,0,rfl,fun i hi=>?_⟩⟩
 obtain ⟨a,b,c,d⟩:=h3 i hi (by omega)
 unfold QAt
 simp only [Nat.zero_add]
 exact ⟨by simp [World.cell?,h1,a],by simp [World.cell?,h1,b],by simp [World.cell?,h1,c],by simp [World.cell?,h1,d]⟩
def QOne (w0:World) (b p:Nat) (q:Q) (w:World):Prop:=QAt w b p q∧Below w0.heap.size w0 w
theorem QOne.call {w0 w w':World} {b p:Nat} {q:Q} (h:QOne w0 b p q w) (hb:Below w.heap.size w w'):QOne w0 b p q w':=⟨h.1.below hb,yB h.2 hb⟩
theorem QOne.drew {w0 w:World} {b p:Nat} {q:Q} (h:QOne w0 b p q w):QOne w0 b p q w.drew:=h.call (yH _ _).drew
theorem QOne.read (w0:World) (b p:Nat) (q:Q):∀wx,QOne w0 b p q wx→wx.cell? ⟨b,p,none⟩=some (.string (bs q.name))∧wx.cell? ⟨b,p+1,none⟩=some (.string (bs q.parent))∧wx.cell? ⟨b,p+2,none⟩=some (.int .i64 q.due)∧wx.cell? ⟨b,p+3,none⟩=some (.int .i64 q.most):=
 fun wx h=>⟨h.1.1,h.1.2.1,h.1.2.2.1,h.1.2.2.2⟩
abbrev qcell (q:Q):List Value:=[.string (bs q.name),.string (bs q.parent),.int .i64 q.due,.int .i64 q.most]
def qcells:List Q→List Value
 | []=>[]
 | q::t=>qcell q++qcells t
theorem qcells_len:∀l:List Q,(qcells l).length=l.length*4
 | []=>rfl
 | q::t=>by rw [qcells,List.length_append,qcells_len t];simp;omega
theorem qcells_at:∀(l:List Q) (i:Nat) (h:i<l.length),(qcells l)[i*4]? = some (.string (bs l[i].name))∧(qcells l)[i*4+1]? = some (.string (bs l[i].parent))∧(qcells l)[i*4+2]? = some (.int .i64 l[i].due)∧(qcells l)[i*4+3]? = some (.int .i64 l[i].most)
 | q::t,0,_=>⟨rfl,rfl,rfl,rfl⟩
 | q::t,i+1,h=>by
  have e:=qcells_at t i (by simpa using h)
  have k:∀j,(qcells (q::t))[(i+1)*4+j]? = (qcells t)[i*4+j]?:=fun j=>by
   rw [qcells,show (i+1)*4+j=(qcell q).length+(i*4+j) by simp;omega,List.getElem?_append_right (by omega)]
   congr 1
   omega
  have k0:=k 0
  simp only [Nat.add_zero] at k0
  rw [k0,k 1,k 2,k 3]
  simpa using e
def QOwn (B:Nat) (w:World) (v:Value) (l:List Q):Prop:=w.ownsRow B 99 4 v l.length (qcells l)
theorem qown_empty (w:World):QOwn w.heap.size (w.alloc (.cells #[] 99)) (.slice (some ⟨w.heap.size,0,none⟩) 0 0) []:=
 ⟨rfl,.inr ⟨w.heap.size,0,#[],rfl,yJ _,by show (w.heap.push _)[w.heap.size]? = _;simp,yJ _,by unfold maxLen;omega,rfl,rfl⟩⟩
theorem QOwn.below {w w':World} {B:Nat} {v:Value} {l:List Q} (h:QOwn B w v l) (hb:Below w.heap.size w w'):QOwn B w' v l:=
 h.kept (grownBy_below (grownBy_refl w none) hb) (by by_cases e:v.ownBlock=none;exact .inl e;exact .inr e)
theorem QOwn.row {w:World} {B:Nat} {v:Value} {l:List Q} (h:QOwn B w v l):∃ao cap,v=.slice ao l.length cap∧QRow w ao l.length l∧l.length≤cap:=by
 rcases h.2 with ⟨rfl,h0⟩ | ⟨g,cap,cur,rfl,h1,h2,h3,h4,h5,h6⟩
 ·exact ⟨none,0,by rw [h0],⟨rfl,.inl h0⟩,by omega⟩
 ·refine ⟨some ⟨g,0,none⟩,cap,rfl,⟨rfl,.inr ⟨g,0,rfl,fun i hi=>?_⟩⟩,h3⟩
  obtain ⟨a,b,c,d⟩:=qcells_at l i hi
  have k:∀j (v:Value),j<l.length*4→(qcells l)[j]? = some v→w.cell? ⟨g,j,none⟩=some v:=fun j v hj hv=>by
   rw [←h6,List.getElem?_take_of_lt hj] at hv
   simp [World.cell?,h2]
   simpa using hv
  unfold QAt
  rw [Nat.zero_add]
  exact ⟨k _ _ (by omega) a,k _ _ (by omega) b,k _ _ (by omega) c,k _ _ (by omega) d⟩
theorem QOwn.some {w:World} {B:Nat} {v:Value} {l:List Q} (h:QOwn B w v l) (hl:l≠[]):∃g cap,v=.slice (some ⟨g,0,none⟩) l.length cap∧QAny w 99 g cap∧QRow w (some ⟨g,0,none⟩) l.length l∧l.length≤cap∧B≤g:=by
 obtain ⟨ao,cap,e,hr,hc⟩:=h.row
 rcases h.2 with ⟨rfl,h0⟩ | ⟨g,cap',cur,rfl,h1,h2,h3,h4,h5,h6⟩
 ·exact absurd (List.eq_nil_of_length_eq_zero h0) hl
 ·simp only [Value.slice.injEq] at e
  obtain ⟨rfl,_,rfl⟩:=e
  exact ⟨g,cap',rfl,⟨cur,h2,by omega,fun i hi=>absurd hi (by simp)⟩,hr,hc,h1⟩
theorem Tryz.infoQ:(Tryz.prog.info? 99).map (fun i=>(i.zero,i.size,i.bytes))=some (some (.agg #[.string ByteArray.empty,.string ByteArray.empty,.int .i64 0,.int .i64 0]),4,48):=by kernel_rfl
def AllReadyI (P:Program) (md:Region.Mode) (ops:Array Oper) (Q:Exit→Act→World→Prop) (S:World→Prop) (I:Nat→Array Bool→Act→World→Prop) (n:Nat) (listed:Array Bool) (a:Act) (w:World) (rs:List Nat):Prop:=
 ∀i ∈ rs,wpOp P ops Q i (fun a' w'=>S w'∧I n (listed.setIfInBounds i true) a' w') a w
theorem AllReadyI.nil {P:Program} {md:Region.Mode} {ops:Array Oper} {Q:Exit→Act→World→Prop} {S:World→Prop} {I:Nat→Array Bool→Act→World→Prop} {n:Nat} {listed:Array Bool} {a:Act} {w:World}:AllReadyI P md ops Q S I n listed a w []:=fun _ h=>by cases h
theorem AllReadyI.cons {P:Program} {md:Region.Mode} {ops:Array Oper} {Q:Exit→Act→World→Prop} {S:World→Prop} {I:Nat→Array Bool→Act→World→Prop} {n:Nat} {listed:Array Bool} {a:Act} {w:World} {i:Nat} {o:Oper} {rs:List Nat} (ho:ops[i]? = some o)
  (h:∀K':Act→World→Prop,Shut (∀a w,S w→I n (listed.setIfInBounds i true) a w→K' a w)→if Region.wanted o (yielded ops a.tmps)=true then Oper.wp P o a w K' Q else K' (a.put o.dst undef) w)
  (hs:AllReadyI P md ops Q S I n listed a w rs):AllReadyI P md ops Q S I n listed a w (i::rs):=fun j hj=>by
 rcases List.mem_cons.1 hj with rfl | hj
 ·exact wpOp_step ho (fun K' hK=>h K' (fun a w hS hW=>hK a w ⟨hS,hW⟩))
 ·exact hs j hj
theorem wpAnyH_inv {P:Program} {ops:Array Oper} {Q:Exit→Act→World→Prop} {md:Region.Mode} {S:World→Prop} (I:Nat→Array Bool→Act→World→Prop)
  (step:∀n listed a w,I (n+1) listed a w→Region.ready md ops listed≠[]∧AllReadyI P md ops Q S I n listed a w (Region.ready md ops listed))
  (fin:∀listed a w,I 0 listed a w→Region.ready md ops listed=[]∧Q .normal a w) :
  ∀n listed a w,I n listed a w→wpAnyH P md ops Q S n listed a w
 | 0,listed,a,w,h=>fin listed a w h
 | n+1,listed,a,w,h=>⟨fun e=>absurd e (step n listed a w h).1,fun i hi=>wpOp_mono (fun a' w' k=>⟨k.1,wpAnyH_inv I step fin n _ a' w' k.2⟩) ((step n listed a w h).2 i hi)⟩
theorem ready_step {P:Program} {ops:Array Oper} {Q:Exit→Act→World→Prop} {md:Region.Mode} {S:World→Prop} {I:Nat→Array Bool→Act→World→Prop} {n:Nat} {listed:Array Bool} {a:Act} {w:World} {rs:List Nat} (hr:Region.ready md ops listed=rs) (hne:rs≠[])
  (h:AllReadyI P md ops Q S I n listed a w rs):Region.ready md ops listed≠[]∧AllReadyI P md ops Q S I n listed a w (Region.ready md ops listed):=by
 subst hr
 exact ⟨hne,h⟩
end
section
open Go.RowKit Go.Sort
theorem map_enc (ps:List (List UInt8)):(ps.map bs).map Value.string=ps.map encStr:=by
 rw [List.map_map]
 apply List.map_congr_left
 intro a _
 rfl
theorem sort_any (g cap:Nat) (ps:List (List UInt8)) (w:World) (h:SS w g cap (ps.map bs)) (hl:ps.length≤2097152) :
  Calls Tryz.prog 85 #[.slice (some ⟨g,0,none⟩) ps.length cap] w fun e w'=>e=.returned (.tuple #[])∧SS w' g cap ((ps.mergeSort fun x y=>decide (x≤y)).map bs)∧w.grownBy w' (some g):=by
 obtain ⟨cur,h1,h2,h3,h4,h5⟩:=h.block
 rw [List.length_map] at h2 h5
 rw [map_enc] at h5
 refine (Tryz.slices_Sort_string g 0 cap ps w (holds_of_block h1 h5) h.lt (by omega)).mono ?_
 rintro e w' ⟨rfl,n,os,rfl⟩
 have hlen:(ps.mergeSort fun x y=>decide (x≤y)).length=ps.length:=List.length_mergeSort _
 refine ⟨rfl,?_,grownBy_sorted _⟩
 have:=ownsRow_sorted (n:=n) (os:=os) (ts:=ps.mergeSort fun x y=>decide (x≤y)) hlen (yJ g) h1 h2 h3 (by omega)
 unfold SS
 rw [List.length_map,hlen,map_enc]
 exact this
end
section
open Go.RowKit
def wpAnyX (P:Program) (md:Region.Mode) (ops:Array Oper) (Q:Exit→Act→World→Prop) (X:Nat) (S T:World→Prop):Nat→Array Bool→Act→World→Prop
 | 0,listed,a,w=>Region.ready md ops listed=[]∧Q .normal a w
 | fuel+1,listed,a,w=>(Region.ready md ops listed=[]→Q .normal a w)∧
  ∀i ∈ Region.ready md ops listed,wpOp P ops Q i (fun a' w'=>S w'∧((listed.setIfInBounds i true).getD X false=false→T w')∧wpAnyX P md ops Q X S T fuel (listed.setIfInBounds i true) a' w') a w
section
variable {P:Program} {ops:Array Oper} {Q:Exit→Act→World→Prop} {md:Region.Mode} {X:Nat} {S T:World→Prop}
theorem wpAny_of_x:∀(fuel:Nat) (listed:Array Bool) (a:Act) (w:World),wpAnyX P md ops Q X S T fuel listed a w→wpAny P md ops Q fuel listed a w
 | 0,_,_,_,h=>h
 | fuel+1,_,_,_,h=>⟨h.1,fun i hi=>wpOp_mono (fun a' w' h'=>wpAny_of_x fuel _ a' w' h'.2.2) (h.2 i hi)⟩
theorem wp_region_x {id:Nat} {a:Act} {w:World} (X:Nat) (S T:World→Prop) (hm:P.follows .mixedOrders=true) (h1:S w.drew) (h2:T w.drew)
  (h:S w.drew→T w.drew→wpAnyX P .any ops Q X S T ops.size (Array.replicate ops.size false) a w.drew):(Code.region id ops true).wp P Q a w:=
 wp_region_any hm (wpAny_of_x _ _ _ _ (h h1 h2))
theorem wpAnyX_on:∀(fuel:Nat) (listed:Array Bool) (a:Act) (w:World),listed.getD X false=true→wpAnyH P md ops Q S fuel listed a w→wpAnyX P md ops Q X S T fuel listed a w
 | 0,_,_,_,_,h=>h
 | fuel+1,_,_,_,hX,h=>⟨h.1,fun i hi=>wpOp_mono (fun a' w' h'=>⟨h'.1,(fun e=>by rw [getD_set_true hX] at e;cases e),wpAnyX_on fuel _ a' w' (getD_set_true hX) h'.2⟩) (h.2 i hi)⟩
theorem wpAnyX_first {i:Nat} {oi:Oper} {v:Value} {U:World→Prop} (hi:ops[i]? = some oi) (hsel:∀(j:Nat) (o:Oper) cs b,ops[j]? = some o→o.op≠.select cs b) (hXi:i≠X)
  (hQ:∀c a w,Q (.panic c) (a.put oi.dst v) w→Q (.panic c) a w)
  (c:Bool) (hU1:c=true→∀w,S w→U w) (hU2:c=false→(∀w,T w→U w)∧∃ox,ops[X]? = some ox∧∃e ∈ ox.after,Region.binds md e=true∧e.on=i) :
  ∀(fuel:Nat) (listed:Array Bool) (a:Act) (w:World),
   (∀j oj,ops[j]? = some oj→j≠i→listed.getD j true=false→(∀e ∈ oj.after,Region.binds md e=true→e.on≠i)→oi.apart ops oj=true)→
   i ∈ Region.ready md ops listed→YieldsIf P ops U oi v a→(c=false→listed.getD X false=false)→S w→(listed.getD X false=false→T w)→
   wpAnyX P md ops Q X S T fuel (listed.setIfInBounds i true) (a.put oi.dst v) w→wpAnyX P md ops Q X S T (fuel+1) listed a w:=by
 have hw:∀(listed:Array Bool) w,(c=false→listed.getD X false=false)→S w→(listed.getD X false=false→T w)→U w:=fun listed w h0 h1 h2=>by
  cases c
  ·exact (hU2 rfl).1 w (h2 (h0 rfl))
  ·exact hU1 rfl w h1
 intro fuel
 induction fuel with
 | zero=>
  intro listed a w _ hr hy hX h1 h2 H
  refine ⟨fun h=>(by rw [h] at hr;cases hr),fun j hj=>?_⟩
  by_cases hji:j=i
  ·subst hji;exact hy.wpOp hi (hw listed w hX h1 h2) ⟨h1,fun e=>h2 (by rwa [getD_set_ne false hXi] at e),H⟩
  ·have:=ready_mono hj hji
   rw [H.1] at this
   cases this
 | succ fuel ih=>
  intro listed a w hfree hr hy hX h1 h2 H
  refine ⟨fun h=>(by rw [h] at hr;cases hr),fun j hj=>?_⟩
  by_cases hji:j=i
  ·subst hji;exact hy.wpOp hi (hw listed w hX h1 h2) ⟨h1,fun e=>h2 (by rwa [getD_set_ne false hXi] at e),H⟩
  ·have k1:=H.2 j (ready_mono hj hji)
   obtain ⟨hjun,oj,hoj,hall⟩:=mem_ready.1 hj
   have hnot:∀e ∈ oj.after,Region.binds md e=true→e.on≠i:=fun e he hb heq=>by
    have q1:=hall e he hb
    have q0:=(mem_ready.1 hr).1
    rw [heq] at q1
    rcases Nat.lt_or_ge i listed.size with h' | h'
    ·simp [h'] at q0 q1;rw [q0] at q1;cases q1
    ·simp [Array.getElem?_eq_none h'] at q1
   have k2:=wpOp_putIf hoj (hfree j oj hoj hji hjun hnot) (fun cs b=>hsel i oi cs b hi) (fun cs b=>hsel j oj cs b hoj) hQ hy k1
   have hfree':∀k ok,ops[k]? = some ok→k≠i→(listed.setIfInBounds j true).getD k true=false→
     (∀e ∈ ok.after,Region.binds md e=true→e.on≠i)→oi.apart ops ok=true:=fun k ok hk hki hun hno=>by
    refine hfree k ok hk hki ?_ hno
    by_cases hjk:j=k
    ·subst hjk;exact hjun
    ·rw [getD_set_ne true hjk] at hun;exact hun
   refine wpOp_mono (fun a' w' h3=>?_) k2
   obtain ⟨y1,s1,t1,H1⟩:=h3
   rw [Array.setIfInBounds_comm _ _ (Ne.symm hji)] at H1
   have t2:(listed.setIfInBounds j true).getD X false=false→T w':=fun e=>by
    refine t1 ?_
    by_cases hjX:j=X
    ·subst hjX
     rw [Array.setIfInBounds_comm _ _ (Ne.symm hji),getD_set_ne false hXi]
     exact e
    ·rw [getD_set_ne false hjX,getD_set_ne false hXi]
     rw [getD_set_ne false hjX] at e
     exact e
   refine ⟨s1,t2,ih (listed.setIfInBounds j true) a' w' hfree' (ready_mono hr (Ne.symm hji)) y1 (fun hc=>?_) s1 t2 H1⟩
   have hjX:j≠X:=fun e=>by
    subst e
    obtain ⟨_,ox,hox,e,he,hb,heq⟩:=hU2 hc
    rw [hox] at hoj
    cases hoj
    exact hnot e he hb heq
   rw [getD_set_ne false hjX]
   exact hX hc
def waitsOn (md:Region.Mode) (ops:Array Oper) (X i:Nat):Bool:=((ops[X]?).map fun o=>o.after.any fun e=>Region.binds md e&&e.on==i).getD false
theorem waits_spec {i:Nat} (h:waitsOn md ops X i=true):∃ox,ops[X]? = some ox∧∃e ∈ ox.after,Region.binds md e=true∧e.on=i:=by
 unfold waitsOn at h
 cases ho:ops[X]? with
 | none=>rw [ho] at h;simp at h
 | some o=>
  rw [ho] at h
  simp only [Option.map_some,Option.getD_some] at h
  obtain ⟨e,he,hb⟩:=Array.any_eq_true'.1 h
  simp only [yK,beq_iff_eq] at hb
  exact ⟨o,rfl,e,he,hb.1,hb.2⟩
theorem takeXS {oi:Oper} {fuel:Nat} {listed:Array Bool} {a:Act} {w:World} (i d:Nat) (v:Value) (hi:ops[i]? = some oi) (hd:oi.dst=some d) (hS:S w) (hT:T w)
  (h:wpAnyX P md ops Q X S T fuel (listed.setIfInBounds i true) (a.put (some d) v) w)
  (hy:YieldsIf P ops S oi v a:=by exact Or.inl ⟨by rfl,fun wz hz=>by (go_simp;try with_reducible rfl)⟩)
  (hs:Region.noSelect ops=true:=by kernel_rfl) (hf:Region.free md ops listed i=true:=by kernel_rfl) (hr:(Region.ready md ops listed).contains i=true:=by kernel_rfl) (hX:(i != X)=true:=by kernel_rfl)
  (hQ:∀c a w,Q (.panic c) (a.put (some d) v) w→Q (.panic c) a w:=by exact fun _ _ _ h=>h):wpAnyX P md ops Q X S T (fuel+1) listed a w:=by
 rw [←hd] at h hQ
 exact wpAnyX_first hi (Region.noSelect_spec hs) (by simpa using hX) hQ true (fun _ _ h=>h) (fun e=>by cases e) fuel listed a w (Region.free_spec hi hf) (by simpa using hr) hy (fun e=>by cases e) hS (fun _=>hT) h
theorem takeXT {oi:Oper} {fuel:Nat} {listed:Array Bool} {a:Act} {w:World} (i d:Nat) (v:Value) (hi:ops[i]? = some oi) (hd:oi.dst=some d) (hS:S w) (hT:T w)
  (h:wpAnyX P md ops Q X S T fuel (listed.setIfInBounds i true) (a.put (some d) v) w)
  (hy:YieldsIf P ops T oi v a:=by exact Or.inl ⟨by rfl,fun wz hz=>by (go_simp;try with_reducible rfl)⟩)
  (hs:Region.noSelect ops=true:=by kernel_rfl) (hf:Region.free md ops listed i=true:=by kernel_rfl) (hr:(Region.ready md ops listed).contains i=true:=by kernel_rfl) (hX:(i != X)=true:=by kernel_rfl)
  (hw:waitsOn md ops X i=true:=by kernel_rfl) (hl:listed.getD X false=false:=by kernel_rfl)
  (hQ:∀c a w,Q (.panic c) (a.put (some d) v) w→Q (.panic c) a w:=by exact fun _ _ _ h=>h):wpAnyX P md ops Q X S T (fuel+1) listed a w:=by
 rw [←hd] at h hQ
 exact wpAnyX_first hi (Region.noSelect_spec hs) (by simpa using hX) hQ false (fun e=>by cases e) (fun _=>⟨fun _ h=>h,waits_spec hw⟩) fuel listed a w (Region.free_spec hi hf) (by simpa using hr) hy (fun _=>hl) hS (fun _=>hT) h
def AllReadyX (P:Program) (md:Region.Mode) (ops:Array Oper) (Q:Exit→Act→World→Prop) (X:Nat) (S T:World→Prop) (fuel:Nat) (listed:Array Bool) (a:Act) (w:World) (rs:List Nat):Prop:=
 ∀i ∈ rs,wpOp P ops Q i (fun a' w'=>S w'∧((listed.setIfInBounds i true).getD X false=false→T w')∧wpAnyX P md ops Q X S T fuel (listed.setIfInBounds i true) a' w') a w
theorem AllReadyX.nil {fuel:Nat} {listed:Array Bool} {a:Act} {w:World}:AllReadyX P md ops Q X S T fuel listed a w []:=fun _ h=>by cases h
theorem AllReadyX.cons {fuel:Nat} {listed:Array Bool} {a:Act} {w:World} {i:Nat} {o:Oper} {rs:List Nat} (ho:ops[i]? = some o)
  (h:∀K':Act→World→Prop,Shut (∀a w,S w→((listed.setIfInBounds i true).getD X false=false→T w)→wpAnyX P md ops Q X S T fuel (listed.setIfInBounds i true) a w→K' a w)→if Region.wanted o (yielded ops a.tmps)=true then Oper.wp P o a w K' Q else K' (a.put o.dst undef) w)
  (hs:AllReadyX P md ops Q X S T fuel listed a w rs):AllReadyX P md ops Q X S T fuel listed a w (i::rs):=fun j hj=>by
 rcases List.mem_cons.1 hj with rfl | hj
 ·exact wpOp_step ho (fun K' hK=>h K' (fun a w h1 h2 h3=>hK a w ⟨h1,h2,h3⟩))
 ·exact hs j hj
theorem wpAnyX_ready {fuel:Nat} {listed:Array Bool} {a:Act} {w:World} (rs:List Nat) (h:AllReadyX P md ops Q X S T fuel listed a w rs) (hr:Region.ready md ops listed=rs:=by kernel_rfl) (hne:(rs != [])=true:=by kernel_rfl):wpAnyX P md ops Q X S T (fuel+1) listed a w:=
 ⟨fun h0=>absurd (hr ▸ h0) (by simpa using hne),hr ▸ h⟩
theorem readyV {o:Oper} {a:Act} {w w':World} {K:Act→World→Prop} {v:Value} (d:Nat) (hw:Region.wanted o (yielded ops a.tmps)=true) (hd:o.dst=some d) (hr:(execOp a.eval o).run P w=.ok (.value v) w') (h:K (a.put (some d) v) w'):if Region.wanted o (yielded ops a.tmps)=true then Oper.wp P o a w K Q else K (a.put o.dst undef) w:=by
 rw [←hd] at h
 rw [if_pos hw]
 unfold Oper.wp
 rw [hr]
 exact h
theorem readyU {o:Oper} {a:Act} {w w':World} {K:Act→World→Prop} (hw:Region.wanted o (yielded ops a.tmps)=true) (hd:o.dst=none) (hr:(execOp a.eval o).run P w=.ok .skip w') (h:K (a.put none undef) w'):if Region.wanted o (yielded ops a.tmps)=true then Oper.wp P o a w K Q else K (a.put o.dst undef) w:=by
 rw [←hd] at h
 rw [if_pos hw]
 unfold Oper.wp
 rw [hr]
 exact h
end
section
variable {P:Program} {ops:Array Oper} {Q:Exit→Act→World→Prop} {a:Act} {w w':World} {rest:List Oper} {o:Oper} {v:Value} {d:Option Tmp}
theorem wpList_val (hg:o.guard=none) (hd:o.dst=d) (hr:(execOp a.eval o).run P w=.ok (.value v) w') (h:wpList P ops Q rest (a.put d v) w'):wpList P ops Q (o::rest) a w:=
 wpList_plain hg fun K hK=>by
  subst hd
  unfold Oper.wp
  rw [hr]
  exact hK _ _ h
theorem wpList_same (hg:o.guard=none) (hd:o.dst=d) (hr:(execOp a.eval o).run P w=.ok (.value v) w) (h:wpList P ops Q rest (a.put d v) w):wpList P ops Q (o::rest) a w:=wpList_val hg hd hr h
theorem wpList_none (hg:o.guard=none) (hd:o.dst=d) (hr:(execOp a.eval o).run P w=.ok .skip w') (h:wpList P ops Q rest (a.put d undef) w'):wpList P ops Q (o::rest) a w:=
 wpList_plain hg fun K hK=>by
  subst hd
  unfold Oper.wp
  rw [hr]
  exact hK _ _ h
theorem run_v {s:Sem Value} (h:s.run P w=.ok v w'):(do pure (Next.value (←s)):Sem Next).run P w=.ok (.value v) w':=by rw [Sem.run_bind,h];rfl
theorem run_u {s:Sem Unit} (h:s.run P w=.ok () w'):(do s;pure Next.skip:Sem Next).run P w=.ok .skip w':=by rw [Sem.run_bind,h];rfl
end
theorem put_cell {P:Program} {w:World} {b j:Nat} {arr:Array Value} {t:TypeId} (ty:TypeId) (v:Value) (h:Blk w b arr t) (hj:j<arr.size) (hi:(P.info? ty).map (·.size)=some 1) (h1:v.oneCell'=true) :
  (Instr.storeAt ty (.pointer (some ⟨b,j,none⟩)) v).run P w=.ok () (w.setCell ⟨b,j,none⟩ v):=by
 have c1:w.cell? ⟨b,j,none⟩=some arr[j]:=by rw [h.at];simp [hj]
 have f1:=h.f j
 have hs:=run_storeCells_cells (P:=P) b j [v] 0 w (fun i hi=>by simp at hi;subst hi;simp [c1]) (fun i hi=>by simp at hi;subst hi;simpa using f1) (fun u hu=>by simp at hu;subst hu;exact h1)
 simp only [Nat.add_zero] at hs
 have hc:v.cells=#[v]:=by cases v<;>first | rfl | cases h1
 cases hq:P.info? ty with
 | none=>simp [hq] at hi
 | some i=>
  have hz:i.size=1:=by simpa [hq] using hi
  simp [Instr.storeAt,Instr.sureAddr,storeVar,sizeOf,typeInfo,hq,hc,hz,hs]
  rfl
theorem blk_store {P:Program} {w:World} {b:Nat} {old arr:Array Value} {t:TypeId} (ty:TypeId) (h:Blk w b old t) (hi:(P.info? ty).map (·.size)=some arr.size) (ho:old.size=arr.size) (h1:arr.all (·.oneCell')=true) :
  (Instr.storeAt ty (.pointer (some ⟨b,0,none⟩)) (.agg arr)).run P w=.ok () (w.setRow b arr):=by
 simp only [Instr.storeAt,Instr.sureAddr,Sem.run_bind,Sem.run_pure,Result.andThen]
 exact run_storeVar_row w b t ty old arr h hi ho h1
theorem run_allocv {P:Program} (w:World) (t:TypeId) (z:Array Value) (hz:(P.info? t).map (·.zero)=some (some (.agg z))) :
  (Instr.alloc t true (.tuple #[])).run P w=.ok (.pointer (some ⟨w.heap.size,0,none⟩)) (w.alloc (.cells z t)):=by
 cases hq:P.info? t with
 | none=>simp [hq] at hz
 | some i=>
  have h:i.zero=some (.agg z):=by simpa [hq] using hz
  simp [Instr.alloc,zeroValue,typeInfo,hq,h,newVar,newRow,Value.cells,go_sem]
theorem state_load {w:World} {b:Nat} {arr:Array Value} (h:Blk w b arr 36) (hs:arr.size=8):(Instr.loadAt 36 (.pointer (some ⟨b,0,none⟩))).run Tryz.prog w=.ok (.agg arr) w:=by
 simp only [Instr.loadAt,Instr.sureAddr,Sem.run_bind,Sem.run_pure,Result.andThen]
 exact run_loadVar_row w b 36 36 arr (0,0) _ h Tryz.underlying36 rfl (by rw [show (Tryz.prog.info? 36).map (·.size)=some 8 by kernel_rfl,hs])
theorem resv_load {w:World} {b:Nat} {x y:Int} (h:Blk w b #[.int .i64 x,.int .i64 y] 52):(Instr.loadAt 52 (.pointer (some ⟨b,0,none⟩))).run Tryz.prog w=.ok (rv x y) w:=by
 simp only [Instr.loadAt,Instr.sureAddr,Sem.run_bind,Sem.run_pure,Result.andThen]
 exact run_loadVar_row w b 52 52 #[.int .i64 x,.int .i64 y] (0,0) _ h Tryz.underlying52 rfl (by rw [show (Tryz.prog.info? 52).map (·.size)=some 2 by kernel_rfl];rfl)
def HBk (w0:World) (L:List (Nat×Array Value×TypeId)) (wx:World):Prop:=
 (∀p ∈ L,Blk wx p.1 p.2.1 p.2.2)∧Below w0.heap.size w0 wx
theorem HBk.call {w0:World} {L:List (Nat×Array Value×TypeId)} {wx wy:World} (h:HBk w0 L wx) (hb:Below wx.heap.size wx wy):HBk w0 L wy:=⟨fun p hp=>(h.1 p hp).below hb,yB h.2 hb⟩
theorem HBk.drew {w0:World} {L:List (Nat×Array Value×TypeId)} {wx:World} (h:HBk w0 L wx):HBk w0 L wx.drew:=h.call (yH _ _).drew
theorem HBk.al {w0:World} {L:List (Nat×Array Value×TypeId)} {wx:World} (h:HBk w0 L wx) (o:Obj):HBk w0 L (wx.alloc o):=h.call (yA (yH _ _) o)
theorem HBk.set {w0:World} {L:List (Nat×Array Value×TypeId)} {wx:World} (h:HBk w0 L wx) (k j:Nat) (v:Value) (hk:w0.heap.size≤k) (hn:∀p ∈ L,p.1≠k):HBk w0 L (wx.setCell ⟨k,j,none⟩ v):=
 ⟨fun p hp=>(h.1 p hp).other k j v (hn p hp),yC h.2 _ _ _ hk⟩
theorem HBk.blk {w0:World} {L:List (Nat×Array Value×TypeId)} {wx:World} (h:HBk w0 L wx) {g:Nat} {c:Array Value} {t:TypeId} (hp:(g,c,t) ∈ L):Blk wx g c t:=h.1 _ hp
theorem HBk.cell {w0:World} {L:List (Nat×Array Value×TypeId)} {wx:World} (h:HBk w0 L wx) {b j:Nat} {v:Value} (hc:w0.cell? ⟨b,j,none⟩=some v):wx.cell? ⟨b,j,none⟩=some v:=(Below.cell h.2 (p:=⟨b,j,none⟩) (yG hc)).trans hc
theorem wpList_append_opt {P:Program} (w:World) {ops:Array Oper} {rest:List Oper} {o:Oper} {a:Act} {Q:Exit→Act→World→Prop} (hgd:o.guard=none) (s x:Operand) (t:TypeId)
  (ho:o.op=.call { callee:=.builtin .append,args:=#[s,x],argTypes:=#[t,t] })
  (base:Nat) (e:TypeId) (i:TypeInfo) (z:Value) (size bytes:Nat) (ht:P.underlying t=some (.slice e)) (hi:P.info? e=some i) (hz:i.zero=some z)
  (hsize:i.size=size) (hby:i.bytes=bytes) (hzs:z.cells.size=size) (hsz:0<size)
  (v:Value) (n:Nat) (xs:List Value) (hs:a.eval s=v) (hown:w.ownsRow base e size v n xs)
  (ao:Option Addr) (m c:Nat) (news:List Value) (hx:a.eval x=.slice ao m c) (hn:ao=none→m=0∧c=0) (hl:news.length=m*size) (hnews:∀ad,ao=some ad→∀j u,news[j]? = some u→w.cell? (ad.add j)=some u) (h1:∀u ∈ news,u.oneCell'=true)
  (h63:n+m≤maxLen) (hbytes:(n+m)*bytes≤140737488355328) (hbase:base≤w.heap.size)
  (h:∀v' w',w'.ownsRow base e size v' (n+m) (xs++news)→w.grownBy w' v.ownBlock→(v'=.slice none 0 0↔v=.slice none 0 0∧m=0)→wpList P ops Q rest (a.put o.dst v') w'):wpList P ops Q (o::rest) a w:=by
 cases ao with
 | some ad=>exact wpList_append_own w hgd s x t ho base e i z size bytes ht hi hz hsize hby hzs hsz v n xs hs hown ad m c news hx hl (hnews ad rfl) h1 h63 hbytes hbase h
 | none=>
  obtain ⟨rfl,rfl⟩:=hn rfl
  obtain rfl:news=[]:=List.eq_nil_of_length_eq_zero (by omega)
  refine wpList_append_own_none hgd s x t ho base e i size ht hi v n xs hs hown hx (h v w (by simpa using hown) ⟨rfl,rfl,rfl,yJ _,fun _ _ _=>rfl⟩ (by simp))
end
end Go.Proofs.YtokabeokclpljaaGreat
