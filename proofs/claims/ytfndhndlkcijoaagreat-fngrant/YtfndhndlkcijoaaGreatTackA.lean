/-
  Texts in one: Base, In, Grow, ResV, Res, RatioS, LessRatioS, FracI, ResI, PairI, Var4, HeapM, OrdM, HeapU, KeptV, HeldK, TakeD, StrS, SOwn, InsT, QV, QBlk, SzQ2, EqQ, TxtM, OpenQ, StAll, BothM, Both, ROwn, Caps, PlaceM, Place, QSum, All, NameS, QueuesOkM, PathM, TextsR, OrI, AddI, AddS, ShareS, OfM, WithM, WithinS, FitsM, IdxI, QBox, Digit, Name, UpM1, KpAB, ShareI, RatN, BlM, Held, CountI, SubI, DecM, MarkT, CelV, Cel, MarkFM, MarkFC, MarkAM, MarkA, MarkH, HeldQ, ScS, OwnM, OwnC, Clone, QOwn, CloneQ, CopyC, AppN, MarkX, IntS, WpL, StoC, RegX, TxtB, WithinI, HBk, InvR, StvO, SubS, Draw, Dec, SameW, Code.
-/
import Derived.Below
import Derived.Test.YtfndhndlkcijoaaGreatRows
import Derived.WalkKit
import Derived.WalkSpells
import Derived.WalkLawsBesides
import Derived.BigQuiet
import Derived.Deep.RegionHeld3
import Derived.Laws.AppendOwn
import Derived.Lib.ItoaMem
import Derived.Laws.MakeOwn
import Derived.ProofKit
import Derived.OpenShut
import Derived.ChangeSame
import Derived.Deep.Slices
import Derived.Deep.CutBlock
import Derived.Deep.CutRange
import Derived.Shelf.Abstract
import Derived.RangeFuncNested
import Derived.RangeFuncBound
import Derived.RangeFuncCalls
import Derived.RangeFuncLeaves
import Derived.Shelf.AbstractIn
import Derived.Shelf.RegionOpen
import Derived.OwnWalkIn
import Derived.TacticsInMore
import Derived.LoopNIn
import Derived.LoopIn
import Derived.Lib.ItoaLen
import Derived.Laws.IdiomStrings
import Derived.Deep.QuietTactic
import Derived.Deep.RegionWith
import Derived.Lib.SliceRun
import Derived.Test.YtfndhndlkcijoaaGreatShelf
import Derived.Laws.AppendOwnNone
import Derived.Deep.WholeRow
import Derived.Laws.Tables
import Derived.Deep.MidRow
import Derived.Great.BuildSlice
import Derived.Sort.Walk0
set_option maxRecDepth 100000
set_option maxHeartbeats 16000000
set_option linter.unusedVariables false
set_option linter.unusedSimpArgs false
open Go.Proofs.Tryz
namespace Go.Proofs.YtfndhndlkcijoaaGreat
section
open Go.RowKit
variable {a b d u v x y:Int} {g:Nat} {r:Option Nat} {p:Prop} {t:TypeId} {w w' w0 w1 w2:World}
theorem aA (h:p):Hid p:=h
theorem sA {α:Type _} (l : List α) (i : Nat) (a : α) : l.toArray.setIfInBounds i a = (l.set i a).toArray := List.setIfInBounds_toArray ..
theorem sB {α:Type _} (x : α) (l : List α) (a : α) : (x :: l).set 0 a = a :: l := rfl
theorem sC {α:Type _} (x : α) (l : List α) (n : Nat) (a : α) : (x :: l).set (n + 1) a = x :: l.set n a := rfl
theorem zW : (∀ (a : Act) (d : Nat) (v : Value), a.put (some d) v = { a with tmps := a.tmps.setIfInBounds d v }) ∧ (∀ (a : Act) (v : Value), a.put none v = a) ∧ (∀ {α : Type} (l : List α) (i : Nat) (a : α), l.toArray.setIfInBounds i a = (l.set i a).toArray) ∧ (∀ {α : Type} (x : α) (l : List α) (a : α), (x :: l).set 0 a = a :: l) ∧ (∀ {α : Type} (x : α) (l : List α) (n : Nat) (a : α), (x :: l).set (n + 1) a = x :: l.set n a) := ⟨fun _ _ _ => rfl, fun _ _ => rfl, fun _ _ _ => List.setIfInBounds_toArray .., fun _ _ _ => rfl, fun _ _ _ _ => rfl⟩
theorem yH (B : Nat) (w : World) : Below B w w := ⟨rfl, rfl, rfl, Nat.le.refl, fun _ _ => rfl⟩
theorem yJ (n : Nat) : n ≤ n := Nat.le.refl
theorem yK (a b : Bool) : ((a && b) = true) = (a = true ∧ b = true) := by cases a <;> cases b <;> simp
theorem yL [Decidable p] : (decide p = true) = p := propext (decide_eq_true_iff ..)
theorem yM {α:Type _} {l:List α} {n:Nat} (h : n < l.length) : l[n] ∈ l := List.mem_of_getElem rfl
abbrev Bw (w w':World):Prop:=Below w.heap.size w w'
abbrev cP:=Calls Tryz.prog
theorem uH (h:Hid p):p:=h
theorem yF {a b:Bool} (h:a=b):Ending.returned (.bool a)=.returned (.bool b):=by rw [h]
theorem jA {k:IntKind} (h:a=b):Ending.returned (.int k a)=.returned (.int k b):=by rw [h]
theorem aHB (c:UInt8):(c.toNat:Int)≤255:=by have:=c.toNat_lt;omega
def inB (x a b:Int):Bool:=decide (a≤x∧x≤b)
theorem dD (h1:a≤x) (h2:x≤b):inB x a b=true:=by simp [inB,h1,h2]
theorem bP (h:¬(a≤x∧x≤b)):inB x a b=false:=by simp only [inB,decide_eq_false_iff_not];exact h
theorem aFm {a b:ByteArray} (h:a=b):Value.string a=.string b:=by rw [h]
theorem aCl {a b:ByteArray} (h:a=b):Ending.returned (.string a)=.returned (.string b):=by rw [h]
def bs (l:List UInt8):ByteArray:=⟨l.toArray⟩
theorem cK (l:List UInt8):(bs l).size=l.length:=by simp [bs,ByteArray.size]
theorem aBH (c:UInt8) (l:List UInt8):(ByteArray.mk #[c])++bs l=bs (c::l):=by
 unfold bs;rw [ByteArray.mk_append_mk];simp
theorem aFi (s:ByteArray) (k:Nat) (h:k<s.size):s.data.toList.take (k+1)=s.data.toList.take k++[s[k]]:=by
 rw [List.take_succ_eq_append_getElem (by simpa using h)];rfl
theorem aA9 (s:ByteArray) (k:Nat) (h:s.size≤k):s.data.toList.take k=s.data.toList:=List.take_of_length_le (by simpa using h)
theorem aEC (s:ByteArray):s.data.toList.length=s.size:=by simp
theorem aV (x a b:Int) (w:World) :
  cP 64 #[.int .i64 x,.int .i64 a,.int .i64 b] w fun e w'=>e=.returned (.bool (inB x a b))∧w=w':=by
 by_cases h1:a≤x
 ·by_cases h2:x≤b
  ·(go_enter func64,ntmps64);go_wp2;go_ret;exact ⟨yF (dD h1 h2).symm,rfl⟩
  ·(go_enter func64,ntmps64);go_wp2;go_ret;exact ⟨yF (bP (by omega)).symm,rfl⟩
 ·go_enter func64,ntmps64
  go_wp2;go_ret;exact ⟨yF (bP (by omega)).symm,rfl⟩
theorem aD (w:World) (r:Option Nat):w.grownBy w r:=⟨rfl,rfl,rfl,yJ _,fun _ _ _=>rfl⟩
theorem bW (h:w.grownBy w1 r) (k:w1.grownBy w2 r):w.grownBy w2 r:=
 ⟨k.os.trans h.os,k.tape.trans h.tape,k.output.trans h.output,Nat.le_trans h.size k.size,fun i hi hn=>(k.block i (Nat.lt_of_lt_of_le hi h.size) hn).trans (h.block i hi hn)⟩
theorem aH (h:w.grownBy w1 r) (hb:Bw w1 w2):w.grownBy w2 r:=
 ⟨hb.os.trans h.os,hb.tape.trans h.tape,hb.output.trans h.output,Nat.le_trans h.size hb.size,fun k hk hn=>(hb.block k (Nat.lt_of_lt_of_le hk h.size)).trans (h.block k hk hn)⟩
theorem dP (h:w.grownBy w1 (some g)) (j:Nat) (v:Value):w.grownBy (w1.setCell ⟨g,j,none⟩ v) (some g):=
 ⟨h.os,h.tape,h.output,by simpa using h.size,fun k hk hn=>by
  rw [heap_setCell_other w1 ⟨g,j,none⟩ k v (fun e=>hn (by rw [e]))];exact h.block k hk hn⟩
theorem mR (h:w.grownBy w1 r) (n:Nat):w.grownBy (w1.drewN n) r:=aH h (below_drewN (yH _ _) n)
theorem jZ {B:Nat} {a:World} (h:Below B a w) (hg:w.grownBy w' (some g)) (hB:B≤w.heap.size) (hr:B≤g):Below B a w':=h.grown hg hB (fun k hk=>by cases hk;exact hr)
theorem yG {b o:Nat} {v:Value} (h:w.cell? ⟨b,o,none⟩=some v):b<w.heap.size:=
 Nat.lt_of_not_le (fun hle=>by simp [World.cell?,Array.getElem?_eq_none hle] at h)
abbrev rv (a b:Int):Value:=.agg #[.int .i64 a,.int .i64 b]
def aQ (a b:Int):Bool:=inB a 0 1000000000&&inB b 0 1000000000
theorem aZ (h:aQ a b=true):0≤a∧a≤1000000000∧0≤b∧b≤1000000000:=by
 simp only [aQ,inB,yK,yL] at h;omega
theorem yA (h:Bw w w1) (o:Obj):Bw w (w1.alloc o):=h.alloc h.size o
theorem yC (h:Bw w w1) (b j:Nat) (v:Value) (hb:w.heap.size≤b):Bw w (w1.setCell ⟨b,j,none⟩ v):=h.setCell hb v
theorem yB (h:Bw w w1) (k:Bw w1 w2):Bw w w2:=Below.trans h (k.mono h.size)
def Var (w:World) (t:TypeId) (g:Nat) (x y:Int):Prop:=w.heap[g]? = some (.cells #[.int .i64 x,.int .i64 y] t (0,0))
theorem Var.c0 (h:Var w t g x y):w.cell? ⟨g,0,none⟩=some (.int .i64 x):=by unfold Var at h;simp [World.cell?,h]
theorem Var.c1 (h:Var w t g x y):w.cell? ⟨g,1,none⟩=some (.int .i64 y):=by unfold Var at h;simp [World.cell?,h]
theorem Var.f (h:Var w t g x y) (j:Nat):w.frozen? ⟨g,j,none⟩=false:=by unfold Var at h;simp [World.frozen?,h]
theorem Var.lt (h:Var w t g x y):g<w.heap.size:=lt_of_block h
theorem Var.same (h:Var w t g x y) (e:w'.heap[g]? = w.heap[g]?):Var w' t g x y:=e.trans h
theorem Var.below (h:Var w t g x y) (hb:Bw w w'):Var w' t g x y:=(hb.block g h.lt).trans h
theorem aM (w:World) (t:TypeId) (x y:Int):Var (w.alloc (.cells #[.int .i64 x,.int .i64 y] t)) t w.heap.size x y:=by show (w.heap.push _)[w.heap.size]? = _;simp
theorem iB (w:World) (t u:TypeId) (a b x y:Int):Var ((w.alloc (.cells #[.int .i64 a,.int .i64 b] t)).alloc (.cells #[.int .i64 x,.int .i64 y] u)) u (w.heap.size+1) x y:=by
 have:=aM (w.alloc (.cells #[.int .i64 a,.int .i64 b] t)) u x y;simpa using this
theorem Var.s0 (h:Var w t g x y) (u:Value):(w.setCell ⟨g,0,none⟩ u).cell? ⟨g,0,none⟩=some u:=World.cell?_setCell_same w _ _ h.c0
theorem Var.s1 (h:Var w t g x y) (u v:Value):((w.setCell ⟨g,0,none⟩ u).setCell ⟨g,1,none⟩ v).cell? ⟨g,1,none⟩=some v:=by
 refine World.cell?_setCell_same _ _ _ (u:=.int .i64 y) ?_;have h1:=heap_setCell_same w g 0 _ _ u h;simp [World.cell?,h1]
theorem Var.set (h:Var w t g a b) (x y:Int):Var ((w.setCell ⟨g,0,none⟩ (.int .i64 x)).setCell ⟨g,1,none⟩ (.int .i64 y)) t g x y:=by
 have h1:=heap_setCell_same w g 0 _ _ (.int .i64 x) h;exact heap_setCell_same _ g 1 _ _ (.int .i64 y) h1
theorem Var.al (h:Var w t g x y) (o:Obj):Var (w.alloc o) t g x y:=h.below (yA (yH _ _) o)
theorem Var.drew (h:Var w t g x y):Var w.drew t g x y:=h
theorem Var.other (h:Var w t g x y) (k j:Nat) (v:Value) (hn:g≠k):Var (w.setCell ⟨k,j,none⟩ v) t g x y:=h.same (heap_setCell_other w ⟨k,j,none⟩ g v hn)
def Boxed (w0:World) (t:TypeId) (a b:Int) (wx:World):Prop:=Var wx t w0.heap.size a b∧Bw w0 wx
theorem Boxed.new (w0:World) (t:TypeId) (a b:Int):Boxed w0 t a b (w0.alloc (.cells #[.int .i64 a,.int .i64 b] t)):=⟨aM w0 t a b,yA (yH _ _) _⟩
theorem Boxed.call (h:Boxed w0 t a b w1) (hb:Bw w1 w2):Boxed w0 t a b w2:=⟨h.1.below hb,yB h.2 hb⟩
theorem Boxed.drew (h:Boxed w0 t a b w1):Boxed w0 t a b w1.drew:=h.call (yH _ _).drew
theorem Boxed.read (w0:World) (t:TypeId) (a b:Int):∀wx,Boxed w0 t a b wx→wx.cell? ⟨w0.heap.size,0,none⟩=some (.int .i64 a)∧wx.cell? ⟨w0.heap.size,1,none⟩=some (.int .i64 b):=fun wx h=>⟨h.1.c0,h.1.c1⟩
theorem aW (a b:Int) (w:World) :
  cP 127 #[rv a b] w fun e w'=>e=.returned (.bool (aQ a b))∧w'=w.alloc (.cells #[.int .i64 a,.int .i64 b] 33):=by
 cases h1:inB a 0 1000000000
 ·go_enter func127,ntmps127
  go_wp2_with (go_at_call 64;refine (aV _ _ _ _).mono ?_;rintro e w' ⟨rfl,rfl⟩)
  go_ret;exact ⟨yF (by simp [aQ,h1]),rfl⟩
 ·go_enter func127,ntmps127
  go_wp2_with (go_at_call 64;refine (aV _ _ _ _).mono ?_;rintro e w' ⟨rfl,rfl⟩)
  go_ret;exact ⟨yF (by simp [aQ,h1]),rfl⟩
theorem aAc (a b:Int) (w:World) :
  cP 127 #[rv a b] w fun e w'=>e=.returned (.bool (aQ a b))∧Bw w w':=
 (aW a b w).mono fun e w' h=>⟨h.1,by rw [h.2];exact yA (yH _ _) _⟩
def mK (u d:Int):Int×Int:=if 0<d then (u,d) else if 0<u then (1,0) else (0,1)
def less (a b c d:Int):Bool:=if b=0 then false else if d=0 then true else decide (a*d<c*b)
def fV (a b c d:Int):Int×Int:=if aQ a b&&aQ c d then (if less (mK a c).1 (mK a c).2 (mK b d).1 (mK b d).2 then mK b d else mK a c) else (0,1)
def jF (x:Int):Prop:=0≤x∧x≤1000000000
theorem qJ (ha:jF a) (hb:jF b):0≤a*b∧a*b≤1000000000000000000:=
 ⟨Int.mul_nonneg ha.1 hb.1,Int.le_trans (Int.mul_le_mul ha.2 hb.2 hb.1 (by decide)) (by decide)⟩
theorem kG (hu:jF u) (hd:jF d):jF (mK u d).1∧jF (mK u d).2:=by
 unfold mK jF at *;split
 ·exact ⟨hu,hd⟩
 ·split<;>simp
theorem eF (h:aQ a b=true):jF a∧jF b:=by
 have:=aZ h;exact ⟨⟨this.1,this.2.1⟩,this.2.2⟩
theorem kI (a b c d:Int):jF (fV a b c d).1∧jF (fV a b c d).2:=by
 unfold fV;split
 ·rename_i h;simp only [yK] at h;obtain ⟨s1,s2⟩:=eF h.1;obtain ⟨s3,s4⟩:=eF h.2;split
  ·exact kG s2 s4
  ·exact kG s1 s3
 ·exact ⟨by unfold jF;simp,by unfold jF;simp⟩
theorem tY (u d:Int) (w:World) :
  cP 213 #[.int .i64 u,.int .i64 d] w fun e w'=>e=.returned (.tuple #[.int .i64 (mK u d).1,.int .i64 (mK u d).2])∧w'=w:=by
 by_cases h1:0<d
 ·rw [show mK u d=(u,d) from if_pos h1];go_enter func213,ntmps213;go_wp2;go_ret2;exact ⟨rfl,rfl⟩
 ·by_cases h2:0<u
  ·rw [show mK u d=(1,0) by simp [mK,h1,h2]];(go_enter func213,ntmps213);go_wp2;(go_ret2);exact ⟨rfl,rfl⟩
  ·rw [show mK u d=(0,1) by simp [mK,h1,h2]];(go_enter func213,ntmps213);go_wp2;(go_ret2);exact ⟨rfl,rfl⟩
theorem nL (a b c d:Int) (w:World) (ha:jF a) (hb:jF b) (hc:jF c) (hd:jF d) :
  cP 177 #[.int .i64 a,.int .i64 b,.int .i64 c,.int .i64 d] w fun e w'=>e=.returned (.bool (less a b c d))∧w'=w:=by
 obtain ⟨m1,m2⟩:=qJ ha hd;obtain ⟨m3,m4⟩:=qJ hc hb;by_cases h1:b=0
 ·rw [show less a b c d=false from if_pos h1];go_enter func177,ntmps177;go_wp2;go_ret;exact ⟨rfl,rfl⟩
 ·by_cases h2:d=0
  ·rw [show less a b c d=true by simp [less,h1,h2]];(go_enter func177,ntmps177);go_wp2;go_ret;exact ⟨rfl,rfl⟩
  ·rw [show less a b c d=decide (a*d<c*b) by simp [less,h1,h2]];(go_enter func177,ntmps177);go_wp2;go_ret;exact ⟨rfl,rfl⟩
theorem qH (a b c d:Int) (w:World) :
  cP 176 #[rv a b,rv c d] w fun e w'=>e=.returned (.tuple #[.int .i64 (fV a b c d).1,.int .i64 (fV a b c d).2])∧Bw w w':=by
 cases h1:aQ a b
 ·rw [show fV a b c d=(0,1) by simp [fV,h1]];go_enter func176,ntmps176;go_wp2_with (go_at_call 127;refine (aW _ _ _).mono ?_;rintro e w' ⟨rfl,rfl⟩);go_ret2
  refine ⟨rfl,?_⟩;repeat (first | exact yH _ _ | refine yA ?_ _ | refine Below.drew ?_ | refine yC ?_ _ _ _ (by omega))
 ·cases h2:aQ c d
  ·rw [show fV a b c d=(0,1) by simp [fV,h2]];(go_enter func176,ntmps176);(go_wp2_with (go_at_call 127;refine (aW _ _ _).mono ?_;rintro e w' ⟨rfl,rfl⟩));(go_ret2);refine ⟨rfl,?_⟩;repeat (first | exact yH _ _ | refine yA ?_ _ | refine Below.drew ?_ | refine yC ?_ _ _ _ (by omega))
  ·obtain ⟨s1,s2⟩:=eF h1;obtain ⟨s3,s4⟩:=eF h2;obtain ⟨p1,p2⟩:=kG s1 s3;obtain ⟨p3,p4⟩:=kG s2 s4;cases h3:less (mK a c).1 (mK a c).2 (mK b d).1 (mK b d).2
   ·rw [show fV a b c d=mK a c by simp [fV,h1,h2,h3]];(go_enter func176,ntmps176);(go_wp2_with (first | (go_at_call 127;refine (aW _ _ _).mono ?_;rintro e w' ⟨rfl,rfl⟩) | (go_at_call 213;refine (tY _ _ _).mono ?_;rintro e w' ⟨rfl,rfl⟩) | (go_at_call 177;refine (nL _ _ _ _ _ p1 p2 p3 p4).mono ?_;rintro e w' ⟨rfl,rfl⟩)));(go_ret2);refine ⟨rfl,?_⟩;repeat (first | exact yH _ _ | refine yA ?_ _ | refine Below.drew ?_ | refine yC ?_ _ _ _ (by omega))
   ·rw [show fV a b c d=mK b d by simp [fV,h1,h2,h3]];(go_enter func176,ntmps176);(go_wp2_with (first | (go_at_call 127;refine (aW _ _ _).mono ?_;rintro e w' ⟨rfl,rfl⟩) | (go_at_call 213;refine (tY _ _ _).mono ?_;rintro e w' ⟨rfl,rfl⟩) | (go_at_call 177;refine (nL _ _ _ _ _ p1 p2 p3 p4).mono ?_;rintro e w' ⟨rfl,rfl⟩)));(go_ret2);refine ⟨rfl,?_⟩;repeat (first | exact yH _ _ | refine yA ?_ _ | refine Below.drew ?_ | refine yC ?_ _ _ _ (by omega))
def pW (a b c d e f g h:Int):Bool:=less (fV a b c d).1 (fV a b c d).2 (fV e f g h).1 (fV e f g h).2
theorem lQ (a b c d e f g h:Int) (w:World) :
  cP 122 #[rv a b,rv c d,rv e f,rv g h] w fun o w'=>o=.returned (.bool (pW a b c d e f g h))∧Bw w w':=by
 obtain ⟨p1,p2⟩:=kI a b c d;obtain ⟨p3,p4⟩:=kI e f g h;have V3:=((aM ((w.alloc (.cells #[.int .i64 a,.int .i64 b] 33)).alloc (.cells #[.int .i64 c,.int .i64 d] 33)) 33 e f).al (.cells #[.int .i64 g,.int .i64 h] 33));have V4:=aM (((w.alloc (.cells #[.int .i64 a,.int .i64 b] 33)).alloc (.cells #[.int .i64 c,.int .i64 d] 33)).alloc (.cells #[.int .i64 e,.int .i64 f] 33)) 33 g h;have QO:=aA V3;have PY:=aA V4;clear V3 V4;go_enter func122,ntmps122;go_wp2_with fail;refine (qH _ _ _ _ _).mono ?_;rintro o w1 ⟨rfl,hb⟩;have V3:=(uH QO).below hb;have V4:=(uH PY).below hb;simp at V3 V4;have a1:=V3.c0;have a2:=V3.c1;have a3:=V4.c0;have a4:=V4.c1;have HB:=aA (yB (yA (yA (yA (yA (yH _ _) _) _) _) _) hb);clear hb QO PY V3 V4;go_wp2_with fail;refine (qH _ _ _ _ _).mono ?_;rintro o w2 ⟨rfl,hb⟩;have HB2:=aA (yB (uH HB) hb);clear hb HB a1 a2 a3 a4;go_wp2_with fail;refine (nL _ _ _ _ _ p1 p2 p3 p4).mono ?_;rintro o w3 ⟨rfl,rfl⟩;go_wp2;go_ret;exact ⟨rfl,uH HB2⟩
abbrev fv (p:Int×Int):Value:=rv p.1 p.2
def aJu (x y:Int):Prop:=jF x∧jF y∧(y=0→x=1)
theorem qO (hu:jF u) (hd:jF d):aJu (mK u d).1 (mK u d).2:=by
 refine ⟨(kG hu hd).1,(kG hu hd).2,?_⟩;unfold mK;split
 ·intro h;simp at h;omega
 ·split<;>simp
theorem zZ (a b c d:Int):aJu (fV a b c d).1 (fV a b c d).2:=by
 unfold fV;split
 ·rename_i h;simp only [yK] at h;obtain ⟨s1,s2⟩:=eF h.1;obtain ⟨s3,s4⟩:=eF h.2;split
  ·exact qO s2 s4
  ·exact qO s1 s3
 ·exact ⟨by unfold jF;simp,by unfold jF;simp,by simp⟩
theorem aEt {c:Int} (h1:aJu a b) (h2:aJu c d):less a b c d=decide (a*d<c*b):=by
 obtain ⟨⟨a0,a1⟩,⟨b0,b1⟩,k1⟩:=h1;obtain ⟨⟨c0,c1⟩,⟨d0,d1⟩,k2⟩:=h2;unfold less;split
 ·rename_i hb;subst hb;rw [k1 rfl];simp;omega
 ·split
  ·rename_i hb hd;subst hd;rw [k2 rfl];simp;omega
  ·rfl
theorem pG (u d:Int) (w:World) :
  cP 214 #[.int .i64 u,.int .i64 d] w fun e w'=>e=.returned (fv (mK u d))∧Bw w w':=by
 by_cases h1:0<d
 ·rw [show mK u d=(u,d) from if_pos h1];go_enter func214,ntmps214;go_wp2;refine bodyPost_ret (v:=rv u d) (by simp [results,results214,go_sem]) rfl ⟨rfl,?_⟩;repeat (first | exact yH _ _ | refine yA ?_ _ | refine Below.drew ?_ | refine yC ?_ _ _ _ (by omega))
 ·by_cases h2:0<u
  ·rw [show mK u d=(1,0) by simp [mK,h1,h2]];(go_enter func214,ntmps214);go_wp2;refine bodyPost_ret (v:=rv 1 0) (by simp [results,results214,go_sem]) rfl ⟨rfl,?_⟩;repeat (first | exact yH _ _ | refine yA ?_ _ | refine Below.drew ?_ | refine yC ?_ _ _ _ (by omega))
  ·rw [show mK u d=(0,1) by simp [mK,h1,h2]];(go_enter func214,ntmps214);go_wp2;refine bodyPost_ret (v:=rv 0 1) (by simp [results,results214,go_sem]) rfl ⟨rfl,?_⟩;repeat (first | exact yH _ _ | refine yA ?_ _ | refine Below.drew ?_ | refine yC ?_ _ _ _ (by omega))
theorem uN (a b c d:Int) (w:World) (h1:aJu a b) (h2:aJu c d) :
  cP 130 #[rv a b,rv c d] w fun e w'=>e=.returned (.bool (less a b c d))∧Bw w w':=by
 obtain ⟨m1,m2⟩:=qJ h1.1 h2.2.1;obtain ⟨m3,m4⟩:=qJ h2.1 h1.2.1;rw [aEt h1 h2];clear h1 h2;go_enter func130,ntmps130;go_wp2;go_ret;refine ⟨rfl,?_⟩;repeat (first | exact yH _ _ | refine yA ?_ _ | refine Below.drew ?_ | refine yC ?_ _ _ _ (by omega))
abbrev pv (a b c d:Int):Value:=.agg #[.int .i64 a,.int .i64 b,.int .i64 c,.int .i64 d]
theorem nP (n:Int) (w:World) :
  cP 136 #[.int .i64 n] w fun e w'=>e=.returned (.bool (inB n 0 1000000000))∧w=w':=by
 by_cases h1:0≤n
 ·by_cases h2:n≤1000000000
  ·(go_enter func136,ntmps136);go_wp2;go_ret;exact ⟨yF (dD h1 h2).symm,rfl⟩
  ·(go_enter func136,ntmps136);go_wp2;go_ret;exact ⟨yF (bP (by omega)).symm,rfl⟩
 ·go_enter func136,ntmps136
  go_wp2;go_ret;exact ⟨yF (bP (by omega)).symm,rfl⟩
theorem qR (a b:Int) (w:World) :
  cP 150 #[rv a b] w fun e w'=>e=.returned (.bool (aQ a b))∧w'=w.alloc (.cells #[.int .i64 a,.int .i64 b] 33):=by
 cases h1:inB a 0 1000000000
 ·go_enter func150,ntmps150
  go_wp2_with (go_at_call 136;refine (nP _ _).mono ?_;rintro e w' ⟨rfl,rfl⟩)
  go_ret;exact ⟨yF (by simp [aQ,h1]),rfl⟩
 ·go_enter func150,ntmps150
  go_wp2_with (go_at_call 136;refine (nP _ _).mono ?_;rintro e w' ⟨rfl,rfl⟩)
  go_ret;exact ⟨yF (by simp [aQ,h1]),rfl⟩
theorem aIm (a b:Int) (w:World) :
  cP 150 #[rv a b] w fun e w'=>e=.returned (.bool (aQ a b))∧Bw w w':=
 (qR a b w).mono fun e w' h=>⟨h.1,by rw [h.2];exact yA (yH _ _) _⟩
theorem oK (a b c d:Int) (w:World) :
  cP 88 #[pv a b c d] w fun e w'=>e=.returned (.bool (aQ a b&&aQ c d))∧Bw w w':=by
 cases h1:aQ a b
 ·go_enter func88,ntmps88
  go_wp2_with (go_at_call 150;refine (qR _ _ _).mono ?_;rintro e w' ⟨rfl,rfl⟩)
  go_ret;refine ⟨rfl,?_⟩;repeat (first | exact yH _ _ | refine yA ?_ _ | refine Below.drew ?_ | refine yC ?_ _ _ _ (by omega))
 ·go_enter func88,ntmps88
  go_wp2_with (go_at_call 150;refine (qR _ _ _).mono ?_;rintro e w' ⟨rfl,rfl⟩)
  go_ret;refine ⟨rfl,?_⟩;repeat (first | exact yH _ _ | refine yA ?_ _ | refine Below.drew ?_ | refine yC ?_ _ _ _ (by omega))
def qF (w:World) (t:TypeId) (g:Nat) (x y u v:Int):Prop:=w.heap[g]? = some (.cells #[.int .i64 x,.int .i64 y,.int .i64 u,.int .i64 v] t (0,0))
theorem qF.c0 (h:qF w t g x y u v):w.cell? ⟨g,0,none⟩=some (.int .i64 x):=by unfold qF at h;simp [World.cell?,h]
theorem qF.c1 (h:qF w t g x y u v):w.cell? ⟨g,1,none⟩=some (.int .i64 y):=by unfold qF at h;simp [World.cell?,h]
theorem qF.c2 (h:qF w t g x y u v):w.cell? ⟨g,2,none⟩=some (.int .i64 u):=by unfold qF at h;simp [World.cell?,h]
theorem qF.c3 (h:qF w t g x y u v):w.cell? ⟨g,3,none⟩=some (.int .i64 v):=by unfold qF at h;simp [World.cell?,h]
theorem qF.lt (h:qF w t g x y u v):g<w.heap.size:=lt_of_block h
theorem qF.same (h:qF w t g x y u v) (e:w'.heap[g]? = w.heap[g]?):qF w' t g x y u v:=e.trans h
theorem qF.below (h:qF w t g x y u v) (hb:Bw w w'):qF w' t g x y u v:=(hb.block g h.lt).trans h
theorem qF.al (h:qF w t g x y u v) (o:Obj):qF (w.alloc o) t g x y u v:=h.below (yA (yH _ _) o)
theorem vG (w:World) (t:TypeId) (x y u v:Int):qF (w.alloc (.cells #[.int .i64 x,.int .i64 y,.int .i64 u,.int .i64 v] t)) t w.heap.size x y u v:=by show (w.heap.push _)[w.heap.size]? = _;simp
theorem qF.grown {row:Option Nat} (h:qF w t g x y u v) (hg:w.grownBy w' row) (hne:some g≠row):qF w' t g x y u v:=(hg.block g h.lt hne).trans h
theorem Var.grown' {row:Option Nat} (h:Var w t g x y) (hg:w.grownBy w' row) (hne:some g≠row):Var w' t g x y:=(hg.block g h.lt hne).trans h
end
end Go.Proofs.YtfndhndlkcijoaaGreat
namespace Go.Proofs.YtfndhndlkcijoaaGreat.HeapM
variable {α:Type} (le:α→α→Prop) (d:α)
def at' (l:List α) (k:Nat):α:=l.getD k d
def swapL (l:List α) (i j:Nat):List α:=(l.set i (l.getD j d)).set j (l.getD i d)
theorem swap_len (l:List α) (i j:Nat):(swapL d l i j).length=l.length:=by simp [swapL]
theorem vT (l:List α) (i j k:Nat) (hi:i<l.length) (hj:j<l.length):at' d (swapL d l i j) k=if k=j then at' d l i else if k=i then at' d l j else at' d l k:=by
 unfold at' swapL;simp only [List.getD_eq_getElem?_getD,List.getElem?_set,List.length_set];by_cases h1:k=j
 ·subst h1;simp [hj]
 ·by_cases h2:k=i
  ·subst h2;simp [h1,hi,Ne.symm h1]
  ·simp [h1,h2,Ne.symm h1,Ne.symm h2]
theorem swap_perm (l:List α) (i j:Nat) (hi:i<l.length) (hj:j<l.length):(swapL d l i j).Perm l:=by
 have h:=Array.swap_perm (xs:=l.toArray) (i:=i) (j:=j) (by simpa using hi) (by simpa using hj);have e:(l.toArray.swap i j (by simpa using hi) (by simpa using hj)).toList=swapL d l i j:=by apply List.ext_getElem?;intro k;unfold swapL;simp [Array.swap,List.getElem?_set,List.getD_eq_getElem?_getD,hi,hj]
 have h2:=h.toList;rw [e] at h2;simpa using h2
def par (k:Nat):Nat:=(k - 1) / 2
theorem par_lt {k:Nat} (h:0<k):par k<k:=by unfold par;omega
def Heap (n:Nat) (l:List α):Prop:=∀k,0<k→k<n→le (at' d l (par k)) (at' d l k)
def aHT (n:Nat) (l:List α) (j:Nat):Prop:=
 (∀k,0<k→k<n→k≠j→le (at' d l (par k)) (at' d l k))∧(∀k,0<k→k<n→par k=j→0<j→le (at' d l (par j)) (at' d l k))
def yI (n:Nat) (l:List α) (i:Nat):Prop:=
 (∀k,0<k→k<n→par k≠i→le (at' d l (par k)) (at' d l k))∧(∀k,0<k→k<n→par k=i→0<i→le (at' d l (par i)) (at' d l k))
structure Order:Prop where
 trans:∀x y z,le x y→le y z→le x z
 total:∀x y,le x y∨le y x
variable {le d}
theorem Order.refl (O:Order le) (x:α):le x x:=(O.total x x).elim id id
theorem aFe {n:Nat} {l:List α} {j:Nat} (h:aHT le d n l j) (hj:j=0∨le (at' d l (par j)) (at' d l j)):Heap le d n l:=fun k h0 h1=>by
 by_cases e:k=j
 ·subst e;rcases hj with h | h
  ·omega
  ·exact h
 ·exact h.1 k h0 h1 e
theorem aIz (O:Order le) {n:Nat} {l:List α} {j:Nat} (hn:n≤l.length) (h:aHT le d n l j) (h0:0<j) (h1:j<n) (hb:le (at' d l j) (at' d l (par j))):aHT le d n (swapL d l (par j) j) (par j):=by
 have hp:=par_lt h0;have hsw:=fun k=>vT d l (par j) j k (by omega) (by omega)
 refine ⟨fun k k0 k1 kn=>?_,fun k k0 k1 kp p0=>?_⟩
 ·rw [hsw,hsw];by_cases e:k=j
  ·subst e;rw [if_pos rfl,if_neg (by omega),if_pos rfl];exact hb
  ·rw [if_neg e,if_neg kn];have hkp:=par_lt k0;by_cases e1:par k=j
   ·rw [if_pos e1];exact h.2 k k0 k1 e1 h0
   ·rw [if_neg e1];by_cases e2:par k=par j
    ·rw [if_pos e2];have:=h.1 k k0 k1 e;rw [e2] at this;exact O.trans _ _ _ hb this
    ·rw [if_neg e2];exact h.1 k k0 k1 e
 ·rw [hsw,hsw];have hpp:=par_lt p0;rw [if_neg (by omega),if_neg (by omega)];have hg:=h.1 (par j) p0 (by omega) (by omega);by_cases e:k=j
  ·subst e;rw [if_pos rfl];exact hg
  ·rw [if_neg e];have hkp:=par_lt k0;rw [if_neg (by omega)];have:=h.1 k k0 k1 e;rw [kp] at this;exact O.trans _ _ _ hg this
theorem aHc {n:Nat} {l:List α} (h:Heap le d n l):aHT le d (n+1) l n:=by
 refine ⟨fun k h0 h1 hn=>h k h0 (by omega),fun k h0 h1 hk _=>?_⟩;have:=par_lt h0;omega
theorem aAQ {n:Nat} {l l':List α} (h:Heap le d n l) (e:∀k,k<n→at' d l' k=at' d l k):Heap le d n l':=fun k h0 h1=>by
 rw [e _ (by have:=par_lt h0;omega),e _ h1];exact h k h0 h1
theorem aCL {n:Nat} {l:List α} {i:Nat} (h:yI le d n l i) (hk:∀k,0<k→k<n→par k=i→le (at' d l i) (at' d l k)):Heap le d n l:=fun k h0 h1=>by
 by_cases e:par k=i
 ·rw [e];exact hk k h0 h1 e
 ·exact h.1 k h0 h1 e
theorem aGr (O:Order le) {n:Nat} {l:List α} {i j:Nat} (hn:n≤l.length) (h:yI le d n l i) (h0:0<j) (h1:j<n) (hj:par j=i) (hb:le (at' d l j) (at' d l i)) (hmin:∀k,0<k→k<n→par k=i→le (at' d l j) (at' d l k)):yI le d n (swapL d l i j) j:=by
 have hp:=par_lt h0;have hsw:=fun k=>vT d l i j k (by omega) (by omega)
 refine ⟨fun k k0 k1 kn=>?_,fun k k0 k1 kp p0=>?_⟩
 ·have hkp:=par_lt k0;rw [hsw,hsw,if_neg kn];by_cases e:k=j
  ·subst e;rw [if_pos rfl,if_pos hj];exact hb
  ·rw [if_neg e];by_cases e1:par k=i
   ·rw [if_pos e1];rw [if_neg (by omega)];exact hmin k k0 k1 e1
   ·rw [if_neg e1];by_cases e2:k=i
    ·rw [if_pos e2];subst e2;exact h.2 j h0 h1 hj k0
    ·rw [if_neg e2];exact h.1 k k0 k1 e1
 ·have hkp:=par_lt k0;rw [hsw,hsw,hj,if_neg (by omega),if_pos rfl,if_neg (by omega),if_neg (by omega)];have:=h.1 k k0 k1 (by omega);rw [kp] at this;exact this
theorem aFH {n:Nat} {l l':List α} (h:Heap le d n l) (m:Nat) (hm:m≤n) (e:∀k,0<k→k<m→at' d l' k=at' d l k):yI le d m l' 0:=by
 refine ⟨fun k h0 h1 hn=>?_,fun k h0 h1 hk hz=>by omega⟩;have:=par_lt h0;rw [e _ (by omega) (by omega),e k h0 h1];exact h k h0 (by omega)
theorem aIN (O:Order le) {n:Nat} {l:List α} (h:Heap le d n l):∀k,k<n→le (at' d l 0) (at' d l k):=by
 intro k
 induction k using Nat.strongRecOn with
 | _ k ih=>
  intro hk;by_cases e:k=0
  ·subst e;exact O.refl _
  ·have hp:=par_lt (k:=k) (by omega);exact O.trans _ _ _ (ih _ hp (by omega)) (h k (by omega) hk)
theorem aDr {i k:Nat} (h:0<k):par k=i↔k=2*i+1∨k=2*i+2:=by unfold par;omega
def Sorted (le:α→α→Prop):List α→Prop
 | []=>True
 | x::t=>(∀y ∈ t,le x y)∧Sorted le t
theorem sorted_unique (anti:∀x y,le x y→le y x→x=y):∀(a b:List α),Sorted le a→Sorted le b→a.Perm b→a=b
 | [],b,_,_,h=>h.nil_eq
 | x::t,[],_,_,h=>by simpa using h.length_eq
 | x::t,y::u,ha,hb,h=>by
  have hx:x ∈ y::u:=h.subset (by simp);have hy:y ∈ x::t:=h.symm.subset (by simp);have e:x=y:=by
   rcases List.mem_cons.1 hx with h1 | h1
   ·exact h1
   ·rcases List.mem_cons.1 hy with h2 | h2
    ·exact h2.symm
    ·exact anti _ _ (ha.1 y h2) (hb.1 x h1)
  subst e;have:=sorted_unique anti t u ha.2 hb.2 ((List.perm_cons x).1 h);rw [this]
theorem sorted_snoc:∀(a:List α) (x:α),Sorted le a→(∀y ∈ a,le y x)→Sorted le (a++[x])
 | [],x,_,_=>⟨by simp,trivial⟩
 | y::t,x,h,hx=>by
  refine ⟨fun z hz=>?_,sorted_snoc t x h.2 (fun z hz=>hx z (by simp [hz]))⟩;rcases List.mem_append.1 hz with h1 | h1
  ·exact h.1 z h1
  ·simp at h1;subst h1;exact hx y (by simp)
theorem aGD (O:Order le) {l l':List α} (hl:0<l.length) (hh:Heap le d l.length l) (hp:l'.Perm (swapL d l 0 (l.length - 1))) (Qk:at' d l' (l.length - 1)=at' d l 0) (hq:Heap le d (l.length - 1) l') :
  Heap le d (l.length - 1) (l'.take (l.length - 1))∧(l'.take (l.length - 1)++[at' d l 0]).Perm l∧∀x ∈ l'.take (l.length - 1),le (at' d l 0) x:=by
 have hpl:l'.Perm l:=hp.trans (swap_perm d l 0 (l.length - 1) (by omega) (by omega));have Gq:l'.length=l.length:=hpl.length_eq;have YI:l'=l'.take (l.length - 1)++[at' d l 0]:=by
  conv=>lhs;rw [←List.take_append_drop (l.length - 1) l']
  congr 1
  have h1:l'.drop (l.length - 1)=[l'[l.length - 1]'(by omega)]:=by rw [List.drop_eq_getElem_cons (by omega),List.drop_of_length_le (by omega)]
  rw [h1,←Qk];unfold at';rw [List.getD_eq_getElem?_getD,List.getElem?_eq_getElem (by omega)];rfl
 refine ⟨aAQ hq (fun k hk=>?_),by rw [←YI];exact hpl,fun x hx=>?_⟩
 ·unfold at';rw [List.getD_eq_getElem?_getD,List.getD_eq_getElem?_getD,List.getElem?_take_of_lt hk]
 ·have hm:x ∈ l:=hpl.subset (List.mem_of_mem_take hx);obtain ⟨k,hk,e⟩:=List.mem_iff_getElem.1 hm;have:=aIN O hh k hk;unfold at' at this;rw [List.getD_eq_getElem?_getD (i:=k),List.getElem?_eq_getElem hk] at this;rw [←e];exact this
end Go.Proofs.YtfndhndlkcijoaaGreat.HeapM
namespace Go.Proofs.YtfndhndlkcijoaaGreat.OrdM
variable {β:Type} (lt:β→β→Bool) (nl:List UInt8→List UInt8→Bool)
def ahead (x y:List UInt8×β):Bool:=lt x.2 y.2||(!lt y.2 x.2&&nl x.1 y.1)
structure Weak:Prop where
 irr:∀a,lt a a=false
 asym:∀a b,lt a b=true→lt b a=false
 ntrans:∀a b c,lt b a=false→lt c b=false→lt c a=false
structure Names:Prop where
 irr:∀a,nl a a=false
 trans:∀a b c,nl a b=true→nl b c=true→nl a c=true
 tri:∀a b,nl a b=false→a≠b→nl b a=true
variable {lt nl}
theorem Names.asym (N:Names nl) {a b:List UInt8} (h:nl a b=true):nl b a=false:=by
 cases hb:nl b a with
 | false=>rfl
 | true=>have:=N.trans _ _ _ h hb;rw [N.irr] at this;exact absurd this (by simp)
theorem Names.ntrans (N:Names nl) {a b c:List UInt8} (h:nl b a=false) (k:nl c b=false):nl c a=false:=by
 cases hc:nl c a with
 | false=>rfl
 | true=>
  by_cases e:b=a
  ·subst e;rw [hc] at k;exact absurd k (by simp)
  ·have h1:=N.tri _ _ h e;have h2:=N.trans _ _ _ hc h1;rw [h2] at k;exact absurd k (by simp)
theorem ahead_asym (W:Weak lt) (N:Names nl) {x y:List UInt8×β} (h:ahead lt nl x y=true):ahead lt nl y x=false:=by
 unfold ahead at *;simp only [Bool.or_eq_true,yK,Bool.not_eq_true',Bool.or_eq_false_iff,Bool.and_eq_false_iff,Bool.not_eq_false'] at *;rcases h with h | ⟨h1,h2⟩
 ·exact ⟨W.asym _ _ h,.inl h⟩
 ·exact ⟨h1,.inr (N.asym h2)⟩
theorem ahead_ntrans (W:Weak lt) (N:Names nl) {x y z:List UInt8×β} (h:ahead lt nl y x=false) (k:ahead lt nl z y=false):ahead lt nl z x=false:=by
 unfold ahead at *;simp only [Bool.or_eq_false_iff,Bool.and_eq_false_iff,Bool.not_eq_false'] at *;obtain ⟨h1,h2⟩:=h;obtain ⟨k1,k2⟩:=k;refine ⟨W.ntrans _ _ _ h1 k1,?_⟩;cases hx:lt x.2 z.2 with
 | true=>exact .inl rfl
 | false=>
  right
  have hxy:lt x.2 y.2=false:=by
   cases e:lt x.2 y.2 with
   | false=>rfl
   | true=>have:=W.ntrans _ _ _ k1 hx;rw [this] at e;exact absurd e (by simp)
  have hyz:lt y.2 z.2=false:=by
   cases e:lt y.2 z.2 with
   | false=>rfl
   | true=>have:=W.ntrans _ _ _ hx h1;rw [this] at e;exact absurd e (by simp)
  rw [hxy] at h2;rw [hyz] at k2;exact N.ntrans (h2.resolve_left (by simp)) (k2.resolve_left (by simp))
theorem ahead_anti (W:Weak lt) (N:Names nl) {x y:List UInt8×β} (h:ahead lt nl y x=false) (k:ahead lt nl x y=false):x.1=y.1:=by
 unfold ahead at *;simp only [Bool.or_eq_false_iff,Bool.and_eq_false_iff,Bool.not_eq_false'] at *;obtain ⟨h1,h2⟩:=h;obtain ⟨k1,k2⟩:=k;have a1:=h2.resolve_left (by rw [k1];simp);have a2:=k2.resolve_left (by rw [h1];simp);apply Classical.byContradiction;intro e;have:=N.tri _ _ a2 e;rw [a1] at this;exact absurd this (by simp)
def ins {α:Type} (p:α→α→Bool) (x:α):List α→List α
 | []=>[x]
 | y::t=>if p y x=true then y::ins p x t else x::y::t
theorem ins_perm {α:Type} (p:α→α→Bool) (x:α):∀l:List α,(ins p x l).Perm (x::l)
 | []=>List.Perm.refl _
 | y::t=>by
  unfold ins;split
  ·exact ((ins_perm p x t).cons y).trans (List.Perm.swap x y t)
  ·exact List.Perm.refl _
theorem ins_sorted {α:Type} {p:α→α→Bool} (asym:∀a b,p a b=true→p b a=false) (nt:∀a b c,p b a=false→p c b=false→p c a=false) (x:α):∀l:List α,HeapM.Sorted (fun a b=>p b a=false) l→HeapM.Sorted (fun a b=>p b a=false) (ins p x l)
 | [],_=>⟨by simp,trivial⟩
 | y::t,h=>by
  unfold ins;split
  ·rename_i hp;refine ⟨fun z hz=>?_,ins_sorted asym nt x t h.2⟩;rcases List.mem_cons.1 ((ins_perm p x t).subset hz) with e | e
   ·subst e;exact asym _ _ hp
   ·exact h.1 z e
  ·rename_i hp;(have hp':p y x=false:=by simpa using hp);refine ⟨fun z hz=>?_,h⟩;rcases List.mem_cons.1 hz with e | e
   ·subst e;exact hp'
   ·exact nt _ _ _ hp' (h.1 z e)
end Go.Proofs.YtfndhndlkcijoaaGreat.OrdM
namespace Go.Proofs.YtfndhndlkcijoaaGreat.HeapM
def upL {α:Type} (d:α) (ah:α→α→Bool):Nat→List α→Nat→List α
 | 0,l,_=>l
 | n+1,l,j=>if j=0 then l else if ah (at' d l j) (at' d l (par j))=true then upL d ah n (swapL d l (par j) j) (par j) else l
theorem aD8 {α:Type} (d:α) (ah:α→α→Bool):∀(n m:Nat) (l:List α) (j:Nat),j<n→j<m→upL d ah n l j=upL d ah m l j
 | n+1,m+1,l,j,h1,h2=>by
  rw [upL,upL];by_cases h0:j=0
  ·rw [if_pos h0,if_pos h0]
  ·rw [if_neg h0,if_neg h0];have hp:=par_lt (k:=j) (by omega);rw [aD8 d ah n m _ _ (by omega) (by omega)]
def aAp {α:Type} (d:α) (ah:α→α→Bool) (n:Nat) (l:List α) (i:Nat):Nat:=if 2*i+2<n∧ah (at' d l (2*i+2)) (at' d l (2*i+1))=true then 2*i+2 else 2*i+1
def l5 {α:Type} (d:α) (ah:α→α→Bool) (n:Nat):Nat→List α→Nat→List α
 | 0,l,_=>l
 | f+1,l,i=>if n≤2*i+1 then l else if ah (at' d l (aAp d ah n l i)) (at' d l i)=true then l5 d ah n f (swapL d l i (aAp d ah n l i)) (aAp d ah n l i) else l
theorem aG6 {α:Type} {d:α} {ah:α→α→Bool} {n:Nat} {l:List α} {i:Nat} (h:¬n≤2*i+1):i<aAp d ah n l i∧aAp d ah n l i<n:=by unfold aAp;split<;>omega
theorem oP {α:Type} (d:α) (ah:α→α→Bool) (n:Nat):∀(f m:Nat) (l:List α) (i:Nat),n - i<f→n - i<m→l5 d ah n f l i=l5 d ah n m l i
 | f+1,m+1,l,i,h1,h2=>by
  rw [l5,l5];by_cases h0:n≤2*i+1
  ·rw [if_pos h0,if_pos h0]
  ·rw [if_neg h0,if_neg h0];have hk:=aG6 (d:=d) (ah:=ah) (l:=l) h0;rw [oP d ah n f m _ _ (by omega) (by omega)]
variable {α:Type} {le:α→α→Prop} {d:α} {ah:α→α→Bool}
theorem aD7 (O:Order le) (h1:∀x y,ah x y=true→le x y) (h2:∀x y,ah x y=false→le y x) (n:Nat):∀(f:Nat) (l:List α) (j:Nat),j<f→j<n→n≤l.length→aHT le d n l j→Heap le d n (upL d ah f l j)∧(upL d ah f l j).Perm l
 | f+1,l,j,hf,hj,hn,hu=>by
  rw [upL];by_cases h0:j=0
  ·rw [if_pos h0];exact ⟨aFe hu (Or.inl h0),List.Perm.refl _⟩
  ·rw [if_neg h0];have hp:=par_lt (k:=j) (by omega);by_cases hb:ah (at' d l j) (at' d l (par j))=true
   ·rw [if_pos hb];have:=aD7 O h1 h2 n f (swapL d l (par j) j) (par j) (by omega) (by omega) (by rw [swap_len];exact hn) (aIz O hn hu (by omega) hj (h1 _ _ hb));exact ⟨this.1,this.2.trans (swap_perm d l (par j) j (by omega) (by omega))⟩
   ·rw [if_neg hb];exact ⟨aFe hu (Or.inr (h2 _ _ (by simpa using hb))),List.Perm.refl _⟩
theorem aJ3 {n:Nat} {l:List α} {i:Nat}:par (aAp d ah n l i)=i:=by unfold aAp par;split<;>omega
theorem aJ4 (O:Order le) (h1:∀x y,ah x y=true→le x y) (h2:∀x y,ah x y=false→le y x) {n:Nat} {l:List α} {i:Nat}:∀k,0<k→k<n→par k=i→le (at' d l (aAp d ah n l i)) (at' d l k):=fun k k0 k1 kp=>by
 unfold aAp;rcases (aDr k0).1 kp with e | e<;>subst e<;>split
 ·next h=>exact h1 _ _ h.2
 ·exact O.refl _
 ·exact O.refl _
 ·next h=>exact h2 _ _ (by simpa [k1] using h)
theorem aAT (O:Order le) (h1:∀x y,ah x y=true→le x y) (h2:∀x y,ah x y=false→le y x) (n:Nat):∀(f:Nat) (l:List α) (i:Nat),n - i<f→n≤l.length→yI le d n l i→Heap le d n (l5 d ah n f l i)∧(l5 d ah n f l i).Perm l∧∀k,n≤k→at' d (l5 d ah n f l i) k=at' d l k
 | f+1,l,i,hf,hn,hu=>by
  rw [l5];by_cases h0:n≤2*i+1
  ·rw [if_pos h0];exact ⟨aCL hu (fun k k0 k1 kp=>by have:=(aDr k0).1 kp;omega),List.Perm.refl _,fun _ _=>rfl⟩
  ·rw [if_neg h0];have hk:=aG6 (d:=d) (ah:=ah) (l:=l) h0;have hm:=aJ4 (d:=d) (l:=l) (n:=n) (i:=i) O h1 h2;have hp:=aJ3 (d:=d) (ah:=ah) (l:=l) (n:=n) (i:=i);by_cases hb:ah (at' d l (aAp d ah n l i)) (at' d l i)=true
   ·rw [if_pos hb];have:=aAT O h1 h2 n f (swapL d l i (aAp d ah n l i)) (aAp d ah n l i) (by omega) (by rw [swap_len];exact hn) (aGr O hn hu (by omega) hk.2 hp (h1 _ _ hb) hm);refine ⟨this.1,this.2.1.trans (swap_perm d l _ _ (by omega) (by omega)),fun k h=>?_⟩;rw [this.2.2 k h,vT d l _ _ _ (by omega) (by omega),if_neg (by omega),if_neg (by omega)]
   ·rw [if_neg hb];exact ⟨aCL hu (fun k k0 k1 kp=>O.trans _ _ _ (h2 _ _ (by simpa using hb)) (hm k k0 k1 kp)),List.Perm.refl _,fun _ _=>rfl⟩
theorem push_heap (O:Order le) (h1:∀x y,ah x y=true→le x y) (h2:∀x y,ah x y=false→le y x) (l:List α) (x:α) (h:Heap le d l.length l):Heap le d (l.length+1) (upL d ah (l.length+1) (l++[x]) l.length)∧(upL d ah (l.length+1) (l++[x]) l.length).Perm (l++[x]):=by
 refine aD7 O h1 h2 _ _ _ _ (by omega) (by omega) (by simp) (aHc (aAQ h (fun k hk=>?_)));unfold at';simp [List.getD_eq_getElem?_getD,List.getElem?_append_left hk]
def popL (d:α) (ah:α→α→Bool) (l:List α):List α:=l5 d ah (l.length - 1) (l.length - 1+1) (swapL d l 0 (l.length - 1)) 0
theorem pop_heap (O:Order le) (h1:∀x y,ah x y=true→le x y) (h2:∀x y,ah x y=false→le y x) (l:List α) (hl:0<l.length) (h:Heap le d l.length l) :
  at' d (popL d ah l) (l.length - 1)=at' d l 0∧Heap le d (l.length - 1) ((popL d ah l).take (l.length - 1))∧((popL d ah l).take (l.length - 1)++[at' d l 0]).Perm l∧∀x ∈ (popL d ah l).take (l.length - 1),le (at' d l 0) x:=by
 have hd:=aAT (d:=d) O h1 h2 (l.length - 1) (l.length - 1+1) (swapL d l 0 (l.length - 1)) 0 (by omega) (by rw [swap_len];omega) (aFH h (l.length - 1) (by omega) (fun k k0 k1=>by rw [vT d l _ _ _ (by omega) (by omega),if_neg (by omega),if_neg (by omega)]));have Qk:at' d (popL d ah l) (l.length - 1)=at' d l 0:=by unfold popL;rw [hd.2.2 _ (yJ _),vT d l _ _ _ (by omega) (by omega),if_pos rfl]
 exact ⟨Qk,aGD O hl h hd.2.1 Qk hd.1⟩
end Go.Proofs.YtfndhndlkcijoaaGreat.HeapM
namespace Go.Proofs.YtfndhndlkcijoaaGreat
section
open Go.RowKit
variable {a:Act} {listed:Array Bool} {ops:Array Oper} {arr c:Array Value} {ps:List (List UInt8)} {o xs:List ByteArray} {B b cap fuel g gb i j k n p r sz:Nat} {oi:Oper} {ao:Option Addr} {P:Program} {E t:TypeId} {a0 a1 a2 a3 a4 v:Value} {w w' w0 w1 wx:World} {S:World→Prop}
def Blk (w:World) (g:Nat) (arr:Array Value) (t:TypeId):Prop:=w.heap[g]? = some (.cells arr t (0,0))
theorem Blk.lt (h:Blk w g arr t):g<w.heap.size:=lt_of_block h
theorem Blk.below (h:Blk w g arr t) (hb:Bw w w'):Blk w' g arr t:=(hb.block g h.lt).trans h
theorem Blk.at (h:Blk w g arr t) (j:Nat):w.cell? ⟨g,j,none⟩=arr[j]?:=by
 unfold Blk at h;simp [World.cell?,h]
theorem Blk.f (h:Blk w g arr t) (j:Nat):w.frozen? ⟨g,j,none⟩=false:=by
 unfold Blk at h;simp [World.frozen?,h]
theorem Blk.al (h:Blk w g arr t) (o:Obj):Blk (w.alloc o) g arr t:=h.below (yA (yH _ _) o)
theorem Blk.drew (h:Blk w g arr t):Blk w.drew g arr t:=h
theorem Blk.set (h:Blk w g arr t) (j:Nat) (v:Value):Blk (w.setCell ⟨g,j,none⟩ v) g (arr.setIfInBounds j v) t:=heap_setCell_same w g j _ _ v h
theorem Blk.other (h:Blk w g arr t) (k j:Nat) (v:Value) (hn:g≠k):Blk (w.setCell ⟨k,j,none⟩ v) g arr t:=(heap_setCell_other w ⟨k,j,none⟩ g v hn).trans h
theorem yD (w:World) (arr:Array Value) (t:TypeId):Blk (w.alloc (.cells arr t)) w.heap.size arr t:=by show (w.heap.push _)[w.heap.size]? = _;simp
theorem yE (w:World) (o:Obj):(w.alloc o).heap.size=w.heap.size+1:=by show (w.heap.push _).size=_;simp
theorem vN (h:Bw w w1) (n:Nat):Bw w (w1.drewN n):=by
 induction n with
 | zero=>exact h
 | succ n ih=>exact ih.drew
theorem bV (w:World) (a:Addr) (v:Value):(w.setCell a v).heap.size=w.heap.size:=by unfold World.setCell;simp
theorem zq {a5 a6 a7:Value} (h:Blk w b #[a0,a1,a2,a3,a4,a5,a6,a7] t):w.cell? ⟨b,0,none⟩=some a0∧w.cell? ⟨b,1,none⟩=some a1∧w.cell? ⟨b,2,none⟩=some a2∧w.cell? ⟨b,3,none⟩=some a3∧w.cell? ⟨b,4,none⟩=some a4∧w.cell? ⟨b,5,none⟩=some a5∧w.cell? ⟨b,6,none⟩=some a6∧w.cell? ⟨b,7,none⟩=some a7:=⟨h.at 0,h.at 1,h.at 2,h.at 3,h.at 4,h.at 5,h.at 6,h.at 7⟩
theorem zp (h:Blk w b #[a0,a1,a2,a3,a4] t):w.cell? ⟨b,0,none⟩=some a0∧w.cell? ⟨b,1,none⟩=some a1∧w.cell? ⟨b,2,none⟩=some a2∧w.cell? ⟨b,3,none⟩=some a3∧w.cell? ⟨b,4,none⟩=some a4:=⟨h.at 0,h.at 1,h.at 2,h.at 3,h.at 4⟩
structure aC6 (S:World→Prop) (w0:World) (n:Nat):Prop where
 call:∀{wx wy:World},S wx→Bw wx wy→S wy
 set:∀{wx:World} (k j:Nat) (v:Value),S wx→n≤k→S (wx.setCell ⟨k,j,none⟩ v)
 size:∀{wx:World},S wx→n≤wx.heap.size
 below:∀{wx:World},S wx→Bw w0 wx
theorem aC6.drew (h:aC6 S w0 n) (hs:S wx):S wx.drew:=h.call hs (yH _ _).drew
theorem aC6.al (h:aC6 S w0 n) (hs:S wx) (o:Obj):S (wx.alloc o):=h.call hs (yA (yH _ _) o)
theorem aC6.set2 (h:aC6 S w0 n) (hs:S wx) (k:Nat) (a b:Value) (hk:n≤k):S ((wx.setCell ⟨k,0,none⟩ a).setCell ⟨k,1,none⟩ b):=h.set k 1 b (h.set k 0 a hs hk) hk
def Kp (w1 wx:World):Prop:=Bw w1 wx
theorem aL (w1:World):aC6 (Kp w1) w1 w1.heap.size where
 call:=fun h hb=>yB h hb
 set:=fun k j v h hk=>yC h _ _ _ hk
 size:=fun h=>h.size
 below:=fun h=>h
theorem Kp.cell (h:Kp w1 wx) (hc:w1.cell? ⟨b,j,none⟩=some v):wx.cell? ⟨b,j,none⟩=some v:=(Below.cell h (p:=⟨b,j,none⟩) (yG hc)).trans hc
theorem Kp.new (w1:World):Kp w1 w1:=yH _ _
theorem aHd {Q:Exit→Act→World→Prop} {md:Region.Mode} {d:Option Tmp} (hi:ops[i]? = some oi) (hd:oi.dst=d)
  (hs:Region.noSelect ops=true) (hf:Region.free md ops listed i=true) (hr:(Region.ready md ops listed).contains i=true)
  (hQ:∀c a w,Q (.panic c) (a.put d v) w→Q (.panic c) a w) (hy:YieldsIf P ops S oi v a) (hS:S w)
  (h:wpAnyH P md ops Q S fuel (listed.setIfInBounds i true) (a.put d v) w):wpAnyH P md ops Q S (fuel+1) listed a w:=by
 subst hd;exact wpAnyH_take hi hs hf hr hQ hy hS h
theorem aKn {Q:Exit→Act→World→Prop} {md:Region.Mode} (i d:Nat) (hi:ops[i]? = some oi) (hd:oi.dst=some d) (hS:S w)
  (h:wpAnyH P md ops Q S fuel (listed.setIfInBounds i true) (a.put (some d) undef) w)
  (hs:Region.noSelect ops=true:=by kernel_rfl) (hf:Region.free md ops listed i=true:=by kernel_rfl) (hr:(Region.ready md ops listed).contains i=true:=by kernel_rfl)
  (hQ:∀c a w,Q (.panic c) (a.put (some d) undef) w→Q (.panic c) a w:=by exact fun _ _ _ h=>h) (hw:Region.wanted oi (yielded ops a.tmps)=false:=by kernel_rfl):wpAnyH P md ops Q S (fuel+1) listed a w:=
 aHd hi hd hs hf hr hQ (Or.inr ⟨hw,rfl⟩) hS h
theorem aP {Q:Exit→Act→World→Prop} {md:Region.Mode} (i d:Nat) (v:Value) (hi:ops[i]? = some oi) (hd:oi.dst=some d) (hS:S w)
  (h:wpAnyH P md ops Q S fuel (listed.setIfInBounds i true) (a.put (some d) v) w)
  (hs:Region.noSelect ops=true:=by kernel_rfl) (hf:Region.free md ops listed i=true:=by kernel_rfl) (hr:(Region.ready md ops listed).contains i=true:=by kernel_rfl)
  (hQ:∀c a w,Q (.panic c) (a.put (some d) v) w→Q (.panic c) a w:=by exact fun _ _ _ h=>h) (hy:YieldsIf P ops S oi v a:=by exact Or.inl ⟨by rfl,fun wz hz=>by (go_simp;try with_reducible rfl)⟩):wpAnyH P md ops Q S (fuel+1) listed a w:=
 aHd hi hd hs hf hr hQ hy hS h
theorem tW {Q:Exit→Act→World→Prop} {md:Region.Mode} (i d:Nat) (v:Value) (hS:S w) (h:wpAnyH P md ops Q S fuel (listed.setIfInBounds i true) (a.put (some d) v) w) (hi:ops[i]? = some oi:=by rfl) (hd:oi.dst=some d:=by rfl) (hs:Region.noSelect ops=true:=by kernel_rfl) (hf:Region.free md ops listed i=true:=by kernel_rfl) (hr:(Region.ready md ops listed).contains i=true:=by kernel_rfl) (hQ:∀c a w,Q (.panic c) (a.put (some d) v) w→Q (.panic c) a w:=by exact fun _ _ _ h=>h) (hy:YieldsIf P ops S oi v a:=by exact Or.inl ⟨by rfl,fun wz hz=>by (go_simp;try with_reducible rfl)⟩):wpAnyH P md ops Q S (fuel+1) listed a w:=aP i d v hi hd hS h hs hf hr hQ hy
theorem tU {Q:Exit→Act→World→Prop} {md:Region.Mode} (i d:Nat) (hS:S w) (h:wpAnyH P md ops Q S fuel (listed.setIfInBounds i true) (a.put (some d) undef) w) (hi:ops[i]? = some oi:=by rfl) (hd:oi.dst=some d:=by rfl) (hs:Region.noSelect ops=true:=by kernel_rfl) (hf:Region.free md ops listed i=true:=by kernel_rfl) (hr:(Region.ready md ops listed).contains i=true:=by kernel_rfl) (hQ:∀c a w,Q (.panic c) (a.put (some d) undef) w→Q (.panic c) a w:=by exact fun _ _ _ h=>h) (hw:Region.wanted oi (yielded ops a.tmps)=false:=by kernel_rfl):wpAnyH P md ops Q S (fuel+1) listed a w:=aKn i d hi hd hS h hs hf hr hQ hw
def SS (w:World) (g cap:Nat) (xs:List ByteArray):Prop:=w.ownsRow g 9 1 (.slice (some ⟨g,0,none⟩) xs.length cap) xs.length (xs.map Value.string)
theorem SS.cell (h:SS w g cap xs) (j:Nat) (hj:j<xs.length):w.cell? ⟨g,j,none⟩=some (.string xs[j]):=by
 have:=World.ownsRow.cellAt h j (by omega);rw [this];simp [hj]
theorem SS.frozen (h:SS w g cap xs) (j:Nat):w.frozen? ⟨g,j,none⟩=false:=World.ownsRow.frozenAt h j
theorem SS.block (h:SS w g cap xs):∃cur,w.heap[g]? = some (.cells cur 9 (0,0))∧xs.length≤cap∧cap≤maxLen∧cur.size=cap∧cur.toList.take xs.length=xs.map Value.string:=by
 rcases h.2 with ⟨h1,_⟩ | ⟨g',cap',cur,h1,_,h2,h3,h4,h5,h6⟩
 ·simp at h1
 ·simp only [Value.slice.injEq,Option.some.injEq,Addr.mk.injEq,and_true,true_and] at h1;obtain ⟨rfl,rfl⟩:=h1;exact ⟨cur,h2,h3,h4,by simpa using h5,by simpa using h6⟩
theorem SS.mk {cur:Array Value} (h:w.heap[g]? = some (.cells cur 9 (0,0))) (h1:xs.length≤cap) (h2:cap≤maxLen) (h3:cur.size=cap) (h4:cur.toList.take xs.length=xs.map Value.string):SS w g cap xs:=
 ⟨by simp,.inr ⟨g,cap,cur,rfl,yJ _,h,h1,h2,by simpa using h3,by simpa using h4⟩⟩
theorem SS.lt (h:SS w g cap xs):g<w.heap.size:=by
 obtain ⟨cur,h1,_⟩:=h.block;exact lt_of_block h1
theorem SS.same (h:SS w g cap xs) (hg:w'.heap[g]? = w.heap[g]?):SS w' g cap xs:=by
 obtain ⟨cur,h1,h2,h3,h4,h5⟩:=h.block;exact SS.mk (hg.trans h1) h2 h3 h4 h5
theorem SS.below (h:SS w g cap xs) (hb:Below B w w') (hg:g<B):SS w' g cap xs:=h.same (hb.block g hg)
theorem SS.set (h:SS w g cap xs) (j:Nat) (hj:j<xs.length) (x:ByteArray):SS (w.setCell ⟨g,j,none⟩ (.string x)) g cap (xs.set j x):=by
 obtain ⟨cur,h1,h2,h3,h4,h5⟩:=h.block;refine SS.mk (heap_setCell_same w g j cur _ _ h1) (by simpa using h2) h3 (by simpa using h4) ?_;rw [List.length_set,Array.toList_setIfInBounds,List.take_set,h5,List.map_set]
abbrev iP (o:List ByteArray):List Value:=o.map Value.string
theorem Tryz.infoS:(Tryz.prog.info? 9).map (fun i=>(i.zero,i.size,i.bytes))=some (some (.string .empty),1,16):=by kernel_rfl
theorem zV (w:World):(w.alloc (.cells #[] 9)).ownsRow w.heap.size 9 1 (.slice (some ⟨w.heap.size,0,none⟩) 0 0) ([]:List ByteArray).length (iP []):=
 ⟨rfl,.inr ⟨w.heap.size,0,#[],rfl,yJ _,by show (w.heap.push _)[w.heap.size]? = _;simp,yJ _,by unfold maxLen;omega,rfl,rfl⟩⟩
theorem aBW {wr:World} {v':Value} {x:ByteArray} {ob:Obj} (hb:Below B w wr) (Hq:wr.ownsRow B 9 1 v o.length (iP o))
  (h1:w1.ownsRow B 9 1 v' (o.length+1) (iP o++[.string x])) (hg:(wr.alloc ob).grownBy w1 v.ownBlock) (hB:B≤wr.heap.size) :
  w1.ownsRow B 9 1 v' (o++[x]).length (iP (o++[x]))∧Below B w w1:=by
 refine ⟨by simpa [iP] using h1,(hb.alloc hB ob).grown hg (by simp;omega) ?_⟩;intro k hk;rcases Hq.2 with ⟨rfl,_⟩ | ⟨g,cap,cur,rfl,hg',_⟩
 ·simp [Value.ownBlock] at hk
 ·simp [Value.ownBlock] at hk;omega
theorem zU (h:w.ownsRow B 9 1 v o.length (iP o)) (ho:1≤o.length):∃g cap,v=.slice (some ⟨g,0,none⟩) o.length cap∧SS w g cap o∧B≤g:=by
 rcases h.2 with ⟨_,h0⟩ | ⟨g,cap,cur,rfl,h1,h2,h3,h4,h5,h6⟩
 ·omega
 ·exact ⟨g,cap,rfl,SS.mk h2 h3 h4 (by simpa using h5) (by simpa using h6),h1⟩
theorem lS (h:w.ownsRow B 9 1 v o.length (iP o)) (hb:Bw w w'):w'.ownsRow B 9 1 v o.length (iP o):=
 h.kept (aH (aD w none) hb) (by by_cases e:v.ownBlock=none;exact .inl e;exact .inr e)
def bZ (B:Nat) (w:World) (v:Value) (ps:List (List UInt8)):Prop:=w.ownsRow B 9 1 v (ps.map bs).length (iP (ps.map bs))
theorem bZ.of (h:w.ownsRow B 9 1 v o.length (iP o)) (e:o=ps.map bs):bZ B w v ps:=by subst e;exact h
theorem bZ.below (h:bZ B w v ps) (hb:Bw w w'):bZ B w' v ps:=lS h hb
def vQ (E:TypeId) (sz B:Nat) (w:World) (v:Value) (n:Nat) (xs:List Value):Prop:=w.ownsRow B E sz v n xs∧v≠.slice none 0 0
theorem qZ (h:Bw w1 w):vQ E sz w1.heap.size (w.alloc (.cells #[] E)) (.slice (some ⟨w.heap.size,0,none⟩) 0 0) 0 []:=
 ⟨⟨by simp,.inr ⟨w.heap.size,0,#[],rfl,h.size,by show (w.heap.push _)[w.heap.size]? = _;simp,yJ _,by unfold maxLen;omega,by simp,by simp⟩⟩,by simp⟩
theorem vQ.al {xs:List Value} (h:vQ E sz B w v n xs) (o:Obj):vQ E sz B (w.alloc o) v n xs:=⟨h.1.alloc o,h.2⟩
theorem vQ.open {xs:List Value} (h:vQ E sz B w v n xs):∃g cap,v=.slice (some ⟨g,0,none⟩) n cap∧B≤g∧w.ownsRow g E sz (.slice (some ⟨g,0,none⟩) n cap) n xs∧n≤cap:=by
 obtain ⟨⟨h1,h2⟩,h3⟩:=h;rcases h2 with ⟨e,_⟩ | ⟨g,cap,cur,rfl,hg,hb,hc,k⟩
 ·exact absurd e h3
 ·exact ⟨g,cap,rfl,hg,⟨h1,.inr ⟨g,cap,cur,rfl,yJ _,hb,hc,k⟩⟩,hc⟩
def aC5 (E:TypeId) (w1 w:World) (gb:Nat) (c:Array Value):Prop:=w1.heap.size≤gb∧w.heap[gb]? = some (.cells c E (0,0))
theorem oO (h:Bw w1 w) (c:Array Value):aC5 E w1 (w.alloc (.cells c E)) w.heap.size c:=⟨h.size,by show (w.heap.push _)[w.heap.size]? = _;simp⟩
theorem aC5.lt (h:aC5 E w1 w gb c):gb<w.heap.size:=(Array.getElem?_eq_some_iff.1 h.2).1
theorem aC5.al (h:aC5 E w1 w gb c) (o:Obj):aC5 E w1 (w.alloc o) gb c:=⟨h.1,by
 have:=h.lt;show (w.heap.push o)[gb]? = _;rw [Array.getElem?_push,if_neg (by omega)];exact h.2⟩
theorem aC5.same (h:aC5 E w1 w gb c) (e:w'.heap[gb]? = w.heap[gb]?):aC5 E w1 w' gb c:=⟨h.1,e.trans h.2⟩
theorem aC5.news (h:aC5 E w1 w gb c):∀i u,c.toList[i]? = some u→w.cell? (Addr.add ⟨gb,0,none⟩ i)=some u:=fun i u hu=>by
 rw [Lib.add_plain,Nat.zero_add];rw [Array.getElem?_toList] at hu;simp [World.cell?,h.2,hu]
theorem lG {o:Oper} {K:Act→World→Prop} {Q:Exit→Act→World→Prop} {Ex:Prop} (hgd:o.guard=none) (s x:Operand) (t:TypeId)
  (ho:o.op=.call { callee:=.builtin .append,args:=#[s,x],argTypes:=#[t,t] })
  (E:TypeId) (i:TypeInfo) (z:Value) (size bytes:Nat) (ht:P.underlying t=some (.slice E)) (hi:P.info? E=some i) (hz:i.zero=some z)
  (hsize:i.size=size) (hby:i.bytes=bytes) (hzs:z.cells.size=size) (hsz:0<size)
  (v:Value) (n:Nat) (xs:List Value) (hs:a.eval s=v) (hr:vQ E size w1.heap.size w v n xs) (kp:Bw w1 w)
  (ad:Addr) (m c:Nat) (news:List Value) (hx:a.eval x=.slice (some ad) m c) (hl:news.length=m*size) (Gy:∀j u,news[j]? = some u→w.cell? (ad.add j)=some u) (h1:∀u ∈ news,u.oneCell'=true)
  (h63:n+m≤maxLen) (hbytes:(n+m)*bytes≤140737488355328)
  (h:∀v' w',vQ E size w1.heap.size w' v' (n+m) (xs++news)→Bw w1 w'→(∀k,k<w.heap.size→some k≠v.ownBlock→w'.heap[k]? = w.heap[k]?)→K (a.put o.dst v') w') :
  if Region.wanted o (yielded ops a.tmps)=true then Oper.wp P o a w K Q else Ex:=by
 have hw:Region.wanted o (yielded ops a.tmps)=true:=by simp [Region.wanted,hgd]
 rw [if_pos hw];refine wp_append_own w s x t ho w1.heap.size E i z size bytes ht hi hz hsize hby hzs hsz v n xs hs hr.1 ad m c news hx hl Gy h1 h63 hbytes kp.size ?_;intro v' w' Hq hg hn;refine h v' w' ⟨Hq,fun e=>hr.2 (hn.1 e).1⟩ (kp.grown hg kp.size ?_) (fun k hk hne=>hg.block k hk hne);intro k hk;rcases hr.1.2 with ⟨rfl,_⟩ | ⟨g,cap,cur,rfl,hg',_⟩
 ·simp [Value.ownBlock] at hk
 ·simp [Value.ownBlock] at hk;omega
theorem aAi {n':Nat} {xs xs':List Value} (h:vQ E sz B w v n xs) (hn:n=n') (hx:xs=xs'):vQ E sz B w v n' xs':=by subst hn hx;exact h
def hiA (g cap k sz:Nat):Addr:=if cap=k then ⟨g,0,none⟩ else ⟨g,k*sz,none⟩
theorem aGd (h:k<cap) (i:Nat):(hiA g cap k sz).add i=⟨g,k*sz+i,none⟩:=by
 rw [hiA,if_neg (by omega),Lib.add_plain]
theorem aJe (g n cap k:Nat) (hk:k≤cap) (wx:World):(Instr.slice 40 (.slice (some ⟨g,0,none⟩) n cap) none (some (.int .i64 (k:Int))) none).run Tryz.prog wx=.ok (.slice (some ⟨g,0,none⟩) k cap) wx:=by
 rw [run_slice_h (P:=Tryz.prog) (w:=wx) 40 (some ⟨g,0,none⟩) n cap underlying40 .i64 (k:Int) (by omega) (by omega)];rw [show (sizeOf (Tryz.prog.elem 40)).run Tryz.prog wx=.ok 1 wx from by kernel_rfl];simp [Result.andThen,sliced,Addr.add]
theorem aJf (g n cap k:Nat) (hk:k≤n) (wx:World):(Instr.slice 40 (.slice (some ⟨g,0,none⟩) n cap) (some (.int .i64 (k:Int))) none none).run Tryz.prog wx=.ok (.slice (some (hiA g cap k 1)) (n - k) (cap - k)) wx:=by
 rw [run_slice_l (P:=Tryz.prog) (w:=wx) 40 (some ⟨g,0,none⟩) n cap underlying40 .i64 (k:Int) (by omega) (by omega)];rw [show (sizeOf (Tryz.prog.elem 40)).run Tryz.prog wx=.ok 1 wx from by kernel_rfl];simp only [Result.andThen,sliced,Int.toNat_natCast,hiA];by_cases h:cap=k
 ·rw [if_pos h,if_pos h]
 ·rw [if_neg h,if_neg h];simp [Addr.add];try omega
theorem SS.lo (h:SS w g cap xs) (hb:Bw w w') (k:Nat):∀i u,((xs.take k).map Value.string)[i]? = some u→w'.cell? (Addr.add ⟨g,0,none⟩ i)=some u:=fun i u hu=>by
 have hlt:=(List.getElem?_eq_some_iff.1 hu).1;rw [List.length_map,List.length_take] at hlt;have:=(h.below hb h.lt).cell i (by omega);rw [Lib.add_plain,Nat.zero_add,this,←hu];simp [show i<k by omega,show i<xs.length by omega]
theorem SS.hi (h:SS w g cap xs) (hb:Bw w w') (k:Nat):∀i u,((xs.drop k).map Value.string)[i]? = some u→w'.cell? (Addr.add (hiA g cap k 1) i)=some u:=fun i u hu=>by
 have hlt:=(List.getElem?_eq_some_iff.1 hu).1;rw [List.length_map,List.length_drop] at hlt;obtain ⟨_,_,hc,_⟩:=h.block;have:=(h.below hb h.lt).cell (k+i) (by omega);rw [aGd (by omega),Nat.mul_one,this,←hu];simp [show k+i<xs.length by omega]
theorem wN (l:List ByteArray):∀u ∈ l.map Value.string,u.oneCell'=true:=fun u hu=>by
 obtain ⟨x,_,rfl⟩:=List.mem_map.1 hu;rfl
structure Q where
 name:List UInt8
 parent:List UInt8
 due:Int
 most:Int
abbrev qv (q:Q):Value:=.agg #[.string (bs q.name),.string (bs q.parent),.int .i64 q.due,.int .i64 q.most]
def QAt (w:World) (b p:Nat) (q:Q):Prop:=
 w.cell? ⟨b,p,none⟩=some (.string (bs q.name))∧w.cell? ⟨b,p+1,none⟩=some (.string (bs q.parent))∧w.cell? ⟨b,p+2,none⟩=some (.int .i64 q.due)∧w.cell? ⟨b,p+3,none⟩=some (.int .i64 q.most)
def gH (w:World) (ao:Option Addr) (len:Nat) (l:List Q):Prop:=
 len=l.length∧(len=0∨∃b off,ao=some ⟨b,off,none⟩∧∀i (h:i<l.length),QAt w b (off+i*4) l[i])
theorem QAt.lt {q:Q} (h:QAt w b p q):b<w.heap.size:=yG h.1
theorem QAt.below {q:Q} (h:QAt w b p q) (hb:Bw w w'):QAt w' b p q:=
 ⟨(hb.cell h.lt).trans h.1,(hb.cell h.lt).trans h.2.1,(hb.cell h.lt).trans h.2.2.1,(hb.cell h.lt).trans h.2.2.2⟩
theorem gH.below {len:Nat} {l:List Q} (h:gH w ao len l) (hb:Bw w w'):gH w' ao len l:=by
 obtain ⟨h1,h2⟩:=h;refine ⟨h1,?_⟩;rcases h2 with h2 | ⟨b,off,h3,h4⟩
 ·exact .inl h2
 ·exact .inr ⟨b,off,h3,fun i h=>(h4 i h).below hb⟩
theorem gH.nil (w:World) (ao:Option Addr):gH w ao 0 []:=⟨rfl,.inl rfl⟩
theorem gH.at {len:Nat} {l:List Q} (h:gH w ao len l) (hi:i<len):∃b off,ao=some ⟨b,off,none⟩∧∀(h:i<l.length),QAt w b (off+i*4) l[i]:=by
 obtain ⟨h1,h2⟩:=h;rcases h2 with h2 | ⟨b,off,h3,h4⟩
 ·omega
 ·exact ⟨b,off,h3,fun hi=>h4 i hi⟩
def tL (w:World) (t:TypeId) (g n k:Nat) (l:List Q):Prop:=
 ∃arr:Array Value,w.heap[g]? = some (.cells arr t (0,0))∧arr.size=n*4∧∀i (h:i<l.length),i<k→arr[i*4]? = some (.string (bs l[i].name))∧arr[i*4+1]? = some (.string (bs l[i].parent))∧arr[i*4+2]? = some (.int .i64 l[i].due)∧arr[i*4+3]? = some (.int .i64 l[i].most)
theorem tL.lt {l:List Q} (h:tL w t g n k l):g<w.heap.size:=let ⟨_,h,_⟩:=h;lt_of_block h
theorem tL.below {l:List Q} (h:tL w t g n k l) (hb:Bw w w'):tL w' t g n k l:=by
 have hlt:=h.lt;obtain ⟨arr,h1,h2⟩:=h;exact ⟨arr,(hb.block g hlt).trans h1,h2⟩
theorem tL.cell {l:List Q} (h:tL w t g n k l) (hj:j<n*4):∃v,w.cell? ⟨g,j,none⟩=some v:=by
 obtain ⟨arr,h1,h2,_⟩:=h;exact ⟨arr[j]'(by omega),by simp [World.cell?,h1,Array.getElem?_eq_getElem (show j<arr.size by omega)]⟩
theorem tL.frozen {l:List Q} (h:tL w t g n k l) (j:Nat):w.frozen? ⟨g,j,none⟩=false:=by
 obtain ⟨arr,h1,h2,_⟩:=h;simp [World.frozen?,h1]
theorem tL.row {l:List Q} (h:tL w t g n n l) (hl:n=l.length):gH w (some ⟨g,0,none⟩) n l:=by
 obtain ⟨arr,h1,h2,h3⟩:=h;refine ⟨hl,.inr ⟨g,0,rfl,fun i hi=>?_⟩⟩;obtain ⟨a,b,c,d⟩:=h3 i hi (by omega);unfold QAt;simp only [Nat.zero_add];exact ⟨by simp [World.cell?,h1,a],by simp [World.cell?,h1,b],by simp [World.cell?,h1,c],by simp [World.cell?,h1,d]⟩
def aLK (w:World) (g p:Nat) (q:Q):World:=(((w.setCell ⟨g,p,none⟩ (.string (bs q.name))).setCell ⟨g,p+1,none⟩ (.string (bs q.parent))).setCell ⟨g,p+2,none⟩ (.int .i64 q.due)).setCell ⟨g,p+3,none⟩ (.int .i64 q.most)
theorem tL.step {l:List Q} (h:tL w t g n k l) (hk:k<n) (hl:k<l.length):tL (aLK w g (k*4) l[k]) t g n (k+1) l:=by
 obtain ⟨arr,h1,h2,h3⟩:=h;have e1:=heap_setCell_same w g (k*4) _ _ (.string (bs l[k].name)) h1;have e2:=heap_setCell_same _ g (k*4+1) _ _ (.string (bs l[k].parent)) e1;have e3:=heap_setCell_same _ g (k*4+2) _ _ (.int .i64 l[k].due) e2;have e4:=heap_setCell_same _ g (k*4+3) _ _ (.int .i64 l[k].most) e3;refine ⟨_,e4,by simp [h2],fun i hi hik=>?_⟩;by_cases e:i=k
 ·subst e;have q1:i*4+3<arr.size:=by omega
  refine ⟨?_,?_,?_,?_⟩<;>simp [Array.getElem?_setIfInBounds,h2]<;>omega
 ·obtain ⟨a,b,c,d⟩:=h3 i hi (by omega);refine ⟨?_,?_,?_,?_⟩
  ·rw [←a];simp only [Array.getElem?_setIfInBounds];repeat rw [if_neg (by omega)]
  ·rw [←b];simp only [Array.getElem?_setIfInBounds];repeat rw [if_neg (by omega)]
  ·rw [←c];simp only [Array.getElem?_setIfInBounds];repeat rw [if_neg (by omega)]
  ·rw [←d];simp only [Array.getElem?_setIfInBounds];repeat rw [if_neg (by omega)]
def aKa (w:World) (t:TypeId) (g n:Nat):Prop:=tL w t g n 0 []
theorem tL.any {l:List Q} (h:tL w t g n k l):aKa w t g n:=by
 obtain ⟨arr,h1,h2,_⟩:=h;exact ⟨arr,h1,h2,fun i hi=>absurd hi (by simp)⟩
theorem aKa.set (h:aKa w t g n) (j:Nat) (v:Value):aKa (w.setCell ⟨g,j,none⟩ v) t g n:=by
 obtain ⟨arr,h1,h2,_⟩:=h;exact ⟨_,heap_setCell_same w g j _ _ v h1,by simp [h2],fun i hi=>absurd hi (by simp)⟩
def aKd (l:List Q):Prop:=l.length≤1048576∧∀q ∈ l,q.name.length≤1048576∧q.parent.length≤1048576
def aIs (w0:World) (b p c r:Nat) (q:Q) (w:World):Prop:=QAt w b p q∧QAt w c r q∧Bw w0 w
theorem aIs.call {c:Nat} {q:Q} (h:aIs w0 b p c r q w) (hb:Bw w w'):aIs w0 b p c r q w':=⟨h.1.below hb,h.2.1.below hb,yB h.2.2 hb⟩
theorem aIs.drew {c:Nat} {q:Q} (h:aIs w0 b p c r q w):aIs w0 b p c r q w.drew:=h.call (yH _ _).drew
theorem aIs.read (w0:World) (b p c r:Nat) (q:Q):∀wx,aIs w0 b p c r q wx→wx.cell? ⟨b,p,none⟩=some (.string (bs q.name))∧wx.cell? ⟨b,p+1,none⟩=some (.string (bs q.parent))∧wx.cell? ⟨b,p+2,none⟩=some (.int .i64 q.due)∧wx.cell? ⟨b,p+3,none⟩=some (.int .i64 q.most)
  ∧wx.cell? ⟨c,r,none⟩=some (.string (bs q.name))∧wx.cell? ⟨c,r+1,none⟩=some (.string (bs q.parent))∧wx.cell? ⟨c,r+2,none⟩=some (.int .i64 q.due)∧wx.cell? ⟨c,r+3,none⟩=some (.int .i64 q.most):=
 fun wx h=>⟨h.1.1,h.1.2.1,h.1.2.2.1,h.1.2.2.2,h.2.1.1,h.2.1.2.1,h.2.1.2.2.1,h.2.1.2.2.2⟩
end
section
theorem l6 (l m:List UInt8):((bs l).toList==(bs m).toList)=decide (l=m):=by
 rw [ByteArray.toList_eq,ByteArray.toList_eq];by_cases h:l=m
 ·subst h;simp
 ·simp [bs,h]
theorem mV (l:List UInt8):(bs l).toList.isEmpty=decide (l=[]):=by
 rw [ByteArray.toList_eq];cases l<;>simp [bs]
end
section
open Go.ChangeShapes Go.WideShapes Go.ChangeAt Go.RowKit Go.Deep
def aLX (q:Q):Prop:=q.name.length≤9223372036854775807∧q.parent.length≤9223372036854775807
end
end Go.Proofs.YtfndhndlkcijoaaGreat
namespace Go.Proofs.YtfndhndlkcijoaaGreat
open Go.RowKit
structure Ask where
 mem:Int
 cpu:Int
 count:Int
 node:List UInt8
 missed:Int
abbrev aF9 (q:Ask):Value:=.agg #[.int .i64 q.mem,.int .i64 q.cpu,.int .i64 q.count,.string (bs q.node),.int .i64 q.missed]
def tN (w:World) (b p:Nat) (q:Ask):Prop:=
 w.cell? ⟨b,p,none⟩=some (.int .i64 q.mem)∧w.cell? ⟨b,p+1,none⟩=some (.int .i64 q.cpu)∧w.cell? ⟨b,p+2,none⟩=some (.int .i64 q.count)∧w.cell? ⟨b,p+3,none⟩=some (.string (bs q.node))∧w.cell? ⟨b,p+4,none⟩=some (.int .i64 q.missed)
def bE (w:World) (ao:Option Addr) (len:Nat) (l:List Ask):Prop:=
 len=l.length∧(len=0∨∃b off,ao=some ⟨b,off,none⟩∧∀i (h:i<l.length),tN w b (off+i*5) l[i])
theorem tN.lt {w:World} {b p:Nat} {q:Ask} (h:tN w b p q):b<w.heap.size:=yG h.1
theorem tN.below {w w':World} {b p:Nat} {q:Ask} (h:tN w b p q) (hb:Bw w w'):tN w' b p q:=
 ⟨(hb.cell h.lt).trans h.1,(hb.cell h.lt).trans h.2.1,(hb.cell h.lt).trans h.2.2.1,(hb.cell h.lt).trans h.2.2.2.1,(hb.cell h.lt).trans h.2.2.2.2⟩
theorem bE.below {w w':World} {ao:Option Addr} {len:Nat} {l:List Ask} (h:bE w ao len l) (hb:Bw w w'):bE w' ao len l:=by
 obtain ⟨h1,h2⟩:=h;refine ⟨h1,?_⟩;rcases h2 with h2 | ⟨b,off,h3,h4⟩
 ·exact .inl h2
 ·exact .inr ⟨b,off,h3,fun i h=>(h4 i h).below hb⟩
theorem bE.nil (w:World) (ao:Option Addr):bE w ao 0 []:=⟨rfl,.inl rfl⟩
theorem bE.at {w:World} {ao:Option Addr} {len:Nat} {l:List Ask} (h:bE w ao len l) {i:Nat} (hi:i<len):∃b off,ao=some ⟨b,off,none⟩∧∀(h:i<l.length),tN w b (off+i*5) l[i]:=by
 obtain ⟨h1,h2⟩:=h;rcases h2 with h2 | ⟨b,off,h3,h4⟩
 ·omega
 ·exact ⟨b,off,h3,fun hi=>h4 i hi⟩
def eQ (w:World) (t:TypeId) (g n k:Nat) (l:List Ask):Prop:=
 ∃arr:Array Value,w.heap[g]? = some (.cells arr t (0,0))∧arr.size=n*5∧∀i (h:i<l.length),i<k→arr[i*5]? = some (.int .i64 l[i].mem)∧arr[i*5+1]? = some (.int .i64 l[i].cpu)∧arr[i*5+2]? = some (.int .i64 l[i].count)∧arr[i*5+3]? = some (.string (bs l[i].node))∧arr[i*5+4]? = some (.int .i64 l[i].missed)
theorem eQ.lt {w:World} {t:TypeId} {g n k:Nat} {l:List Ask} (h:eQ w t g n k l):g<w.heap.size:=let ⟨_,h,_⟩:=h;lt_of_block h
theorem eQ.below {w w':World} {t:TypeId} {g n k:Nat} {l:List Ask} (h:eQ w t g n k l) (hb:Bw w w'):eQ w' t g n k l:=by
 have hlt:=h.lt;obtain ⟨arr,h1,h2⟩:=h;exact ⟨arr,(hb.block g hlt).trans h1,h2⟩
theorem eQ.cell {w:World} {t:TypeId} {g n k:Nat} {l:List Ask} (h:eQ w t g n k l) {j:Nat} (hj:j<n*5):∃v,w.cell? ⟨g,j,none⟩=some v:=by
 obtain ⟨arr,h1,h2,_⟩:=h;exact ⟨arr[j]'(by omega),by simp [World.cell?,h1,Array.getElem?_eq_getElem (show j<arr.size by omega)]⟩
theorem eQ.frozen {w:World} {t:TypeId} {g n k:Nat} {l:List Ask} (h:eQ w t g n k l) (j:Nat):w.frozen? ⟨g,j,none⟩=false:=by
 obtain ⟨arr,h1,h2,_⟩:=h;simp [World.frozen?,h1]
theorem eQ.row {w:World} {t:TypeId} {g n:Nat} {l:List Ask} (h:eQ w t g n n l) (hl:n=l.length):bE w (some ⟨g,0,none⟩) n l:=by
 obtain ⟨arr,h1,h2,h3⟩:=h;refine ⟨hl,.inr ⟨g,0,rfl,fun i hi=>?_⟩⟩;obtain ⟨a,b,c,d,e⟩:=h3 i hi (by omega);unfold tN;simp only [Nat.zero_add];exact ⟨by simp [World.cell?,h1,a],by simp [World.cell?,h1,b],by simp [World.cell?,h1,c],by simp [World.cell?,h1,d],by simp [World.cell?,h1,e]⟩
def aKE (w:World) (g p:Nat) (q:Ask):World:=(((((w.setCell ⟨g,p,none⟩ (.int .i64 q.mem)).setCell ⟨g,p+1,none⟩ (.int .i64 q.cpu)).setCell ⟨g,p+2,none⟩ (.int .i64 q.count)).setCell ⟨g,p+3,none⟩ (.string (bs q.node))).setCell ⟨g,p+4,none⟩ (.int .i64 q.missed))
theorem eQ.step {w:World} {t:TypeId} {g n k:Nat} {l:List Ask} (h:eQ w t g n k l) (hk:k<n) (hl:k<l.length):eQ (aKE w g (k*5) l[k]) t g n (k+1) l:=by
 obtain ⟨arr,h1,h2,h3⟩:=h;have e1:=heap_setCell_same w g (k*5) _ _ (.int .i64 l[k].mem) h1;have e2:=heap_setCell_same _ g (k*5+1) _ _ (.int .i64 l[k].cpu) e1;have e3:=heap_setCell_same _ g (k*5+2) _ _ (.int .i64 l[k].count) e2;have e4:=heap_setCell_same _ g (k*5+3) _ _ (.string (bs l[k].node)) e3;have e5:=heap_setCell_same _ g (k*5+4) _ _ (.int .i64 l[k].missed) e4;refine ⟨_,e5,by simp [h2],fun i hi hik=>?_⟩;by_cases e:i=k
 ·subst e;have q1:i*5+4<arr.size:=by omega
  refine ⟨?_,?_,?_,?_,?_⟩<;>simp [Array.getElem?_setIfInBounds,h2]<;>omega
 ·obtain ⟨a,b,c,d,e⟩:=h3 i hi (by omega);refine ⟨?_,?_,?_,?_,?_⟩
  ·rw [←a];simp only [Array.getElem?_setIfInBounds];repeat rw [if_neg (by omega)]
  ·rw [←b];simp only [Array.getElem?_setIfInBounds];repeat rw [if_neg (by omega)]
  ·rw [←c];simp only [Array.getElem?_setIfInBounds];repeat rw [if_neg (by omega)]
  ·rw [←d];simp only [Array.getElem?_setIfInBounds];repeat rw [if_neg (by omega)]
  ·rw [←e];simp only [Array.getElem?_setIfInBounds];repeat rw [if_neg (by omega)]
structure Mac where
 name:List UInt8
 mem:Int
 cpu:Int
 seen:Int
abbrev aIE (q:Mac):Value:=.agg #[.string (bs q.name),.int .i64 q.mem,.int .i64 q.cpu,.int .i64 q.seen]
def o5 (w:World) (b p:Nat) (q:Mac):Prop:=
 w.cell? ⟨b,p,none⟩=some (.string (bs q.name))∧w.cell? ⟨b,p+1,none⟩=some (.int .i64 q.mem)∧w.cell? ⟨b,p+2,none⟩=some (.int .i64 q.cpu)∧w.cell? ⟨b,p+3,none⟩=some (.int .i64 q.seen)
def cB (w:World) (ao:Option Addr) (len:Nat) (l:List Mac):Prop:=
 len=l.length∧(len=0∨∃b off,ao=some ⟨b,off,none⟩∧∀i (h:i<l.length),o5 w b (off+i*4) l[i])
theorem o5.lt {w:World} {b p:Nat} {q:Mac} (h:o5 w b p q):b<w.heap.size:=yG h.1
theorem o5.below {w w':World} {b p:Nat} {q:Mac} (h:o5 w b p q) (hb:Bw w w'):o5 w' b p q:=
 ⟨(hb.cell h.lt).trans h.1,(hb.cell h.lt).trans h.2.1,(hb.cell h.lt).trans h.2.2.1,(hb.cell h.lt).trans h.2.2.2⟩
theorem cB.below {w w':World} {ao:Option Addr} {len:Nat} {l:List Mac} (h:cB w ao len l) (hb:Bw w w'):cB w' ao len l:=by
 obtain ⟨h1,h2⟩:=h;refine ⟨h1,?_⟩;rcases h2 with h2 | ⟨b,off,h3,h4⟩
 ·exact .inl h2
 ·exact .inr ⟨b,off,h3,fun i h=>(h4 i h).below hb⟩
theorem cB.nil (w:World) (ao:Option Addr):cB w ao 0 []:=⟨rfl,.inl rfl⟩
theorem cB.at {w:World} {ao:Option Addr} {len:Nat} {l:List Mac} (h:cB w ao len l) {i:Nat} (hi:i<len):∃b off,ao=some ⟨b,off,none⟩∧∀(h:i<l.length),o5 w b (off+i*4) l[i]:=by
 obtain ⟨h1,h2⟩:=h;rcases h2 with h2 | ⟨b,off,h3,h4⟩
 ·omega
 ·exact ⟨b,off,h3,fun hi=>h4 i hi⟩
def gD (w:World) (t:TypeId) (g n k:Nat) (l:List Mac):Prop:=
 ∃arr:Array Value,w.heap[g]? = some (.cells arr t (0,0))∧arr.size=n*4∧∀i (h:i<l.length),i<k→arr[i*4]? = some (.string (bs l[i].name))∧arr[i*4+1]? = some (.int .i64 l[i].mem)∧arr[i*4+2]? = some (.int .i64 l[i].cpu)∧arr[i*4+3]? = some (.int .i64 l[i].seen)
theorem gD.lt {w:World} {t:TypeId} {g n k:Nat} {l:List Mac} (h:gD w t g n k l):g<w.heap.size:=let ⟨_,h,_⟩:=h;lt_of_block h
theorem gD.below {w w':World} {t:TypeId} {g n k:Nat} {l:List Mac} (h:gD w t g n k l) (hb:Bw w w'):gD w' t g n k l:=by
 have hlt:=h.lt;obtain ⟨arr,h1,h2⟩:=h;exact ⟨arr,(hb.block g hlt).trans h1,h2⟩
theorem gD.cell {w:World} {t:TypeId} {g n k:Nat} {l:List Mac} (h:gD w t g n k l) {j:Nat} (hj:j<n*4):∃v,w.cell? ⟨g,j,none⟩=some v:=by
 obtain ⟨arr,h1,h2,_⟩:=h;exact ⟨arr[j]'(by omega),by simp [World.cell?,h1,Array.getElem?_eq_getElem (show j<arr.size by omega)]⟩
theorem gD.frozen {w:World} {t:TypeId} {g n k:Nat} {l:List Mac} (h:gD w t g n k l) (j:Nat):w.frozen? ⟨g,j,none⟩=false:=by
 obtain ⟨arr,h1,h2,_⟩:=h;simp [World.frozen?,h1]
theorem gD.row {w:World} {t:TypeId} {g n:Nat} {l:List Mac} (h:gD w t g n n l) (hl:n=l.length):cB w (some ⟨g,0,none⟩) n l:=by
 obtain ⟨arr,h1,h2,h3⟩:=h;refine ⟨hl,.inr ⟨g,0,rfl,fun i hi=>?_⟩⟩;obtain ⟨a,b,c,d⟩:=h3 i hi (by omega);unfold o5;simp only [Nat.zero_add];exact ⟨by simp [World.cell?,h1,a],by simp [World.cell?,h1,b],by simp [World.cell?,h1,c],by simp [World.cell?,h1,d]⟩
def aKC (w:World) (g p:Nat) (q:Mac):World:=((((w.setCell ⟨g,p,none⟩ (.string (bs q.name))).setCell ⟨g,p+1,none⟩ (.int .i64 q.mem)).setCell ⟨g,p+2,none⟩ (.int .i64 q.cpu)).setCell ⟨g,p+3,none⟩ (.int .i64 q.seen))
theorem gD.step {w:World} {t:TypeId} {g n k:Nat} {l:List Mac} (h:gD w t g n k l) (hk:k<n) (hl:k<l.length):gD (aKC w g (k*4) l[k]) t g n (k+1) l:=by
 obtain ⟨arr,h1,h2,h3⟩:=h;have e1:=heap_setCell_same w g (k*4) _ _ (.string (bs l[k].name)) h1;have e2:=heap_setCell_same _ g (k*4+1) _ _ (.int .i64 l[k].mem) e1;have e3:=heap_setCell_same _ g (k*4+2) _ _ (.int .i64 l[k].cpu) e2;have e4:=heap_setCell_same _ g (k*4+3) _ _ (.int .i64 l[k].seen) e3;refine ⟨_,e4,by simp [h2],fun i hi hik=>?_⟩;by_cases e:i=k
 ·subst e;have q1:i*4+3<arr.size:=by omega
  refine ⟨?_,?_,?_,?_⟩<;>simp [Array.getElem?_setIfInBounds,h2]<;>omega
 ·obtain ⟨a,b,c,d⟩:=h3 i hi (by omega);refine ⟨?_,?_,?_,?_⟩
  ·rw [←a];simp only [Array.getElem?_setIfInBounds];repeat rw [if_neg (by omega)]
  ·rw [←b];simp only [Array.getElem?_setIfInBounds];repeat rw [if_neg (by omega)]
  ·rw [←c];simp only [Array.getElem?_setIfInBounds];repeat rw [if_neg (by omega)]
  ·rw [←d];simp only [Array.getElem?_setIfInBounds];repeat rw [if_neg (by omega)]
structure Con where
 id:Int
 app:Int
 node:List UInt8
 mem:Int
 cpu:Int
abbrev conv (q:Con):Value:=.agg #[.int .i64 q.id,.int .i64 q.app,.string (bs q.node),.int .i64 q.mem,.int .i64 q.cpu]
def qD (w:World) (b p:Nat) (q:Con):Prop:=
 w.cell? ⟨b,p,none⟩=some (.int .i64 q.id)∧w.cell? ⟨b,p+1,none⟩=some (.int .i64 q.app)∧w.cell? ⟨b,p+2,none⟩=some (.string (bs q.node))∧w.cell? ⟨b,p+3,none⟩=some (.int .i64 q.mem)∧w.cell? ⟨b,p+4,none⟩=some (.int .i64 q.cpu)
def bR (w:World) (ao:Option Addr) (len:Nat) (l:List Con):Prop:=
 len=l.length∧(len=0∨∃b off,ao=some ⟨b,off,none⟩∧∀i (h:i<l.length),qD w b (off+i*5) l[i])
theorem qD.lt {w:World} {b p:Nat} {q:Con} (h:qD w b p q):b<w.heap.size:=yG h.1
theorem qD.below {w w':World} {b p:Nat} {q:Con} (h:qD w b p q) (hb:Bw w w'):qD w' b p q:=
 ⟨(hb.cell h.lt).trans h.1,(hb.cell h.lt).trans h.2.1,(hb.cell h.lt).trans h.2.2.1,(hb.cell h.lt).trans h.2.2.2.1,(hb.cell h.lt).trans h.2.2.2.2⟩
theorem bR.below {w w':World} {ao:Option Addr} {len:Nat} {l:List Con} (h:bR w ao len l) (hb:Bw w w'):bR w' ao len l:=by
 obtain ⟨h1,h2⟩:=h;refine ⟨h1,?_⟩;rcases h2 with h2 | ⟨b,off,h3,h4⟩
 ·exact .inl h2
 ·exact .inr ⟨b,off,h3,fun i h=>(h4 i h).below hb⟩
theorem bR.nil (w:World) (ao:Option Addr):bR w ao 0 []:=⟨rfl,.inl rfl⟩
theorem bR.at {w:World} {ao:Option Addr} {len:Nat} {l:List Con} (h:bR w ao len l) {i:Nat} (hi:i<len):∃b off,ao=some ⟨b,off,none⟩∧∀(h:i<l.length),qD w b (off+i*5) l[i]:=by
 obtain ⟨h1,h2⟩:=h;rcases h2 with h2 | ⟨b,off,h3,h4⟩
 ·omega
 ·exact ⟨b,off,h3,fun hi=>h4 i hi⟩
def gF (w:World) (t:TypeId) (g n k:Nat) (l:List Con):Prop:=
 ∃arr:Array Value,w.heap[g]? = some (.cells arr t (0,0))∧arr.size=n*5∧∀i (h:i<l.length),i<k→arr[i*5]? = some (.int .i64 l[i].id)∧arr[i*5+1]? = some (.int .i64 l[i].app)∧arr[i*5+2]? = some (.string (bs l[i].node))∧arr[i*5+3]? = some (.int .i64 l[i].mem)∧arr[i*5+4]? = some (.int .i64 l[i].cpu)
theorem gF.lt {w:World} {t:TypeId} {g n k:Nat} {l:List Con} (h:gF w t g n k l):g<w.heap.size:=let ⟨_,h,_⟩:=h;lt_of_block h
theorem gF.below {w w':World} {t:TypeId} {g n k:Nat} {l:List Con} (h:gF w t g n k l) (hb:Bw w w'):gF w' t g n k l:=by
 have hlt:=h.lt;obtain ⟨arr,h1,h2⟩:=h;exact ⟨arr,(hb.block g hlt).trans h1,h2⟩
theorem gF.cell {w:World} {t:TypeId} {g n k:Nat} {l:List Con} (h:gF w t g n k l) {j:Nat} (hj:j<n*5):∃v,w.cell? ⟨g,j,none⟩=some v:=by
 obtain ⟨arr,h1,h2,_⟩:=h;exact ⟨arr[j]'(by omega),by simp [World.cell?,h1,Array.getElem?_eq_getElem (show j<arr.size by omega)]⟩
theorem gF.frozen {w:World} {t:TypeId} {g n k:Nat} {l:List Con} (h:gF w t g n k l) (j:Nat):w.frozen? ⟨g,j,none⟩=false:=by
 obtain ⟨arr,h1,h2,_⟩:=h;simp [World.frozen?,h1]
theorem gF.row {w:World} {t:TypeId} {g n:Nat} {l:List Con} (h:gF w t g n n l) (hl:n=l.length):bR w (some ⟨g,0,none⟩) n l:=by
 obtain ⟨arr,h1,h2,h3⟩:=h;refine ⟨hl,.inr ⟨g,0,rfl,fun i hi=>?_⟩⟩;obtain ⟨a,b,c,d,e⟩:=h3 i hi (by omega);unfold qD;simp only [Nat.zero_add];exact ⟨by simp [World.cell?,h1,a],by simp [World.cell?,h1,b],by simp [World.cell?,h1,c],by simp [World.cell?,h1,d],by simp [World.cell?,h1,e]⟩
def aKD (w:World) (g p:Nat) (q:Con):World:=(((((w.setCell ⟨g,p,none⟩ (.int .i64 q.id)).setCell ⟨g,p+1,none⟩ (.int .i64 q.app)).setCell ⟨g,p+2,none⟩ (.string (bs q.node))).setCell ⟨g,p+3,none⟩ (.int .i64 q.mem)).setCell ⟨g,p+4,none⟩ (.int .i64 q.cpu))
theorem gF.step {w:World} {t:TypeId} {g n k:Nat} {l:List Con} (h:gF w t g n k l) (hk:k<n) (hl:k<l.length):gF (aKD w g (k*5) l[k]) t g n (k+1) l:=by
 obtain ⟨arr,h1,h2,h3⟩:=h;have e1:=heap_setCell_same w g (k*5) _ _ (.int .i64 l[k].id) h1;have e2:=heap_setCell_same _ g (k*5+1) _ _ (.int .i64 l[k].app) e1;have e3:=heap_setCell_same _ g (k*5+2) _ _ (.string (bs l[k].node)) e2;have e4:=heap_setCell_same _ g (k*5+3) _ _ (.int .i64 l[k].mem) e3;have e5:=heap_setCell_same _ g (k*5+4) _ _ (.int .i64 l[k].cpu) e4;refine ⟨_,e5,by simp [h2],fun i hi hik=>?_⟩;by_cases e:i=k
 ·subst e;have q1:i*5+4<arr.size:=by omega
  refine ⟨?_,?_,?_,?_,?_⟩<;>simp [Array.getElem?_setIfInBounds,h2]<;>omega
 ·obtain ⟨a,b,c,d,e⟩:=h3 i hi (by omega);refine ⟨?_,?_,?_,?_,?_⟩
  ·rw [←a];simp only [Array.getElem?_setIfInBounds];repeat rw [if_neg (by omega)]
  ·rw [←b];simp only [Array.getElem?_setIfInBounds];repeat rw [if_neg (by omega)]
  ·rw [←c];simp only [Array.getElem?_setIfInBounds];repeat rw [if_neg (by omega)]
  ·rw [←d];simp only [Array.getElem?_setIfInBounds];repeat rw [if_neg (by omega)]
  ·rw [←e];simp only [Array.getElem?_setIfInBounds];repeat rw [if_neg (by omega)]
structure dA where
 id:Int
 queue:List UInt8
 asks:List Ask
abbrev aI3 (id:Int) (queue:List UInt8) (ao:Option Addr) (len cap:Nat):Value:=.agg #[.int .i64 id,.string (bs queue),.slice ao len cap]
theorem bE.other {w:World} {ao:Option Addr} {len:Nat} {l:List Ask} (h:bE w ao len l) (g j:Nat) (v:Value) (hg:∀b off,ao=some ⟨b,off,none⟩→b≠g):bE (w.setCell ⟨g,j,none⟩ v) ao len l:=by
 obtain ⟨h1,h2⟩:=h;refine ⟨h1,?_⟩;rcases h2 with h2 | ⟨b,off,h3,h4⟩
 ·exact .inl h2
 ·have hn:=hg b off h3;have hc:∀p,(w.setCell ⟨g,j,none⟩ v).cell? ⟨b,p,none⟩=w.cell? ⟨b,p,none⟩:=fun p=>by
   unfold World.cell?;rw [heap_setCell_other w ⟨g,j,none⟩ b v hn]
  refine .inr ⟨b,off,h3,fun i h=>?_⟩;obtain ⟨a,b,c,d,e⟩:=h4 i h;exact ⟨by rw [hc];exact a,by rw [hc];exact b,by rw [hc];exact c,by rw [hc];exact d,by rw [hc];exact e⟩
def pK (w:World) (b p:Nat) (q:dA) (ao:Option Addr) (len cap:Nat):Prop:=
 w.cell? ⟨b,p,none⟩=some (.int .i64 q.id)∧w.cell? ⟨b,p+1,none⟩=some (.string (bs q.queue))∧w.cell? ⟨b,p+2,none⟩=some (.slice ao len cap)∧bE w ao len q.asks∧len≤cap
def iG (w:World) (ao:Option Addr) (len:Nat) (l:List dA):Prop:=
 len=l.length∧(len=0∨∃b off,ao=some ⟨b,off,none⟩∧∀i (h:i<l.length),∃ao len cap,pK w b (off+i*3) l[i] ao len cap)
theorem pK.lt {w:World} {b p:Nat} {q:dA} {ao:Option Addr} {len cap:Nat} (h:pK w b p q ao len cap):b<w.heap.size:=yG h.1
theorem pK.below {w w':World} {b p:Nat} {q:dA} {ao:Option Addr} {len cap:Nat} (h:pK w b p q ao len cap) (hb:Bw w w'):pK w' b p q ao len cap:=
 ⟨(hb.cell h.lt).trans h.1,(hb.cell h.lt).trans h.2.1,(hb.cell h.lt).trans h.2.2.1,h.2.2.2.1.below hb,h.2.2.2.2⟩
theorem iG.below {w w':World} {ao:Option Addr} {len:Nat} {l:List dA} (h:iG w ao len l) (hb:Bw w w'):iG w' ao len l:=by
 obtain ⟨h1,h2⟩:=h;refine ⟨h1,?_⟩;rcases h2 with h2 | ⟨b,off,h3,h4⟩
 ·exact .inl h2
 ·exact .inr ⟨b,off,h3,fun i h=>let ⟨x,y,z,hh⟩:=h4 i h;⟨x,y,z,hh.below hb⟩⟩
theorem iG.nil (w:World) (ao:Option Addr):iG w ao 0 []:=⟨rfl,.inl rfl⟩
theorem iG.at {w:World} {ao:Option Addr} {len:Nat} {l:List dA} (h:iG w ao len l) {i:Nat} (hi:i<len):∃b off,ao=some ⟨b,off,none⟩∧∀(h:i<l.length),∃ao len cap,pK w b (off+i*3) l[i] ao len cap:=by
 obtain ⟨h1,h2⟩:=h;rcases h2 with h2 | ⟨b,off,h3,h4⟩
 ·omega
 ·exact ⟨b,off,h3,fun hi=>h4 i hi⟩
def mE (w:World) (g:Nat) (ao:Option Addr) (len cap:Nat) (l:List Ask):Prop:=bE w ao len l∧len≤cap∧(∀b off,ao=some ⟨b,off,none⟩→g<b)∧∃b,ao=some ⟨b,0,none⟩∧cap=len∧eQ w 43 b len 0 []
theorem eQ.other {w:World} {t:TypeId} {g n k:Nat} {l:List Ask} (h:eQ w t g n k l) (b j:Nat) (v:Value) (hn:g≠b):eQ (w.setCell ⟨b,j,none⟩ v) t g n k l:=by
 obtain ⟨arr,h1,h2⟩:=h;exact ⟨arr,(heap_setCell_other w ⟨b,j,none⟩ g v hn).trans h1,h2⟩
theorem eQ.any {w:World} {t:TypeId} {g n k:Nat} {l:List Ask} (h:eQ w t g n k l):eQ w t g n 0 []:=by
 obtain ⟨arr,h1,h2,_⟩:=h;exact ⟨arr,h1,h2,fun i hi=>absurd hi (by simp)⟩
theorem mE.below {w w':World} {g:Nat} {ao:Option Addr} {len cap:Nat} {l:List Ask} (h:mE w g ao len cap l) (hb:Bw w w'):mE w' g ao len cap l:=⟨h.1.below hb,h.2.1,h.2.2.1,let ⟨b,e,c,d⟩:=h.2.2.2;⟨b,e,c,d.below hb⟩⟩
def eO (w:World) (t:TypeId) (g n k:Nat) (l:List dA):Prop:=
 ∃arr:Array Value,w.heap[g]? = some (.cells arr t (0,0))∧arr.size=n*3∧∀i (h:i<l.length),i<k→arr[i*3]? = some (.int .i64 l[i].id)∧arr[i*3+1]? = some (.string (bs l[i].queue))∧∃ao len cap,arr[i*3+2]? = some (.slice ao len cap)∧mE w g ao len cap l[i].asks
theorem eO.lt {w:World} {t:TypeId} {g n k:Nat} {l:List dA} (h:eO w t g n k l):g<w.heap.size:=let ⟨_,h,_⟩:=h;lt_of_block h
theorem eO.below {w w':World} {t:TypeId} {g n k:Nat} {l:List dA} (h:eO w t g n k l) (hb:Bw w w'):eO w' t g n k l:=by
 have hlt:=h.lt;obtain ⟨arr,h1,h2,h3⟩:=h;exact ⟨arr,(hb.block g hlt).trans h1,h2,fun i h hk=>let ⟨a,b,x,y,z,c,d⟩:=h3 i h hk;⟨a,b,x,y,z,c,d.below hb⟩⟩
theorem eO.cell {w:World} {t:TypeId} {g n k:Nat} {l:List dA} (h:eO w t g n k l) {j:Nat} (hj:j<n*3):∃v,w.cell? ⟨g,j,none⟩=some v:=by
 obtain ⟨arr,h1,h2,_⟩:=h;exact ⟨arr[j]'(by omega),by simp [World.cell?,h1,Array.getElem?_eq_getElem (show j<arr.size by omega)]⟩
theorem eO.frozen {w:World} {t:TypeId} {g n k:Nat} {l:List dA} (h:eO w t g n k l) (j:Nat):w.frozen? ⟨g,j,none⟩=false:=by
 obtain ⟨arr,h1,h2,_⟩:=h;simp [World.frozen?,h1]
theorem eO.row {w:World} {t:TypeId} {g n:Nat} {l:List dA} (h:eO w t g n n l) (hl:n=l.length):iG w (some ⟨g,0,none⟩) n l:=by
 obtain ⟨arr,h1,h2,h3⟩:=h;refine ⟨hl,.inr ⟨g,0,rfl,fun i hi=>?_⟩⟩;obtain ⟨a,b,x,y,z,c,d⟩:=h3 i hi (by omega);refine ⟨x,y,z,?_⟩;unfold pK;simp only [Nat.zero_add];exact ⟨by simp [World.cell?,h1,a],by simp [World.cell?,h1,b],by simp [World.cell?,h1,c],d.1,d.2.1⟩
def aGC (w:World) (g p:Nat) (id:Int) (qu:List UInt8) (ao:Option Addr) (len cap:Nat):World:=((w.setCell ⟨g,p,none⟩ (.int .i64 id)).setCell ⟨g,p+1,none⟩ (.string (bs qu))).setCell ⟨g,p+2,none⟩ (.slice ao len cap)
theorem mE.put {w:World} {g:Nat} {ao:Option Addr} {len cap:Nat} {l:List Ask} (h:mE w g ao len cap l) (j:Nat) (v:Value):mE (w.setCell ⟨g,j,none⟩ v) g ao len cap l:=
 ⟨h.1.other g j v (fun b off e=>by have:=h.2.2.1 b off e;omega),h.2.1,h.2.2.1,let ⟨b,e,c,d⟩:=h.2.2.2;⟨b,e,c,d.other g j v (by have:=h.2.2.1 b 0 e;omega)⟩⟩
theorem mE.other {w:World} {g:Nat} {ao:Option Addr} {len cap:Nat} {l:List Ask} (h:mE w g ao len cap l) (k j:Nat) (v:Value) (hk:k<g):mE (w.setCell ⟨k,j,none⟩ v) g ao len cap l:=
 ⟨h.1.other k j v (fun b off e=>by have:=h.2.2.1 b off e;omega),h.2.1,h.2.2.1,let ⟨b,e,c,d⟩:=h.2.2.2;⟨b,e,c,d.other k j v (by have:=h.2.2.1 b 0 e;omega)⟩⟩
theorem eO.step {w:World} {t:TypeId} {g n k:Nat} {l:List dA} (h:eO w t g n k l) (hk:k<n) (hl:k<l.length) (AO:Option Addr) (LEN CAP:Nat) (ho:mE w g AO LEN CAP l[k].asks):eO (aGC w g (k*3) l[k].id l[k].queue AO LEN CAP) t g n (k+1) l:=by
 obtain ⟨arr,h1,h2,h3⟩:=h;have e1:=heap_setCell_same w g (k*3) _ _ (.int .i64 l[k].id) h1;have e2:=heap_setCell_same _ g (k*3+1) _ _ (.string (bs l[k].queue)) e1;have e3:=heap_setCell_same _ g (k*3+2) _ _ (.slice AO LEN CAP) e2;have J9:∀{ao len cap l'},mE w g ao len cap l'→mE (aGC w g (k*3) l[k].id l[k].queue AO LEN CAP) g ao len cap l':=fun h=>((h.put _ _).put _ _).put _ _
 refine ⟨_,e3,by simp [h2],fun i hi hik=>?_⟩;by_cases e:i=k
 ·subst e;have q1:i*3+2<arr.size:=by omega
  refine ⟨?_,?_,AO,LEN,CAP,?_,J9 ho⟩<;>simp [Array.getElem?_setIfInBounds,h2]<;>omega
 ·obtain ⟨a,b,x,y,z,c,d⟩:=h3 i hi (by omega);refine ⟨?_,?_,x,y,z,?_,J9 d⟩
  ·rw [←a];simp only [Array.getElem?_setIfInBounds];repeat rw [if_neg (by omega)]
  ·rw [←b];simp only [Array.getElem?_setIfInBounds];repeat rw [if_neg (by omega)]
  ·rw [←c];simp only [Array.getElem?_setIfInBounds];repeat rw [if_neg (by omega)]
def aKo (q:Ask) (a:Int):Int:=if a - q.node.length<0 then -1 else a - q.node.length
def aKg (l:List Ask):Prop:=l.length≤1048576∧∀q ∈ l,q.node.length≤1048576
def aKe (l:List Mac):Prop:=l.length≤1048576∧∀q ∈ l,q.name.length≤1048576
def aKf (l:List Con):Prop:=l.length≤1048576∧∀q ∈ l,q.node.length≤1048576
def nD (w0:World) (b p c r:Nat) (q:Ask) (w:World):Prop:=tN w b p q∧tN w c r q∧Bw w0 w
theorem nD.call {w0 w w':World} {b p c r:Nat} {q:Ask} (h:nD w0 b p c r q w) (hb:Bw w w'):nD w0 b p c r q w':=⟨h.1.below hb,h.2.1.below hb,yB h.2.2 hb⟩
theorem nD.drew {w0 w:World} {b p c r:Nat} {q:Ask} (h:nD w0 b p c r q w):nD w0 b p c r q w.drew:=h.call (yH _ _).drew
theorem nD.read (w0:World) (b p c r:Nat) (q:Ask):∀wx,nD w0 b p c r q wx→wx.cell? ⟨b,p,none⟩=some (.int .i64 q.mem)∧wx.cell? ⟨b,p+1,none⟩=some (.int .i64 q.cpu)∧wx.cell? ⟨b,p+2,none⟩=some (.int .i64 q.count)∧wx.cell? ⟨b,p+3,none⟩=some (.string (bs q.node))∧wx.cell? ⟨b,p+4,none⟩=some (.int .i64 q.missed)
  ∧wx.cell? ⟨c,r,none⟩=some (.int .i64 q.mem)∧wx.cell? ⟨c,r+1,none⟩=some (.int .i64 q.cpu)∧wx.cell? ⟨c,r+2,none⟩=some (.int .i64 q.count)∧wx.cell? ⟨c,r+3,none⟩=some (.string (bs q.node))∧wx.cell? ⟨c,r+4,none⟩=some (.int .i64 q.missed):=
 fun wx h=>⟨h.1.1,h.1.2.1,h.1.2.2.1,h.1.2.2.2.1,h.1.2.2.2.2,h.2.1.1,h.2.1.2.1,h.2.1.2.2.1,h.2.1.2.2.2.1,h.2.1.2.2.2.2⟩
def nC (w0:World) (b p c r:Nat) (q:Mac) (w:World):Prop:=o5 w b p q∧o5 w c r q∧Bw w0 w
theorem nC.call {w0 w w':World} {b p c r:Nat} {q:Mac} (h:nC w0 b p c r q w) (hb:Bw w w'):nC w0 b p c r q w':=⟨h.1.below hb,h.2.1.below hb,yB h.2.2 hb⟩
theorem nC.drew {w0 w:World} {b p c r:Nat} {q:Mac} (h:nC w0 b p c r q w):nC w0 b p c r q w.drew:=h.call (yH _ _).drew
theorem nC.read (w0:World) (b p c r:Nat) (q:Mac):∀wx,nC w0 b p c r q wx→wx.cell? ⟨b,p,none⟩=some (.string (bs q.name))∧wx.cell? ⟨b,p+1,none⟩=some (.int .i64 q.mem)∧wx.cell? ⟨b,p+2,none⟩=some (.int .i64 q.cpu)∧wx.cell? ⟨b,p+3,none⟩=some (.int .i64 q.seen)
  ∧wx.cell? ⟨c,r,none⟩=some (.string (bs q.name))∧wx.cell? ⟨c,r+1,none⟩=some (.int .i64 q.mem)∧wx.cell? ⟨c,r+2,none⟩=some (.int .i64 q.cpu)∧wx.cell? ⟨c,r+3,none⟩=some (.int .i64 q.seen):=
 fun wx h=>⟨h.1.1,h.1.2.1,h.1.2.2.1,h.1.2.2.2,h.2.1.1,h.2.1.2.1,h.2.1.2.2.1,h.2.1.2.2.2⟩
def nY (w0:World) (b p c r:Nat) (q:Con) (w:World):Prop:=qD w b p q∧qD w c r q∧Bw w0 w
theorem nY.call {w0 w w':World} {b p c r:Nat} {q:Con} (h:nY w0 b p c r q w) (hb:Bw w w'):nY w0 b p c r q w':=⟨h.1.below hb,h.2.1.below hb,yB h.2.2 hb⟩
theorem nY.drew {w0 w:World} {b p c r:Nat} {q:Con} (h:nY w0 b p c r q w):nY w0 b p c r q w.drew:=h.call (yH _ _).drew
theorem nY.read (w0:World) (b p c r:Nat) (q:Con):∀wx,nY w0 b p c r q wx→wx.cell? ⟨b,p,none⟩=some (.int .i64 q.id)∧wx.cell? ⟨b,p+1,none⟩=some (.int .i64 q.app)∧wx.cell? ⟨b,p+2,none⟩=some (.string (bs q.node))∧wx.cell? ⟨b,p+3,none⟩=some (.int .i64 q.mem)∧wx.cell? ⟨b,p+4,none⟩=some (.int .i64 q.cpu)
  ∧wx.cell? ⟨c,r,none⟩=some (.int .i64 q.id)∧wx.cell? ⟨c,r+1,none⟩=some (.int .i64 q.app)∧wx.cell? ⟨c,r+2,none⟩=some (.string (bs q.node))∧wx.cell? ⟨c,r+3,none⟩=some (.int .i64 q.mem)∧wx.cell? ⟨c,r+4,none⟩=some (.int .i64 q.cpu):=
 fun wx h=>⟨h.1.1,h.1.2.1,h.1.2.2.1,h.1.2.2.2.1,h.1.2.2.2.2,h.2.1.1,h.2.1.2.1,h.2.1.2.2.1,h.2.1.2.2.2.1,h.2.1.2.2.2.2⟩
def aH0 (q:dA):Prop:=q.queue.length≤9223372036854775807∧q.asks.length≤9223372036854775807∧∀a ∈ q.asks,a.node.length≤9223372036854775807
def aIg (q:dA):Prop:=q.queue.length≤1048576∧aKg q.asks
def aJq (l:List dA):Prop:=l.length≤1048576∧∀q ∈ l,aIg q
def gX (w0:World) (b p c r:Nat) (q:dA) (ao bo:Option Addr) (len cap ccap:Nat) (w:World):Prop:=pK w b p q ao len cap∧pK w c r q bo len ccap∧Bw w0 w
theorem gX.call {w0 w w':World} {b p c r:Nat} {q:dA} {ao bo:Option Addr} {len cap ccap:Nat} (h:gX w0 b p c r q ao bo len cap ccap w) (hb:Bw w w'):gX w0 b p c r q ao bo len cap ccap w':=⟨h.1.below hb,h.2.1.below hb,yB h.2.2 hb⟩
theorem gX.drew {w0 w:World} {b p c r:Nat} {q:dA} {ao bo:Option Addr} {len cap ccap:Nat} (h:gX w0 b p c r q ao bo len cap ccap w):gX w0 b p c r q ao bo len cap ccap w.drew:=h.call (yH _ _).drew
theorem gX.read (w0:World) (b p c r:Nat) (q:dA) (ao bo:Option Addr) (len cap ccap:Nat):∀wx,gX w0 b p c r q ao bo len cap ccap wx→wx.cell? ⟨b,p,none⟩=some (.int .i64 q.id)∧wx.cell? ⟨b,p+1,none⟩=some (.string (bs q.queue))∧wx.cell? ⟨b,p+2,none⟩=some (.slice ao len cap)
  ∧wx.cell? ⟨c,r,none⟩=some (.int .i64 q.id)∧wx.cell? ⟨c,r+1,none⟩=some (.string (bs q.queue))∧wx.cell? ⟨c,r+2,none⟩=some (.slice bo len ccap):=
 fun wx h=>⟨h.1.1,h.1.2.1,h.1.2.2.1,h.2.1.1,h.2.1.2.1,h.2.1.2.2.1⟩
structure St where
 qs:List Q
 clock:Int
 epoch:Int
 next:Int
 serial:Int
 apps:List dA
 ms:List Mac
 cs:List Con
structure Sls where
 qa:Option Addr
 ql:Nat
 qc:Nat
 aa:Option Addr
 al:Nat
 ac:Nat
 ma:Option Addr
 ml:Nat
 mc:Nat
 ca:Option Addr
 cl:Nat
 cc:Nat
abbrev svc (x:Sls) (s:St):Array Value:=#[.slice x.qa x.ql x.qc,.int .i64 s.clock,.int .i64 s.epoch,.int .i64 s.next,.int .i64 s.serial,.slice x.aa x.al x.ac,.slice x.ma x.ml x.mc,.slice x.ca x.cl x.cc]
abbrev sv (x:Sls) (s:St):Value:=.agg (svc x s)
def gW (w:World) (x:Sls) (s:St):Prop:=gH w x.qa x.ql s.qs∧iG w x.aa x.al s.apps∧cB w x.ma x.ml s.ms∧bR w x.ca x.cl s.cs
theorem gW.below {w w':World} {x:Sls} {s:St} (h:gW w x s) (hb:Bw w w'):gW w' x s:=⟨h.1.below hb,h.2.1.below hb,h.2.2.1.below hb,h.2.2.2.below hb⟩
def aC3 (w:World) (g1 g2 g3 g4 ql al ml cl:Nat) (s:St):Prop:=
 tL w 105 g1 ql ql s.qs∧eO w 56 g2 al al s.apps∧gD w 103 g3 ml ml s.ms∧gF w 35 g4 cl cl s.cs
abbrev aLL (g1 g2 g3 g4 ql al ml cl:Nat):Sls:=⟨some ⟨g1,0,none⟩,ql,ql,some ⟨g2,0,none⟩,al,al,some ⟨g3,0,none⟩,ml,ml,some ⟨g4,0,none⟩,cl,cl⟩
def aLE (x:Sls) (s:St):Prop:=x.ql=s.qs.length∧x.al=s.apps.length∧x.ml=s.ms.length∧x.cl=s.cs.length
theorem gW.len {w:World} {x:Sls} {s:St} (h:gW w x s):aLE x s:=⟨h.1.1,h.2.1.1,h.2.2.1.1,h.2.2.2.1⟩
theorem aC3.below {w w':World} {g1 g2 g3 g4 ql al ml cl:Nat} {s:St} (h:aC3 w g1 g2 g3 g4 ql al ml cl s) (hb:Bw w w'):aC3 w' g1 g2 g3 g4 ql al ml cl s:=⟨h.1.below hb,h.2.1.below hb,h.2.2.1.below hb,h.2.2.2.below hb⟩
theorem aC3.row {w:World} {g1 g2 g3 g4:Nat} {x:Sls} {s:St} (h:aC3 w g1 g2 g3 g4 x.ql x.al x.ml x.cl s) (hl:aLE x s):gW w (aLL g1 g2 g3 g4 x.ql x.al x.ml x.cl) s:=⟨h.1.row hl.1,h.2.1.row hl.2.1,h.2.2.1.row hl.2.2.1,h.2.2.2.row hl.2.2.2⟩
theorem tL.other {w:World} {t:TypeId} {g n k:Nat} {l:List Q} (h:tL w t g n k l) (b j:Nat) (v:Value) (hn:g≠b):tL (w.setCell ⟨b,j,none⟩ v) t g n k l:=by
 obtain ⟨arr,h1,h2⟩:=h;exact ⟨arr,(heap_setCell_other w ⟨b,j,none⟩ g v hn).trans h1,h2⟩
theorem gD.other {w:World} {t:TypeId} {g n k:Nat} {l:List Mac} (h:gD w t g n k l) (b j:Nat) (v:Value) (hn:g≠b):gD (w.setCell ⟨b,j,none⟩ v) t g n k l:=by
 obtain ⟨arr,h1,h2⟩:=h;exact ⟨arr,(heap_setCell_other w ⟨b,j,none⟩ g v hn).trans h1,h2⟩
theorem gF.other {w:World} {t:TypeId} {g n k:Nat} {l:List Con} (h:gF w t g n k l) (b j:Nat) (v:Value) (hn:g≠b):gF (w.setCell ⟨b,j,none⟩ v) t g n k l:=by
 obtain ⟨arr,h1,h2⟩:=h;exact ⟨arr,(heap_setCell_other w ⟨b,j,none⟩ g v hn).trans h1,h2⟩
theorem eO.other {w:World} {t:TypeId} {g n k:Nat} {l:List dA} (h:eO w t g n k l) (b j:Nat) (v:Value) (hn:b<g):eO (w.setCell ⟨b,j,none⟩ v) t g n k l:=by
 obtain ⟨arr,h1,h2,h3⟩:=h;refine ⟨arr,(heap_setCell_other w ⟨b,j,none⟩ g v (show g≠b by omega)).trans h1,h2,fun i hi hk=>?_⟩;obtain ⟨a,c,x,y,z,d,e⟩:=h3 i hi hk;exact ⟨a,c,x,y,z,d,e.other b j v hn⟩
theorem aC3.other {w:World} {g1 g2 g3 g4 ql al ml cl:Nat} {s:St} (h:aC3 w g1 g2 g3 g4 ql al ml cl s) (b j:Nat) (v:Value) (h1:b<g1) (h2:b<g2) (h3:b<g3) (h4:b<g4):aC3 (w.setCell ⟨b,j,none⟩ v) g1 g2 g3 g4 ql al ml cl s:=
 ⟨h.1.other _ _ _ (by omega),h.2.1.other _ _ _ h2,h.2.2.1.other _ _ _ (by omega),h.2.2.2.other _ _ _ (by omega)⟩
def dB (s:St):Prop:=aKd s.qs∧aJq s.apps∧aKe s.ms∧aKf s.cs
def aKy (x:Sls) (s:St):Prop:=(x.ql≤9223372036854775807∧∀q ∈ s.qs,q.name.length≤9223372036854775807∧q.parent.length≤9223372036854775807)∧(x.al≤9223372036854775807∧∀q ∈ s.apps,aH0 q)∧(x.ml≤9223372036854775807∧∀q ∈ s.ms,q.name.length≤9223372036854775807)∧(x.cl≤9223372036854775807∧∀q ∈ s.cs,q.node.length≤9223372036854775807)
def pJ (w:World) (x y:Sls) (s:St) (wx:World):Prop:=Blk wx w.heap.size (svc x s) 29∧Blk wx (w.heap.size+1) (svc y s) 29∧Bw w wx
theorem pJ.call {w wx wy:World} {x y:Sls} {s:St} (h:pJ w x y s wx) (hb:Bw wx wy):pJ w x y s wy:=⟨h.1.below hb,h.2.1.below hb,yB h.2.2 hb⟩
theorem pJ.drew {w wx:World} {x y:Sls} {s:St} (h:pJ w x y s wx):pJ w x y s wx.drew:=h.call (yH _ _).drew
theorem pJ.new (w:World) (x y:Sls) (s:St):pJ w x y s ((w.alloc (.cells (svc x s) 29)).alloc (.cells (svc y s) 29)):=
 ⟨(yD _ _ _).al _,by have:=yD (w.alloc (.cells (svc x s) 29)) (svc y s) 29;rwa [yE] at this,yA (yA (yH _ _) _) _⟩
theorem pJ.read (w:World) (x y:Sls) (s:St):∀wx,pJ w x y s wx→(wx.cell? ⟨w.heap.size,0,none⟩=some (.slice x.qa x.ql x.qc)∧wx.cell? ⟨w.heap.size,1,none⟩=some (.int .i64 s.clock)∧wx.cell? ⟨w.heap.size,2,none⟩=some (.int .i64 s.epoch)∧wx.cell? ⟨w.heap.size,3,none⟩=some (.int .i64 s.next)∧wx.cell? ⟨w.heap.size,4,none⟩=some (.int .i64 s.serial)∧wx.cell? ⟨w.heap.size,5,none⟩=some (.slice x.aa x.al x.ac)∧wx.cell? ⟨w.heap.size,6,none⟩=some (.slice x.ma x.ml x.mc)∧wx.cell? ⟨w.heap.size,7,none⟩=some (.slice x.ca x.cl x.cc))
  ∧wx.cell? ⟨w.heap.size+1,0,none⟩=some (.slice y.qa y.ql y.qc)∧wx.cell? ⟨w.heap.size+1,1,none⟩=some (.int .i64 s.clock)∧wx.cell? ⟨w.heap.size+1,2,none⟩=some (.int .i64 s.epoch)∧wx.cell? ⟨w.heap.size+1,3,none⟩=some (.int .i64 s.next)∧wx.cell? ⟨w.heap.size+1,4,none⟩=some (.int .i64 s.serial)∧wx.cell? ⟨w.heap.size+1,5,none⟩=some (.slice y.aa y.al y.ac)∧wx.cell? ⟨w.heap.size+1,6,none⟩=some (.slice y.ma y.ml y.mc)∧wx.cell? ⟨w.heap.size+1,7,none⟩=some (.slice y.ca y.cl y.cc):=
 fun wx h=>⟨⟨h.1.at 0,h.1.at 1,h.1.at 2,h.1.at 3,h.1.at 4,h.1.at 5,h.1.at 6,h.1.at 7⟩,h.2.1.at 0,h.2.1.at 1,h.2.1.at 2,h.2.1.at 3,h.2.1.at 4,h.2.1.at 5,h.2.1.at 6,h.2.1.at 7⟩
end Go.Proofs.YtfndhndlkcijoaaGreat
namespace Go.Proofs.YtfndhndlkcijoaaGreat
open Go.ChangeShapes Go.WideShapes Go.ChangeAt Go.RowKit Go.Deep
def aKi (q:Ask):Prop:=q.node.length≤9223372036854775807∧(Lit.int .i64 q.mem).wf=true∧(Lit.int .i64 q.cpu).wf=true∧(Lit.int .i64 q.count).wf=true∧(Lit.int .i64 q.missed).wf=true
def aKc (q:Mac):Prop:=q.name.length≤9223372036854775807∧(Lit.int .i64 q.mem).wf=true∧(Lit.int .i64 q.cpu).wf=true∧(Lit.int .i64 q.seen).wf=true
def aKh (q:Con):Prop:=q.node.length≤9223372036854775807∧(Lit.int .i64 q.id).wf=true∧(Lit.int .i64 q.app).wf=true∧(Lit.int .i64 q.mem).wf=true∧(Lit.int .i64 q.cpu).wf=true
def aD5 (q:dA):Prop:=q.queue.length≤9223372036854775807∧(Lit.int .i64 q.id).wf=true∧q.asks.length≤9223372036854775807∧∀a ∈ q.asks,aKi a
theorem aD5.big {q:dA} (h:aD5 q):aH0 q:=⟨h.1,h.2.2.1,fun a ha=>(h.2.2.2 a ha).1⟩
def aK9 (x:Sls) (s:St):Prop:=(x.ql≤9223372036854775807∧∀q ∈ s.qs,aLX q∧(Lit.int .i64 q.due).wf=true∧(Lit.int .i64 q.most).wf=true)∧(x.al≤9223372036854775807∧∀q ∈ s.apps,aD5 q)∧(x.ml≤9223372036854775807∧∀q ∈ s.ms,aKc q)∧(x.cl≤9223372036854775807∧∀q ∈ s.cs,aKh q)∧(Lit.int .i64 s.clock).wf=true∧(Lit.int .i64 s.epoch).wf=true∧(Lit.int .i64 s.next).wf=true∧(Lit.int .i64 s.serial).wf=true
theorem aK9.big {x:Sls} {s:St} (h:aK9 x s):aKy x s:=⟨⟨h.1.1,fun q hq=>(h.1.2 q hq).1⟩,⟨h.2.1.1,fun q hq=>(h.2.1.2 q hq).big⟩,⟨h.2.2.1.1,fun q hq=>(h.2.2.1.2 q hq).1⟩,h.2.2.2.1.1,fun q hq=>(h.2.2.2.1.2 q hq).1⟩
end Go.Proofs.YtfndhndlkcijoaaGreat
namespace Go.Proofs.YtfndhndlkcijoaaGreat
section
open Go.RowKit
variable {a b c d s:Int} {r:Int×Int} {l:List (Int×Int)} {ps:List (List UInt8)} {nm:List UInt8} {B i j k n p:Nat} {ao:Option Addr} {v:Value} {w w':World}
def aN (s a b c d:Int):Bool:=aQ a b&&aQ c d&&aQ (a+s*c) (b+s*d)
def jY (s a b c d:Int):Value:=if aN s a b c d then rv (a+s*c) (b+s*d) else rv 0 0
theorem kQ (h:aN s a b c d=false):jY s a b c d=rv 0 0:=by simp [jY,h]
theorem kW (h:aN s a b c d=true):jY s a b c d=rv (a+s*c) (b+s*d):=by simp [jY,h]
theorem wY (a b c d s:Int) (w:World) (hs:s=1∨s = -1) :
  cP 178 #[rv a b,rv c d,.int .i64 s] w fun e w'=>e=.returned (.tuple #[jY s a b c d,.bool (aN s a b c d)])∧Bw w w':=by
 cases h1:aQ a b
 ·have hb:aN s a b c d=false:=by simp [aN,h1]
  rw [kQ hb,hb];go_enter func178,ntmps178;go_wp2_with (go_at_call 127;refine (aW _ _ _).mono ?_;rintro e w' ⟨rfl,rfl⟩);refine bodyPost_ret (v:=.tuple #[rv 0 0,.bool false]) (by simp [results,results178,go_sem]) rfl ⟨rfl,?_⟩;repeat (first | exact yH _ _ | refine yA ?_ _ | refine yC ?_ _ _ _ (by omega))
 ·cases h2:aQ c d
  ·(have hb:aN s a b c d=false:=by simp [aN,h2]);rw [kQ hb,hb];(go_enter func178,ntmps178);(go_wp2_with (go_at_call 127;refine (aW _ _ _).mono ?_;rintro e w' ⟨rfl,rfl⟩));refine bodyPost_ret (v:=.tuple #[rv 0 0,.bool false]) (by simp [results,results178,go_sem]) rfl ⟨rfl,?_⟩;repeat (first | exact yH _ _ | refine yA ?_ _ | refine yC ?_ _ _ _ (by omega))
  ·obtain ⟨q1,q2,q3,q4⟩:=aZ h1;obtain ⟨q5,q6,q7,q8⟩:=aZ h2;(have m1:IntKind.i64.wrap (s*c)=s*c:=by rw [IntKind.wrap_i64];rcases hs with rfl | rfl<;>omega);(have m2:IntKind.i64.wrap (s*d)=s*d:=by rw [IntKind.wrap_i64];rcases hs with rfl | rfl<;>omega);(have m3:IntKind.i64.wrap (a+s*c)=a+s*c:=by rw [IntKind.wrap_i64];rcases hs with rfl | rfl<;>omega);(have m4:IntKind.i64.wrap (b+s*d)=b+s*d:=by rw [IntKind.wrap_i64];rcases hs with rfl | rfl<;>omega);cases h3:aQ (a+s*c) (b+s*d)
   ·(have hb:aN s a b c d=false:=by simp [aN,h3]);rw [kQ hb,hb];(go_enter func178,ntmps178);(go_wp2_with (go_at_call 127;refine (aW _ _ _).mono ?_;rintro e w' ⟨rfl,rfl⟩));refine bodyPost_ret (v:=.tuple #[rv 0 0,.bool false]) (by simp [results,results178,go_sem]) rfl ⟨rfl,?_⟩;repeat (first | exact yH _ _ | refine yA ?_ _ | refine yC ?_ _ _ _ (by omega))
   ·(have hb:aN s a b c d=true:=by simp [aN,h1,h2,h3]);rw [kW hb,hb];(go_enter func178,ntmps178);(go_wp2_with (go_at_call 127;refine (aW _ _ _).mono ?_;rintro e w' ⟨rfl,rfl⟩));refine bodyPost_ret (v:=.tuple #[rv (a+s*c) (b+s*d),.bool true]) (by simp [results,results178,go_sem]) rfl ⟨rfl,?_⟩;repeat (first | exact yH _ _ | refine yA ?_ _ | refine yC ?_ _ _ _ (by omega))
def RAt (w:World) (b p:Nat) (r:Int×Int):Prop:=w.cell? ⟨b,p,none⟩=some (.int .i64 r.1)∧w.cell? ⟨b,p+1,none⟩=some (.int .i64 r.2)
def aF2 (w:World) (ao:Option Addr) (len:Nat) (l:List (Int×Int)):Prop:=
 len=l.length∧(len=0∨∃b off,ao=some ⟨b,off,none⟩∧∀i (h:i<l.length),RAt w b (off+i*2) l[i])
theorem RAt.lt {b:Nat} (h:RAt w b p r):b<w.heap.size:=yG h.1
theorem RAt.below {b:Nat} (h:RAt w b p r) (hb:Bw w w'):RAt w' b p r:=⟨(hb.cell h.lt).trans h.1,(hb.cell h.lt).trans h.2⟩
theorem aF2.below {len:Nat} (h:aF2 w ao len l) (hb:Bw w w'):aF2 w' ao len l:=by
 obtain ⟨h1,h2⟩:=h;refine ⟨h1,?_⟩;rcases h2 with h2 | ⟨b,off,h3,h4⟩
 ·exact .inl h2
 ·exact .inr ⟨b,off,h3,fun i h=>(h4 i h).below hb⟩
theorem aF2.at {len:Nat} (h:aF2 w ao len l) (hi:i<len):∃b off,ao=some ⟨b,off,none⟩∧∀(h:i<l.length),RAt w b (off+i*2) l[i]:=by
 obtain ⟨h1,h2⟩:=h;rcases h2 with h2 | ⟨b,off,h3,h4⟩
 ·omega
 ·exact ⟨b,off,h3,fun hi=>h4 i hi⟩
abbrev y7 (r:Int×Int):List Value:=[.int .i64 r.1,.int .i64 r.2]
def iQ:List (Int×Int)→List Value
 | []=>[]
 | q::t=>y7 q++iQ t
theorem aE5 (a:List (Int×Int)) (q:Int×Int):iQ (a++[q])=iQ a++y7 q:=by
 induction a with
 | nil=>rfl
 | cons x t ih=>rw [List.cons_append,iQ,iQ,ih,List.append_assoc]
theorem aB3:∀(l:List (Int×Int)) (i:Nat) (h:i<l.length),(iQ l)[i*2]? = some (.int .i64 l[i].1)∧(iQ l)[i*2+1]? = some (.int .i64 l[i].2)
 | q::t,0,_=>⟨rfl,rfl⟩
 | q::t,i+1,h=>by
  have e:=aB3 t i (by simpa using h);have k:∀j,(iQ (q::t))[(i+1)*2+j]? = (iQ t)[i*2+j]?:=fun j=>by
   rw [iQ,show (i+1)*2+j=(y7 q).length+(i*2+j) by simp;omega,List.getElem?_append_right (by omega)];(congr 1);omega
  have k0:=k 0;simp only [Nat.add_zero] at k0;rw [k0,k 1];simpa using e
def yR (B:Nat) (w:World) (v:Value) (l:List (Int×Int)):Prop:=w.ownsRow B 33 2 v l.length (iQ l)
theorem aAf (B:Nat) (w:World):yR B w (.slice none 0 0) []:=World.ownsRow_nil _ _ _ _
theorem rX (w:World):yR w.heap.size (w.alloc (.cells #[] 33)) (.slice (some ⟨w.heap.size,0,none⟩) 0 0) []:=
 ⟨rfl,.inr ⟨w.heap.size,0,#[],rfl,yJ _,by show (w.heap.push _)[w.heap.size]? = _;simp,yJ _,by unfold maxLen;omega,rfl,rfl⟩⟩
theorem yR.base {B':Nat} (h:yR B w v l) (hb:B'≤B):yR B' w v l:=by
 obtain ⟨h1,h2⟩:=h;refine ⟨h1,?_⟩;rcases h2 with h2 | ⟨g,cap,cur,a,b,c⟩
 ·exact .inl h2
 ·exact .inr ⟨g,cap,cur,a,Nat.le_trans hb b,c⟩
theorem yR.below (h:yR B w v l) (hb:Bw w w'):yR B w' v l:=
 h.kept (aH (aD w none) hb) (by by_cases e:v.ownBlock=none;exact .inl e;exact .inr e)
theorem yR.row (h:yR B w v l):∃ao cap,v=.slice ao l.length cap∧aF2 w ao l.length l∧l.length≤cap:=by
 rcases h.2 with ⟨rfl,h0⟩ | ⟨g,cap,cur,rfl,h1,h2,h3,h4,h5,h6⟩
 ·exact ⟨none,0,by rw [h0],⟨rfl,.inl h0⟩,by omega⟩
 ·refine ⟨some ⟨g,0,none⟩,cap,rfl,⟨rfl,.inr ⟨g,0,rfl,fun i hi=>?_⟩⟩,h3⟩;obtain ⟨a,b⟩:=aB3 l i hi;have k:∀j (v:Value),j<l.length*2→(iQ l)[j]? = some v→w.cell? ⟨g,j,none⟩=some v:=fun j v hj hv=>by
   rw [←h6,List.getElem?_take_of_lt hj] at hv;simp [World.cell?,h2];simpa using hv
  unfold RAt;rw [Nat.zero_add];exact ⟨k _ _ (by omega) a,k _ _ (by omega) b⟩
theorem lU {wr w1:World} {v':Value} {q:Int×Int} {ob:Obj} (hb:Below B w wr) (Hq:yR B wr v l)
  (h1:w1.ownsRow B 33 2 v' (l.length+1) (iQ l++y7 q)) (hg:(wr.alloc ob).grownBy w1 v.ownBlock) (hB:B≤wr.heap.size) :
  yR B w1 v' (l++[q])∧Below B w w1:=by
 refine ⟨?_,(hb.alloc hB ob).grown hg (by simp;omega) ?_⟩
 ·unfold yR;rw [aE5,List.length_append];exact h1
 ·intro k hk;rcases Hq.2 with ⟨rfl,_⟩ | ⟨g,cap,cur,rfl,hg',_⟩
  ·simp [Value.ownBlock] at hk
  ·simp [Value.ownBlock] at hk;omega
theorem Tryz.infoR:(Tryz.prog.info? 33).map (fun i=>(i.zero,i.size,i.bytes))=some (some (.agg #[.int .i64 0,.int .i64 0]),2,16):=by kernel_rfl
def aT:List (Int×Int)→Int→Int→Int×Int×Bool
 | [],x,y=>(x,y,true)
 | r::t,x,y=>if aN 1 x y r.1 r.2=true then aT t (x+1*r.1) (y+1*r.2) else (0,0,false)
def iC (l:List (Int×Int)):Int×Int×Bool:=aT l 0 0
theorem tV (h:k<l.length) (x y:Int):aT (l.drop k) x y=if aN 1 x y l[k].1 l[k].2=true then aT (l.drop (k+1)) (x+1*l[k].1) (y+1*l[k].2) else (0,0,false):=by
 rw [List.drop_eq_getElem_cons h,aT]
theorem vU (h:l.length≤k) (x y:Int):aT (l.drop k) x y=(x,y,true):=by
 rw [List.drop_of_length_le h];rfl
def aX (l:List Mac):List (Int×Int):=l.map (fun m=>(m.mem,m.cpu))
theorem xO {l:List Mac} (h:k<l.length):aX (l.take (k+1))=aX (l.take k)++[(l[k].mem,l[k].cpu)]:=by
 rw [List.take_succ_eq_append_getElem h,aX,List.map_append];rfl
def aO (p:Con→Bool) (l:List Con):List (Int×Int):=(l.filter p).map (fun c=>(c.mem,c.cpu))
theorem oF {p:Con→Bool} {l:List Con} (h:k<l.length):aO p (l.take (k+1))=if p l[k]=true then aO p (l.take k)++[(l[k].mem,l[k].cpu)] else aO p (l.take k):=by
 rw [List.take_succ_eq_append_getElem h];simp only [aO,List.filter_append,List.map_append];by_cases hp:p l[k]=true<;>simp [hp]
def sZ (w:World) (c:Array Value):World:=(w.alloc (.cells c 29)).alloc (.cells #[.int .i64 0,.int .i64 0] 33)
theorem rG (w:World) (c:Array Value):(sZ w c).heap.size=w.heap.size+1+1:=by simp only [sZ,yE]
theorem dG (w:World) (c:Array Value):Bw w (sZ w c):=yA (yA (yH _ w) _) _
theorem iY (w:World) (c:Array Value):Var (sZ w c) 33 (w.heap.size+1) 0 0:=by
 have:=aM (w.alloc (.cells c 29)) 33 0 0;rwa [yE] at this
abbrev uD (m:Mac):Obj:=.cells #[.string (bs m.name),.int .i64 m.mem,.int .i64 m.cpu,.int .i64 m.seen] 103
def rM (w:World) (c:Array Value):World:=w.alloc (.cells c 29)
theorem xP (w:World) (c:Array Value):(rM w c).heap.size=w.heap.size+1:=by simp only [rM,yE]
theorem jD (w:World) (c:Array Value):Bw w (rM w c):=yA (yH _ w) _
theorem fQ (w:World) (c:Array Value):Blk (rM w c) w.heap.size c 29:=yD w c _
def aU (nm:List UInt8):List Q→Nat→Int
 | [],_=>-1
 | q::t,k=>if q.name=nm then k else aU nm t (k+1)
def place (l:List Q) (nm:List UInt8):Int:=aU nm l 0
theorem y8 {l:List Q} (h:k<l.length):aU nm (l.drop k) k=if l[k].name=nm then (k:Int) else aU nm (l.drop (k+1)) (k+1):=by
 rw [List.drop_eq_getElem_cons h,aU]
theorem aAg {l:List Q} (h:l.length≤k):aU nm (l.drop k) k = -1:=by
 rw [List.drop_of_length_le h];rfl
theorem jL (ao:Option Addr) (len cap:Nat) (l:List Q) (nm:List UInt8) (w:World) (h:gH w ao len l) (hl:len≤1048576) :
  cP 121 #[.slice ao len cap,.string (bs nm)] w fun e w'=>e=.returned (.int .i64 (place l nm))∧w=w':=by
 have HR:=aA h;have HL:=aA h.1;clear h;go_enter func121,ntmps121;go_wp2;go_loopw [5] (fun i wr=>∃k:Nat,k≤len∧i=.int .i64 k∧Hid (place l nm=aU nm (l.drop k) k)∧wr=w) (fun i _=>len - (intOf i).toNat);case atStart=>exact ⟨0,Nat.zero_le _,rfl,aA (by simp [place]),rfl⟩
 case round=>
  obtain ⟨k,hk,rfl,hp,rfl⟩:=hrel;by_cases hlt:k<len
  ·obtain ⟨b,off,rfl,hq⟩:=(uH HR).at hlt;(have hkl:k<l.length:=by have:=uH HL;omega);have hst:=aA (y8 (nm:=nm) (l:=l) (k:=k) hkl);have hq0:=(hq hkl).1;clear hq;obtain ⟨s,hs⟩:∃s,l[k].name=s:=⟨_,rfl⟩;rw [hs] at hq0 hst;have hbe:=l6 s nm;clear hs hkl;by_cases he:s=nm
   ·have HE:=aA he;rw [decide_eq_true he] at hbe;clear he;go_wp2;go_ret;exact ⟨jA (by rw [uH hp,uH hst,if_pos (uH HE)]),rfl⟩
   ·have HE:=aA he;rw [decide_eq_false he] at hbe;clear he;go_wp2;go_roundw;(case rel=>exact ⟨k+1,by omega,by go_num,aA (by rw [uH hp,uH hst,if_neg (uH HE)]),trivial⟩);case measure=>simp [intOf];omega
  ·go_wp2;go_ret;exact ⟨jA (by rw [uH hp,aAg (by have:=uH HL;omega)]),rfl⟩
def dE (nm:List UInt8):List Q→Int
 | []=>0
 | q::t=>(if q.parent=nm then q.due else 0)+dE nm t
def iF (l:List Q) (nm:List UInt8):Int:=dE nm (l.drop 1)
theorem xK {l:List Q} (h:k<l.length):dE nm (l.drop k)=(if l[k].parent=nm then l[k].due else 0)+dE nm (l.drop (k+1)):=by
 rw [List.drop_eq_getElem_cons h,dE]
theorem aAS {l:List Q} (h:l.length≤k):dE nm (l.drop k)=0:=by
 rw [List.drop_of_length_le h];rfl
theorem aEy (ao:Option Addr) (len cap:Nat) (l:List Q) (nm:List UInt8) (w:World) (h:gH w ao len l) (hl:len≤1048576) (hd:∀q ∈ l,0≤q.due∧q.due≤10000) :
  cP 124 #[.slice ao len cap,.string (bs nm)] w fun e w'=>e=.returned (.int .i64 (iF l nm))∧w=w':=by
 have HR:=aA h;have HL:=aA h.1;have HD:=aA hd;clear h hd;go_enter func124,ntmps124;go_wp2;go_loopw [5,6] (fun s i wr=>∃(k:Nat) (a:Int),1≤k∧k≤len+1∧i=.int .i64 k∧s=.int .i64 a∧0≤a∧a≤10000*k∧Hid (iF l nm=a+dE nm (l.drop k))∧wr=w) (fun _ i _=>len+1 - (intOf i).toNat);case atStart=>exact ⟨1,0,by omega,by omega,rfl,rfl,by omega,by omega,aA (by simp [iF]),rfl⟩
 case round=>
  obtain ⟨k,a,hk1,hk,rfl,rfl,ha0,ha1,hp,rfl⟩:=hrel;by_cases hlt:k<len
  ·obtain ⟨b,off,rfl,hq⟩:=(uH HR).at hlt;(have hkl:k<l.length:=by have:=uH HL;omega);have hst:=aA (xK (nm:=nm) (l:=l) (k:=k) hkl);have hq1:=(hq hkl).2.1;have hq2:=(hq hkl).2.2.1;obtain ⟨d0,d1⟩:=uH HD l[k] (yM _);clear hq;obtain ⟨s,hs⟩:∃s,l[k].parent=s:=⟨_,rfl⟩;obtain ⟨d,hdd⟩:∃d,l[k].due=d:=⟨_,rfl⟩;rw [hs] at hq1 hst;rw [hdd] at hq2 hst d0 d1;have hbe:=l6 s nm;clear hs hdd hkl;by_cases he:s=nm
   ·have HE:=aA he;rw [decide_eq_true he] at hbe;clear he;go_wp2;go_roundw;(case rel=>exact ⟨k+1,a+d,by omega,by omega,by go_num,by go_num,by omega,by omega,aA (by rw [uH hp,uH hst,if_pos (uH HE)];omega),trivial⟩);case measure=>simp [intOf];omega
   ·have HE:=aA he;rw [decide_eq_false he] at hbe;clear he;go_wp2;go_roundw;(case rel=>exact ⟨k+1,a,by omega,by omega,by go_num,rfl,by omega,by omega,aA (by rw [uH hp,uH hst,if_neg (uH HE)];omega),trivial⟩);case measure=>simp [intOf];omega
  ·go_wp2;go_ret;exact ⟨jA (by rw [uH hp,aAS (by have:=uH HL;omega)];omega),rfl⟩
theorem vP (s:ByteArray) (k:Nat) (h:k<s.size) (p:UInt8→Bool) (h1:(s.data.toList.take k).all p=true) (h2:p s[k]=true):(s.data.toList.take (k+1)).all p=true:=by
 rw [aFi s k h,List.all_append,h1];simpa using h2
theorem aCw (s:ByteArray) (k:Nat) (h:k<s.size) (p:UInt8→Bool) (h2:p s[k]=false):s.data.toList.all p=false:=by
 rw [List.all_eq_false];exact ⟨s[k],by simp [ByteArray.getElem_eq_getElem_data],by simp [h2]⟩
def qW (c:UInt8):Bool:=inB c.toNat 97 122||inB c.toNat 48 57
def bN (l:List UInt8):Bool:=inB l.length 1 10&&l.all qW
theorem kY (s:ByteArray) (w:World) (hs:s.size≤1048576) :
  cP 123 #[.string s] w fun e w'=>e=.returned (.bool (bN s.data.toList))∧w'=w:=by
 go_enter func123,ntmps123
 go_wp2;go_loop [3] (fun i=>∃k:Nat,k≤s.size∧i=.int .i64 k∧(s.data.toList.take k).all qW=true) (fun i=>s.size - (intOf i).toNat)
 case atStart=>exact ⟨0,Nat.zero_le _,rfl,by simp⟩
 case round=>
  obtain ⟨k,hk,rfl,zw⟩:=hrel;have HA:=aA zw;clear zw;by_cases hlt:k<s.size
  ·have hb:(s[k].toNat:Int)≤255:=aHB _;by_cases h1:97≤(s[k].toNat:Int)∧(s[k].toNat:Int)≤122
   ·have e1:inB (s[k].toNat:Int) 97 122=true:=dD h1.1 h1.2;clear h1;(go_wp2_with (go_at_call 64;refine (aV _ _ _ _).mono ?_;rintro e w' ⟨rfl,rfl⟩));(go_round);(case rel=>exact ⟨k+1,by omega,by go_num,vP s k hlt _ (uH HA) (by simp [qW,e1])⟩);case measure=>simp [intOf];omega
   ·have e1:inB (s[k].toNat:Int) 97 122=false:=bP h1;clear h1;by_cases h2:48≤(s[k].toNat:Int)∧(s[k].toNat:Int)≤57
    ·have e2:inB (s[k].toNat:Int) 48 57=true:=dD h2.1 h2.2;clear h2;(go_wp2_with (go_at_call 64;refine (aV _ _ _ _).mono ?_;rintro e w' ⟨rfl,rfl⟩));(go_round);(case rel=>exact ⟨k+1,by omega,by go_num,vP s k hlt _ (uH HA) (by simp [qW,e1,e2])⟩);case measure=>simp [intOf];omega
    ·have e2:inB (s[k].toNat:Int) 48 57=false:=bP h2;clear h2;have hf:Hid (bN s.data.toList=false):=aA (by rw [bN,aCw s k hlt qW (by simp [qW,e1,e2])];simp);(go_wp2_with (go_at_call 64;refine (aV _ _ _ _).mono ?_;rintro e w' ⟨rfl,rfl⟩));go_ret;exact ⟨yF (uH hf).symm,rfl⟩
  ·have hf:Hid (bN s.data.toList=inB (s.size:Int) 1 10):=aA (by rw [bN,←aA9 s k (by omega),uH HA,aA9 s k (by omega),aEC];simp);(go_wp2_with (go_at_call 64;refine (aV _ _ _ _).mono ?_;rintro e w' ⟨rfl,rfl⟩));go_ret;exact ⟨yF (uH hf).symm,rfl⟩
def qOk (l:List Q) (k:Nat) (q:Q):Bool:=
 bN q.name&&decide (place l q.name=k)&&inB q.most 0 10000&&inB q.due 0 q.most
  && (if k=0 then decide (q.parent=[])&&decide (q.due=10000) else inB (place l q.parent) 0 ((k:Int) - 1))
def gZ (l:List Q):List Q→Nat→Bool
 | [],_=>true
 | q::t,k=>qOk l k q&&gZ l t (k+1)
def jR (l:List Q):List Q→Bool
 | []=>true
 | q::t=>decide (iF l q.name≤10000)&&jR l t
def aF (l:List Q):Bool:=gZ l l 0&&jR l l&&inB l.length 1 20
theorem aCu {l:List Q} (h:k<l.length):gZ l (l.drop k) k=(qOk l k l[k]&&gZ l (l.drop (k+1)) (k+1)):=by
 rw [List.drop_eq_getElem_cons h,gZ]
theorem aEi {l:List Q} (h:l.length≤k):gZ l (l.drop k) k=true:=by
 rw [List.drop_of_length_le h];rfl
theorem aCf {l:List Q} (h:k<l.length):jR l (l.drop k)=(decide (iF l l[k].name≤10000)&&jR l (l.drop (k+1))):=by
 rw [List.drop_eq_getElem_cons h,jR]
theorem aEY {l:List Q} (h:l.length≤k):jR l (l.drop k)=true:=by
 rw [List.drop_of_length_le h];rfl
theorem aAJ {l:List Q}:∀(m:List Q) (k:Nat),gZ l m k=true→∀q ∈ m,0≤q.due∧q.due≤10000
 | [],_,_,q,h=>by simp at h
 | x::t,k,h,q,hq=>by
  rw [gZ,yK] at h;rcases List.mem_cons.1 hq with rfl | hq
  ·have:=h.1;simp only [qOk,inB,yK,yL] at this;omega
  ·exact aAJ t (k+1) h.2 q hq
theorem wO {l:List Q} (h:gZ l l 0=false):aF l=false:=by simp [aF,h]
theorem aKG {l:List Q} (h:jR l l=false):aF l=false:=by simp [aF,h]
theorem aKF {l:List Q} (h1:gZ l l 0=true) (h2:jR l l=true):aF l=inB l.length 1 20:=by simp [aF,h1,h2]
theorem kJ (nm:List UInt8):∀(l:List Q) (k:Nat),aU nm l k = -1∨((k:Int)≤aU nm l k∧aU nm l k<k+l.length)
 | [],_=>.inl rfl
 | q::t,k=>by
  rw [aU];split
  ·right;simp;omega
  ·rcases kJ nm t (k+1) with h | h
   ·exact .inl h
   ·right;simp;omega
theorem eT (l:List Q) (nm:List UInt8):place l nm = -1∨(0≤place l nm∧place l nm<l.length):=by
 rcases kJ nm l 0 with h | h
 ·exact .inl h
 ·right;unfold place;simp at h;omega
theorem jI {nm:List UInt8}:∀{l:List Q} {k:Nat},(∀q ∈ l,q.name≠nm)→aU nm l k = -1
 | [],_,_=>rfl
 | q::t,k,h=>by
  rw [aU,if_neg (h q (by simp))];exact jI (fun x hx=>h x (by simp [hx]))
theorem wP {l:List Q}:∀(m:List Q) (k:Nat),gZ l m k=true→∀i (h:i<m.length),qOk l (k+i) m[i]=true
 | [],_,_,i,h=>by simp at h
 | x::t,k,ho,i,h=>by
  rw [gZ,yK] at ho;cases i with
  | zero=>simpa using ho.1
  | succ j=>have:=wP t (k+1) ho.2 j (by simpa using h);rw [show k+1+j=k+(j+1) by omega] at this;simpa using this
theorem aHr {l:List Q} (h:aF l=true) (i:Nat) (hi:i<l.length):qOk l i l[i]=true:=by
 have h1:gZ l l 0=true:=by simp only [aF,yK] at h;exact h.1.1
 have:=wP l 0 h1 i hi;simpa using this
theorem aDv {l:List Q} (h:aF l=true):∀q ∈ l,q.name≠[]:=fun q hq e=>by
 obtain ⟨i,hi,rfl⟩:=List.mem_iff_getElem.1 hq;have:=aHr h i hi;simp [qOk,bN,e,inB] at this
theorem jK {l:List Q} (h:aF l=true) (hi:i<l.length):place l l[i].parent<i:=by
 have h1:=aHr h i hi;simp only [qOk,yK] at h1;have h2:=h1.2;by_cases h0:i=0
 ·rw [if_pos h0] at h2;simp only [yK,yL] at h2;rw [h2.1];have:place l [] = -1:=jI (aDv h);omega
 ·rw [if_neg h0] at h2;simp only [inB,yL] at h2;omega
def eH (l:List Q):Nat→Int→List (List UInt8)
 | 0,_=>[]
 | n+1,p=>if h:0≤p∧p.toNat<l.length then l[p.toNat].name::eH l n (place l l[p.toNat].parent) else []
def path (l:List Q) (nm:List UInt8):List (List UInt8):=if aF l then eH l (l.length+1) (place l nm) else []
theorem wI {l:List Q} (h:aF l=true):∀(n m:Nat) (p:Int),p<n→p<m→eH l n p=eH l m p
 | 0,0,_,_,_=>rfl
 | 0,m+1,p,h1,h2=>by rw [eH,eH,dif_neg (by omega)]
 | n+1,0,p,h1,h2=>by rw [eH,eH,dif_neg (by omega)]
 | n+1,m+1,p,h1,h2=>by
  rw [eH,eH];split
  ·rename_i hp;have:=jK h hp.2;rw [wI h n m _ (by omega) (by omega)]
  ·rfl
theorem aGF {l:List Q} (h:aF l=true) (hk:k<l.length) (hn:k<n):eH l n k=l[k].name::eH l n (place l l[k].parent):=by
 cases n with
 | zero=>omega
 | succ n=>have hp:=jK h hk;rw [eH,dif_pos (by simp;exact hk)];simp only [Int.toNat_natCast];rw [wI h n (n+1) _ (by omega) (by omega)]
theorem aDq {l:List Q} {p:Int} (hp:p<0):eH l n p=[]:=by
 cases n with
 | zero=>rfl
 | succ n=>rw [eH,dif_neg (by omega)]
theorem kF (h:bZ B w v []):∃a cap,v=.slice a 0 cap:=by
 rcases h.2 with ⟨rfl,_⟩ | ⟨g,cap,cur,rfl,_⟩
 ·exact ⟨_,_,rfl⟩
 ·exact ⟨_,_,rfl⟩
theorem kE (h:bZ B w v ps) (hp:ps≠[]):∃g cap,v=.slice (some ⟨g,0,none⟩) ps.length cap∧SS w g cap (ps.map bs)∧B≤g:=by
 have hl:0<ps.length:=List.length_pos_iff.2 hp;obtain ⟨g,cap,h1,h2,h3⟩:=zU h (by simp;omega);exact ⟨g,cap,by rw [h1];simp,h2,h3⟩
theorem SS.text {g cap:Nat} (h:SS w g cap (ps.map bs)) (hj:j<ps.length):w.cell? ⟨g,j,none⟩=some (.string (bs ps[j])):=by
 have:=h.cell j (by simpa using hj);simpa using this
def orV (a b:Int):Value:=if aQ a b then rv a b else rv 0 0
theorem aIl (a b:Int) (w:World) :
  cP 189 #[rv a b] w fun e w'=>e=.returned (.tuple #[orV a b,.bool (aQ a b)])∧Bw w w':=by
 cases h1:aQ a b
 ·rw [show orV a b=rv 0 0 by simp [orV,h1]];go_enter func189,ntmps189;go_wp2_with (go_at_call 150;refine (qR _ _ _).mono ?_;rintro e w' ⟨rfl,rfl⟩);refine bodyPost_ret (v:=.tuple #[rv 0 0,.bool false]) (by simp [results,results189,go_sem]) rfl ⟨rfl,?_⟩;repeat (first | exact yH _ _ | refine yA ?_ _ | refine Below.drew ?_ | refine yC ?_ _ _ _ (by omega))
 ·rw [show orV a b=rv a b by simp [orV,h1]];go_enter func189,ntmps189;go_wp2_with (go_at_call 150;refine (qR _ _ _).mono ?_;rintro e w' ⟨rfl,rfl⟩);refine bodyPost_ret (v:=.tuple #[rv a b,.bool true]) (by simp [results,results189,go_sem]) rfl ⟨rfl,?_⟩;repeat (first | exact yH _ _ | refine yA ?_ _ | refine Below.drew ?_ | refine yC ?_ _ _ _ (by omega))
theorem aDN (a b c d:Int) (w:World) :
  cP 192 #[rv a b,rv c d] w fun e w'=>e=.returned (.tuple #[jY 1 a b c d,.bool (aN 1 a b c d)])∧Bw w w':=by
 have V1:=((aM w 33 a b).al (.cells #[.int .i64 c,.int .i64 d] 33)).al (.cells #[.int .i64 0,.int .i64 0] 33);have V2:=(iB w 33 33 a b c d).al (.cells #[.int .i64 0,.int .i64 0] 33);have V3:=iB (w.alloc (.cells #[.int .i64 a,.int .i64 b] 33)) 33 33 c d 0 0;have B3:=yA (yA (yA (yH _ w) (.cells #[.int .i64 a,.int .i64 b] 33)) (.cells #[.int .i64 c,.int .i64 d] 33)) (.cells #[.int .i64 0,.int .i64 0] 33);simp at V3;have GM:=aA V1;have GR:=aA V2;have QO:=aA V3;have HB3:=aA B3;have hc:=aA (oK a b c d);clear V1 V2 V3 B3;cases h0:aQ a b&&aQ c d
 ·have hb:aN 1 a b c d=false:=by rw [aN,h0];rfl
  rw [kQ hb,hb];go_enter func192,ntmps192;go_wp2_with fail;refine (uH hc _).mono ?_;rw [h0];rintro e w1 ⟨rfl,hb⟩;have V3:=(uH QO).below hb;have k2:=V3.f 0;have k3:=V3.f 1;have k0:=V3.c0;have k1:=V3.c1;have k4:=V3.s0 (.int .i64 0);have k5:=V3.s1 (.int .i64 0) (.int .i64 0);have HB:=aA (yB (uH HB3) hb);clear hb GM GR QO HB3 V3 hc;go_wp2;refine bodyPost_ret (v:=.tuple #[rv 0 0,.bool false]) (by simp [results,results192,go_sem,k4,k5]) rfl ⟨rfl,?_⟩;repeat (first | exact uH HB | refine yA ?_ _ | refine Below.drew ?_ | refine yC ?_ _ _ _ (by omega))
 ·have h0':=h0;simp only [yK] at h0';obtain ⟨q1,q2,q3,q4⟩:=aZ h0'.1;obtain ⟨q5,q6,q7,q8⟩:=aZ h0'.2;obtain ⟨x,hx⟩:∃x,a+c=x:=⟨_,rfl⟩;obtain ⟨y,hy⟩:∃y,b+d=y:=⟨_,rfl⟩;have m3:IntKind.i64.wrap (a+c)=x:=by rw [IntKind.wrap_i64];omega
  have m4:IntKind.i64.wrap (b+d)=y:=by rw [IntKind.wrap_i64];omega
  have e1:aN 1 a b c d=aQ x y:=by rw [aN,h0,show a+1*c=x by omega,show b+1*d=y by omega];rfl
  have e2:jY 1 a b c d=orV x y:=by rw [jY,orV,e1,show a+1*c=x by omega,show b+1*d=y by omega]
  obtain ⟨u,v,hv⟩:∃u v,orV x y=rv u v:=by unfold orV;split<;>exact ⟨_,_,rfl⟩
  obtain ⟨o,ho⟩:∃o,aQ x y=o:=⟨_,rfl⟩;have ho2:∀wx,cP 189 #[rv x y] wx fun e w'=>e=.returned (.tuple #[rv u v,.bool o])∧Bw wx w':=fun wx=>by have:=aIl x y wx;rw [hv,ho] at this;exact this
  rw [e1,e2,hv,ho];have HO:=aA ho2;clear e1 e2 hv ho ho2 h0' q1 q2 q3 q4 q5 q6 q7 q8 hx hy;go_enter func192,ntmps192;go_wp2_with fail;refine (uH hc _).mono ?_;rw [h0];rintro e w1 ⟨rfl,hb⟩;have V1:=(uH GM).below hb;have V2:=(uH GR).below hb;have V3:=aA ((uH QO).below hb);have a1:=V1.c0;have a2:=V1.c1;have a3:=V2.c0;have a4:=V2.c1;have HB:=aA (yB (uH HB3) hb);clear hb GM GR QO HB3 V1 V2 hc;go_wp2_with fail;refine (uH HO _).mono ?_;rintro e w2 ⟨rfl,hb⟩;have V4:=(uH V3).below hb;have k0:=V4.c0;have k1:=V4.c1;have k2:=V4.f 0;have k3:=V4.f 1;have k4:=V4.s0 (.int .i64 u);have k5:=V4.s1 (.int .i64 u) (.int .i64 v);have HB2:=aA (yB (uH HB) hb);clear hb V4 V3 HB HO a1 a2 a3 a4;go_wp2;refine bodyPost_ret (v:=.tuple #[rv u v,.bool o]) (by simp [results,results192,go_sem,k4,k5]) rfl ⟨rfl,?_⟩;repeat (first | exact uH HB2 | refine yA ?_ _ | refine Below.drew ?_ | refine yC ?_ _ _ _ (by omega))
theorem vY (a b c d:Int) (w:World) :
  cP 128 #[rv a b,rv c d] w fun e w'=>e=.returned (.tuple #[jY 1 a b c d,.bool (aN 1 a b c d)])∧Bw w w':=by
 have hv:∃x y,jY 1 a b c d=rv x y:=by unfold jY;split<;>exact ⟨_,_,rfl⟩
 obtain ⟨x,y,hv⟩:=hv;have hc:=wY a b c d 1 ((w.alloc (.cells #[.int .i64 a,.int .i64 b] 33)).alloc (.cells #[.int .i64 c,.int .i64 d] 33) |>.alloc (.cells #[.int .i64 0,.int .i64 0] 33)) (by decide);rw [hv] at hc ⊢;go_enter func128,ntmps128;go_wp2_with fail;refine hc.mono ?_;rintro e w1 ⟨rfl,hb⟩;have hk:Var w1 33 (w.heap.size+1+1) 0 0:=Var.below (by simpa using aM ((w.alloc (.cells #[.int .i64 a,.int .i64 b] 33)).alloc (.cells #[.int .i64 c,.int .i64 d] 33)) 33 0 0) hb;have k0:=hk.c0;have k1:=hk.c1;have k2:=hk.f 0;have k3:=hk.f 1;have k4:=hk.s0 (.int .i64 x);have k5:=hk.s1 (.int .i64 x) (.int .i64 y);have HB:=aA (yB (yA (yA (yA (yH _ _) _) _) _) hb);clear hb hc hk;go_wp2;refine bodyPost_ret (v:=.tuple #[rv x y,.bool (aN 1 a b c d)]) (by simp [results,results128,go_sem,k4,k5]) rfl ⟨rfl,?_⟩;repeat (first | exact uH HB | refine yA ?_ _ | refine yC ?_ _ _ _ (by omega))
def gT (a b n:Int):Bool:=aQ a b&&inB n 0 10000
def eY (a b n:Int):Int:=if gT a b n then a*n / 10000 else 0
def eZ (a b n:Int):Int:=if gT a b n then b*n / 10000 else 0
theorem aAL {n A N:Int} (h0:0≤a) (h1:a≤A) (h2:0≤n) (h3:n≤N):0≤a*n∧a*n≤A*N:=
 ⟨Int.mul_nonneg h0 h2,Int.mul_le_mul h1 h3 h2 (Int.le_trans h0 h1)⟩
theorem aAb (a b n:Int) (w:World) :
  cP 131 #[rv a b,.int .i64 n] w fun e w'=>e=.returned (rv (eY a b n) (eZ a b n))∧Bw w w':=by
 cases h1:aQ a b
 ·rw [show eY a b n=0 by simp [eY,gT,h1],show eZ a b n=0 by simp [eZ,gT,h1]];go_enter func131,ntmps131;go_wp2_with (first | (go_at_call 127;refine (aW _ _ _).mono ?_;rintro e w' ⟨rfl,rfl⟩) | (go_at_call 64;refine (aV _ _ _ _).mono ?_;rintro e w' ⟨rfl,rfl⟩));refine bodyPost_ret (v:=rv 0 0) (by simp [results,results131,go_sem]) rfl ⟨rfl,?_⟩;repeat (first | exact yH _ _ | refine yA ?_ _ | refine Below.drew ?_ | refine yC ?_ _ _ _ (by omega))
 ·cases h2:inB n 0 10000
  ·rw [show eY a b n=0 by simp [eY,gT,h2],show eZ a b n=0 by simp [eZ,gT,h2]];(go_enter func131,ntmps131);(go_wp2_with (first | (go_at_call 127;refine (aW _ _ _).mono ?_;rintro e w' ⟨rfl,rfl⟩) | (go_at_call 64;refine (aV _ _ _ _).mono ?_;rintro e w' ⟨rfl,rfl⟩)));refine bodyPost_ret (v:=rv 0 0) (by simp [results,results131,go_sem]) rfl ⟨rfl,?_⟩;repeat (first | exact yH _ _ | refine yA ?_ _ | refine Below.drew ?_ | refine yC ?_ _ _ _ (by omega))
  ·rw [show eY a b n=a*n / 10000 by simp [eY,gT,h1,h2],show eZ a b n=b*n / 10000 by simp [eZ,gT,h1,h2]];obtain ⟨q1,q2,q3,q4⟩:=aZ h1;(have hn:0≤n∧n≤10000:=by simpa [inB] using h2);obtain ⟨m1,m2⟩:=aAL q1 q2 hn.1 hn.2;obtain ⟨m3,m4⟩:=aAL q3 q4 hn.1 hn.2;(go_enter func131,ntmps131);(go_wp2_with (first | (go_at_call 127;refine (aW _ _ _).mono ?_;rintro e w' ⟨rfl,rfl⟩) | (go_at_call 64;refine (aV _ _ _ _).mono ?_;rintro e w' ⟨rfl,rfl⟩)));refine bodyPost_ret (v:=rv (a*n / 10000) (b*n / 10000)) (by simp [results,results131,go_sem]) rfl ⟨rfl,?_⟩;repeat (first | exact yH _ _ | refine yA ?_ _ | refine Below.drew ?_ | refine yC ?_ _ _ _ (by omega))
def dQ (most:Bool) (q:Q):Int:=if most then q.most else q.due
def uR (l:List Q) (n:List UInt8):Q:=l.getD (place l n).toNat ⟨[],[],0,0⟩
def ofP (l:List Q) (most:Bool) (t:Int×Int):List (List UInt8)→Int×Int
 | []=>t
 | [_]=>t
 | n::m::r=>(eY (ofP l most t (m::r)).1 (ofP l most t (m::r)).2 (dQ most (uR l n)),eZ (ofP l most t (m::r)).1 (ofP l most t (m::r)).2 (dQ most (uR l n)))
def ofR (l:List Q) (nm:List UInt8) (a b:Int) (most:Bool):Int×Int:=if path l nm=[]∨aQ a b=false then (0,0) else ofP l most (a,b) (path l nm)
theorem aHv (l:List Q) (most:Bool) (t:Int×Int) {p:List (List UInt8)} (h:p≠[]):ofP l most t (p.drop (p.length - 1))=t:=by
 have hl:0<p.length:=List.length_pos_iff.2 h;rw [List.drop_eq_getElem_cons (by omega),show p.length - 1+1=p.length by omega,List.drop_length];rfl
theorem aHu (l:List Q) (most:Bool) (t:Int×Int) {p:List (List UInt8)} (h:j+1<p.length) :
  ofP l most t (p.drop j)=(eY (ofP l most t (p.drop (j+1))).1 (ofP l most t (p.drop (j+1))).2 (dQ most (uR l p[j])),eZ (ofP l most t (p.drop (j+1))).1 (ofP l most t (p.drop (j+1))).2 (dQ most (uR l p[j]))):=by
 rw [List.drop_eq_getElem_cons (show j<p.length by omega),List.drop_eq_getElem_cons h,ofP]
theorem uA {l:List Q} (h:aF l=true):∀(n:Nat) (p:Int),∀x ∈ eH l n p,∃k:Nat,∃hk:k<l.length,place l x=k∧l[k].name=x
 | 0,_,x,hx=>by simp [eH] at hx
 | n+1,p,x,hx=>by
  rw [eH] at hx;split at hx
  ·rename_i hp;rcases List.mem_cons.1 hx with rfl | hx
   ·refine ⟨p.toNat,hp.2,?_,rfl⟩;have:=aHr h p.toNat hp.2;simp only [qOk,yK,yL] at this;exact this.1.1.1.2
   ·exact uA h n _ x hx
  ·simp at hx
theorem aEa {l:List Q}:∀x ∈ path l nm,∃k:Nat,∃hk:k<l.length,place l x=k∧uR l x=l[k]:=fun x hx=>by
 unfold path at hx;split at hx
 ·rename_i h;obtain ⟨k,hk,h1,h2⟩:=uA h _ _ x hx;exact ⟨k,hk,h1,by rw [uR,h1];simp [List.getD_eq_getElem?_getD,List.getElem?_eq_getElem hk]⟩
 ·simp at hx
theorem aAG {l:List Q}:∀(n:Nat) (p:Int),(eH l n p).length≤n
 | 0,_=>by simp [eH]
 | n+1,p=>by
  rw [eH];split
  ·have:=aAG (l:=l) n (place l l[p.toNat].parent);simp;exact this
  ·simp
theorem vI (l:List Q) (nm:List UInt8):(path l nm).length≤l.length+1:=by
 unfold path;split
 ·exact aAG _ _
 ·simp
end
section
def within (a b c d:Int):Bool:=aQ a b&&aQ c d&&decide (a≤c)&&decide (b≤d)
end
section
open Go.RowKit
variable {nm:List UInt8} {g k:Nat} {w w' w0:World}
theorem fE (a b c d:Int) (w:World) :
  cP 83 #[rv a b,rv c d] w fun e w'=>e=.returned (.bool (within a b c d))∧Bw w w':=by
 cases h1:aQ a b
 ·rw [show within a b c d=false by simp [within,h1]];go_enter func83,ntmps83;go_wp2_with (go_at_call 127;refine (aW _ _ _).mono ?_;rintro e w' ⟨rfl,rfl⟩);go_ret;refine ⟨rfl,?_⟩;repeat (first | exact yH _ _ | refine yA ?_ _ | refine Below.drew ?_ | refine yC ?_ _ _ _ (by omega))
 ·cases h2:aQ c d
  ·rw [show within a b c d=false by simp [within,h2]];(go_enter func83,ntmps83);(go_wp2_with (go_at_call 127;refine (aW _ _ _).mono ?_;rintro e w' ⟨rfl,rfl⟩));go_ret;refine ⟨rfl,?_⟩;repeat (first | exact yH _ _ | refine yA ?_ _ | refine Below.drew ?_ | refine yC ?_ _ _ _ (by omega))
  ·by_cases h3:a≤c
   ·by_cases h4:b≤d
    ·rw [show within a b c d=true by simp [within,h1,h2,h3,h4]];(go_enter func83,ntmps83);(go_wp2_with (go_at_call 127;refine (aW _ _ _).mono ?_;rintro e w' ⟨rfl,rfl⟩));go_ret;refine ⟨rfl,?_⟩;repeat (first | exact yH _ _ | refine yA ?_ _ | refine Below.drew ?_ | refine yC ?_ _ _ _ (by omega))
    ·rw [show within a b c d=false by simp [within,h4]];(go_enter func83,ntmps83);(go_wp2_with (go_at_call 127;refine (aW _ _ _).mono ?_;rintro e w' ⟨rfl,rfl⟩));go_ret;refine ⟨yF (decide_eq_false (by omega)),?_⟩;repeat (first | exact yH _ _ | refine yA ?_ _ | refine Below.drew ?_ | refine yC ?_ _ _ _ (by omega))
   ·rw [show within a b c d=false by simp [within,h3]];(go_enter func83,ntmps83);(go_wp2_with (go_at_call 127;refine (aW _ _ _).mono ?_;rintro e w' ⟨rfl,rfl⟩));go_ret;refine ⟨rfl,?_⟩;repeat (first | exact yH _ _ | refine yA ?_ _ | refine Below.drew ?_ | refine yC ?_ _ _ _ (by omega))
def aCH (l : List Q) (q : Q) : Bool :=
  decide (l.length < 20) && bN q.name && decide (place l q.name < 0) && decide (0 ≤ q.due ∧ q.due ≤ q.most ∧ q.most ≤ 10000)
    && (if l.length = 0 then decide (q.parent = [] ∧ q.due = 10000 ∧ q.most = 10000) else decide (0 ≤ place l q.parent ∧ dE q.parent l + q.due ≤ 10000))
def okT (l : List Q) : Bool := gZ l l 0 && jR l l && decide (l.length ≤ 20)
theorem pE (nm : List UInt8) (q : Q) : ∀ (l : List Q) (k : Nat), aU nm (l ++ [q]) k = if aU nm l k < 0 then (if q.name = nm then ((k + l.length : Nat) : Int) else -1) else aU nm l k
  | [], k => by simp [aU]
  | x :: t, k => by
    rw [List.cons_append, aU, aU];by_cases h : x.name = nm
    · rw [if_pos h, if_pos h, if_neg (by omega)]
    · rw [if_neg h, if_neg h, pE nm q t (k + 1)];simp only [List.length_cons, show k + 1 + t.length = k + (t.length + 1) by omega]
theorem oI (l : List Q) (q : Q) (nm : List UInt8) : place (l ++ [q]) nm = if place l nm < 0 then (if q.name = nm then (l.length : Int) else -1) else place l nm := by
  unfold place;rw [pE, Nat.zero_add]
theorem qN {nm : List UInt8} : ∀ {l : List Q} {k : Nat}, (∃ q ∈ l, q.name = nm) → 0 ≤ aU nm l k
  | [], _, h => by obtain ⟨q, hq, _⟩ := h; simp at hq
  | x :: t, k, h => by
    rw [aU];by_cases e : x.name = nm
    · rw [if_pos e]; omega
    · rw [if_neg e];obtain ⟨q, hq, hn⟩ := h;rcases List.mem_cons.1 hq with rfl | hq
      · exact absurd hn e
      · exact qN ⟨q, hq, hn⟩
theorem aB6 {l:List Q} (h : ∃ q ∈ l, q.name = nm) : 0 ≤ place l nm := qN h
theorem aB7 {l:List Q} (h : 0 ≤ place l nm) : ∃ q ∈ l, q.name = nm := by
  refine Classical.byContradiction fun hc => ?_
  have : place l nm = -1 := jI (fun q hq e => hc ⟨q, hq, e⟩);omega
theorem aGE {l:List Q} (h : place l nm < 0) : ∀ q ∈ l, q.name ≠ nm := fun q hq e => by
  have := aB6 (l := l) (nm := nm) ⟨q, hq, e⟩;omega
theorem rD (nm : List UInt8) (q : Q) : ∀ l : List Q, dE nm (l ++ [q]) = dE nm l + (if q.parent = nm then q.due else 0)
  | [] => by simp [dE]
  | x :: t => by rw [List.cons_append, dE, dE, rD nm q t]; omega
theorem uI (l : List Q) (q : Q) (nm : List UInt8) (h : 0 < l.length) : iF (l ++ [q]) nm = iF l nm + (if q.parent = nm then q.due else 0) := by
  cases l with
  | nil => simp at h
  | cons x t => exact rD nm q t
theorem xJ {nm : List UInt8} : ∀ {l : List Q}, (∀ q ∈ l, q.parent ≠ nm) → dE nm l = 0
  | [], _ => rfl
  | x :: t, h => by rw [dE, if_neg (h x (by simp)), xJ (fun q hq => h q (by simp [hq]))]; omega
theorem aAI {l : List Q} : ∀ (m : List Q) (k : Nat), gZ l m k = true ↔ ∀ i (h : i < m.length), qOk l (k + i) m[i] = true
  | [], k => by simp [gZ]
  | x :: t, k => by
    constructor
    · exact wP (x :: t) k
    · intro h;rw [gZ, yK];refine ⟨by have := h 0 (by simp); rw [Nat.add_zero] at this; exact this, (aAI t (k + 1)).2 fun i hi => ?_⟩;have := h (i + 1) (by simpa using hi);rw [show k + 1 + i = k + (i + 1) by omega];simpa using this
theorem zQ {l : List Q} : ∀ (m : List Q), jR l m = true ↔ ∀ q ∈ m, iF l q.name ≤ 10000
  | [] => by simp [jR]
  | x :: t => by rw [jR, yK, zQ t]; simp
theorem sH {l:List Q} : okT l = true ↔ (∀ i (h : i < l.length), qOk l i l[i] = true) ∧ (∀ q ∈ l, iF l q.name ≤ 10000) ∧ l.length ≤ 20 := by
  rw [okT, yK, yK, aAI l 0, zQ l, and_assoc];simp
theorem kT (l : List Q) : aF l = (okT l && decide (0 < l.length)) := by
  rw [aF, okT];cases gZ l l 0 <;> cases jR l l <;> simp [inB]
  rw [Bool.eq_iff_iff]; simp; omega
theorem aDo {l:List Q} {q:Q} {i:Nat} (hi : i < l.length) : qOk (l ++ [q]) i l[i] = qOk l i l[i] := by
  have h1 : 0 ≤ place l l[i].name := aB6 ⟨l[i], yM _, rfl⟩;have h2 : place (l ++ [q]) l[i].name = place l l[i].name := by rw [oI, if_neg (by omega)]
  have h3 : inB (place (l ++ [q]) l[i].parent) 0 ((i : Int) - 1) = inB (place l l[i].parent) 0 ((i : Int) - 1) := by
    rw [oI];by_cases h : place l l[i].parent < 0
    · rw [if_pos h];simp only [inB];rw [decide_eq_false (p := 0 ≤ place l l[i].parent ∧ _) (by omega)];refine decide_eq_false ?_;split <;> omega
    · rw [if_neg h]
  simp only [qOk, h2, h3]
theorem aDJ {l:List Q} (h : ∀ i (h : i < l.length), qOk l i l[i] = true) : ∀ q ∈ l, bN q.name = true ∧ 0 ≤ q.due ∧ q.due ≤ 10000 ∧ (q.parent = [] ∨ ∃ x ∈ l, x.name = q.parent) := fun q hq => by
  obtain ⟨i, hi, rfl⟩ := List.mem_iff_getElem.1 hq;have := h i hi;simp only [qOk, yK, yL, inB] at this;obtain ⟨⟨⟨⟨a1, a2⟩, a3⟩, a4⟩, a5⟩ := this;refine ⟨a1, a4.1, by omega, ?_⟩;by_cases e : i = 0
  · rw [if_pos e] at a5;simp only [yK, yL] at a5;exact .inl a5.1
  · rw [if_neg e] at a5;simp only [yL] at a5;exact .inr (aB7 a5.1)
theorem aBi {n:List UInt8} (h : bN n = true) : n ≠ [] := fun e => by simp [bN, e, inB] at h
theorem aHs (l : List Q) (q : Q) : okT (l ++ [q]) = (okT l && aCH l q) := by
  rw [Bool.eq_iff_iff, yK, sH, sH];have hA : (∀ i (h : i < (l ++ [q]).length), qOk (l ++ [q]) i (l ++ [q])[i] = true) ↔ (∀ i (h : i < l.length), qOk l i l[i] = true) ∧ qOk (l ++ [q]) l.length q = true := by
    constructor
    · intro h;refine ⟨fun i hi => ?_, ?_⟩
      · have := h i (by simp; omega);rw [List.getElem_append_left hi, aDo hi] at this;exact this
      · have := h l.length (by simp);simpa using this
    · rintro ⟨h1, h2⟩ i hi;by_cases e : i < l.length
      · rw [List.getElem_append_left e, aDo e]; exact h1 i e
      · (have : i = l.length := by simp at hi; omega);subst this;simpa using h2
  rw [hA];have hP : qOk (l ++ [q]) l.length q = true ↔ bN q.name = true ∧ place l q.name < 0 ∧ (0 ≤ q.due ∧ q.due ≤ q.most ∧ q.most ≤ 10000) ∧ (if l.length = 0 then q.parent = [] ∧ q.due = 10000 else 0 ≤ place l q.parent) := by
    simp only [qOk, yK, yL, inB];have e1 : place (l ++ [q]) q.name = (l.length : Int) ↔ place l q.name < 0 := by
      rw [oI];have := eT l q.name;by_cases h : place l q.name < 0
      · simp [h]
      · rw [if_neg h]; constructor <;> intro _ <;> omega
    rw [e1];by_cases h0 : l.length = 0
    · rw [if_pos h0, if_pos h0];simp only [yK, yL];constructor
      · rintro ⟨⟨⟨⟨a, b⟩, c⟩, d⟩, e⟩; exact ⟨a, b, by omega, e⟩
      · rintro ⟨a, b, c, e⟩; exact ⟨⟨⟨⟨a, b⟩, by omega⟩, by omega⟩, e⟩
    · rw [if_neg h0, if_neg h0];simp only [yL];have e2 : (0 ≤ place (l ++ [q]) q.parent ∧ place (l ++ [q]) q.parent ≤ (l.length : Int) - 1) ↔ 0 ≤ place l q.parent := by
        rw [oI];have := eT l q.parent;by_cases h : place l q.parent < 0
        · rw [if_pos h]; constructor
          · intro h'; split at h' <;> omega
          · intro h'; omega
        · rw [if_neg h]; constructor <;> intro _ <;> omega
      rw [e2];constructor
      · rintro ⟨⟨⟨⟨a, b⟩, c⟩, d⟩, e⟩; exact ⟨a, b, by omega, e⟩
      · rintro ⟨a, b, c, e⟩; exact ⟨⟨⟨⟨a, b⟩, by omega⟩, by omega⟩, e⟩
  have hF : aCH l q = true ↔ l.length < 20 ∧ bN q.name = true ∧ place l q.name < 0 ∧ (0 ≤ q.due ∧ q.due ≤ q.most ∧ q.most ≤ 10000) ∧ (if l.length = 0 then q.parent = [] ∧ q.due = 10000 ∧ q.most = 10000 else 0 ≤ place l q.parent ∧ dE q.parent l + q.due ≤ 10000) := by by_cases h0 : l.length = 0 <;> simp only [aCH, h0, if_true, if_false, yK, yL, and_assoc]
  rw [hP, hF];by_cases h0 : l.length = 0
  · have hl : l = [] := List.eq_nil_of_length_eq_zero h0;subst hl;simp only [List.length_nil, if_true, List.nil_append, List.length_cons, List.mem_singleton, forall_eq];have hk : iF [q] q.name = 0 := rfl;rw [hk];constructor
    · rintro ⟨⟨_, a, b, c, d, e⟩, _⟩;exact ⟨⟨fun i hi => by simp at hi, fun x hx => by simp at hx, by omega⟩, by omega, a, b, c, d, e, by omega⟩
    · rintro ⟨_, _, a, b, c, d, e, f⟩;exact ⟨⟨fun i hi => by simp at hi, a, b, c, d, e⟩, by omega, by omega⟩
  · rw [if_neg h0, if_neg h0];(have hlp : 0 < l.length := by omega);constructor
    · (rintro ⟨⟨h1, a, b, c, d⟩, h2, h3⟩;have hk := aDJ h1;have h4 : ∀ x ∈ l, iF l x.name + (if q.parent = x.name then q.due else 0) ≤ 10000 := fun x hx => by have := h2 x (by simp [hx]);rwa [uI l q x.name hlp] at this);refine ⟨⟨h1, fun x hx => ?_, by simp at h3; omega⟩, by simp at h3; omega, a, b, c, d, ?_⟩
      · have := h4 x hx;split at this <;> omega
      · obtain ⟨x, hx, hn⟩ := aB7 d;have := h4 x hx;rw [hn, if_pos rfl] at this;have hd : dE q.parent l = iF l q.parent := by
          cases l with
          | nil => simp at hlp
          | cons y t =>
            (show dE q.parent (y :: t) = dE q.parent t);rw [dE, if_neg, Int.zero_add];intro e;have hy := h1 0 (by simp);simp only [qOk, List.getElem_cons_zero, if_true, yK, yL] at hy;exact aBi (hk x hx).1 (by rw [hn, ← e, hy.2.1])
        omega
    · rintro ⟨⟨h1, h2, h3⟩, h4, a, b, c, d, e⟩;have hk := aDJ h1;have hd : iF l q.parent ≤ dE q.parent l := by
        cases l with
        | nil => simp at hlp
        | cons y t =>
          (show dE q.parent t ≤ dE q.parent (y :: t));rw [dE];have := (hk y (by simp)).2.1;split <;> omega
      refine ⟨⟨h1, a, b, c, d⟩, fun x hx => ?_, by simp; omega⟩;rw [uI l q x.name hlp];rcases List.mem_append.1 hx with hx | hx
      · have := h2 x hx;split
        · rename_i hq;rw [hq] at hd e;omega
        · omega
      · (have : x = q := by simpa using hx);subst this;have hz : iF l x.name = 0 := by
          cases l with
          | nil => simp at hlp
          | cons y t =>
            (refine xJ (l := t) fun z hz hp => ?_);rcases (hk z (by simp [hz])).2.2.2 with hn | ⟨u, hu, hn⟩
            · exact aBi a (by rw [← hp, hn])
            · exact aGE b u hu (by rw [hn, hp])
        (have : x.parent ≠ x.name := fun hp => by rw [hp] at d; omega);rw [if_neg this, hz];omega
theorem qU {l:List Q} (h : k < l.length) : okT (l.take (k + 1)) = (okT (l.take k) && aCH (l.take k) l[k]) := by
  rw [List.take_succ_eq_append_getElem h, aHs]
theorem zA {l:List Q} (h : okT (l.take k) = false) : okT l = false := by
  by_cases hk : k < l.length
  · have : ∀ n, k ≤ n → n ≤ l.length → okT (l.take n) = false := by
      intro n hn
      induction n with
      | zero => intro _; have : k = 0 := by omega
                subst this; exact h
      | succ m ih =>
        intro hm;by_cases e : k = m + 1
        · subst e; exact h
        · rw [qU (by omega), ih (by omega) (by omega)]; rfl
    have := this l.length (by omega) (yJ _);rwa [List.take_length] at this
  · rwa [List.take_of_length_le (by omega)] at h
theorem aJQ {l:List Q} (h : okT l = true) : ∀ q ∈ l, 0 ≤ q.due ∧ q.due ≤ 10000 := fun q hq => by
  have := aDJ (sH.1 h).1 q hq;exact ⟨this.2.1, this.2.2.1⟩
def iU (p:Q→Bool):List Q→Nat→Int
 | [],_=>-1
 | q::t,k=>if p q=true then (k:Int) else iU p t (k+1)
theorem aCE {p:Q→Bool} {l:List Q} (h:k<l.length):iU p (l.drop k) k=if p l[k]=true then (k:Int) else iU p (l.drop (k+1)) (k+1):=by
 rw [List.drop_eq_getElem_cons h,iU]
theorem aDO {p:Q→Bool} {l:List Q} (h:l.length≤k):iU p (l.drop k) k = -1:=by
 rw [List.drop_of_length_le h];rfl
theorem aCD (nm:List UInt8):∀(l:List Q) (k:Nat),iU (fun q=>decide (q.name=nm)) l k=aU nm l k
 | [],_=>rfl
 | q::t,k=>by
  rw [iU,aU,aCD nm t (k+1)];by_cases h:q.name=nm<;>simp [h]
theorem aGa (p:Q→Bool):∀(l:List Q) (k:Nat),decide (0≤iU p l k)=l.any p
 | [],_=>by simp [iU]
 | q::t,k=>by
  rw [iU,List.any_cons];by_cases h:p q=true
  ·rw [if_pos h,h];simp
  ·rw [if_neg h,aGa p t (k+1)];simp [h]
theorem q9 (g:Nat) (lb:Array Value) (eg:∀args w,(callFunc g args).run Tryz.prog w=.ok (.enter g args) w) (p:Q→Bool) (ao:Option Addr) (len cap:Nat) (l:List Q) (w:World) (h:gH w ao len l) (hl:len≤1048576)
  (hp:∀wx q,Bw w wx→Calls Tryz.prog g (#[qv q]++lb) wx fun e w'=>e=.returned (.bool (p q))∧Bw wx w') :
  cP 190 #[.slice ao len cap,.func (.func g) #[] lb] w fun e w'=>e=.returned (.int .i64 (iU p l 0))∧Bw w w':=by
 have HR:=aA h;have HL:=aA h.1;have HP:=aA hp;clear h hp;go_enter func190,ntmps190;go_wp2;go_loopw [5,8] (fun _ i wr=>∃k:Nat,k≤len∧i=.int .i64 k∧Hid (iU p l 0=iU p (l.drop k) k)∧Hid (Bw w wr)) (fun _ i _=>len - (intOf i).toNat);case atStart=>exact ⟨0,Nat.zero_le _,rfl,aA (by simp),aA (yH _ _)⟩
 case round=>
  obtain ⟨k,hk,rfl,hq,HB⟩:=hrel;by_cases hlt:k<len
  ·obtain ⟨b,off,rfl,hx⟩:=((uH HR).below (uH HB)).at hlt;(have hkl:k<l.length:=by have:=uH HL;omega);have hst:=aA (aCE (p:=p) (l:=l) (k:=k) hkl);obtain ⟨c0,c1,c2,c3⟩:=hx hkl;clear hx;obtain ⟨⟨nm,pa,du,mo⟩,hs⟩:∃s,l[k]=s:=⟨_,rfl⟩;rw [hs] at c0 c1 c2 c3 hst;simp only at c0 c1 c2 c3;have HC:=aA (uH HP wr ⟨nm,pa,du,mo⟩ (uH HB));clear hs hkl HP;cases hpq:p ⟨nm,pa,du,mo⟩ with
   | true=>rw [hpq] at HC;have HQ:=aA hpq;clear hpq;(go_wp2_with (go_at_fn g;refine (uH HC).mono ?_;rintro e w' ⟨rfl,hb⟩));go_ret;exact ⟨jA (by rw [uH hq,uH hst,if_pos (uH HQ)]),yB (uH HB) hb⟩
   | false=>rw [hpq] at HC;have HQ:=aA hpq;clear hpq;(go_wp2_with (go_at_fn g;refine (uH HC).mono ?_;rintro e w' ⟨rfl,hb⟩));go_roundw;(case rel=>exact ⟨k+1,by omega,by go_num,aA (by rw [uH hq,uH hst,if_neg (by rw [uH HQ];simp)]),aA (yB (uH HB) hb)⟩);case measure=>simp [intOf];omega
  ·go_wp2;go_ret;exact ⟨jA (by rw [uH hq,aDO (by have:=uH HL;omega)]),uH HB⟩
theorem aCn (B:Nat) (nm:List UInt8) (q:Q) (w:World) (hc:w.cell? ⟨B,0,none⟩=some (.string (bs nm))) :
  cP 191 #[qv q,.pointer (some ⟨B,0,none⟩)] w fun e w'=>e=.returned (.bool (decide (q.name=nm)))∧Bw w w':=by
 have hlt:=yG hc;have hc2:(w.alloc (.cells #[.string (bs q.name),.string (bs q.parent),.int .i64 q.due,.int .i64 q.most] 105)).cell? ⟨B,0,none⟩=some (.string (bs nm)):=by rw [World.cell?_alloc_lt _ _ ⟨B,0,none⟩ hlt];exact hc
 have hbe:=l6 q.name nm;clear hc hlt;go_enter func191,ntmps191;go_wp2;go_ret;exact ⟨rfl,yA (yH _ _) _⟩
theorem qM (ao:Option Addr) (len cap:Nat) (l:List Q) (nm:List UInt8) (w:World) (h:gH w ao len l) (hl:len≤1048576) :
  cP 148 #[.slice ao len cap,.string (bs nm)] w fun e w'=>e=.returned (.int .i64 (place l nm))∧Bw w w':=by
 have ZE:∀(fn:Fn) (first cap:Array Value) (w:World),(Instr.makeFunc fn first cap).run Tryz.prog w=.ok (.func fn first cap) w:=fun _ _ _ _=>rfl
 have hb0:=yA (yH _ w) (.cells #[.string (bs nm)] 9);have C:=aA (q9 191 #[.pointer (some ⟨w.heap.size,0,none⟩)] (enters_of func191 (by kernel_rfl) rfl) (fun q=>decide (q.name=nm)) ao len cap l _ (h.below hb0) hl
  (fun wx q hb=>aCn w.heap.size nm q wx ((hb.cell (p:=⟨w.heap.size,0,none⟩) (by simp)).trans (by simp))))
 rw [aCD] at C;obtain ⟨p,hp⟩:∃p,aU nm l 0=p:=⟨_,rfl⟩;rw [show place l nm=p from hp];rw [hp] at C;have HB0:=aA hb0;clear h hb0 hp;go_enter func148,ntmps148;go_wp2_with fail;refine (uH C).mono ?_;rintro e w1 ⟨rfl,hb⟩;have HB:=aA (yB (uH HB0) hb);clear hb;go_wp2;go_ret;exact ⟨rfl,uH HB⟩
abbrev aF6 (q:Q):Obj:=.cells #[.string (bs q.name),.string (bs q.parent),.int .i64 q.due,.int .i64 q.most] 105
def mF (w:World) (g:Nat) (q:Q):Prop:=w.heap[g]? = some (aF6 q)
theorem mF.new (w:World) (q:Q):mF (w.alloc (aF6 q)) w.heap.size q:=by show (w.heap.push _)[w.heap.size]? = _;simp
theorem mF.lt {q:Q} (h:mF w g q):g<w.heap.size:=lt_of_block h
theorem mF.below {q:Q} (h:mF w g q) (hb:Bw w w'):mF w' g q:=(hb.block g h.lt).trans h
theorem mF.c0 {q:Q} (h:mF w g q):w.cell? ⟨g,0,none⟩=some (.string (bs q.name)):=by unfold mF at h;simp [World.cell?,h]
theorem mF.c1 {q:Q} (h:mF w g q):w.cell? ⟨g,1,none⟩=some (.string (bs q.parent)):=by unfold mF at h;simp [World.cell?,h]
theorem mF.c2 {q:Q} (h:mF w g q):w.cell? ⟨g,2,none⟩=some (.int .i64 q.due):=by unfold mF at h;simp [World.cell?,h]
theorem mF.c3 {q:Q} (h:mF w g q):w.cell? ⟨g,3,none⟩=some (.int .i64 q.most):=by unfold mF at h;simp [World.cell?,h]
def QB (w0:World) (g:Nat) (q:Q) (w:World):Prop:=mF w g q∧Bw w0 w
theorem QB.call {q:Q} (h:QB w0 g q w) (hb:Bw w w'):QB w0 g q w':=⟨h.1.below hb,yB h.2 hb⟩
theorem QB.drew {q:Q} (h:QB w0 g q w):QB w0 g q w.drew:=h.call (yH _ _).drew
theorem QB.read (w0:World) (g:Nat) (q:Q):∀wx,QB w0 g q wx→wx.cell? ⟨g,0,none⟩=some (.string (bs q.name))∧wx.cell? ⟨g,1,none⟩=some (.string (bs q.parent))∧wx.cell? ⟨g,2,none⟩=some (.int .i64 q.due)∧wx.cell? ⟨g,3,none⟩=some (.int .i64 q.most):=fun wx h=>⟨h.1.c0,h.1.c1,h.1.c2,h.1.c3⟩
theorem mP (x:Int) (w:World) :
  cP 186 #[.int .u8 x] w fun e w'=>e=.returned (.bool (inB x 48 57))∧w'=w:=by
 by_cases h1:48≤x
 ·by_cases h2:x≤57
  ·(go_enter func186,ntmps186);go_wp2;go_ret;exact ⟨yF (dD h1 h2).symm,rfl⟩
  ·(go_enter func186,ntmps186);go_wp2;go_ret;exact ⟨yF (bP (by omega)).symm,rfl⟩
 ·go_enter func186,ntmps186
  go_wp2;go_ret;exact ⟨yF (bP (by omega)).symm,rfl⟩
theorem lK (s:ByteArray) (w:World) (hs:s.size≤1048576) :
  cP 139 #[.string s] w fun e w'=>e=.returned (.bool (bN s.data.toList))∧w'=w:=by
 by_cases h0:1≤s.size
 ·by_cases h1:s.size≤10
  ·have hin:Hid (inB (s.data.toList.length:Int) 1 10=true):=aA (by rw [aEC];exact dD (by omega) (by omega));(go_enter func139,ntmps139);go_wp2;(go_loop [14] (fun i=>∃k:Nat,k≤s.size∧i=.int .i64 k∧(s.data.toList.take k).all qW=true) (fun i=>s.size - (intOf i).toNat));(case atStart=>exact ⟨0,Nat.zero_le _,rfl,by simp⟩);case round=>
    obtain ⟨k,hk,rfl,zw⟩:=hrel;have HA:=aA zw;clear zw;by_cases hlt:k<s.size
    ·have hb:(s[k].toNat:Int)≤255:=aHB _;by_cases h3:48≤(s[k].toNat:Int)∧(s[k].toNat:Int)≤57
     ·have e1:inB (s[k].toNat:Int) 48 57=true:=dD h3.1 h3.2;clear h3;(go_wp2_with (go_at_call 186;refine (mP _ _).mono ?_;rintro e w' ⟨rfl,rfl⟩));(go_round);(case rel=>exact ⟨k+1,by omega,by go_num,vP s k hlt _ (uH HA) (by simp [qW,e1])⟩);case measure=>simp [intOf];omega
     ·have e1:inB (s[k].toNat:Int) 48 57=false:=bP h3;clear h3;by_cases h4:97≤(s[k].toNat:Int)
      ·by_cases h5:(s[k].toNat:Int)≤122
       ·have HN:Hid (qW s[k]=true):=aA (by simp [qW,e1,dD h4 h5]);(go_wp2_with (go_at_call 186;refine (mP _ _).mono ?_;rintro e w' ⟨rfl,rfl⟩));(go_round);(case rel=>exact ⟨k+1,by omega,by go_num,vP s k hlt _ (uH HA) (uH HN)⟩);case measure=>simp [intOf];omega
       ·have hf:Hid (bN s.data.toList=false):=aA (by rw [bN,aCw s k hlt qW (by simp [qW,e1,bP (x:=(s[k].toNat:Int)) (a:=97) (b:=122) (by omega)])];simp);(go_wp2_with (go_at_call 186;refine (mP _ _).mono ?_;rintro e w' ⟨rfl,rfl⟩));go_ret;exact ⟨yF (uH hf).symm,rfl⟩
      ·have hf:Hid (bN s.data.toList=false):=aA (by rw [bN,aCw s k hlt qW (by simp [qW,e1,bP (x:=(s[k].toNat:Int)) (a:=97) (b:=122) (by omega)])];simp);(go_wp2_with (go_at_call 186;refine (mP _ _).mono ?_;rintro e w' ⟨rfl,rfl⟩));go_ret;exact ⟨yF (uH hf).symm,rfl⟩
    ·have hf:Hid (bN s.data.toList=true):=aA (by rw [bN,uH hin,←aA9 s k (by omega),uH HA];rfl);go_wp2;go_ret;exact ⟨yF (uH hf).symm,rfl⟩
  ·have hf:Hid (bN s.data.toList=false):=aA (by rw [bN,aEC,bP (by omega)];simp);(go_enter func139,ntmps139);go_wp2;go_ret;exact ⟨yF (uH hf).symm,rfl⟩
 ·have hf:Hid (bN s.data.toList=false):=aA (by rw [bN,aEC,bP (by omega)];simp);go_enter func139,ntmps139;go_wp2;go_ret;exact ⟨yF (uH hf).symm,rfl⟩
def iE:Nat→List Q→List UInt8→List Q
 | 0,_,_=>[]
 | n+1,l,nm=>if h:0≤place l nm∧(place l nm).toNat<l.length then l[(place l nm).toNat]::iE n (l.take (place l nm).toNat) l[(place l nm).toNat].parent else []
def ups (l:List Q) (nm:List UInt8):List Q:=iE (l.length+1) l nm
theorem tT:∀(n m:Nat) (l:List Q) (nm:List UInt8),l.length<n→l.length<m→iE n l nm=iE m l nm
 | 0,_,_,_,h,_=>by omega
 | _+1,0,_,_,_,h=>by omega
 | n+1,m+1,l,nm,h1,h2=>by
  rw [iE,iE];split
  ·rename_i h;rw [tT n m _ _ (by simp;omega) (by simp;omega)]
  ·rfl
theorem aHb {l:List Q} (h:place l nm<0):ups l nm=[]:=by
 rw [ups,iE,dif_neg (by omega)]
theorem aH9 {l:List Q} (hk:k<l.length) (h:place l nm=k):ups l nm=l[k]::ups (l.take k) l[k].parent:=by
 rw [ups,iE];simp only [h,Int.toNat_natCast];rw [dif_pos (by simp;omega),ups,tT l.length ((l.take k).length+1) _ _ (by simp;omega) (by simp)]
theorem aA5:∀(n:Nat) (l:List Q) (nm:List UInt8),(iE n l nm).length≤l.length
 | 0,l,nm=>by simp [iE]
 | n+1,l,nm=>by
  rw [iE];split
  ·rename_i h;have:=aA5 n (l.take (place l nm).toNat) l[(place l nm).toNat].parent;simp at this ⊢;omega
  ·simp
theorem o9 (nm:List UInt8):∀(l:List Q) (k j:Nat),aU nm (l.take j) k=if aU nm l k<((k+j:Nat):Int) then aU nm l k else -1
 | [],k,j=>by simp [aU];omega
 | x::t,k,0=>by
  rw [List.take_zero,aU];rcases kJ nm (x::t) k with h | h
  ·rw [h,if_pos (by omega)]
  ·rw [if_neg (by omega)]
 | x::t,k,j+1=>by
  rw [List.take_succ_cons,aU,aU];by_cases h:x.name=nm
  ·rw [if_pos h,if_pos h,if_pos (by omega)]
  ·rw [if_neg h,if_neg h,o9 nm t (k+1) j,show k+1+j=k+(j+1) by omega]
theorem aE7 (l:List Q) (nm:List UInt8) (j:Nat):place (l.take j) nm=if place l nm<j then place l nm else -1:=by
 have:=o9 nm l 0 j;rw [Nat.zero_add] at this;exact this
def aD9 (l:List Q):Nat→Int→List Q
 | 0,_=>[]
 | n+1,p=>if h:0≤p∧p.toNat<l.length then l[p.toNat]::aD9 l n (place l l[p.toNat].parent) else []
theorem zP (l:List Q):∀(n:Nat) (p:Int),(aD9 l n p).map Q.name=eH l n p
 | 0,_=>rfl
 | n+1,p=>by
  rw [aD9,eH];split
  ·rw [List.map_cons,zP l n]
  ·rfl
theorem tQ {l:List Q} (h:aF l=true):∀(n j:Nat) (nm:List UInt8),place l nm<j→iE n (l.take j) nm=aD9 l n (place l nm)
 | 0,_,_,_=>rfl
 | n+1,j,nm,hj=>by
  have hp:place (l.take j) nm=place l nm:=by rw [aE7,if_pos hj]
  have hr:=eT l nm;rw [iE,aD9];simp only [hp];by_cases h0:0≤place l nm
  ·rw [dif_pos ⟨h0,by simp;omega⟩,dif_pos ⟨h0,by omega⟩];rw [List.getElem_take,List.take_take,show min (place l nm).toNat j=(place l nm).toNat by omega];rw [tQ h n _ _ (jK h (by omega))]
  ·rw [dif_neg (by omega),dif_neg (by omega)]
theorem aFd {l:List Q} (h:aF l=true) (nm:List UInt8):ups l nm=aD9 l (l.length+1) (place l nm):=by
 have hr:=eT l nm;have:=tQ h (l.length+1) l.length nm (by omega);rwa [List.take_length] at this
theorem aA4 {l:List Q} (h:aF l=true) (nm:List UInt8):(ups l nm).map Q.name=path l nm:=by
 rw [aFd h,zP,path,h];rfl
end
section
open Go.RowKit Go.Shelf
variable {b j:Nat} {v:Value} {W W' w:World}
def KpA (W W':World):Prop:=∀(k:Nat) (o:Obj),W.heap[k]? = some o→o.isCells=true→W'.heap[k]? = some o
theorem aIH {A B C:World} (h:KpA A B) (k:KpA B C):KpA A C:=fun i o ho hc=>k i o (h i o ho hc) hc
theorem aKW (W:World) (l:Nat) (o o':Obj) (hl:w.heap.size≤l) (h:W.heap[l]? = some o) (h1:o.isCells=false) (h2:o.isWalk=false):KpA W (W.putObj l o'):=fun k q hq hc=>by
 have hne:k≠l:=fun e=>by
  subst e;rw [hq] at h;cases h;rw [h1] at hc;cases hc
 exact ((grownBy_putObj' W l o').block k (lt_of_block hq) (by simp;omega)).trans hq
theorem qY (h:Bw W W'):KpA W W':=fun k o ho _=>(h.block k (lt_of_block ho)).trans ho
theorem aFL (hc:W.cell? ⟨b,j,none⟩=some v):∃o,W.heap[b]? = some o∧o.isCells=true:=by
 cases h:W.heap[b]? with
 | none=>simp [World.cell?,h] at hc
 | some o=>refine ⟨o,rfl,?_⟩;cases o<;>simp [World.cell?,h] at hc<;>rfl
theorem KpA.cell (h:KpA W W') (hc:W.cell? ⟨b,j,none⟩=some v):W'.cell? ⟨b,j,none⟩=some v:=by
 obtain ⟨o,h1,h2⟩:=aFL hc;have h3:=h b o h1 h2;unfold World.cell? at hc ⊢;rw [h1] at hc;rw [h3];exact hc
theorem uK {w':World} (hb:Bw w w'):KeepsOthers w w':=KeepsOthers.of_grownBy (row:=none) (aH (aD w none) hb) (fun j o e=>by cases e)
end
section
open Go.RowKit
theorem aAt (a b n:Int) (w:World) :
  cP 154 #[rv a b,.int .i64 n] w fun e w'=>e=.returned (rv (eY a b n) (eZ a b n))∧Bw w w':=by
 cases h1:aQ a b
 ·rw [show eY a b n=0 by simp [eY,gT,h1],show eZ a b n=0 by simp [eZ,gT,h1]];go_enter func154,ntmps154;go_wp2_with (go_at_call 150;refine (qR _ _ _).mono ?_;rintro e w' ⟨rfl,rfl⟩);refine bodyPost_ret (v:=rv 0 0) (by simp [results,results154,go_sem]) rfl ⟨rfl,?_⟩;repeat (first | exact yH _ _ | refine yA ?_ _ | refine Below.drew ?_ | refine yC ?_ _ _ _ (by omega))
 ·cases h2:inB n 0 10000
  ·rw [show eY a b n=0 by simp [eY,gT,h2],show eZ a b n=0 by simp [eZ,gT,h2]];by_cases n0:n<0
   ·(go_enter func154,ntmps154);(go_wp2_with (go_at_call 150;refine (qR _ _ _).mono ?_;rintro e w' ⟨rfl,rfl⟩));refine bodyPost_ret (v:=rv 0 0) (by simp [results,results154,go_sem]) rfl ⟨rfl,?_⟩;repeat (first | exact yH _ _ | refine yA ?_ _ | refine Below.drew ?_ | refine yC ?_ _ _ _ (by omega))
   ·have n1:10000<n:=by apply Int.not_le.1;intro h;have:inB n 0 10000=true:=dD (by omega) h;rw [this] at h2;cases h2
    (go_enter func154,ntmps154);(go_wp2_with (go_at_call 150;refine (qR _ _ _).mono ?_;rintro e w' ⟨rfl,rfl⟩));refine bodyPost_ret (v:=rv 0 0) (by simp [results,results154,go_sem]) rfl ⟨rfl,?_⟩;repeat (first | exact yH _ _ | refine yA ?_ _ | refine Below.drew ?_ | refine yC ?_ _ _ _ (by omega))
  ·rw [show eY a b n=a*n / 10000 by simp [eY,gT,h1,h2],show eZ a b n=b*n / 10000 by simp [eZ,gT,h1,h2]];obtain ⟨q1,q2,q3,q4⟩:=aZ h1;(have hn:0≤n∧n≤10000:=by simpa [inB] using h2);obtain ⟨m1,m2⟩:=aAL q1 q2 hn.1 hn.2;obtain ⟨m3,m4⟩:=aAL q3 q4 hn.1 hn.2;(go_enter func154,ntmps154);(go_wp2_with (go_at_call 150;refine (qR _ _ _).mono ?_;rintro e w' ⟨rfl,rfl⟩));refine bodyPost_ret (v:=rv (a*n / 10000) (b*n / 10000)) (by simp [results,results154,go_sem]) rfl ⟨rfl,?_⟩;repeat (first | exact yH _ _ | refine yA ?_ _ | refine Below.drew ?_ | refine yC ?_ _ _ _ (by omega))
end
section
theorem aCz {a b c d e f:Int} (hb:jF b) (hd:jF d) (hf:jF f) (h:less c d a b=false) (k:less e f c d=false):less e f a b=false:=by
 unfold less at *;by_cases f0:f=0
 ·simp [f0]
 ·by_cases d0:d=0
  ·simp [d0,f0] at k
  ·by_cases b0:b=0
   ·simp [b0,d0] at h
   ·simp only [b0,d0,f0,if_false,decide_eq_false_iff_not,Int.not_lt] at h k ⊢;have pb:0≤b:=hb.1;have pf:0≤f:=hf.1;(have pd:0<d:=by have:=hd.1;omega);have h1:=Int.mul_le_mul_of_nonneg_right h pf;have h2:=Int.mul_le_mul_of_nonneg_right k pb;(have e1:a*d*f=a*f*d:=by rw [Int.mul_assoc,Int.mul_comm d f,←Int.mul_assoc]);(have e2:c*b*f=c*f*b:=by rw [Int.mul_assoc,Int.mul_comm b f,←Int.mul_assoc]);(have e3:e*d*b=e*b*d:=by rw [Int.mul_assoc,Int.mul_comm d b,←Int.mul_assoc]);(have h3:a*f*d≤e*b*d:=by rw [←e1,←e3];rw [e2] at h1;exact Int.le_trans h1 h2);exact Int.le_of_mul_le_mul_right h3 pd
end
section
open Go.RowKit
variable {a:Act} {K:Act→World→Prop} {listed:Array Bool} {ops:Array Oper} {arr:Array Value} {h x y:Int} {ps:List (List UInt8)} {L:List (Nat×Array Value×TypeId)} {l zs:List Int} {rs:List Nat} {B B' E E' N b c cap fuel g i j k n p q r:Nat} {I:Nat→Array Bool→Act→World→Prop} {o oi:Oper} {ao:Option Addr} {P:Program} {t:TypeId} {u v:Value} {w w' w0 wx:World} {S:World→Prop}
theorem aEO:∀a:List UInt8,Op.bytesLess a a=false
 | []=>rfl
 | c::t=>by simp [Op.bytesLess,aEO t]
theorem aBJ:∀a b c:List UInt8,Op.bytesLess a b=true→Op.bytesLess b c=true→Op.bytesLess a c=true
 | _,[],_,h,_=>by simp [Op.bytesLess] at h
 | _,_::_,[],_,h=>by simp [Op.bytesLess] at h
 | [],_::_,_::_,_,_=>by simp [Op.bytesLess]
 | x::a,y::b,z::c,h,k=>by
  simp only [Op.bytesLess,Bool.or_eq_true,yK,yL,beq_iff_eq] at h k ⊢;rcases h with h | ⟨rfl,h⟩
  ·rcases k with k | ⟨rfl,k⟩
   ·exact .inl (UInt8.lt_trans h k)
   ·exact .inl h
  ·rcases k with k | ⟨rfl,k⟩
   ·exact .inl k
   ·exact .inr ⟨rfl,aBJ a b c h k⟩
theorem aHC:∀a b:List UInt8,Op.bytesLess a b=false→a≠b→Op.bytesLess b a=true
 | [],[],_,h=>absurd rfl h
 | [],_::_,h,_=>by simp [Op.bytesLess] at h
 | _::_,[],_,_=>by simp [Op.bytesLess]
 | x::a,y::b,h,k=>by
  simp only [Op.bytesLess,Bool.or_eq_false_iff,Bool.and_eq_false_iff,decide_eq_false_iff_not,beq_eq_false_iff_ne] at h;simp only [Op.bytesLess,Bool.or_eq_true,yK,yL,beq_iff_eq];by_cases hxy:x=y
  ·subst hxy;(right);refine ⟨rfl,aHC a b ?_ (fun e=>k (by rw [e]))⟩;rcases h.2 with h2 | h2
   ·exact absurd rfl h2
   ·exact h2
  ·(left);have h1:=h.1;(have:x.toNat≠y.toNat:=fun e=>hxy (UInt8.toNat_inj.1 e));rw [UInt8.lt_iff_toNat_lt] at h1 ⊢;omega
def aId (w0:World) (n:Nat) (L:List (Nat×Array Value×TypeId)) (wx:World):Prop:=
 (∀p ∈ L,p.1<n∧Blk wx p.1 p.2.1 p.2.2)∧n≤wx.heap.size∧w0.heap.size≤n∧Bw w0 wx
theorem aFC (w0:World) (n:Nat) (L:List (Nat×Array Value×TypeId)):aC6 (aId w0 n L) w0 n where
 call:=fun h hb=>⟨fun p hp=>⟨(h.1 p hp).1,(h.1 p hp).2.below hb⟩,Nat.le_trans h.2.1 hb.size,h.2.2.1,yB h.2.2.2 hb⟩
 set:=fun k j v h hk=>⟨fun p hp=>⟨(h.1 p hp).1,(h.1 p hp).2.other k j v (by have:=(h.1 p hp).1;omega)⟩,by rw [bV];exact h.2.1,h.2.2.1,yC h.2.2.2 _ _ _ (Nat.le_trans h.2.2.1 hk)⟩
 size:=fun h=>h.2.1
 below:=fun h=>h.2.2.2
theorem aId.blk (h:aId w0 n L wx) {p:Nat×Array Value×TypeId} (hp:p ∈ L):Blk wx p.1 p.2.1 p.2.2:=(h.1 p hp).2
theorem Var.blk (h:Var w t g x y):Blk w g #[.int .i64 x,.int .i64 y] t:=h
theorem Blk.var (h:Blk w g #[.int .i64 x,.int .i64 y] t):Var w t g x y:=h
theorem qA (n:Int) (w:World) :
  cP 137 #[.int .i64 n] w fun e w'=>e=.returned (.bool (inB n 1 1000000000))∧w=w':=by
 by_cases h1:1≤n
 ·by_cases h2:n≤1000000000
  ·(go_enter func137,ntmps137);go_wp2;go_ret;exact ⟨yF (dD h1 h2).symm,rfl⟩
  ·(go_enter func137,ntmps137);go_wp2;go_ret;exact ⟨yF (bP (by omega)).symm,rfl⟩
 ·go_enter func137,ntmps137
  go_wp2;go_ret;exact ⟨yF (bP (by omega)).symm,rfl⟩
theorem p9 (a b c d:Int) (w:World) :
  cP 142 #[rv a b,rv c d] w fun e w'=>e=.returned (.tuple #[jY (-1) a b c d,.bool (aN (-1) a b c d)])∧Bw w w':=by
 have V1:=((aM w 33 a b).al (.cells #[.int .i64 c,.int .i64 d] 33)).al (.cells #[.int .i64 0,.int .i64 0] 33);have V2:=(iB w 33 33 a b c d).al (.cells #[.int .i64 0,.int .i64 0] 33);have V3:=iB (w.alloc (.cells #[.int .i64 a,.int .i64 b] 33)) 33 33 c d 0 0;have B3:=yA (yA (yA (yH _ w) (.cells #[.int .i64 a,.int .i64 b] 33)) (.cells #[.int .i64 c,.int .i64 d] 33)) (.cells #[.int .i64 0,.int .i64 0] 33);simp at V3;have GM:=aA V1;have GR:=aA V2;have QO:=aA V3;have HB3:=aA B3;have hc:=aA (oK a b c d);clear V1 V2 V3 B3;cases h0:aQ a b&&aQ c d
 ·have hb:aN (-1) a b c d=false:=by rw [aN,h0];rfl
  rw [kQ hb,hb];go_enter func142,ntmps142;go_wp2_with fail;refine (uH hc _).mono ?_;rw [h0];rintro e w1 ⟨rfl,hb⟩;have V3:=(uH QO).below hb;have k2:=V3.f 0;have k3:=V3.f 1;have k0:=V3.c0;have k1:=V3.c1;have k4:=V3.s0 (.int .i64 0);have k5:=V3.s1 (.int .i64 0) (.int .i64 0);have HB:=aA (yB (uH HB3) hb);clear hb GM GR QO HB3 V3 hc;go_wp2;refine bodyPost_ret (v:=.tuple #[rv 0 0,.bool false]) (by simp [results,results142,go_sem,k4,k5]) rfl ⟨rfl,?_⟩;repeat (first | exact uH HB | refine yA ?_ _ | refine Below.drew ?_ | refine yC ?_ _ _ _ (by omega))
 ·have h0':=h0;simp only [yK] at h0';obtain ⟨q1,q2,q3,q4⟩:=aZ h0'.1;obtain ⟨q5,q6,q7,q8⟩:=aZ h0'.2;obtain ⟨x,hx⟩:∃x,a - c=x:=⟨_,rfl⟩;obtain ⟨y,hy⟩:∃y,b - d=y:=⟨_,rfl⟩;have m3:IntKind.i64.wrap (a - c)=x:=by rw [IntKind.wrap_i64];omega
  have m4:IntKind.i64.wrap (b - d)=y:=by rw [IntKind.wrap_i64];omega
  have e1:aN (-1) a b c d=aQ x y:=by rw [aN,h0,show a+(-1)*c=x by omega,show b+(-1)*d=y by omega];rfl
  have e2:jY (-1) a b c d=orV x y:=by rw [jY,orV,e1,show a+(-1)*c=x by omega,show b+(-1)*d=y by omega]
  obtain ⟨u,v,hv⟩:∃u v,orV x y=rv u v:=by unfold orV;split<;>exact ⟨_,_,rfl⟩
  obtain ⟨o,ho⟩:∃o,aQ x y=o:=⟨_,rfl⟩;have ho2:∀wx,cP 189 #[rv x y] wx fun e w'=>e=.returned (.tuple #[rv u v,.bool o])∧Bw wx w':=fun wx=>by have:=aIl x y wx;rw [hv,ho] at this;exact this
  rw [e1,e2,hv,ho];have HO:=aA ho2;clear e1 e2 hv ho ho2 h0' q1 q2 q3 q4 q5 q6 q7 q8 hx hy;go_enter func142,ntmps142;go_wp2_with fail;refine (uH hc _).mono ?_;rw [h0];rintro e w1 ⟨rfl,hb⟩;have V1:=(uH GM).below hb;have V2:=(uH GR).below hb;have V3:=aA ((uH QO).below hb);have a1:=V1.c0;have a2:=V1.c1;have a3:=V2.c0;have a4:=V2.c1;have HB:=aA (yB (uH HB3) hb);clear hb GM GR QO HB3 V1 V2 hc;go_wp2_with fail;refine (uH HO _).mono ?_;rintro e w2 ⟨rfl,hb⟩;have V4:=(uH V3).below hb;have k0:=V4.c0;have k1:=V4.c1;have k2:=V4.f 0;have k3:=V4.f 1;have k4:=V4.s0 (.int .i64 u);have k5:=V4.s1 (.int .i64 u) (.int .i64 v);have HB2:=aA (yB (uH HB) hb);clear hb V4 V3 HB HO a1 a2 a3 a4;go_wp2;refine bodyPost_ret (v:=.tuple #[rv u v,.bool o]) (by simp [results,results142,go_sem,k4,k5]) rfl ⟨rfl,?_⟩;repeat (first | exact uH HB2 | refine yA ?_ _ | refine Below.drew ?_ | refine yC ?_ _ _ _ (by omega))
def dgs (u:Nat):List UInt8:=if u=0 then [] else Lib.decDigits u
theorem aIU:dgs 0=[]:=rfl
theorem sU {u:Nat} (h:u≠0):dgs u=Lib.decDigits u:=by rw [dgs,if_neg h]
theorem aBD {u:Nat} (h:u≠0):dgs u=dgs (u / 10)++[UInt8.ofNat (48+u % 10)]:=by
 rw [sU h,Lib.decDigits];by_cases h10:u<10
 ·rw [dif_pos h10];have e:u / 10=0:=by omega
  rw [e,aIU,Nat.mod_eq_of_lt h10];rfl
 ·rw [dif_neg h10,sU (by omega)]
theorem aCe:∀d:Nat,d<10→(ByteArray.mk #[48,49,50,51,52,53,54,55,56,57]).extract d (d+1)=⟨#[UInt8.ofNat (48+d)]⟩:=by
 intro d h
 match d,h with
 | 0,_=>rfl
 | 1,_=>rfl
 | 2,_=>rfl
 | 3,_=>rfl
 | 4,_=>rfl
 | 5,_=>rfl
 | 6,_=>rfl
 | 7,_=>rfl
 | 8,_=>rfl
 | 9,_=>rfl
 | d+10,h=>exact absurd h (by omega)
def mk (N:Nat):ByteArray:=bs (109::dgs N)
def aKN (k:Nat):Nat→List ByteArray
 | 0=>[]
 | n+1=>mk k::aKN (k+1) n
def aLC (k:Nat) (xs:List ByteArray) (j:Nat):List ByteArray:=(aKN k xs.length).take j++xs.drop j
def Cel (w:World) (t:TypeId) (g N:Nat):Prop:=∃arr:Array Value,w.heap[g]? = some (.cells arr t (0,0))∧arr.size=N
theorem Cel.lt (h:Cel w t g N):g<w.heap.size:=let ⟨_,h,_⟩:=h;lt_of_block h
theorem Cel.of_block (h:Cel w t g N) (e:w'.heap[g]? = w.heap[g]?):Cel w' t g N:=by
 obtain ⟨arr,h1,h2⟩:=h;exact ⟨arr,e.trans h1,h2⟩
theorem Cel.below (h:Cel w t g N) (hb:Bw w w'):Cel w' t g N:=h.of_block (hb.block g h.lt)
theorem Cel.set (h:Cel w t g N) (b j:Nat) (v:Value):Cel (w.setCell ⟨b,j,none⟩ v) t g N:=by
 by_cases e:g=b
 ·subst e;obtain ⟨arr,h1,h2⟩:=h;exact ⟨_,heap_setCell_same w g j _ _ v h1,by simp [h2]⟩
 ·exact h.of_block (heap_setCell_other w ⟨b,j,none⟩ g v e)
theorem Cel.cell (h:Cel w t g N) (hj:j<N):∃v,w.cell? ⟨g,j,none⟩=some v:=by
 obtain ⟨arr,h1,h2⟩:=h;exact ⟨arr[j]'(by omega),by simp [World.cell?,h1,Array.getElem?_eq_getElem (show j<arr.size by omega)]⟩
theorem Cel.frozen (h:Cel w t g N) (j:Nat):w.frozen? ⟨g,j,none⟩=false:=by
 obtain ⟨arr,h1,h2⟩:=h;simp [World.frozen?,h1]
structure Mkd (B E:Nat) (w w':World):Prop where
 os:w'.os=w.os
 tape:w'.tape=w.tape
 output:w'.output=w.output
 size:w.heap.size≤w'.heap.size
 block:∀k,k<w.heap.size→(k<B∨E≤k)→w'.heap[k]? = w.heap[k]?
 cel:∀t g N,Cel w t g N→Cel w' t g N
theorem Mkd.refl (B E:Nat) (w:World):Mkd B E w w:=⟨rfl,rfl,rfl,yJ _,fun _ _ _=>rfl,fun _ _ _ h=>h⟩
theorem Mkd.trans {a b c:World} (h:Mkd B E a b) (k:Mkd B E b c):Mkd B E a c:=
 ⟨k.os.trans h.os,k.tape.trans h.tape,k.output.trans h.output,Nat.le_trans h.size k.size,fun i hi ho=>(k.block i (Nat.lt_of_lt_of_le hi h.size) ho).trans (h.block i hi ho),fun t g N x=>k.cel t g N (h.cel t g N x)⟩
theorem Mkd.mono {a b:World} (h:Mkd B E a b) (h1:B'≤B) (h2:E≤E'):Mkd B' E' a b:=
 ⟨h.os,h.tape,h.output,h.size,fun i hi ho=>h.block i hi (by omega),h.cel⟩
theorem Mkd.of_below (hb:Bw w w'):Mkd B E w w':=⟨hb.os,hb.tape,hb.output,hb.size,fun i hi _=>hb.block i hi,fun t g N x=>x.below hb⟩
theorem Mkd.on {a:World} (h:Mkd B E a w) (hb:Bw w w'):Mkd B E a w':=h.trans (.of_below hb)
theorem Mkd.sc {a:World} (h:Mkd B E a w) (g j:Nat) (v:Value) (h1:B≤g) (h2:g<E):Mkd B E a (w.setCell ⟨g,j,none⟩ v):=
 h.trans ⟨rfl,rfl,rfl,by simp [World.setCell],fun k _ ho=>Below.heap_setCell _ _ _ _ (by show k≠g;omega),fun t g' N x=>x.set g j v⟩
theorem Mkd.below {a:World} (h:Mkd B E a w) (hB:B≤a.heap.size):Below B a w:=⟨h.os,h.tape,h.output,h.size,fun k hk=>h.block k (by omega) (.inl hk)⟩
theorem Mkd.blk {a:World} (h:Mkd B E a w) (hb:Blk a g arr t) (ho:g<B∨E≤g):Blk w g arr t:=(h.block g hb.lt ho).trans hb
theorem tL.cel {l:List Q} (h:tL w t g n k l):Cel w t g (n*4):=let ⟨arr,h1,h2,_⟩:=h;⟨arr,h1,h2⟩
theorem eQ.cel {l:List Ask} (h:eQ w t g n k l):Cel w t g (n*5):=let ⟨arr,h1,h2,_⟩:=h;⟨arr,h1,h2⟩
theorem gD.cel {l:List Mac} (h:gD w t g n k l):Cel w t g (n*4):=let ⟨arr,h1,h2,_⟩:=h;⟨arr,h1,h2⟩
theorem gF.cel {l:List Con} (h:gF w t g n k l):Cel w t g (n*5):=let ⟨arr,h1,h2,_⟩:=h;⟨arr,h1,h2⟩
theorem eO.cel {l:List dA} (h:eO w t g n k l):Cel w t g (n*3):=let ⟨arr,h1,h2,_⟩:=h;⟨arr,h1,h2⟩
def aKq (k j:Nat):Mac:=⟨109::dgs (k+4*j),(k:Int)+4*(j:Int)+1,(k:Int)+4*(j:Int)+1+1,(k:Int)+4*(j:Int)+1+1+1⟩
def aKL (k n:Nat):List Mac:=(List.range n).map (aKq k)
theorem gD.next {l:List Mac} (h:gD w t g n k l) (c:∀hk:k<l.length,o5 w g (k*4) l[k]):gD w t g n (k+1) l:=by
 obtain ⟨arr,h1,h2,h3⟩:=h;refine ⟨arr,h1,h2,fun i hi hik=>?_⟩;by_cases e:i=k
 ·subst e;obtain ⟨c0,c1,c2,c3⟩:=c hi;simp [World.cell?,h1] at c0 c1 c2 c3;exact ⟨c0,c1,c2,c3⟩
 ·exact h3 i hi (by omega)
def uX (w0:World) (b p:Nat) (q:Mac) (w:World):Prop:=o5 w b p q∧Bw w0 w
theorem uX.call {q:Mac} (h:uX w0 b p q w) (hb:Bw w w'):uX w0 b p q w':=⟨h.1.below hb,yB h.2 hb⟩
theorem uX.drew {q:Mac} (h:uX w0 b p q w):uX w0 b p q w.drew:=h.call (yH _ _).drew
theorem uX.read (w0:World) (b p:Nat) (q:Mac):∀wx,uX w0 b p q wx→wx.cell? ⟨b,p,none⟩=some (.string (bs q.name))∧wx.cell? ⟨b,p+1,none⟩=some (.int .i64 q.mem)∧wx.cell? ⟨b,p+2,none⟩=some (.int .i64 q.cpu)∧wx.cell? ⟨b,p+3,none⟩=some (.int .i64 q.seen):=fun wx h=>h.1
def aKr (k j:Nat):Con:=⟨(k:Int)+5*(j:Int),(k:Int)+5*(j:Int)+1,109::dgs (k+5*j+1+1),(k:Int)+5*(j:Int)+1+1+1,(k:Int)+5*(j:Int)+1+1+1+1⟩
def aIp (k n:Nat):List Con:=(List.range n).map (aKr k)
theorem gF.next {l:List Con} (h:gF w t g n k l) (c:∀hk:k<l.length,qD w g (k*5) l[k]):gF w t g n (k+1) l:=by
 obtain ⟨arr,h1,h2,h3⟩:=h;refine ⟨arr,h1,h2,fun i hi hik=>?_⟩;by_cases e:i=k
 ·subst e;obtain ⟨c0,c1,c2,c3,c4⟩:=c hi;simp [World.cell?,h1] at c0 c1 c2 c3 c4;exact ⟨c0,c1,c2,c3,c4⟩
 ·exact h3 i hi (by omega)
def uY (w0:World) (b p:Nat) (q:Con) (w:World):Prop:=qD w b p q∧Bw w0 w
theorem uY.call {q:Con} (h:uY w0 b p q w) (hb:Bw w w'):uY w0 b p q w':=⟨h.1.below hb,yB h.2 hb⟩
theorem uY.drew {q:Con} (h:uY w0 b p q w):uY w0 b p q w.drew:=h.call (yH _ _).drew
theorem uY.read (w0:World) (b p:Nat) (q:Con):∀wx,uY w0 b p q wx→wx.cell? ⟨b,p,none⟩=some (.int .i64 q.id)∧wx.cell? ⟨b,p+1,none⟩=some (.int .i64 q.app)∧wx.cell? ⟨b,p+2,none⟩=some (.string (bs q.node))∧wx.cell? ⟨b,p+3,none⟩=some (.int .i64 q.mem)∧wx.cell? ⟨b,p+4,none⟩=some (.int .i64 q.cpu):=fun wx h=>h.1
def aKs (k j:Nat):Ask:=⟨(k:Int)+5*(j:Int),(k:Int)+5*(j:Int)+1,(k:Int)+5*(j:Int)+1+1,109::dgs (k+5*j+1+1+1),(k:Int)+5*(j:Int)+1+1+1+1⟩
def aKM (k n:Nat):List Ask:=(List.range n).map (aKs k)
theorem eQ.next {l:List Ask} (h:eQ w t g n k l) (c:∀hk:k<l.length,tN w g (k*5) l[k]):eQ w t g n (k+1) l:=by
 obtain ⟨arr,h1,h2,h3⟩:=h;refine ⟨arr,h1,h2,fun i hi hik=>?_⟩;by_cases e:i=k
 ·subst e;obtain ⟨c0,c1,c2,c3,c4⟩:=c hi;simp [World.cell?,h1] at c0 c1 c2 c3 c4;exact ⟨c0,c1,c2,c3,c4⟩
 ·exact h3 i hi (by omega)
theorem bC (h:w.cell? ⟨g,p,none⟩=some u) (hne:q≠p):(w.setCell ⟨g,q,none⟩ v).cell? ⟨g,p,none⟩=some u:=
 (World.cell?_setCell_other _ _ _ _ (fun e=>hne (congrArg Addr.off e))).trans h
theorem iX (h:w.cell? ⟨g,p,none⟩=some u) (hb:Bw w w'):w'.cell? ⟨g,p,none⟩=some u:=(hb.cell (yG h)).trans h
def uZ (w0:World) (b p:Nat) (q:Ask) (w:World):Prop:=tN w b p q∧Bw w0 w
theorem uZ.call {q:Ask} (h:uZ w0 b p q w) (hb:Bw w w'):uZ w0 b p q w':=⟨h.1.below hb,yB h.2 hb⟩
theorem uZ.drew {q:Ask} (h:uZ w0 b p q w):uZ w0 b p q w.drew:=h.call (yH _ _).drew
theorem uZ.read (w0:World) (b p:Nat) (q:Ask):∀wx,uZ w0 b p q wx→wx.cell? ⟨b,p,none⟩=some (.int .i64 q.mem)∧wx.cell? ⟨b,p+1,none⟩=some (.int .i64 q.cpu)∧wx.cell? ⟨b,p+2,none⟩=some (.int .i64 q.count)∧wx.cell? ⟨b,p+3,none⟩=some (.string (bs q.node))∧wx.cell? ⟨b,p+4,none⟩=some (.int .i64 q.missed):=
 fun wx h=>h.1
def aKp (j:Nat):Q:=⟨109::dgs (1+4*j),109::dgs (1+4*j+1),1+4*(j:Int)+1+1,1+4*(j:Int)+1+1+1⟩
def aIo (n:Nat):List Q:=(List.range n).map aKp
theorem tL.next {l:List Q} (h:tL w t g n k l) (c:∀hk:k<l.length,QAt w g (k*4) l[k]):tL w t g n (k+1) l:=by
 obtain ⟨arr,h1,h2,h3⟩:=h;refine ⟨arr,h1,h2,fun i hi hik=>?_⟩;by_cases e:i=k
 ·subst e;obtain ⟨c0,c1,c2,c3⟩:=c hi;simp [World.cell?,h1] at c0 c1 c2 c3;exact ⟨c0,c1,c2,c3⟩
 ·exact h3 i hi (by omega)
theorem aHA (h:w.cell? ⟨g,p,none⟩=some u) (hne:q≠p):(w.setCell ⟨g,q,none⟩ v).cell? ⟨g,p,none⟩=some u:=
 (World.cell?_setCell_other _ _ _ _ (fun e=>hne (congrArg Addr.off e))).trans h
def aIt (w0:World) (b p:Nat) (q:Q) (w:World):Prop:=QAt w b p q∧Bw w0 w
theorem aIt.call {q:Q} (h:aIt w0 b p q w) (hb:Bw w w'):aIt w0 b p q w':=⟨h.1.below hb,yB h.2 hb⟩
theorem aIt.drew {q:Q} (h:aIt w0 b p q w):aIt w0 b p q w.drew:=h.call (yH _ _).drew
theorem aIt.read (w0:World) (b p:Nat) (q:Q):∀wx,aIt w0 b p q wx→wx.cell? ⟨b,p,none⟩=some (.string (bs q.name))∧wx.cell? ⟨b,p+1,none⟩=some (.string (bs q.parent))∧wx.cell? ⟨b,p+2,none⟩=some (.int .i64 q.due)∧wx.cell? ⟨b,p+3,none⟩=some (.int .i64 q.most):=
 fun wx h=>⟨h.1.1,h.1.2.1,h.1.2.2.1,h.1.2.2.2⟩
theorem aFt {x:Value} (h:arr[j]? = some x):arr.setIfInBounds j x=arr:=by
 apply Array.ext
 ·simp
 ·intro i h1 h2;rw [Array.getElem_setIfInBounds];split
  ·rename_i e;subst e;rw [Array.getElem?_eq_getElem h2] at h;exact (Option.some.inj h).symm
  ·rfl
theorem iZ {x:Value} (h:w.cell? ⟨g,j,none⟩=some x):w.setCell ⟨g,j,none⟩ x=w:=by
 cases ho:w.heap[g]? with
 | none=>simp [World.cell?,ho] at h
 | some o=>
  cases o with
  | cells cur t fr=>
   (have hx:cur[j]? = some x:=by simpa [World.cell?,ho] using h);rw [setCell_eq_setRow w g j cur t fr x ho,aFt hx];exact setRow_self w g cur t fr ho
  | _=>simp [World.cell?,ho] at h
abbrev aEm (q:Mac):List Value:=[.string (bs q.name),.int .i64 q.mem,.int .i64 q.cpu,.int .i64 q.seen]
def dX:List Mac→List Value
 | []=>[]
 | q::t=>aEm q++dX t
theorem aAN (a:List Mac) (q:Mac):dX (a++[q])=dX a++aEm q:=by
 induction a with
 | nil=>rfl
 | cons x t ih=>rw [List.cons_append,dX,dX,ih,List.append_assoc]
theorem iJ:∀l:List Mac,(dX l).length=l.length*4
 | []=>rfl
 | q::t=>by rw [dX,List.length_append,iJ t];simp;omega
theorem qX:∀(l:List Mac) (i:Nat) (h:i<l.length),(dX l)[i*4]? = some (.string (bs l[i].name))∧(dX l)[i*4+1]? = some (.int .i64 l[i].mem)∧(dX l)[i*4+2]? = some (.int .i64 l[i].cpu)∧(dX l)[i*4+3]? = some (.int .i64 l[i].seen)
 | q::t,0,_=>⟨rfl,rfl,rfl,rfl⟩
 | q::t,i+1,h=>by
  have e:=qX t i (by simpa using h);have k:∀j,(dX (q::t))[(i+1)*4+j]? = (dX t)[i*4+j]?:=fun j=>by
   rw [dX,show (i+1)*4+j=(aEm q).length+(i*4+j) by simp;omega,List.getElem?_append_right (by omega)];(congr 1);omega
  have k0:=k 0;simp only [Nat.add_zero] at k0;rw [k0,k 1,k 2,k 3];simpa using e
theorem sI {off len:Nat} {l:List Mac} (h:cB w (some ⟨b,off,none⟩) len l):∀j u,(dX l)[j]? = some u→w.cell? ⟨b,off+j,none⟩=some u:=fun j u hj=>by
 have hjl:j<l.length*4:=by rw [←iJ];exact (List.getElem?_eq_some_iff.1 hj).1
 obtain ⟨h1,h2⟩:=h;rcases h2 with h2 | ⟨b',off',e,h4⟩
 ·omega
 ·cases e;have hi:j / 4<l.length:=by omega
  obtain ⟨a0,a1,a2,a3⟩:=qX l (j / 4) hi;obtain ⟨c0,c1,c2,c3⟩:=h4 (j / 4) hi;rcases (show j % 4=0∨j % 4=1∨j % 4=2∨j % 4=3 by omega) with e | e | e | e
  ·rw [show j=j / 4*4 by omega] at hj ⊢;rw [a0] at hj;cases hj;exact c0
  ·rw [show j=j / 4*4+1 by omega] at hj ⊢;rw [a1] at hj;cases hj;rw [←Nat.add_assoc];exact c1
  ·rw [show j=j / 4*4+2 by omega] at hj ⊢;rw [a2] at hj;cases hj;rw [←Nat.add_assoc];exact c2
  ·rw [show j=j / 4*4+3 by omega] at hj ⊢;rw [a3] at hj;cases hj;rw [←Nat.add_assoc];exact c3
theorem sJ:∀(l:List Mac),∀u ∈ dX l,u.oneCell'=true
 | [],u,h=>by simp [dX] at h
 | q::t,u,h=>by
  rw [dX,List.mem_append] at h;rcases h with h | h
  ·simp at h;rcases h with rfl | rfl | rfl | rfl<;>rfl
  ·exact sJ t u h
def aH3 (B:Nat) (w:World) (v:Value) (l:List Mac):Prop:=w.ownsRow B 103 4 v l.length (dX l)
theorem aHy (B:Nat) (w:World):aH3 B w (.slice none 0 0) []:=World.ownsRow_nil _ _ _ _
theorem aAM (w:World):w.alloc (.cells #[] 103) |>.ownsRow w.heap.size 103 4 (.slice (some ⟨w.heap.size,0,none⟩) 0 0) 0 []:=
 ⟨rfl,.inr ⟨w.heap.size,0,#[],rfl,yJ _,by show (w.heap.push _)[w.heap.size]? = _;simp,yJ _,by unfold maxLen;omega,rfl,rfl⟩⟩
theorem wQ {l:List Mac} (h:aH3 B w v l) (hb:B'≤B):aH3 B' w v l:=by
 obtain ⟨h1,h2⟩:=h;refine ⟨h1,?_⟩;rcases h2 with h2 | ⟨g,cap,cur,a,b,c⟩
 ·exact .inl h2
 ·exact .inr ⟨g,cap,cur,a,Nat.le_trans hb b,c⟩
theorem aHx {l:List Mac} (h:aH3 B w v l):∃ao cap,v=.slice ao l.length cap∧cB w ao l.length l∧l.length≤cap∧(l≠[]→∃g cur,ao=some ⟨g,0,none⟩∧B≤g∧w.heap[g]? = some (.cells cur 103 (0,0))∧cur.size=cap*4):=by
 rcases h.2 with ⟨rfl,h0⟩ | ⟨g,cap,cur,rfl,h1,h2,h3,h4,h5,h6⟩
 ·exact ⟨none,0,by rw [h0],⟨rfl,.inl h0⟩,by omega,fun hn=>absurd (List.length_eq_zero_iff.1 h0) hn⟩
 ·refine ⟨some ⟨g,0,none⟩,cap,rfl,⟨rfl,.inr ⟨g,0,rfl,fun i hi=>?_⟩⟩,h3,fun _=>⟨g,cur,rfl,h1,h2,h5⟩⟩;obtain ⟨a,b,c,d⟩:=qX l i hi;have k:∀j (v:Value),j<l.length*4→(dX l)[j]? = some v→w.cell? ⟨g,j,none⟩=some v:=fun j v hj hv=>by
   rw [←h6,List.getElem?_take_of_lt hj] at hv;simp [World.cell?,h2];simpa using hv
  unfold o5;rw [Nat.zero_add];exact ⟨k _ _ (by omega) a,k _ _ (by omega) b,k _ _ (by omega) c,k _ _ (by omega) d⟩
theorem Tryz.infoMachine:(Tryz.prog.info? 103).map (fun i=>(i.zero,i.size,i.bytes))=some (some (.agg #[.string .empty,.int .i64 0,.int .i64 0,.int .i64 0]),4,40):=by kernel_rfl
theorem vE (ao:Option Addr) (len cap:Nat) (l:List Mac) (w:World) (h:cB w ao len l) (hl:len≤1048576) :
  cP 109 #[.slice ao len cap] w fun e w'=>∃v,e=.returned v∧aH3 w.heap.size w' v l∧Bw w w':=by
 obtain ⟨i0,hi,hz0,hz1,hz2⟩:=info_parts Tryz.infoMachine;cases ao with
 | none=>
  have hn:len=0:=by rcases h.2 with h | ⟨b,off,e,_⟩;exact h;cases e
  subst hn;have hl0:l=[]:=List.length_eq_zero_iff.1 h.1.symm;subst hl0;have hnl:∀wx,(binOp .eql 26 (.slice none 0 cap) (.slice none 0 0)).run Tryz.prog wx=.ok (.bool true) wx:=fun wx=>Lib.run_eql_slice_nil wx _ _ none 0 cap 0 0 underlying26
  clear h hl;go_enter func109,ntmps109;go_wp2;go_ret;exact ⟨_,rfl,aHy _ _,yH _ _⟩
 | some ad=>
  have qz:∀j u,(dX l)[j]? = some u→(w.alloc (.cells #[] 103)).cell? (ad.add j)=some u:=fun j u hj=>by
   (have hjl:j<l.length*4:=by rw [←iJ];exact (List.getElem?_eq_some_iff.1 hj).1);rcases h.2 with h0 | ⟨b,off,e,_⟩
   ·have:=h.1;omega
   ·cases e;have:=sI (h.below (yA (yH _ w) (.cells #[] 103))) j u hj;rw [Lib.add_plain];exact this
  have QI:=aA qz;have GZ:=aA h.1;have Hq:=aAM w;have hll:(dX l).length=len*4:=by rw [iJ,h.1]
  have gz:=sJ l;have hnl:∀wx,(binOp .eql 26 (.slice (some ad) len cap) (.slice none 0 0)).run Tryz.prog wx=.ok (.bool false) wx:=fun wx=>Lib.run_eql_slice_nil wx _ _ (some ad) len cap 0 0 underlying26
  clear h qz;go_enter func109,ntmps109;go_wp2_with (at_builtin;refine wpList_append_own _ rfl _ _ 26 rfl w.heap.size 103 i0 (.agg #[.string .empty,.int .i64 0,.int .i64 0,.int .i64 0]) 4 40 underlying26 hi hz0 hz1 hz2 rfl (by decide) _ _ _ rfl Hq ad len cap (dX l) rfl hll (uH QI) gz ?c3 ?c4 ?c5 ?_);case c3=>unfold maxLen;omega
  case c4=>omega
  case c5=>simp
  intro v' w3 Hy Hw _;have HO:=aA (show aH3 w.heap.size w3 v' l by
   unfold aH3;rw [←uH GZ];simpa using Hy)
  have HB:=aA (show Bw w w3 from (yA (yH _ w) (.cells #[] 103)).grown Hw (by simp) (fun k e=>by simp [Value.ownBlock] at e;omega));clear Hy Hw Hq gz hll;go_wp2;go_ret;exact ⟨_,rfl,uH HO,uH HB⟩
abbrev fH (q:Con):List Value:=[.int .i64 q.id,.int .i64 q.app,.string (bs q.node),.int .i64 q.mem,.int .i64 q.cpu]
def aI:List Con→List Value
 | []=>[]
 | q::t=>fH q++aI t
theorem aAZ (a:List Con) (q:Con):aI (a++[q])=aI a++fH q:=by
 induction a with
 | nil=>rfl
 | cons x t ih=>rw [List.cons_append,aI,aI,ih,List.append_assoc]
theorem bY:∀l:List Con,(aI l).length=l.length*5
 | []=>rfl
 | q::t=>by rw [aI,List.length_append,bY t];simp;omega
theorem nU:∀(l:List Con) (i:Nat) (h:i<l.length),(aI l)[i*5]? = some (.int .i64 l[i].id)∧(aI l)[i*5+1]? = some (.int .i64 l[i].app)∧(aI l)[i*5+2]? = some (.string (bs l[i].node))∧(aI l)[i*5+3]? = some (.int .i64 l[i].mem)∧(aI l)[i*5+4]? = some (.int .i64 l[i].cpu)
 | q::t,0,_=>⟨rfl,rfl,rfl,rfl,rfl⟩
 | q::t,i+1,h=>by
  have e:=nU t i (by simpa using h);have k:∀j,(aI (q::t))[(i+1)*5+j]? = (aI t)[i*5+j]?:=fun j=>by
   rw [aI,show (i+1)*5+j=(fH q).length+(i*5+j) by simp;omega,List.getElem?_append_right (by omega)];(congr 1);omega
  have k0:=k 0;simp only [Nat.add_zero] at k0;rw [k0,k 1,k 2,k 3,k 4];simpa using e
theorem iL {off len:Nat} {l:List Con} (h:bR w (some ⟨b,off,none⟩) len l):∀j u,(aI l)[j]? = some u→w.cell? ⟨b,off+j,none⟩=some u:=fun j u hj=>by
 have hjl:j<l.length*5:=by rw [←bY];exact (List.getElem?_eq_some_iff.1 hj).1
 obtain ⟨h1,h2⟩:=h;rcases h2 with h2 | ⟨b',off',e,h4⟩
 ·omega
 ·cases e;have hi:j / 5<l.length:=by omega
  obtain ⟨a0,a1,a2,a3,a4⟩:=nU l (j / 5) hi;obtain ⟨c0,c1,c2,c3,c4⟩:=h4 (j / 5) hi;rcases (show j % 5=0∨j % 5=1∨j % 5=2∨j % 5=3∨j % 5=4 by omega) with e | e | e | e | e
  ·rw [show j=j / 5*5 by omega] at hj ⊢;rw [a0] at hj;cases hj;exact c0
  ·rw [show j=j / 5*5+1 by omega] at hj ⊢;rw [a1] at hj;cases hj;rw [←Nat.add_assoc];exact c1
  ·rw [show j=j / 5*5+2 by omega] at hj ⊢;rw [a2] at hj;cases hj;rw [←Nat.add_assoc];exact c2
  ·rw [show j=j / 5*5+3 by omega] at hj ⊢;rw [a3] at hj;cases hj;rw [←Nat.add_assoc];exact c3
  ·rw [show j=j / 5*5+4 by omega] at hj ⊢;rw [a4] at hj;cases hj;rw [←Nat.add_assoc];exact c4
theorem eB:∀(l:List Con),∀u ∈ aI l,u.oneCell'=true
 | [],u,h=>by simp [aI] at h
 | q::t,u,h=>by
  rw [aI,List.mem_append] at h;rcases h with h | h
  ·simp at h;rcases h with rfl | rfl | rfl | rfl | rfl<;>rfl
  ·exact eB t u h
def aF5 (B:Nat) (w:World) (v:Value) (l:List Con):Prop:=w.ownsRow B 35 5 v l.length (aI l)
theorem aIW (B:Nat) (w:World):aF5 B w (.slice none 0 0) []:=World.ownsRow_nil _ _ _ _
theorem aAV (w:World):w.alloc (.cells #[] 35) |>.ownsRow w.heap.size 35 5 (.slice (some ⟨w.heap.size,0,none⟩) 0 0) 0 []:=
 ⟨rfl,.inr ⟨w.heap.size,0,#[],rfl,yJ _,by show (w.heap.push _)[w.heap.size]? = _;simp,yJ _,by unfold maxLen;omega,rfl,rfl⟩⟩
theorem aGv {l:List Con} (h:aF5 B w v l) (hb:B'≤B):aF5 B' w v l:=by
 obtain ⟨h1,h2⟩:=h;refine ⟨h1,?_⟩;rcases h2 with h2 | ⟨g,cap,cur,a,b,c⟩
 ·exact .inl h2
 ·exact .inr ⟨g,cap,cur,a,Nat.le_trans hb b,c⟩
theorem aIV {l:List Con} (h:aF5 B w v l):∃ao cap,v=.slice ao l.length cap∧bR w ao l.length l∧l.length≤cap∧(l≠[]→∃g cur,ao=some ⟨g,0,none⟩∧B≤g∧w.heap[g]? = some (.cells cur 35 (0,0))∧cur.size=cap*5):=by
 rcases h.2 with ⟨rfl,h0⟩ | ⟨g,cap,cur,rfl,h1,h2,h3,h4,h5,h6⟩
 ·exact ⟨none,0,by rw [h0],⟨rfl,.inl h0⟩,by omega,fun hn=>absurd (List.length_eq_zero_iff.1 h0) hn⟩
 ·refine ⟨some ⟨g,0,none⟩,cap,rfl,⟨rfl,.inr ⟨g,0,rfl,fun i hi=>?_⟩⟩,h3,fun _=>⟨g,cur,rfl,h1,h2,h5⟩⟩;obtain ⟨a,b,c,d,e⟩:=nU l i hi;have k:∀j (v:Value),j<l.length*5→(aI l)[j]? = some v→w.cell? ⟨g,j,none⟩=some v:=fun j v hj hv=>by
   rw [←h6,List.getElem?_take_of_lt hj] at hv;simp [World.cell?,h2];simpa using hv
  unfold qD;rw [Nat.zero_add];exact ⟨k _ _ (by omega) a,k _ _ (by omega) b,k _ _ (by omega) c,k _ _ (by omega) d,k _ _ (by omega) e⟩
theorem Tryz.infoCont:(Tryz.prog.info? 35).map (fun i=>(i.zero,i.size,i.bytes))=some (some (.agg #[.int .i64 0,.int .i64 0,.string .empty,.int .i64 0,.int .i64 0]),5,48):=by kernel_rfl
theorem aBI (ao:Option Addr) (len cap:Nat) (l:List Con) (w:World) (h:bR w ao len l) (hl:len≤1048576) :
  cP 165 #[.slice ao len cap] w fun e w'=>∃v,e=.returned v∧aF5 w.heap.size w' v l∧Bw w w':=by
 obtain ⟨i0,hi,hz0,hz1,hz2⟩:=info_parts Tryz.infoCont;cases ao with
 | none=>
  have hn:len=0:=by rcases h.2 with h | ⟨b,off,e,_⟩;exact h;cases e
  subst hn;have hl0:l=[]:=List.length_eq_zero_iff.1 h.1.symm;subst hl0;have hnl:∀wx,(binOp .eql 27 (.slice none 0 cap) (.slice none 0 0)).run Tryz.prog wx=.ok (.bool true) wx:=fun wx=>Lib.run_eql_slice_nil wx _ _ none 0 cap 0 0 underlying27
  clear h hl;go_enter func165,ntmps165;go_wp2;go_ret;exact ⟨_,rfl,aIW _ _,yH _ _⟩
 | some ad=>
  have qz:∀j u,(aI l)[j]? = some u→(w.alloc (.cells #[] 35)).cell? (ad.add j)=some u:=fun j u hj=>by
   (have hjl:j<l.length*5:=by rw [←bY];exact (List.getElem?_eq_some_iff.1 hj).1);rcases h.2 with h0 | ⟨b,off,e,_⟩
   ·have:=h.1;omega
   ·cases e;have:=iL (h.below (yA (yH _ w) (.cells #[] 35))) j u hj;rw [Lib.add_plain];exact this
  have QI:=aA qz;have GZ:=aA h.1;have Hq:=aAV w;have hll:(aI l).length=len*5:=by rw [bY,h.1]
  have gz:=eB l;have hnl:∀wx,(binOp .eql 27 (.slice (some ad) len cap) (.slice none 0 0)).run Tryz.prog wx=.ok (.bool false) wx:=fun wx=>Lib.run_eql_slice_nil wx _ _ (some ad) len cap 0 0 underlying27
  clear h qz;go_enter func165,ntmps165;go_wp2_with (at_builtin;refine wpList_append_own _ rfl _ _ 27 rfl w.heap.size 35 i0 (.agg #[.int .i64 0,.int .i64 0,.string .empty,.int .i64 0,.int .i64 0]) 5 48 underlying27 hi hz0 hz1 hz2 rfl (by decide) _ _ _ rfl Hq ad len cap (aI l) rfl hll (uH QI) gz ?c3 ?c4 ?c5 ?_);case c3=>unfold maxLen;omega
  case c4=>omega
  case c5=>simp
  intro v' w3 Hy Hw _;have HO:=aA (show aF5 w.heap.size w3 v' l by
   unfold aF5;rw [←uH GZ];simpa using Hy)
  have HB:=aA (show Bw w w3 from (yA (yH _ w) (.cells #[] 35)).grown Hw (by simp) (fun k e=>by simp [Value.ownBlock] at e;omega));clear Hy Hw Hq gz hll;go_wp2;go_ret;exact ⟨_,rfl,uH HO,uH HB⟩
theorem iW (s:ByteArray) (w:World) (hs:s.size≤281474976710656) :
  cP 87 #[.string s] w fun e w'=>e=.returned (.string s)∧Bw w w':=by
 go_enter func87,ntmps87
 go_wp2_with fail
 refine (Tryz.stringslite_Clone s _ hs).mono ?_;rintro e w1 ⟨rfl,hb⟩;have HB:Hid (Bw w w1):=hb;clear hb;go_wp2;go_ret;exact ⟨rfl,HB⟩
abbrev aKB (q:Q):List Value:=[.string (bs q.name),.string (bs q.parent),.int .i64 q.due,.int .i64 q.most]
def fA:List Q→List Value
 | []=>[]
 | q::t=>aKB q++fA t
theorem iI:∀l:List Q,(fA l).length=l.length*4
 | []=>rfl
 | q::t=>by rw [fA,List.length_append,iI t];simp;omega
theorem wG:∀(l:List Q) (i:Nat) (h:i<l.length),(fA l)[i*4]? = some (.string (bs l[i].name))∧(fA l)[i*4+1]? = some (.string (bs l[i].parent))∧(fA l)[i*4+2]? = some (.int .i64 l[i].due)∧(fA l)[i*4+3]? = some (.int .i64 l[i].most)
 | q::t,0,_=>⟨rfl,rfl,rfl,rfl⟩
 | q::t,i+1,h=>by
  have e:=wG t i (by simpa using h);have k:∀j,(fA (q::t))[(i+1)*4+j]? = (fA t)[i*4+j]?:=fun j=>by
   rw [fA,show (i+1)*4+j=(aKB q).length+(i*4+j) by simp;omega,List.getElem?_append_right (by omega)];(congr 1);omega
  have k0:=k 0;simp only [Nat.add_zero] at k0;rw [k0,k 1,k 2,k 3];simpa using e
def oZ (B:Nat) (w:World) (v:Value) (l:List Q):Prop:=w.ownsRow B 105 4 v l.length (fA l)
theorem aDn (B:Nat) (w:World):oZ B w (.slice none 0 0) []:=World.ownsRow_nil _ _ _ _
theorem rY (w:World):oZ w.heap.size (w.alloc (.cells #[] 105)) (.slice (some ⟨w.heap.size,0,none⟩) 0 0) []:=
 ⟨rfl,.inr ⟨w.heap.size,0,#[],rfl,yJ _,by show (w.heap.push _)[w.heap.size]? = _;simp,yJ _,by unfold maxLen;omega,rfl,rfl⟩⟩
theorem oZ.below {l:List Q} (h:oZ B w v l) (hb:Bw w w'):oZ B w' v l:=
 h.kept (aH (aD w none) hb) (by by_cases e:v.ownBlock=none;exact .inl e;exact .inr e)
theorem oZ.row {l:List Q} (h:oZ B w v l):∃ao cap,v=.slice ao l.length cap∧gH w ao l.length l∧l.length≤cap:=by
 rcases h.2 with ⟨rfl,h0⟩ | ⟨g,cap,cur,rfl,h1,h2,h3,h4,h5,h6⟩
 ·exact ⟨none,0,by rw [h0],⟨rfl,.inl h0⟩,by omega⟩
 ·refine ⟨some ⟨g,0,none⟩,cap,rfl,⟨rfl,.inr ⟨g,0,rfl,fun i hi=>?_⟩⟩,h3⟩;obtain ⟨a,b,c,d⟩:=wG l i hi;have k:∀j (v:Value),j<l.length*4→(fA l)[j]? = some v→w.cell? ⟨g,j,none⟩=some v:=fun j v hj hv=>by
   rw [←h6,List.getElem?_take_of_lt hj] at hv;simp [World.cell?,h2];simpa using hv
  unfold QAt;rw [Nat.zero_add];exact ⟨k _ _ (by omega) a,k _ _ (by omega) b,k _ _ (by omega) c,k _ _ (by omega) d⟩
theorem oZ.some {l:List Q} (h:oZ B w v l) (hl:l≠[]):∃g cap,v=.slice (some ⟨g,0,none⟩) l.length cap∧aKa w 105 g cap∧gH w (some ⟨g,0,none⟩) l.length l∧l.length≤cap∧B≤g:=by
 obtain ⟨ao,cap,e,hr,hc⟩:=h.row;rcases h.2 with ⟨rfl,h0⟩ | ⟨g,cap',cur,rfl,h1,h2,h3,h4,h5,h6⟩
 ·exact absurd (List.eq_nil_of_length_eq_zero h0) hl
 ·simp only [Value.slice.injEq] at e;obtain ⟨rfl,_,rfl⟩:=e;exact ⟨g,cap',rfl,⟨cur,h2,by omega,fun i hi=>absurd hi (by simp)⟩,hr,hc,h1⟩
theorem Tryz.infoQ:(Tryz.prog.info? 105).map (fun i=>(i.zero,i.size,i.bytes))=some (some (.agg #[.string .empty,.string .empty,.int .i64 0,.int .i64 0]),4,48):=by kernel_rfl
theorem rZ {off len:Nat} {l:List Q} (h:gH w (some ⟨b,off,none⟩) len l):∀j u,(fA l)[j]? = some u→w.cell? ⟨b,off+j,none⟩=some u:=fun j u hj=>by
 have hjl:j<l.length*4:=by rw [←iI];exact (List.getElem?_eq_some_iff.1 hj).1
 obtain ⟨h1,h2⟩:=h;rcases h2 with h2 | ⟨b',off',e,h4⟩
 ·omega
 ·cases e;have hi:j / 4<l.length:=by omega
  obtain ⟨a0,a1,a2,a3⟩:=wG l (j / 4) hi;obtain ⟨c0,c1,c2,c3⟩:=h4 (j / 4) hi;rcases (show j % 4=0∨j % 4=1∨j % 4=2∨j % 4=3 by omega) with e | e | e | e
  ·rw [show j=j / 4*4 by omega] at hj ⊢;rw [a0] at hj;cases hj;exact c0
  ·rw [show j=j / 4*4+1 by omega] at hj ⊢;rw [a1] at hj;cases hj;rw [←Nat.add_assoc];exact c1
  ·rw [show j=j / 4*4+2 by omega] at hj ⊢;rw [a2] at hj;cases hj;rw [←Nat.add_assoc];exact c2
  ·rw [show j=j / 4*4+3 by omega] at hj ⊢;rw [a3] at hj;cases hj;rw [←Nat.add_assoc];exact c3
theorem oH:∀(l:List Q),∀u ∈ fA l,u.oneCell'=true
 | [],u,h=>by simp [fA] at h
 | q::t,u,h=>by
  rw [fA,List.mem_append] at h;rcases h with h | h
  ·simp at h;rcases h with rfl | rfl | rfl | rfl<;>rfl
  ·exact oH t u h
theorem aGB {l:List Q} (h:oZ B w v l) (hb:B'≤B):oZ B' w v l:=by
 obtain ⟨h1,h2⟩:=h;refine ⟨h1,?_⟩;rcases h2 with h2 | ⟨g,cap,cur,a,b,c⟩
 ·exact .inl h2
 ·exact .inr ⟨g,cap,cur,a,Nat.le_trans hb b,c⟩
theorem nO {l:List Q} (h:oZ B w v l):∃ao cap,v=.slice ao l.length cap∧gH w ao l.length l∧l.length≤cap∧(l≠[]→∃g cur,ao=some ⟨g,0,none⟩∧B≤g∧w.heap[g]? = some (.cells cur 105 (0,0))∧cur.size=cap*4):=by
 obtain ⟨ao,cap,e,hr,hc⟩:=h.row;refine ⟨ao,cap,e,hr,hc,fun hn=>?_⟩;rcases h.2 with ⟨rfl,h0⟩ | ⟨g,cap',cur,rfl,h1,h2,h3,h4,h5,h6⟩
 ·exact absurd (List.length_eq_zero_iff.1 h0) hn
 ·simp only [Value.slice.injEq] at e;obtain ⟨rfl,_,rfl⟩:=e;exact ⟨g,cur,rfl,h1,h2,h5⟩
theorem aFK (ao:Option Addr) (len cap:Nat) (l:List Q) (w:World) (h:gH w ao len l) (hl:len≤1048576) :
  cP 164 #[.slice ao len cap] w fun e w'=>∃v,e=.returned v∧oZ w.heap.size w' v l∧Bw w w':=by
 obtain ⟨i0,hi,hz0,hz1,hz2⟩:=info_parts Tryz.infoQ;cases ao with
 | none=>
  have hn:len=0:=by rcases h.2 with h | ⟨b,off,e,_⟩;exact h;cases e
  subst hn;have hl0:l=[]:=List.length_eq_zero_iff.1 h.1.symm;subst hl0;have hnl:∀wx,(binOp .eql 24 (.slice none 0 cap) (.slice none 0 0)).run Tryz.prog wx=.ok (.bool true) wx:=fun wx=>Lib.run_eql_slice_nil wx _ _ none 0 cap 0 0 underlying24
  clear h hl;go_enter func164,ntmps164;go_wp2;go_ret;exact ⟨_,rfl,aDn _ _,yH _ _⟩
 | some ad=>
  have qz:∀j u,(fA l)[j]? = some u→(w.alloc (.cells #[] 105)).cell? (ad.add j)=some u:=fun j u hj=>by
   (have hjl:j<l.length*4:=by rw [←iI];exact (List.getElem?_eq_some_iff.1 hj).1);rcases h.2 with h0 | ⟨b,off,e,_⟩
   ·have:=h.1;omega
   ·cases e;have:=rZ (h.below (yA (yH _ w) (.cells #[] 105))) j u hj;rw [Lib.add_plain];exact this
  have QI:=aA qz;have GZ:=aA h.1;have Hq:(w.alloc (.cells #[] 105)).ownsRow w.heap.size 105 4 (.slice (some ⟨w.heap.size,0,none⟩) 0 0) 0 []:=rY w;have hll:(fA l).length=len*4:=by rw [iI,h.1]
  have gz:=oH l;have hnl:∀wx,(binOp .eql 24 (.slice (some ad) len cap) (.slice none 0 0)).run Tryz.prog wx=.ok (.bool false) wx:=fun wx=>Lib.run_eql_slice_nil wx _ _ (some ad) len cap 0 0 underlying24
  clear h qz;go_enter func164,ntmps164;go_wp2_with (at_builtin;refine wpList_append_own _ rfl _ _ 24 rfl w.heap.size 105 i0 (.agg #[.string .empty,.string .empty,.int .i64 0,.int .i64 0]) 4 48 underlying24 hi hz0 hz1 hz2 rfl (by decide) _ _ _ rfl Hq ad len cap (fA l) rfl hll (uH QI) gz ?c3 ?c4 ?c5 ?_);case c3=>unfold maxLen;omega
  case c4=>omega
  case c5=>simp
  intro v' w3 Hy Hw _;have HO:=aA (show oZ w.heap.size w3 v' l by
   unfold oZ;rw [←uH GZ];exact Hy)
  have HB:=aA (show Bw w w3 from (yA (yH _ w) (.cells #[] 105)).grown Hw (by simp) (fun k e=>by simp [Value.ownBlock] at e;omega));clear Hy Hw Hq gz hll;go_wp2;go_ret;exact ⟨_,rfl,uH HO,uH HB⟩
theorem aFu {x:Value} (h:arr[j]? = some x):arr.setIfInBounds j x=arr:=by
 apply Array.ext
 ·simp
 ·intro i h1 h2;rw [Array.getElem_setIfInBounds];split
  ·rename_i e;subst e;rw [Array.getElem?_eq_getElem h2] at h;exact (Option.some.inj h).symm
  ·rfl
theorem aB4 {x:Value} {l:List Q} (h:oZ B w (.slice (some ⟨g,0,none⟩) n cap) l) (hc:w.cell? ⟨g,j,none⟩=some x):oZ B (w.setCell ⟨g,j,none⟩ x) (.slice (some ⟨g,0,none⟩) n cap) l∧B≤g:=by
 obtain ⟨h1,h2⟩:=h;rcases h2 with ⟨e,_⟩ | ⟨g',cap',cur,e,h3,h4,h5⟩
 ·cases e
 ·cases e;have hx:cur[j]? = some x:=by simpa [World.cell?,h4] using hc
  refine ⟨⟨h1,.inr ⟨g,cap,cur,rfl,h3,?_,h5⟩⟩,h3⟩;have:=heap_setCell_same w g j _ _ x h4;rw [aFu hx] at this;exact this
theorem iH {l:List Q} (h:oZ B w v l) (k j:Nat) (x:Value) (hk:k<B):oZ B (w.setCell ⟨k,j,none⟩ x) v l:=by
 obtain ⟨h1,h2⟩:=h;refine ⟨h1,?_⟩;rcases h2 with h2 | ⟨g,cap,cur,a,b,c,d⟩
 ·exact .inl h2
 ·exact .inr ⟨g,cap,cur,a,b,(heap_setCell_other w ⟨k,j,none⟩ g x (show g≠k by omega)).trans c,d⟩
theorem vC (ao:Option Addr) (len cap:Nat) (l:List Q) (w:World) (h:gH w ao len l) (hl:len≤1048576) (hn:∀q ∈ l,q.name.length≤1048576∧q.parent.length≤1048576) :
  cP 107 #[.slice ao len cap] w fun e w'=>∃v,e=.returned v∧oZ w.heap.size w' v l∧Bw w w':=by
 have HN:=aA hn;have CC:=aA (aFK ao len cap l w h hl);have hll:=aA h.1;clear h hn;go_enter func107,ntmps107;go_wp2_with fail;refine (uH CC).mono ?_;rintro e w1 ⟨v,rfl,ho,hb⟩;have HB1:=aA hb;have HO:=aA ho;obtain ⟨xo,xc,rfl,_,Fj,hxg⟩:=(nO ho);obtain ⟨n,hnn⟩:∃n,l.length=n:=⟨_,rfl⟩;have GZ:=aA hnn;have hn2:n≤1048576:=by have:=uH hll;omega
 rw [hnn] at HO Fj ⊢;clear ho hb CC hnn hxg;go_wp2;go_loopw [9] (fun i wr=>∃(k:Nat),k≤n∧i=.int .i64 k∧Hid (oZ w.heap.size wr (.slice xo n xc) l)∧Hid (Bw w wr)) (fun i _=>n - (intOf i).toNat);case atStart=>exact ⟨0,Nat.zero_le _,rfl,HO,HB1⟩
 case round=>
  obtain ⟨k,hk,rfl,VS,QG⟩:=hrel;by_cases hlt:k<n
  ·(have hkl:k<l.length:=by have:=uH GZ;omega);obtain ⟨xo',xc',e,Hz,_,hg⟩:=(nO (uH VS));obtain ⟨g,cur,rfl,hg1,hg2,hg3⟩:=hg (by intro e;rw [e] at hkl;simp at hkl);rw [uH GZ] at e Hz;cases e;obtain ⟨b',off',e',hat⟩:=Hz.at hlt;cases e';have c0:=(hat hkl).1;have c1:=(hat hkl).2.1;simp only [Nat.zero_add] at c0 c1;have hnd:=uH HN l[k] (yM _);obtain ⟨⟨na,pa,du,mo⟩,hs⟩:∃s,l[k]=s:=⟨_,rfl⟩;rw [hs] at c0 c1 hnd;simp only at c0 c1 hnd;(have hs1:(bs na).size≤281474976710656:=by rw [cK];omega);(have hs2:(bs pa).size≤281474976710656:=by rw [cK];omega);(have k0:(0:Int)≤k:=by omega);(have k1:(k:Int)<n:=by omega);have hgs:g<wr.heap.size:=lt_of_block hg2;clear hat Hz hg2 hg3 hs hkl hnd;(go_wp2_with fail);refine (iW (bs na) _ hs1).mono ?_;rintro e w2 ⟨rfl,hb⟩;have GJ:=aA ((uH VS).below hb);have c0':=(hb.cell (p:=⟨g,k*4,none⟩) hgs).trans c0;have c1':=(hb.cell (p:=⟨g,k*4+1,none⟩) hgs).trans c1;have GA:=(aB4 (uH GJ) c0');have hfz:∀j,w2.frozen? ⟨g,j,none⟩=false:=fun j=>by
    rcases (uH GJ).2 with ⟨e,_⟩ | ⟨g',cap',cur',e,_,h4,_⟩
    ·cases e
    ·cases e;simp [World.frozen?,h4]
   have f0:=hfz (k*4);have HB2:=aA (show Bw w (w2.setCell ⟨g,k*4,none⟩ (.string (bs na))) from (yB (uH QG) hb).setCell (by exact GA.2) _);have hg2':g<w2.heap.size:=Nat.lt_of_lt_of_le hgs hb.size;have d1:(w2.setCell ⟨g,k*4,none⟩ (.string (bs na))).cell? ⟨g,k*4+1,none⟩=some (.string (bs pa)):=aHA c1' (by omega);have HS:=aA GA;obtain ⟨W3,hW3⟩:∃W,w2.setCell ⟨g,k*4,none⟩ (.string (bs na))=W:=⟨_,rfl⟩;rw [hW3] at HB2 d1 HS;have hgW:g<W3.heap.size:=yG d1;clear hb GA VS QG GJ c0 c1 c1' hfz;(go_wp2_with fail);refine (iW (bs pa) _ hs2).mono ?_;rintro e w4 ⟨rfl,hb⟩;have Xx:=aA ((uH HS).1.below hb);have d1':=(hb.cell (p:=⟨g,k*4+1,none⟩) hgW).trans d1;have GA:=(aB4 (uH Xx) d1');have f1:w4.frozen? ⟨g,k*4+1,none⟩=false:=by
    rcases (uH Xx).2 with ⟨e,_⟩ | ⟨g',cap',cur',e,_,h4,_⟩
    ·cases e
    ·cases e;simp [World.frozen?,h4]
   have GD:=aA (show Bw w (w4.setCell ⟨g,k*4+1,none⟩ (.string (bs pa))) from (yB (uH HB2) hb).setCell (by exact GA.2) _);have XV:=aA GA.1;clear hb GA HS Xx HB2 c0' d1 hW3 f0;go_wp2;go_roundw;(case rel=>exact ⟨k+1,by omega,by go_num,XV,GD⟩);case measure=>simp [intOf];omega
  ·(have k1:¬(k:Int)<n:=by omega);go_wp2;go_ret;exact ⟨_,rfl,uH VS,uH QG⟩
theorem pI (q:Con) (w:World) (hn:q.node.length≤1048576) :
  cP 114 #[conv q] w fun e w'=>e=.returned (conv q)∧Bw w w':=by
 obtain ⟨id,ap,nd,me,cp⟩:=q;simp only at hn;have hs:(bs nd).size≤281474976710656:=by rw [cK];omega
 have HB0:=aA (yA (yA (yH _ w) (.cells #[.int .i64 id,.int .i64 ap,.string (bs nd),.int .i64 me,.int .i64 cp] 35)) (.cells #[.int .i64 0,.int .i64 0,.string .empty,.int .i64 0,.int .i64 0] 35));have P0:=aA ((yD w #[.int .i64 id,.int .i64 ap,.string (bs nd),.int .i64 me,.int .i64 cp] 35).al (.cells #[.int .i64 0,.int .i64 0,.string .empty,.int .i64 0,.int .i64 0] 35));have P1:=aA (show Blk _ (w.heap.size+1) #[.int .i64 0,.int .i64 0,.string .empty,.int .i64 0,.int .i64 0] 35 by have:=yD (w.alloc (.cells #[.int .i64 id,.int .i64 ap,.string (bs nd),.int .i64 me,.int .i64 cp] 35)) #[.int .i64 0,.int .i64 0,.string .empty,.int .i64 0,.int .i64 0] 35;rwa [yE] at this);clear hn;go_enter func114,ntmps114;go_wp2_with fail;refine (iW (bs nd) _ hs).mono ?_;rintro e w1 ⟨rfl,hb⟩;have HB1:=aA (yB (uH HB0) hb);have Q0:=aA ((uH P0).below hb);have Q1:=aA ((uH P1).below hb);clear hb HB0 P0 P1;have d2:=(uH Q0).at 2;have f2:=(uH Q0).f 2;simp at d2;go_upto_region 2 with fail
 have HB2:=aA (yC (uH HB1) w.heap.size 2 (.string (bs nd)) (yJ _));have R0:=aA (show Blk (w1.setCell ⟨w.heap.size,2,none⟩ (.string (bs nd))) w.heap.size #[.int .i64 id,.int .i64 ap,.string (bs nd),.int .i64 me,.int .i64 cp] 35 from (uH Q0).set 2 (.string (bs nd)));have R1:=aA ((uH Q1).other w.heap.size 2 (.string (bs nd)) (by omega));generalize w1.setCell ⟨w.heap.size,2,none⟩ (.string (bs nd))=w2 at HB2 R0 R1 ⊢;clear d2 f2 HB1 Q0 Q1;obtain ⟨a0,a1,a2,a3,a4⟩:=zp (uH R0);obtain ⟨c0,c1,c2,c3,c4⟩:=zp (uH R1);have f0:=(uH R1).f 0;have f1:=(uH R1).f 1;have f2:=(uH R1).f 2;have f3:=(uH R1).f 3;have f4:=(uH R1).f 4;go_wp2;have QD:=aA (yC (yC (yC (yC (yC (uH HB2) (w.heap.size+1) 0 (.int .i64 id) (by omega)) (w.heap.size+1) 1 (.int .i64 ap) (by omega)) (w.heap.size+1) 2 (.string (bs nd)) (by omega)) (w.heap.size+1) 3 (.int .i64 me) (by omega)) (w.heap.size+1) 4 (.int .i64 cp) (by omega));have R9:=aA (show Blk (((((w2.setCell ⟨w.heap.size+1,0,none⟩ (.int .i64 id)).setCell ⟨w.heap.size+1,1,none⟩ (.int .i64 ap)).setCell ⟨w.heap.size+1,2,none⟩ (.string (bs nd))).setCell ⟨w.heap.size+1,3,none⟩ (.int .i64 me)).setCell ⟨w.heap.size+1,4,none⟩ (.int .i64 cp)) (w.heap.size+1) #[.int .i64 id,.int .i64 ap,.string (bs nd),.int .i64 me,.int .i64 cp] 35 from (((((uH R1).set 0 (.int .i64 id)).set 1 (.int .i64 ap)).set 2 (.string (bs nd))).set 3 (.int .i64 me)).set 4 (.int .i64 cp));generalize (((((w2.setCell ⟨w.heap.size+1,0,none⟩ (.int .i64 id)).setCell ⟨w.heap.size+1,1,none⟩ (.int .i64 ap)).setCell ⟨w.heap.size+1,2,none⟩ (.string (bs nd))).setCell ⟨w.heap.size+1,3,none⟩ (.int .i64 me)).setCell ⟨w.heap.size+1,4,none⟩ (.int .i64 cp))=W9 at QD R9 ⊢;obtain ⟨z0,z1,z2,z3,z4⟩:=zp (uH R9);refine bodyPost_ret (v:=.agg #[.int .i64 id,.int .i64 ap,.string (bs nd),.int .i64 me,.int .i64 cp]) (by simp [results,results114,go_sem,z0,z1,z2,z3,z4]) rfl ⟨rfl,uH QD⟩
theorem gJ (w:World) {rest:List Oper} {Q:Exit→Act→World→Prop} (hgd:o.guard=none) (s x:Operand) (t:TypeId)
  (ho:o.op=.call { callee:=.builtin .append,args:=#[s,x],argTypes:=#[t,t] })
  (base:Nat) (e:TypeId) (i:TypeInfo) (z:Value) (size bytes:Nat) (ht:P.underlying t=some (.slice e)) (hi:P.info? e=some i) (hz:i.zero=some z)
  (hsize:i.size=size) (hby:i.bytes=bytes) (hzs:z.cells.size=size) (hsz:0<size)
  (v:Value) (n:Nat) (xs:List Value) (hs:a.eval s=v) (Hq:w.ownsRow base e size v n xs)
  (ao:Option Addr) (m c:Nat) (news:List Value) (hx:a.eval x=.slice ao m c) (hn:ao=none→m=0∧c=0) (hl:news.length=m*size) (Gy:∀ad,ao=some ad→∀j u,news[j]? = some u→w.cell? (ad.add j)=some u) (h1:∀u ∈ news,u.oneCell'=true)
  (h63:n+m≤maxLen) (hbytes:(n+m)*bytes≤140737488355328) (hbase:base≤w.heap.size)
  (h:∀v' w',w'.ownsRow base e size v' (n+m) (xs++news)→w.grownBy w' v.ownBlock→(v'=.slice none 0 0↔v=.slice none 0 0∧m=0)→wpList P ops Q rest (a.put o.dst v') w'):wpList P ops Q (o::rest) a w:=by
 cases ao with
 | some ad=>exact wpList_append_own w hgd s x t ho base e i z size bytes ht hi hz hsize hby hzs hsz v n xs hs Hq ad m c news hx hl (Gy ad rfl) h1 h63 hbytes hbase h
 | none=>obtain ⟨rfl,rfl⟩:=hn rfl;obtain rfl:news=[]:=List.eq_nil_of_length_eq_zero (by omega);refine wpList_append_own_none hgd s x t ho base e i size ht hi v n xs hs Hq hx (h v w (by simpa using Hq) ⟨rfl,rfl,rfl,yJ _,fun _ _ _=>rfl⟩ (by simp))
def AWh (w:World) (B E g n:Nat):Prop:=Cel w 56 g (n*3)∧∀i,i<n→∃b len,w.cell? ⟨g,i*3+2,none⟩=some (.slice (some ⟨b,0,none⟩) len len)∧Cel w 43 b (len*5)∧len≤1048576∧B≤b∧b<E∧b≠g
theorem AWh.below (h:AWh w B E g n) (hb:Bw w w'):AWh w' B E g n:=
 ⟨h.1.below hb,fun i hi=>let ⟨b,len,a,c,d⟩:=h.2 i hi;⟨b,len,iX a hb,c.below hb,d⟩⟩
theorem AWh.sc (h:AWh w B E g n) (j:Nat) (v:Value) (hj:∀i,j≠i*3+2):AWh (w.setCell ⟨g,j,none⟩ v) B E g n:=
 ⟨h.1.set _ _ _,fun i hi=>let ⟨b,len,a,c,d⟩:=h.2 i hi;⟨b,len,bC a (hj i),c.set _ _ _,d⟩⟩
theorem AWh.mono (h:AWh w B E g n) (h1:B'≤B) (h2:E≤E'):AWh w B' E' g n:=
 ⟨h.1,fun i hi=>let ⟨b,len,a,c,d,e,f,k⟩:=h.2 i hi;⟨b,len,a,c,d,by omega,by omega,k⟩⟩
def aIc (w:World) (ao:Option Addr) (len:Nat) (l:List Int):Prop:=
 len=l.length∧(len=0∨∃b off,ao=some ⟨b,off,none⟩∧∀i (h:i<l.length),w.cell? ⟨b,off+i,none⟩=some (.int .i64 l[i]))
theorem aIc.below {len:Nat} (h:aIc w ao len l) (hb:Bw w w'):aIc w' ao len l:=by
 obtain ⟨h1,h2⟩:=h;refine ⟨h1,?_⟩;rcases h2 with h2 | ⟨b,off,h3,h4⟩
 ·exact .inl h2
 ·exact .inr ⟨b,off,h3,fun i h=>(hb.cell (yG (h4 i h))).trans (h4 i h)⟩
theorem aIc.at {len:Nat} (h:aIc w ao len l) (hi:i<len):∃b off,ao=some ⟨b,off,none⟩∧∀(h:i<l.length),w.cell? ⟨b,off+i,none⟩=some (.int .i64 l[i]):=by
 obtain ⟨h1,h2⟩:=h;rcases h2 with h2 | ⟨b,off,h3,h4⟩
 ·omega
 ·exact ⟨b,off,h3,fun hi=>h4 i hi⟩
def aC8 (x:Int):List Int→Bool
 | []=>false
 | y::t=>decide (y=x)||aC8 x t
theorem aGh (h:k<l.length):aC8 x (l.drop k)=(decide (l[k]=x)||aC8 x (l.drop (k+1))):=by rw [List.drop_eq_getElem_cons h,aC8]
theorem aIO (h:l.length≤k):aC8 x (l.drop k)=false:=by rw [List.drop_of_length_le h];rfl
theorem aAx {x:Int}:∀l:List Int,aC8 x l=true↔x ∈ l
 | []=>by simp [aC8]
 | y::t=>by
  rw [aC8,Bool.or_eq_true,yL,aAx t,List.mem_cons];exact ⟨fun h=>h.imp (fun e=>e.symm) id,fun h=>h.imp (fun e=>e.symm) id⟩
def aCF (l:List Int):List Value:=l.map (Value.int .i64)
def aJt (B:Nat) (w:World) (v:Value) (l:List Int):Prop:=w.ownsRow B 3 1 v l.length (aCF l)
theorem aFB (w:World):aJt w.heap.size (w.alloc (.cells #[] 3)) (.slice (some ⟨w.heap.size,0,none⟩) 0 0) []:=
 ⟨rfl,.inr ⟨w.heap.size,0,#[],rfl,yJ _,by show (w.heap.push _)[w.heap.size]? = _;simp,yJ _,by unfold maxLen;omega,rfl,rfl⟩⟩
theorem aII (h:aJt B w v l):∃ao cap,v=.slice ao l.length cap∧aIc w ao l.length l:=by
 rcases h.2 with ⟨rfl,h0⟩ | ⟨g,cap,cur,rfl,h1,h2,h3,h4,h5,h6⟩
 ·exact ⟨none,0,by rw [h0],⟨rfl,.inl h0⟩⟩
 ·refine ⟨some ⟨g,0,none⟩,cap,rfl,⟨rfl,.inr ⟨g,0,rfl,fun i hi=>?_⟩⟩⟩;have hv:(aCF l)[i]? = some (.int .i64 l[i]):=by simp [aCF,hi]
  rw [←h6,List.getElem?_take_of_lt (by simpa using hi)] at hv;simp only [Nat.zero_add];simp [World.cell?,h2];simpa using hv
theorem Tryz.infoI:(Tryz.prog.info? 3).map (fun i=>(i.zero,i.size,i.bytes))=some (some (.int .i64 0),1,8):=by kernel_rfl
section
variable {P:Program} {ops:Array Oper} {Q:Exit→Act→World→Prop} {a:Act} {w w':World} {rest:List Oper} {o:Oper} {v:Value} {d:Option Tmp}
theorem gI (hg:o.guard=none) (hd:o.dst=d) (hr:(execOp a.eval o).run P w=.ok (.value v) w') (h:wpList P ops Q rest (a.put d v) w'):wpList P ops Q (o::rest) a w:=
 wpList_plain hg fun K hK=>by
  subst hd;unfold Oper.wp;rw [hr];exact hK _ _ h
theorem aC (hg:o.guard=none) (hd:o.dst=d) (hr:(execOp a.eval o).run P w=.ok (.value v) w) (h:wpList P ops Q rest (a.put d v) w):wpList P ops Q (o::rest) a w:=gI hg hd hr h
theorem bA (hg:o.guard=none) (hd:o.dst=d) (hr:(execOp a.eval o).run P w=.ok .skip w') (h:wpList P ops Q rest (a.put d undef) w'):wpList P ops Q (o::rest) a w:=
 wpList_plain hg fun K hK=>by
  subst hd;unfold Oper.wp;rw [hr];exact hK _ _ h
theorem bU {s:Sem Value} (h:s.run P w=.ok v w'):(do pure (Next.value (←s)):Sem Next).run P w=.ok (.value v) w':=by rw [Sem.run_bind,h];rfl
theorem fU {s:Sem Unit} (h:s.run P w=.ok () w'):(do s;pure Next.skip:Sem Next).run P w=.ok .skip w':=by rw [Sem.run_bind,h];rfl
end
theorem fM (ty:TypeId) (v:Value) (h:Blk w b arr t) (hj:j<arr.size) (hi:(P.info? ty).map (·.size)=some 1) (h1:v.oneCell'=true) :
  (Instr.storeAt ty (.pointer (some ⟨b,j,none⟩)) v).run P w=.ok () (w.setCell ⟨b,j,none⟩ v):=by
 have c1:w.cell? ⟨b,j,none⟩=some arr[j]:=by rw [h.at];simp [hj]
 have f1:=h.f j;have hs:=run_storeCells_cells (P:=P) b j [v] 0 w (fun i hi=>by simp at hi;subst hi;simp [c1]) (fun i hi=>by simp at hi;subst hi;simpa using f1) (fun u hu=>by simp at hu;subst hu;exact h1);simp only [Nat.add_zero] at hs;have hc:v.cells=#[v]:=by cases v<;>first | rfl | cases h1
 cases hq:P.info? ty with
 | none=>simp [hq] at hi
 | some i=>
  have hz:i.size=1:=by simpa [hq] using hi
  simp [Instr.storeAt,Instr.sureAddr,storeVar,sizeOf,typeInfo,hq,hc,hz,hs];rfl
theorem bJ {old:Array Value} (ty:TypeId) (h:Blk w b old t) (hi:(P.info? ty).map (·.size)=some arr.size) (ho:old.size=arr.size) (h1:arr.all (·.oneCell')=true) :
  (Instr.storeAt ty (.pointer (some ⟨b,0,none⟩)) (.agg arr)).run P w=.ok () (w.setRow b arr):=by
 simp only [Instr.storeAt,Instr.sureAddr,Sem.run_bind,Sem.run_pure,Result.andThen];exact run_storeVar_row w b t ty old arr h hi ho h1
theorem dZ (w:World) (t:TypeId) (z:Array Value) (hz:(P.info? t).map (·.zero)=some (some (.agg z))) :
  (Instr.alloc t true (.tuple #[])).run P w=.ok (.pointer (some ⟨w.heap.size,0,none⟩)) (w.alloc (.cells z t)):=by
 cases hq:P.info? t with
 | none=>simp [hq] at hz
 | some i=>
  have h:i.zero=some (.agg z):=by simpa [hq] using hz
  simp [Instr.alloc,zeroValue,typeInfo,hq,h,newVar,newRow,Value.cells,go_sem]
theorem aIj (w:World) (t e:TypeId) (len sz:Nat) (parts:Array (Nat×Value)) (z:Value) (cells:Array Value) (hu:P.underlying t=some (.slice e)) (hi:(P.info? e).map (fun i=>(i.zero,i.size))=some (some z,sz)) (hs:len*sz≤16777216) (hp:0<len*sz)
  (hf:Instr.fill (fun i=>some (i*sz,sz)) ((Array.range (len*sz)).map (z.cells[· % z.cells.size]!)) parts.toList=some cells) :
  (Instr.buildSlice t len parts).run P w=.ok (.slice (some ⟨w.heap.size,0,none⟩) len len) (w.alloc (.cells cells e)):=by
 cases hq:P.info? e with
 | none=>simp [hq] at hi
 | some i=>simp only [hq,Option.map_some,Option.some.injEq,Prod.mk.injEq] at hi;obtain ⟨h1,rfl⟩:=hi;exact run_buildSlice w t e len parts cells i z hu hq h1 (by omega) (by omega) hf
theorem aKv (a b c d e:Value) (base:Array Value) (hb:base.size=5):Instr.fill (fun i=>some (i*5,5)) base [(0,.agg #[a,b,c,d,e])]=some #[a,b,c,d,e]:=by
 obtain ⟨l⟩:=base
 match l,hb with
 | [_,_,_,_,_],_=>rfl
theorem pO (w:World) (t e:TypeId) (parts:Array (Nat×Value)) (z:Value) (a b c d f:Value) (hu:P.underlying t=some (.slice e)) (hi:(P.info? e).map (fun i=>(i.zero,i.size))=some (some z,5)) (hp:parts=#[(0,.agg #[a,b,c,d,f])]) :
  (Instr.buildSlice t 1 parts).run P w=.ok (.slice (some ⟨w.heap.size,0,none⟩) 1 1) (w.alloc (.cells #[a,b,c,d,f] e)):=by
 subst hp;exact aIj w t e 1 5 _ z _ hu hi (by decide) (by decide) (aKv a b c d f _ (by simp))
theorem aKw (a b c:Value) (base:Array Value) (hb:base.size=3):Instr.fill (fun i=>some (i*3,3)) base [(0,.agg #[a,b,c])]=some #[a,b,c]:=by
 obtain ⟨l⟩:=base
 match l,hb with
 | [_,_,_],_=>rfl
theorem aJC (w:World) (t e:TypeId) (parts:Array (Nat×Value)) (z:Value) (a b c:Value) (hu:P.underlying t=some (.slice e)) (hi:(P.info? e).map (fun i=>(i.zero,i.size))=some (some z,3)) (hp:parts=#[(0,.agg #[a,b,c])]) :
  (Instr.buildSlice t 1 parts).run P w=.ok (.slice (some ⟨w.heap.size,0,none⟩) 1 1) (w.alloc (.cells #[a,b,c] e)):=by
 subst hp;exact aIj w t e 1 3 _ z _ hu hi (by decide) (by decide) (aKw a b c _ (by simp))
theorem aI4 (h:Blk w b arr 56) (hs:arr.size=3):(Instr.loadAt 56 (.pointer (some ⟨b,0,none⟩))).run Tryz.prog w=.ok (.agg arr) w:=by
 simp only [Instr.loadAt,Instr.sureAddr,Sem.run_bind,Sem.run_pure,Result.andThen];exact run_loadVar_row w b 56 56 arr (0,0) _ h underlying56 rfl (by rw [show (Tryz.prog.info? 56).map (·.size)=some 3 by kernel_rfl,hs])
theorem fD (h:Blk w b arr 35) (hs:arr.size=5):(Instr.loadAt 35 (.pointer (some ⟨b,0,none⟩))).run Tryz.prog w=.ok (.agg arr) w:=by
 simp only [Instr.loadAt,Instr.sureAddr,Sem.run_bind,Sem.run_pure,Result.andThen];exact run_loadVar_row w b 35 35 arr (0,0) _ h underlying35 rfl (by rw [show (Tryz.prog.info? 35).map (·.size)=some 5 by kernel_rfl,hs])
theorem bF (h:Blk w b arr 29) (hs:arr.size=8):(Instr.loadAt 29 (.pointer (some ⟨b,0,none⟩))).run Tryz.prog w=.ok (.agg arr) w:=by
 simp only [Instr.loadAt,Instr.sureAddr,Sem.run_bind,Sem.run_pure,Result.andThen];exact run_loadVar_row w b 29 29 arr (0,0) _ h underlying29 rfl (by rw [show (Tryz.prog.info? 29).map (·.size)=some 8 by kernel_rfl,hs])
def lN (P:Program) (md:Region.Mode) (ops:Array Oper) (Q:Exit→Act→World→Prop) (X:Nat) (S T:World→Prop):Nat→Array Bool→Act→World→Prop
 | 0,listed,a,w=>Region.ready md ops listed=[]∧Q .normal a w
 | fuel+1,listed,a,w=>(Region.ready md ops listed=[]→Q .normal a w)∧
  ∀i ∈ Region.ready md ops listed,wpOp P ops Q i (fun a' w'=>S w'∧((listed.setIfInBounds i true).getD X false=false→T w')∧lN P md ops Q X S T fuel (listed.setIfInBounds i true) a' w') a w
section
variable {P:Program} {ops:Array Oper} {Q:Exit→Act→World→Prop} {md:Region.Mode} {X:Nat} {S T:World→Prop}
theorem zO:∀(fuel:Nat) (listed:Array Bool) (a:Act) (w:World),lN P md ops Q X S T fuel listed a w→wpAny P md ops Q fuel listed a w
 | 0,_,_,_,h=>h
 | fuel+1,_,_,_,h=>⟨h.1,fun i hi=>wpOp_mono (fun a' w' h'=>zO fuel _ a' w' h'.2.2) (h.2 i hi)⟩
theorem mG {id:Nat} (X:Nat) (S T:World→Prop) (hm:P.follows .mixedOrders=true) (h1:S w.drew) (h2:T w.drew)
  (h:S w.drew→T w.drew→lN P .any ops Q X S T ops.size (Array.replicate ops.size false) a w.drew):(Code.region id ops true).wp P Q a w:=
 wp_region_any hm (zO _ _ _ _ (h h1 h2))
theorem jJ:∀(fuel:Nat) (listed:Array Bool) (a:Act) (w:World),listed.getD X false=true→wpAnyH P md ops Q S fuel listed a w→lN P md ops Q X S T fuel listed a w
 | 0,_,_,_,_,h=>h
 | fuel+1,_,_,_,hX,h=>⟨h.1,fun i hi=>wpOp_mono (fun a' w' h'=>⟨h'.1,(fun e=>by rw [getD_set_true hX] at e;cases e),jJ fuel _ a' w' (getD_set_true hX) h'.2⟩) (h.2 i hi)⟩
theorem tO {U:World→Prop} (hi:ops[i]? = some oi) (hsel:∀(j:Nat) (o:Oper) cs b,ops[j]? = some o→o.op≠.select cs b) (hXi:i≠X)
  (hQ:∀c a w,Q (.panic c) (a.put oi.dst v) w→Q (.panic c) a w)
  (c:Bool) (hU1:c=true→∀w,S w→U w) (hU2:c=false→(∀w,T w→U w)∧∃ox,ops[X]? = some ox∧∃e ∈ ox.after,Region.binds md e=true∧e.on=i) :
  ∀(fuel:Nat) (listed:Array Bool) (a:Act) (w:World),
   (∀j oj,ops[j]? = some oj→j≠i→listed.getD j true=false→(∀e ∈ oj.after,Region.binds md e=true→e.on≠i)→oi.apart ops oj=true)→
   i ∈ Region.ready md ops listed→YieldsIf P ops U oi v a→(c=false→listed.getD X false=false)→S w→(listed.getD X false=false→T w)→
   lN P md ops Q X S T fuel (listed.setIfInBounds i true) (a.put oi.dst v) w→lN P md ops Q X S T (fuel+1) listed a w:=by
 have hw:∀(listed:Array Bool) w,(c=false→listed.getD X false=false)→S w→(listed.getD X false=false→T w)→U w:=fun listed w h0 h1 h2=>by
  cases c
  ·exact (hU2 rfl).1 w (h2 (h0 rfl))
  ·exact hU1 rfl w h1
 intro fuel
 induction fuel with
 | zero=>
  intro listed a w _ hr hy hX h1 h2 H;refine ⟨fun h=>(by rw [h] at hr;cases hr),fun j hj=>?_⟩;by_cases hji:j=i
  ·subst hji;exact hy.wpOp hi (hw listed w hX h1 h2) ⟨h1,fun e=>h2 (by rwa [getD_set_ne false hXi] at e),H⟩
  ·have:=ready_mono hj hji;rw [H.1] at this;cases this
 | succ fuel ih=>
  intro listed a w hfree hr hy hX h1 h2 H;refine ⟨fun h=>(by rw [h] at hr;cases hr),fun j hj=>?_⟩;by_cases hji:j=i
  ·subst hji;exact hy.wpOp hi (hw listed w hX h1 h2) ⟨h1,fun e=>h2 (by rwa [getD_set_ne false hXi] at e),H⟩
  ·have k1:=H.2 j (ready_mono hj hji);obtain ⟨JG,oj,hoj,zw⟩:=mem_ready.1 hj;have JB:∀e ∈ oj.after,Region.binds md e=true→e.on≠i:=fun e he hb heq=>by
    have q1:=zw e he hb;have q0:=(mem_ready.1 hr).1;rw [heq] at q1;rcases Nat.lt_or_ge i listed.size with h' | h'
    ·simp [h'] at q0 q1;rw [q0] at q1;cases q1
    ·simp [Array.getElem?_eq_none h'] at q1
   have k2:=wpOp_putIf hoj (hfree j oj hoj hji JG JB) (fun cs b=>hsel i oi cs b hi) (fun cs b=>hsel j oj cs b hoj) hQ hy k1;have YQ:∀k ok,ops[k]? = some ok→k≠i→(listed.setIfInBounds j true).getD k true=false→
     (∀e ∈ ok.after,Region.binds md e=true→e.on≠i)→oi.apart ops ok=true:=fun k ok hk hki hun hno=>by
    refine hfree k ok hk hki ?_ hno;by_cases hjk:j=k
    ·subst hjk;exact JG
    ·rw [getD_set_ne true hjk] at hun;exact hun
   refine wpOp_mono (fun a' w' h3=>?_) k2;obtain ⟨y1,s1,t1,H1⟩:=h3;rw [Array.setIfInBounds_comm _ _ (Ne.symm hji)] at H1;have t2:(listed.setIfInBounds j true).getD X false=false→T w':=fun e=>by
    refine t1 ?_;by_cases JH:j=X
    ·subst JH;rw [Array.setIfInBounds_comm _ _ (Ne.symm hji),getD_set_ne false hXi];exact e
    ·rw [getD_set_ne false JH,getD_set_ne false hXi];rw [getD_set_ne false JH] at e;exact e
   refine ⟨s1,t2,ih (listed.setIfInBounds j true) a' w' YQ (ready_mono hr (Ne.symm hji)) y1 (fun hc=>?_) s1 t2 H1⟩;have JH:j≠X:=fun e=>by
    subst e;obtain ⟨_,ox,hox,e,he,hb,heq⟩:=hU2 hc;rw [hox] at hoj;cases hoj;exact JB e he hb heq
   rw [getD_set_ne false JH];exact hX hc
def aC9 (md:Region.Mode) (ops:Array Oper) (X i:Nat):Bool:=((ops[X]?).map fun o=>o.after.any fun e=>Region.binds md e&&e.on==i).getD false
theorem aEU (h:aC9 md ops X i=true):∃ox,ops[X]? = some ox∧∃e ∈ ox.after,Region.binds md e=true∧e.on=i:=by
 unfold aC9 at h;cases ho:ops[X]? with
 | none=>rw [ho] at h;simp at h
 | some o=>rw [ho] at h;simp only [Option.map_some,Option.getD_some] at h;obtain ⟨e,he,hb⟩:=Array.any_eq_true'.1 h;simp only [yK,beq_iff_eq] at hb;exact ⟨o,rfl,e,he,hb.1,hb.2⟩
theorem bS (i d:Nat) (v:Value) (hi:ops[i]? = some oi) (hd:oi.dst=some d) (hS:S w) (hT:T w)
  (h:lN P md ops Q X S T fuel (listed.setIfInBounds i true) (a.put (some d) v) w)
  (hy:YieldsIf P ops S oi v a:=by exact Or.inl ⟨by rfl,fun wz hz=>by (go_simp;try with_reducible rfl)⟩)
  (hs:Region.noSelect ops=true:=by kernel_rfl) (hf:Region.free md ops listed i=true:=by kernel_rfl) (hr:(Region.ready md ops listed).contains i=true:=by kernel_rfl) (hX:(i != X)=true:=by kernel_rfl)
  (hQ:∀c a w,Q (.panic c) (a.put (some d) v) w→Q (.panic c) a w:=by exact fun _ _ _ h=>h):lN P md ops Q X S T (fuel+1) listed a w:=by
 rw [←hd] at h hQ;exact tO hi (Region.noSelect_spec hs) (by simpa using hX) hQ true (fun _ _ h=>h) (fun e=>by cases e) fuel listed a w (Region.free_spec hi hf) (by simpa using hr) hy (fun e=>by cases e) hS (fun _=>hT) h
theorem aDc (i d:Nat) (v:Value) (hi:ops[i]? = some oi) (hd:oi.dst=some d) (hS:S w) (hT:T w)
  (h:lN P md ops Q X S T fuel (listed.setIfInBounds i true) (a.put (some d) v) w)
  (hy:YieldsIf P ops T oi v a:=by exact Or.inl ⟨by rfl,fun wz hz=>by (go_simp;try with_reducible rfl)⟩)
  (hs:Region.noSelect ops=true:=by kernel_rfl) (hf:Region.free md ops listed i=true:=by kernel_rfl) (hr:(Region.ready md ops listed).contains i=true:=by kernel_rfl) (hX:(i != X)=true:=by kernel_rfl)
  (hw:aC9 md ops X i=true:=by kernel_rfl) (hl:listed.getD X false=false:=by kernel_rfl)
  (hQ:∀c a w,Q (.panic c) (a.put (some d) v) w→Q (.panic c) a w:=by exact fun _ _ _ h=>h):lN P md ops Q X S T (fuel+1) listed a w:=by
 rw [←hd] at h hQ;exact tO hi (Region.noSelect_spec hs) (by simpa using hX) hQ false (fun e=>by cases e) (fun _=>⟨fun _ h=>h,aEU hw⟩) fuel listed a w (Region.free_spec hi hf) (by simpa using hr) hy (fun _=>hl) hS (fun _=>hT) h
def aB (P:Program) (md:Region.Mode) (ops:Array Oper) (Q:Exit→Act→World→Prop) (X:Nat) (S T:World→Prop) (fuel:Nat) (listed:Array Bool) (a:Act) (w:World) (rs:List Nat):Prop:=
 ∀i ∈ rs,wpOp P ops Q i (fun a' w'=>S w'∧((listed.setIfInBounds i true).getD X false=false→T w')∧lN P md ops Q X S T fuel (listed.setIfInBounds i true) a' w') a w
theorem aB.nil:aB P md ops Q X S T fuel listed a w []:=fun _ h=>by cases h
theorem aB.cons (ho:ops[i]? = some o)
  (h:∀K':Act→World→Prop,Shut (∀a w,S w→((listed.setIfInBounds i true).getD X false=false→T w)→lN P md ops Q X S T fuel (listed.setIfInBounds i true) a w→K' a w)→if Region.wanted o (yielded ops a.tmps)=true then Oper.wp P o a w K' Q else K' (a.put o.dst undef) w)
  (hs:aB P md ops Q X S T fuel listed a w rs):aB P md ops Q X S T fuel listed a w (i::rs):=fun j hj=>by
 rcases List.mem_cons.1 hj with rfl | hj
 ·exact wpOp_step ho (fun K' hK=>h K' (fun a w h1 h2 h3=>hK a w ⟨h1,h2,h3⟩))
 ·exact hs j hj
theorem aG (rs:List Nat) (h:aB P md ops Q X S T fuel listed a w rs) (hr:Region.ready md ops listed=rs:=by kernel_rfl) (hne:(rs != [])=true:=by kernel_rfl):lN P md ops Q X S T (fuel+1) listed a w:=
 ⟨fun h0=>absurd (hr ▸ h0) (by simpa using hne),hr ▸ h⟩
theorem gN (d:Nat) (hw:Region.wanted o (yielded ops a.tmps)=true) (hd:o.dst=some d) (hr:(execOp a.eval o).run P w=.ok (.value v) w') (h:K (a.put (some d) v) w'):if Region.wanted o (yielded ops a.tmps)=true then Oper.wp P o a w K Q else K (a.put o.dst undef) w:=by
 rw [←hd] at h;rw [if_pos hw];unfold Oper.wp;rw [hr];exact h
theorem jS (hw:Region.wanted o (yielded ops a.tmps)=true) (hd:o.dst=none) (hr:(execOp a.eval o).run P w=.ok .skip w') (h:K (a.put none undef) w'):if Region.wanted o (yielded ops a.tmps)=true then Oper.wp P o a w K Q else K (a.put o.dst undef) w:=by
 rw [←hd] at h;rw [if_pos hw];unfold Oper.wp;rw [hr];exact h
theorem fZ {s x:Operand} {vs vx:Value} (ho:o.op=.call { callee:=.builtin .append,args:=#[s,x],argTypes:=#[t,t] }) (hs:a.eval s=vs) (hx:a.eval x=vx) (gq:(Builtin.append_ #[t,t] o.type #[vs,vx]).run P w=.ok v w'):(execOp a.eval o).run P w=.ok (.value v) w':=by
 simp [execOp,ho,resolve,invoke,builtin,hs,hx,gq,Result.andThen]
end
theorem bZ.base (h:bZ B w v ps) (hb:B'≤B):bZ B' w v ps:=by
 obtain ⟨h1,h2⟩:=h;refine ⟨h1,?_⟩;rcases h2 with h2 | ⟨g,cap,cur,a,b,c⟩
 ·exact .inl h2
 ·exact .inr ⟨g,cap,cur,a,by omega,c⟩
theorem SS.own (h:SS w g cap (ps.map bs)):bZ g w (.slice (some ⟨g,0,none⟩) ps.length cap) ps:=by
 have:=h;unfold SS at this;rw [List.length_map] at this;unfold bZ;rw [List.length_map];exact this
theorem lI (a b c d:Int) (w:World) :
  cP 27 #[rv a b,rv c d] w fun e w'=>e=.returned (.bool (within a b c d))∧Bw w w':=by
 have GM:=aA ((aM w 33 a b).al (.cells #[.int .i64 c,.int .i64 d] 33));have GR:=aA (iB w 33 33 a b c d);have HB0:=aA (yA (yA (yH _ w) (.cells #[.int .i64 a,.int .i64 b] 33)) (.cells #[.int .i64 c,.int .i64 d] 33));have hc:=aA (oK a b c d);cases h0:aQ a b&&aQ c d
 ·rw [show within a b c d=false by rw [within,h0];rfl];go_enter func27,ntmps27;go_wp2_with fail;refine (uH hc _).mono ?_;rw [h0];rintro e w1 ⟨rfl,hb⟩;have V1:=(uH GM).below hb;have V2:=(uH GR).below hb;have a1:=V1.c0;have a2:=V1.c1;have a3:=V2.c0;have a4:=V2.c1;have HB:=aA (yB (uH HB0) hb);clear hb GM GR HB0 V1 V2 hc;go_wp2;go_ret;exact ⟨rfl,uH HB⟩
 ·by_cases h3:a≤c
  ·by_cases h4:b≤d
   ·rw [show within a b c d=true by rw [within,h0];simp [h3,h4]];(go_enter func27,ntmps27);(go_wp2_with fail);refine (uH hc _).mono ?_;rw [h0];rintro e w1 ⟨rfl,hb⟩;have V1:=(uH GM).below hb;have V2:=(uH GR).below hb;have a1:=V1.c0;have a2:=V1.c1;have a3:=V2.c0;have a4:=V2.c1;have HB:=aA (yB (uH HB0) hb);clear hb GM GR HB0 V1 V2 hc;go_wp2;go_ret;exact ⟨rfl,uH HB⟩
   ·rw [show within a b c d=false by rw [within,h0];simp [h4]];(go_enter func27,ntmps27);(go_wp2_with fail);refine (uH hc _).mono ?_;rw [h0];rintro e w1 ⟨rfl,hb⟩;have V1:=(uH GM).below hb;have V2:=(uH GR).below hb;have a1:=V1.c0;have a2:=V1.c1;have a3:=V2.c0;have a4:=V2.c1;have HB:=aA (yB (uH HB0) hb);clear hb GM GR HB0 V1 V2 hc;go_wp2;go_ret;exact ⟨yF (decide_eq_false (by omega)),uH HB⟩
  ·rw [show within a b c d=false by rw [within,h0];simp [h3]];(go_enter func27,ntmps27);(go_wp2_with fail);refine (uH hc _).mono ?_;rw [h0];rintro e w1 ⟨rfl,hb⟩;have V1:=(uH GM).below hb;have V2:=(uH GR).below hb;have a1:=V1.c0;have a2:=V1.c1;have a3:=V2.c0;have a4:=V2.c1;have HB:=aA (yB (uH HB0) hb);clear hb GM GR HB0 V1 V2 hc;go_wp2;go_ret;exact ⟨rfl,uH HB⟩
def HBk (w0:World) (L:List (Nat×Array Value×TypeId)) (wx:World):Prop:=
 (∀p ∈ L,Blk wx p.1 p.2.1 p.2.2)∧Bw w0 wx
theorem HBk.call {wy:World} (h:HBk w0 L wx) (hb:Bw wx wy):HBk w0 L wy:=⟨fun p hp=>(h.1 p hp).below hb,yB h.2 hb⟩
theorem HBk.drew (h:HBk w0 L wx):HBk w0 L wx.drew:=h.call (yH _ _).drew
theorem HBk.al (h:HBk w0 L wx) (o:Obj):HBk w0 L (wx.alloc o):=h.call (yA (yH _ _) o)
theorem HBk.set (h:HBk w0 L wx) (k j:Nat) (v:Value) (hk:w0.heap.size≤k) (hn:∀p ∈ L,p.1≠k):HBk w0 L (wx.setCell ⟨k,j,none⟩ v):=
 ⟨fun p hp=>(h.1 p hp).other k j v (hn p hp),yC h.2 _ _ _ hk⟩
theorem HBk.blk (h:HBk w0 L wx) {c:Array Value} (hp:(g,c,t) ∈ L):Blk wx g c t:=h.1 _ hp
theorem HBk.cell (h:HBk w0 L wx) (hc:w0.cell? ⟨b,j,none⟩=some v):wx.cell? ⟨b,j,none⟩=some v:=(Below.cell h.2 (p:=⟨b,j,none⟩) (yG hc)).trans hc
def aK (P:Program) (md:Region.Mode) (ops:Array Oper) (Q:Exit→Act→World→Prop) (S:World→Prop) (I:Nat→Array Bool→Act→World→Prop) (n:Nat) (listed:Array Bool) (a:Act) (w:World) (rs:List Nat):Prop:=
 ∀i ∈ rs,wpOp P ops Q i (fun a' w'=>S w'∧I n (listed.setIfInBounds i true) a' w') a w
theorem aK.nil {md:Region.Mode} {Q:Exit→Act→World→Prop}:aK P md ops Q S I n listed a w []:=fun _ h=>by cases h
theorem aK.cons {md:Region.Mode} {Q:Exit→Act→World→Prop} (ho:ops[i]? = some o)
  (h:∀K':Act→World→Prop,Shut (∀a w,S w→I n (listed.setIfInBounds i true) a w→K' a w)→if Region.wanted o (yielded ops a.tmps)=true then Oper.wp P o a w K' Q else K' (a.put o.dst undef) w)
  (hs:aK P md ops Q S I n listed a w rs):aK P md ops Q S I n listed a w (i::rs):=fun j hj=>by
 rcases List.mem_cons.1 hj with rfl | hj
 ·exact wpOp_step ho (fun K' hK=>h K' (fun a w hS hW=>hK a w ⟨hS,hW⟩))
 ·exact hs j hj
theorem oD {P:Program} {ops:Array Oper} {Q:Exit→Act→World→Prop} {md:Region.Mode} {S:World→Prop} (I:Nat→Array Bool→Act→World→Prop)
  (step:∀n listed a w,I (n+1) listed a w→Region.ready md ops listed≠[]∧aK P md ops Q S I n listed a w (Region.ready md ops listed))
  (fin:∀listed a w,I 0 listed a w→Region.ready md ops listed=[]∧Q .normal a w) :
  ∀n listed a w,I n listed a w→wpAnyH P md ops Q S n listed a w
 | 0,listed,a,w,h=>fin listed a w h
 | n+1,listed,a,w,h=>⟨fun e=>absurd e (step n listed a w h).1,fun i hi=>wpOp_mono (fun a' w' k=>⟨k.1,oD I step fin n _ a' w' k.2⟩) ((step n listed a w h).2 i hi)⟩
theorem bT {Q:Exit→Act→World→Prop} {md:Region.Mode} (hr:Region.ready md ops listed=rs) (hne:rs≠[])
  (h:aK P md ops Q S I n listed a w rs):Region.ready md ops listed≠[]∧aK P md ops Q S I n listed a w (Region.ready md ops listed):=by
 subst hr;exact ⟨hne,h⟩
def mY (p:List UInt8→List UInt8→Bool) (x:List UInt8):List (List UInt8)→Nat
 | []=>0
 | y::t=>if p y x=true then mY p x t+1 else 0
theorem aCB (p:List UInt8→List UInt8→Bool) (x:List UInt8):∀l,OrdM.ins p x l=l.take (mY p x l)++x::l.drop (mY p x l)
 | []=>rfl
 | y::t=>by
  unfold OrdM.ins mY;by_cases h:p y x=true
  ·rw [if_pos h,if_pos h,List.take_succ_cons,List.drop_succ_cons,aCB p x t];rfl
  ·rw [if_neg h,if_neg h];rfl
theorem aCp (p:List UInt8→List UInt8→Bool) (x:List UInt8) {l:List (List UInt8)} (h:k<l.length):k+mY p x (l.drop k)=if p l[k] x=true then (k+1)+mY p x (l.drop (k+1)) else k:=by
 rw [List.drop_eq_getElem_cons h,mY];split<;>omega
theorem aE8 (p:List UInt8→List UInt8→Bool) (x:List UInt8) {l:List (List UInt8)} (h:l.length≤k):k+mY p x (l.drop k)=k:=by
 rw [List.drop_of_length_le h];rfl
theorem aCh (a b c d:Int) (w:World) :
  cP 144 #[rv a b,rv c d] w fun e w'=>e=.returned (.tuple #[jY (-1) a b c d,.bool (aN (-1) a b c d)])∧Bw w w':=by
 have hv:∃x y,jY (-1) a b c d=rv x y:=by unfold jY;split<;>exact ⟨_,_,rfl⟩
 obtain ⟨x,y,hv⟩:=hv;have hc:=wY a b c d (-1) ((w.alloc (.cells #[.int .i64 a,.int .i64 b] 33)).alloc (.cells #[.int .i64 c,.int .i64 d] 33) |>.alloc (.cells #[.int .i64 0,.int .i64 0] 33)) (by decide);rw [hv] at hc ⊢;go_enter func144,ntmps144;go_wp2_with fail;refine hc.mono ?_;rintro e w1 ⟨rfl,hb⟩;have hk:Var w1 33 (w.heap.size+1+1) 0 0:=Var.below (by simpa using aM ((w.alloc (.cells #[.int .i64 a,.int .i64 b] 33)).alloc (.cells #[.int .i64 c,.int .i64 d] 33)) 33 0 0) hb;have k0:=hk.c0;have k1:=hk.c1;have k2:=hk.f 0;have k3:=hk.f 1;have k4:=hk.s0 (.int .i64 x);have k5:=hk.s1 (.int .i64 x) (.int .i64 y);have HB:=aA (yB (yA (yA (yA (yH _ _) _) _) _) hb);clear hb hc hk;go_wp2;refine bodyPost_ret (v:=.tuple #[rv x y,.bool (aN (-1) a b c d)]) (by simp [results,results144,go_sem,k4,k5]) rfl ⟨rfl,?_⟩;repeat (first | exact uH HB | refine yA ?_ _ | refine yC ?_ _ _ _ (by omega))
theorem aBL (x m:Int) (h0:0≤m) (h1:m<9223372036854775808):0≤bits .and .i64 x m∧bits .and .i64 x m≤m:=by
 obtain ⟨M,rfl⟩:=Int.eq_ofNat_of_zero_le h0;have hM:(BitVec.ofInt 64 (M:Int)).toNat=M:=by rw [BitVec.toNat_ofInt];omega
 have hle:(BitVec.ofInt 64 x &&& BitVec.ofInt 64 (M:Int)).toNat≤M:=by rw [BitVec.toNat_and,hM];exact Nat.and_le_right
 have e:bits .and .i64 x (M:Int)=IntKind.i64.wrap ((BitVec.ofInt 64 x &&& BitVec.ofInt 64 (M:Int)).toNat:Int):=rfl;rw [e,IntKind.wrap_i64];omega
def Code (w:World) (B:Nat) (ao:Option Addr) (len:Nat):Prop:=
 B≤w.heap.size∧len≤1048576∧(len=0∨∃b off,∃zs:Nat→Int,ao=some ⟨b,off,none⟩∧b<B∧(∀j,j<len→w.cell? ⟨b,off+j,none⟩=some (.int .u8 (zs j)))∧∀j,0≤zs j∧zs j≤255)
def Cur (w:World) (g:Nat) (ao:Option Addr) (len cap:Nat):Prop:=
 ∃(i:Nat) (h:Int),w.heap[g]? = some (.cells #[.slice ao len cap,.int .i64 (i:Int),.int .i64 h] 164 (0,0))∧i≤len
theorem Cur.lt {len:Nat} (h:Cur w g ao len cap):g<w.heap.size:=by
 obtain ⟨i,x,h,_⟩:=h;exact lt_of_block h
theorem Code.below {len:Nat} (h:Code w B ao len) (hb:Below B' w w') (hB:B≤B'):Code w' B ao len:=by
 refine ⟨Nat.le_trans h.1 hb.size,h.2.1,?_⟩;rcases h.2.2 with h0 | ⟨b,off,zs,h1,h2,h3,h4⟩
 ·exact .inl h0
 ·exact .inr ⟨b,off,zs,h1,h2,fun j hj=>(hb.cell (p:=⟨b,off+j,none⟩) (by show b<B';omega)).trans (h3 j hj),h4⟩
theorem Code.grown {len:Nat} (h:Code w B ao len) (hg:w.grownBy w' (some g)) (hB:B≤g):Code w' B ao len:=
 h.below (jZ (yH B w) hg h.1 hB) (yJ _)
theorem Cur.below {len:Nat} (h:Cur w g ao len cap) (hb:Below B w w') (hg:g<B):Cur w' g ao len cap:=by
 obtain ⟨i,x,h1,h2⟩:=h;exact ⟨i,x,(hb.block g hg).trans h1,h2⟩
theorem aGt {len:Nat} (hg:w.heap[g]? = some (.cells #[.slice ao len cap,.int .i64 (i:Int),.int .i64 h] 164 (0,0))) (H:Int) (n m:Nat) (hi:i≤len) :
  Cur (((w.setCell ⟨g,2,none⟩ (.int .i64 H)).drewN n).drewN m) g ao len cap∧w.grownBy (((w.setCell ⟨g,2,none⟩ (.int .i64 H)).drewN n).drewN m) (some g):=by
 refine ⟨⟨i,H,?_,hi⟩,mR (mR (dP (aD w _) 2 _) n) m⟩;have:=heap_setCell_same w g 2 _ _ (.int .i64 H) hg;exact this.trans (by simp)
theorem aGs {len:Nat} (hg:w.heap[g]? = some (.cells #[.slice ao len cap,.int .i64 (i:Int),.int .i64 h] 164 (0,0))) (H:Int) (n:Nat) (hi:i+1≤len) :
  Cur (((w.setCell ⟨g,2,none⟩ (.int .i64 H)).drewN n).setCell ⟨g,1,none⟩ (.int .i64 ((i:Int)+1))) g ao len cap∧w.grownBy (((w.setCell ⟨g,2,none⟩ (.int .i64 H)).drewN n).setCell ⟨g,1,none⟩ (.int .i64 ((i:Int)+1))) (some g):=by
 refine ⟨⟨i+1,H,?_,hi⟩,dP (mR (dP (aD w _) 2 _) n) 1 _⟩;have h1:=heap_setCell_same w g 2 _ _ (.int .i64 H) hg;have h2:=heap_setCell_same ((w.setCell ⟨g,2,none⟩ (.int .i64 H)).drewN n) g 1 _ _ (.int .i64 ((i:Int)+1)) h1;exact h2.trans (by simp)
theorem kM (B g:Nat) (ao:Option Addr) (len cap:Nat) (w:World) (hcur:Cur w g ao len cap) (hcode:Code w B ao len) (hB:B≤g) :
  cP 120 #[.pointer (some ⟨g,0,none⟩)] w fun e w'=>∃x:Int,e=.returned (.int .i64 x)∧0≤x∧x≤255∧Cur w' g ao len cap∧w.grownBy w' (some g):=by
 obtain ⟨i,h,hg,hi⟩:=hcur;have c0:w.cell? ⟨g,0,none⟩=some (.slice ao len cap):=by simp [World.cell?,hg]
 have c1:w.cell? ⟨g,1,none⟩=some (.int .i64 (i:Int)):=by simp [World.cell?,hg]
 have c2:w.cell? ⟨g,2,none⟩=some (.int .i64 h):=by simp [World.cell?,hg]
 have f1:w.frozen? ⟨g,1,none⟩=false:=by simp [World.frozen?,hg]
 have f2:w.frozen? ⟨g,2,none⟩=false:=by simp [World.frozen?,hg]
 have HG:=aA hg;clear hg;have hl:=hcode.2.1;by_cases hlt:i<len
 ·rcases hcode.2.2 with h0 | ⟨b,off,zs,rfl,QU,hz,hzs⟩
  ·omega
  have hcz:∀v,(w.setCell ⟨g,2,none⟩ v).cell? ⟨b,off+i,none⟩=some (.int .u8 (zs i)):=fun v=>(World.cell?_setCell_other _ ⟨g,2,none⟩ ⟨b,off+i,none⟩ _ (by intro e;have:=congrArg Addr.block e;simp at this;omega)).trans (hz i hlt)
  obtain ⟨hz0,hz1⟩:=hzs i;have KD:(i:Int)<(len:Int):=by omega
  clear hz hzs hcode;go_enter func120,ntmps120;go_wp2_with fail;go_quiet (fail)
  go_wp2_with fail
  go_quiet (fail)
  go_wp2_with fail
  go_quiet (fail)
  go_wp2;go_ret;have hm:=aBL;exact ⟨_,rfl,(hm _ 255 (by decide) (by decide)).1,(hm _ 255 (by decide) (by decide)).2,aGs (uH HG) _ _ (by omega)⟩
 ·clear hcode;go_enter func120,ntmps120;go_wp2_with fail;go_quiet (fail)
  go_wp2_with fail
  go_quiet (fail)
  go_wp2;go_ret;have hm:=aBL;exact ⟨_,rfl,(hm _ 255 (by decide) (by decide)).1,(hm _ 255 (by decide) (by decide)).2,aGt (uH HG) _ _ _ hi⟩
theorem uG (B g:Nat) (ao:Option Addr) (len cap:Nat) (n:Int) (w:World) (hcur:Cur w g ao len cap) (hcode:Code w B ao len) (hB:B≤g) (hn0:0<n) (hn1:n≤9223372036854775807) :
  cP 57 #[.pointer (some ⟨g,0,none⟩),.int .i64 n] w fun e w'=>∃x:Int,e=.returned (.int .i64 x)∧0≤x∧x<n∧Cur w' g ao len cap∧w.grownBy w' (some g):=by
 have HC:=aA hcur;have HK:=aA hcode;clear hcur hcode;by_cases h256:n≤256
 ·go_enter func57,ntmps57
  go_wp2_with fail
  refine (kM B g ao len cap _ (uH HC) (uH HK) hB).mono ?_;rintro e w1 ⟨x,rfl,hx0,hx1,hc1,hg1⟩;have Qw:=aA hc1;have KX:=aA hg1;clear hc1 hg1;go_wp2;go_ret;exact ⟨_,rfl,Int.emod_nonneg _ (by omega),Int.emod_lt_of_pos _ hn0,uH Qw,uH KX⟩
 ·go_enter func57,ntmps57
  go_wp2_with fail
  refine (kM B g ao len cap _ (uH HC) (uH HK) hB).mono ?_;rintro e w1 ⟨x1,rfl,hx10,hx11,hc1,hg1⟩;have Qw:=aA hc1;have TF:=aA ((uH HK).grown hg1 hB);have KX:=aA hg1;clear hc1 hg1;go_wp2_with fail;refine (kM B g ao len cap _ (uH Qw) (uH TF) hB).mono ?_;rintro e w2 ⟨x2,rfl,hx20,hx21,hc2,hg2⟩;have qy:=aA hc2;have FX:=aA ((uH TF).grown hg2 hB);have HG2:=aA (bW (uH KX) hg2);clear hc2 hg2;go_wp2_with fail;refine (kM B g ao len cap _ (uH qy) (uH FX) hB).mono ?_;rintro e w3 ⟨x3,rfl,hx30,hx31,hc3,hg3⟩;have WY:=aA hc3;have Y8:=aA ((uH FX).grown hg3 hB);have VA:=aA (bW (uH HG2) hg3);clear hc3 hg3;go_wp2_with fail;refine (kM B g ao len cap _ (uH WY) (uH Y8) hB).mono ?_;rintro e w4 ⟨x4,rfl,hx40,hx41,hc4,hg4⟩;have RB:=aA hc4;have DF:=aA (bW (uH VA) hg4);clear hc4 hg4;go_wp2;go_ret;exact ⟨_,rfl,Int.emod_nonneg _ (by omega),Int.emod_lt_of_pos _ hn0,uH RB,uH DF⟩
theorem vV (N:Nat) (w:World) (hN:(N:Int)≤9223372036854775807) :
  cP 197 #[.int .i64 (N:Int)] w fun e w'=>e=.returned (.string (bs (Lib.itoa N)))∧w'=w:=by
 by_cases h0:N=0
 ·subst h0;go_enter func197,ntmps197;go_wp2;go_ret;exact ⟨aCl (by rw [Lib.itoa_nonneg,Lib.decDigits];rfl),rfl⟩
 ·have Gq:(Lib.decDigits N).length≤20:=by rw [Lib.decDigits_length];exact Lib.nDigits_le20 N (by omega)
  have hne:((N:Int)==0)=false:=by simp;omega
  have hit:Hid (dgs N=Lib.itoa N):=aA (by rw [sU h0,Lib.itoa_nonneg]);have QE:(dgs N).length≤20:=by rw [sU h0];exact Gq
  clear Gq;go_enter func197,ntmps197;go_wp2;go_loop [3,4,5] (fun o m _=>∃(u:Nat) (l:List UInt8),u≤N∧m=.int .i64 (u:Int)∧o=.string (bs l)∧dgs u++l=dgs N) (fun _ m _=>(intOf m).toNat);case atStart=>exact ⟨N,[],yJ _,rfl,rfl,by simp⟩
  case round=>
   obtain ⟨u,l,hu,rfl,rfl,ZT⟩:=hrel;(have hl:l.length≤20:=by have:=congrArg List.length ZT;simp only [List.length_append] at this;omega);(have hl2:(bs l).size≤20:=by rw [cK];exact hl);have HC:=aA ZT;clear ZT hl;by_cases hu0:u=0
   ·subst hu0;go_wp2;go_ret;exact ⟨aCl (congrArg bs ((uH HC).trans (uH hit))),rfl⟩
   ·go_wp2;(go_round);(case rel=>exact ⟨u / 10,UInt8.ofNat (48+u % 10)::l,by omega,by go_num,aFm (by rw [aCe _ (by omega),aBH]),by rw [←uH HC,aBD hu0];simp⟩);case measure=>simp [intOf];omega
theorem vW (N:Nat) (w:World) (h0:N≠0) (hN:(N:Int)≤9223372036854775808) :
  cP 197 #[.int .i64 (-(N:Int))] w fun e w'=>e=.returned (.string (bs (Lib.itoa (-(N:Int)))))∧w'=w:=by
 have Gq:(Lib.decDigits N).length≤20:=by rw [Lib.decDigits_length];exact Lib.nDigits_le20 N (by omega)
 have hne:((-(N:Int))==0)=false:=by simp;omega
 have hit:Hid (45::dgs N=Lib.itoa (-(N:Int))):=aA (by rw [sU h0,Lib.itoa_neg _ (by omega)]);have QE:(dgs N).length≤20:=by rw [sU h0];exact Gq
 clear Gq;go_enter func197,ntmps197;go_wp2;go_loop [3,4,5] (fun o m _=>∃(u:Nat) (l:List UInt8),u≤N∧m=.int .i64 (-(u:Int))∧o=.string (bs l)∧dgs u++l=dgs N) (fun _ m _=>(-(intOf m)).toNat);case atStart=>exact ⟨N,[],yJ _,rfl,rfl,by simp⟩
 case round=>
  obtain ⟨u,l,hu,rfl,rfl,ZT⟩:=hrel;have hl:l.length≤20:=by have:=congrArg List.length ZT;simp only [List.length_append] at this;omega
  have hl2:(bs l).size≤20:=by rw [cK];exact hl
  have HC:=aA ZT;clear ZT hl;by_cases hu0:u=0
  ·subst hu0;go_wp2;go_ret;exact ⟨aCl (by rw [aBH];exact congrArg bs ((congrArg (fun t=>45::t) (uH HC)).trans (uH hit))),rfl⟩
  ·go_wp2
   ·(go_round);(case rel=>exact ⟨u / 10,UInt8.ofNat (48+u % 10)::l,by omega,by go_num,aFm (by rw [aCe _ (by omega),aBH]),by rw [←uH HC,aBD hu0];simp⟩);case measure=>simp [intOf];omega
   ·(have hd:(u:Int) % 10≤0:=by assumption);(go_round);(case rel=>exact ⟨u / 10,UInt8.ofNat (48+u % 10)::l,by omega,by go_num,aFm (by rw [show (-((u:Int) % 10)).toNat=u % 10 from by omega,show (-((u:Int) % 10)+1).toNat=u % 10+1 from by omega,aCe _ (by omega),aBH]),by rw [←uH HC,aBD hu0];simp⟩);case measure=>simp [intOf];omega
theorem vX (n:Int) (w:World) (h0 : -9223372036854775808≤n) (h1:n≤9223372036854775807) :
  cP 197 #[.int .i64 n] w fun e w'=>e=.returned (.string (bs (Lib.itoa n)))∧w'=w:=by
 by_cases h:0≤n
 ·obtain ⟨N,rfl⟩:=Int.eq_ofNat_of_zero_le h;exact vV N w h1
 ·obtain ⟨N,hN⟩:=Int.eq_ofNat_of_zero_le (a:=-n) (by omega);have e:n = -(N:Int):=by omega
  subst e;exact vW N w (by omega) (by omega)
theorem aDb (h:bZ B w v ps):∃ao cap,v=.slice ao ps.length cap∧(ps.length=0∨∃g,ao=some ⟨g,0,none⟩∧g<w.heap.size∧∀j (hj:j<ps.length),w.cell? ⟨g,j,none⟩=some (.string (bs ps[j]))):=by
 by_cases h0:ps.length=0
 ·rcases h.2 with ⟨rfl,_⟩ | ⟨g,cap,cur,rfl,_⟩
  ·exact ⟨none,0,by rw [h0],.inl h0⟩
  ·exact ⟨some ⟨g,0,none⟩,cap,by simp,.inl h0⟩
 ·obtain ⟨g,cap,rfl,hs,_⟩:=zU h (by simp;omega);refine ⟨some ⟨g,0,none⟩,cap,by simp,.inr ⟨g,rfl,hs.lt,fun j hj=>?_⟩⟩;have:=hs.cell j (by simpa using hj);simpa using this
def aIr (w0:World) (b p c r:Nat) (x:ByteArray) (w:World):Prop:=(w.cell? ⟨b,p,none⟩=some (.string x)∧w.cell? ⟨c,r,none⟩=some (.string x))∧Bw w0 w
theorem aIr.drew {x:ByteArray} (h:aIr w0 b p c r x w):aIr w0 b p c r x w.drew:=⟨h.1,h.2.drew⟩
theorem aIr.read (w0:World) (b p c r:Nat) (x:ByteArray):∀wx,aIr w0 b p c r x wx→wx.cell? ⟨b,p,none⟩=some (.string x)∧wx.cell? ⟨c,r,none⟩=some (.string x):=fun wx h=>h.1
theorem yX (B B':Nat) (v v':Value) (ps:List (List UInt8)) (w:World) (h:bZ B w v ps) (h':bZ B' w v' ps) (hl:ps.length≤1048576) :
  cP 14 #[v,v'] w fun e w'=>e=.returned (.bool true)∧Bw w w':=by
 obtain ⟨ao,cap,rfl,hr⟩:=aDb h;obtain ⟨bo,ccap,rfl,hr'⟩:=aDb h';have HR:=aA hr;have HR':=aA hr';obtain ⟨n,hn⟩:∃n,ps.length=n:=⟨_,rfl⟩;rw [hn] at hl ⊢;have HN:=aA hn;clear h h' hr hr' hn;go_enter func14,ntmps14;go_wp2;go_loopw [5] (fun i wr=>∃k:Nat,k≤n∧i=.int .i64 k∧Hid (Bw w wr)) (fun i _=>n - (intOf i).toNat);case atStart=>exact ⟨0,Nat.zero_le _,rfl,aA (yH _ _)⟩
 case round=>
  obtain ⟨k,hk,rfl,HB⟩:=hrel;by_cases hlt:k<n
  ·(have hkl:k<ps.length:=by have:=uH HN;omega);obtain ⟨g,rfl,hg,hc⟩:∃g,ao=some ⟨g,0,none⟩∧g<w.heap.size∧∀j (hj:j<ps.length),w.cell? ⟨g,j,none⟩=some (.string (bs ps[j])):=by
    rcases uH HR with e | e
    ·omega
    ·exact e
   obtain ⟨g',rfl,hg',hc'⟩:∃g,bo=some ⟨g,0,none⟩∧g<w.heap.size∧∀j (hj:j<ps.length),w.cell? ⟨g,j,none⟩=some (.string (bs ps[j])):=by
    rcases uH HR' with e | e
    ·omega
    ·exact e
   have A0:=aA (show aIr w g k g' k (bs ps[k]) wr from ⟨⟨((uH HB).cell hg).trans (hc k hkl),((uH HB).cell hg').trans (hc' k hkl)⟩,uH HB⟩);obtain ⟨x,hx⟩:∃x,bs ps[k]=x:=⟨_,rfl⟩;rw [hx] at A0;have R:=aIr.read w g k g' k x;(have k0:(0:Int)≤k:=by omega);(have k1:(k:Int)<n:=by omega);clear hc hc' hx hkl hg hg';(go_wp2_with fail);go_region_held3 (fun wx=>aIr w g k g' k x wx)
    (first | (with_reducible assumption) | exact (uH A0).drew)
    (fail)
   have HB2:=aA (uH A0).2.drew;clear R A0 HR HR';go_wp2;go_roundw;(case rel=>exact ⟨k+1,by omega,by go_num,HB2⟩);case measure=>simp [intOf];omega
  ·go_wp2;go_ret;exact ⟨rfl,uH HB⟩
def QTw (w0:World) (b p c r:Nat) (q:Q) (w:World):Prop:=QAt w b p q∧QAt w c r q∧Bw w0 w
theorem QTw.drew {q:Q} (h:QTw w0 b p c r q w):QTw w0 b p c r q w.drew:=⟨h.1.below (yH _ _).drew,h.2.1.below (yH _ _).drew,h.2.2.drew⟩
theorem QTw.read (w0:World) (b p c r:Nat) (q:Q):∀wx,QTw w0 b p c r q wx→(wx.cell? ⟨b,p,none⟩=some (.string (bs q.name))∧wx.cell? ⟨b,p+1,none⟩=some (.string (bs q.parent))∧wx.cell? ⟨b,p+2,none⟩=some (.int .i64 q.due)∧wx.cell? ⟨b,p+3,none⟩=some (.int .i64 q.most))∧wx.cell? ⟨c,r,none⟩=some (.string (bs q.name))∧wx.cell? ⟨c,r+1,none⟩=some (.string (bs q.parent))∧wx.cell? ⟨c,r+2,none⟩=some (.int .i64 q.due)∧wx.cell? ⟨c,r+3,none⟩=some (.int .i64 q.most):=fun wx h=>⟨h.1,h.2.1⟩
theorem wC (ao bo:Option Addr) (len cap ccap:Nat) (l:List Q) (w:World) (h:gH w ao len l) (h':gH w bo len l) (hl:len≤1048576) :
  cP 59 #[.slice ao len cap,.slice bo len ccap] w fun e w'=>e=.returned (.bool true)∧Bw w w':=by
 have HR:=aA h;have HR':=aA h';have HL:=aA h.1;clear h h';go_enter func59,ntmps59;go_wp2;go_loopw [5] (fun i wr=>∃k:Nat,k≤len∧i=.int .i64 k∧Hid (Bw w wr)) (fun i _=>len - (intOf i).toNat);case atStart=>exact ⟨0,Nat.zero_le _,rfl,aA (yH _ _)⟩
 case round=>
  obtain ⟨k,hk,rfl,HB⟩:=hrel;by_cases hlt:k<len
  ·obtain ⟨b,off,rfl,hq⟩:=((uH HR).below (uH HB)).at hlt;obtain ⟨c,coff,rfl,hq'⟩:=((uH HR').below (uH HB)).at hlt;(have hkl:k<l.length:=by have:=uH HL;omega);have A0:=aA (show QTw w b (off+k*4) c (coff+k*4) l[k] wr from ⟨hq hkl,hq' hkl,uH HB⟩);obtain ⟨q,hs⟩:∃q,l[k]=q:=⟨_,rfl⟩;rw [hs] at A0;have R:=QTw.read w b (off+k*4) c (coff+k*4) q;(have k0:(0:Int)≤k:=by omega);(have k1:(k:Int)<len:=by omega);clear hq hq' hs hkl;(go_wp2_with fail);go_region_held3 (fun wx=>QTw w b (off+k*4) c (coff+k*4) q wx)
    (first | (with_reducible assumption) | exact (uH A0).drew)
    (fail)
   have HB2:=aA (uH A0).2.2.drew;clear R A0 HR HR';go_wp2;go_roundw;(case rel=>exact ⟨k+1,by omega,by go_num,HB2⟩);case measure=>simp [intOf];omega
  ·go_wp2;go_ret;exact ⟨rfl,uH HB⟩
def aHX (w:World) (a:Option Addr) (len cap:Nat) (zs:List Int):Prop:=
 (a=none∧len=0∧cap=0∧zs=[])∨
 ∃x,a=some x∧len≤cap∧cap≤maxLen∧zs.length=cap∧(∀i,i<zs.length→w.cell? (x.add i)=some (.int .u8 (zs.getD i 0)))∧∀n ∈ zs,(Lit.int .u8 n).wf=true
theorem aHX.len {a:Option Addr} {len:Nat} (h:aHX w a len cap zs):len≤9223372036854775807:=by
 rcases h with ⟨_,h0,_⟩ | ⟨x,rfl,h1,h2,_⟩
 ·omega
 ·unfold maxLen at h2;omega
theorem aJk {a:Option Addr} {len:Nat} (h:aHX w a len cap zs) (hl:len≤1048576):Code w w.heap.size a len:=by
 refine ⟨yJ _,hl,?_⟩;rcases h with ⟨_,h0,_⟩ | ⟨x,rfl,h1,h2,h3,h4,h5⟩
 ·exact .inl h0
 ·by_cases h0:len=0
  ·exact .inl h0
  ·refine .inr ?_;obtain ⟨b,off,spot⟩:=x;have hc0:=h4 0 (by omega);(have jy:spot=none:=by simpa [Addr.add] using World.cell?_spot hc0);subst jy;rw [Lib.add_plain] at hc0;refine ⟨b,off,fun j=>(zs.getD j 0),rfl,yG hc0,fun j hj=>?_,fun j=>?_⟩
   ·have:=h4 j (by omega);rw [Lib.add_plain] at this;exact this
   ·by_cases hj:j<zs.length
    ·have hw:=h5 zs[j] (yM hj);have hb:=bounds_u8 hw;simp only [List.getD_eq_getElem?_getD,List.getElem?_eq_getElem hj,Option.getD_some];omega
    ·simp only [List.getD_eq_getElem?_getD,List.getElem?_eq_none (Nat.le_of_not_lt hj),Option.getD_none];omega
def aK8 (len:Nat):Bool:=decide (1048576<(len:Int))
theorem aHD (a:Option Addr) (len cap:Nat) (w:World) (h:len≤9223372036854775807) :
  cP 5 #[.slice a len cap] w fun e w'=>e=.returned (.bool (aK8 len))∧w=w':=by
 go_enter func5,ntmps5
 go_wp2;go_ret;exact ⟨rfl,rfl⟩
theorem yRq {Q:Exit→Act→World→Prop} {md:Region.Mode} (i:Nat) (ho:ops[i]? = some o) (h:∀K':Act→World→Prop,Shut (∀a w,S w→(S w→wpAnyH P md ops Q S fuel (listed.setIfInBounds i true) a w)→K' a w)→if Region.wanted o (yielded ops a.tmps)=true then Oper.wp P o a w K' Q else K' (a.put o.dst undef) w) (hr:Region.ready md ops listed=[i]:=by kernel_rfl) : wpAnyH P md ops Q S (fuel+1) listed a w:=wpAnyH_ready hr (by simp) (AllReadyH.cons ho h AllReadyH.nil)
theorem ySq {Q:Exit→Act→World→Prop} {md:Region.Mode} {q:Oper} (i j:Nat) (ho:ops[i]? = some o) (hq:ops[j]? = some q) (h:∀K':Act→World→Prop,Shut (∀a w,S w→(S w→wpAnyH P md ops Q S fuel (listed.setIfInBounds i true) a w)→K' a w)→if Region.wanted o (yielded ops a.tmps)=true then Oper.wp P o a w K' Q else K' (a.put o.dst undef) w) (g:∀K':Act→World→Prop,Shut (∀a w,S w→(S w→wpAnyH P md ops Q S fuel (listed.setIfInBounds j true) a w)→K' a w)→if Region.wanted q (yielded ops a.tmps)=true then Oper.wp P q a w K' Q else K' (a.put q.dst undef) w) (hr:Region.ready md ops listed=[i,j]:=by kernel_rfl) : wpAnyH P md ops Q S (fuel+1) listed a w:=wpAnyH_ready hr (by simp) (AllReadyH.cons ho h (AllReadyH.cons hq g AllReadyH.nil))
end
end Go.Proofs.YtfndhndlkcijoaaGreat
