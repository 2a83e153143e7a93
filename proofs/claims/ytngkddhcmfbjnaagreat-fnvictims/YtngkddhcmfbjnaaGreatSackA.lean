/-
  Texts in one: Base, WpL, Grow, ResV, QV, KeptV, QBlk, SzQ2, EqQ, TxtM, OpenQ, StAll, StrS, DecM, MarkT, CelV, Cel, MarkFM, MarkFC, MarkAM, MarkH, HeldQ, ScS, HeldK, OwnM, OwnC, Clone, QOwn, CopyC, PlaceM, Draw, Dec, TakeD, RegX, In, Res, BothM, Place, QSum, All, NameS, QueuesOkM, BlM, ResI, Digit, Name, CountI, QBox, PairI, OrI, KpAB, WithM, WithinS, Held, StoC, IntS, SOwn, TextsR, ShareS, HeapM, OrdM, StvO, RatioS, Var4, HeapU, InsT, AppN, MarkX, BsI, VicX, WithinI, TxtB, InvR, SortT, HBk, Code.
-/
import Derived.Below
import Derived.Test.YtngkddhcmfbjnaaGreatRows
import Derived.WalkKit
import Derived.WalkSpells
import Derived.WalkLawsBesides
import Derived.BigQuiet
import Derived.Deep.WholeRow
import Derived.Laws.MakeOwn
import Derived.Deep.RegionHeld3
import Derived.ProofKit
import Derived.OpenShut
import Derived.ChangeSame
import Derived.Deep.Slices
import Derived.Lib.ItoaMem
import Derived.Deep.CutBlock
import Derived.Deep.CutRange
import Derived.Lib.ItoaLen
import Derived.Laws.IdiomStrings
import Derived.Deep.QuietTactic
import Derived.Deep.RegionWith
import Derived.Laws.AppendOwn
import Derived.Lib.SliceRun
import Derived.Test.YtngkddhcmfbjnaaGreatShelf
import Derived.RangeFuncNested
import Derived.RangeFuncBound
import Derived.RangeFuncCalls
import Derived.RangeFuncLeaves
import Derived.Shelf.Abstract
import Derived.Shelf.AbstractIn
import Derived.Shelf.RegionOpen
import Derived.OwnWalkIn
import Derived.TacticsInMore
import Derived.LoopNIn
import Derived.LoopIn
import Derived.Laws.Tables
import Derived.Deep.MidRow
import Derived.Great.BuildSlice
import Derived.Sort.Walk0
import Derived.Laws.AppendOwnNone
import Derived.Sort.OwnSorted
set_option maxRecDepth 100000
set_option maxHeartbeats 16000000
set_option linter.unusedVariables false
set_option linter.unusedSimpArgs false
namespace Go.Proofs.YtngkddhcmfbjnaaGreat
section
open Go.RowKit
variable {arr:Array Value} {a b x y:Int} {c g k n p:Nat} {ao:Option Addr} {r:Option Nat} {t:TypeId} {a0 a1 a2 a3 a4:Value} {w w' w0 w1 w2:World}
theorem aA {p:Prop} (h:p):Hid p:=h
theorem sA {α:Type _} (l : List α) (i : Nat) (a : α) : l.toArray.setIfInBounds i a = (l.set i a).toArray := List.setIfInBounds_toArray ..
theorem sB {α:Type _} (x : α) (l : List α) (a : α) : (x :: l).set 0 a = a :: l := rfl
theorem sC {α:Type _} (x : α) (l : List α) (n : Nat) (a : α) : (x :: l).set (n + 1) a = x :: l.set n a := rfl
theorem zW : (∀ (a : Act) (d : Nat) (v : Value), a.put (some d) v = { a with tmps := a.tmps.setIfInBounds d v }) ∧ (∀ (a : Act) (v : Value), a.put none v = a) ∧ (∀ {α : Type} (l : List α) (i : Nat) (a : α), l.toArray.setIfInBounds i a = (l.set i a).toArray) ∧ (∀ {α : Type} (x : α) (l : List α) (a : α), (x :: l).set 0 a = a :: l) ∧ (∀ {α : Type} (x : α) (l : List α) (n : Nat) (a : α), (x :: l).set (n + 1) a = x :: l.set n a) := ⟨fun _ _ _ => rfl, fun _ _ => rfl, fun _ _ _ => List.setIfInBounds_toArray .., fun _ _ _ => rfl, fun _ _ _ _ => rfl⟩
theorem yH (B : Nat) (w : World) : Below B w w := ⟨rfl, rfl, rfl, Nat.le.refl, fun _ _ => rfl⟩
theorem yJ (n : Nat) : n ≤ n := Nat.le.refl
theorem yK (a b : Bool) : ((a && b) = true) = (a = true ∧ b = true) := by cases a <;> cases b <;> simp
theorem yL {p:Prop} [Decidable p] : (decide p = true) = p := propext (decide_eq_true_iff ..)
theorem yM {α:Type _} {l:List α} (h : n < l.length) : l[n] ∈ l := List.mem_of_getElem rfl
abbrev Bw (w w':World):Prop:=Below w.heap.size w w'
abbrev cP:=Calls Tryz.prog
theorem uH {p:Prop} (h:Hid p):p:=h
theorem yF {a b:Bool} (h:a=b):Ending.returned (.bool a)=.returned (.bool b):=by rw [h]
theorem eP {k:IntKind} (h:a=b):Ending.returned (.int k a)=.returned (.int k b):=by rw [h]
theorem aH6 (c:UInt8):(c.toNat:Int)≤255:=by have:=c.toNat_lt;omega
def inB (x a b:Int):Bool:=decide (a≤x∧x≤b)
theorem cZ (h1:a≤x) (h2:x≤b):inB x a b=true:=by simp [inB,h1,h2]
theorem bK (h:¬(a≤x∧x≤b)):inB x a b=false:=by simp only [inB,decide_eq_false_iff_not];exact h
theorem aGW {a b:ByteArray} (h:a=b):Value.string a=.string b:=by rw [h]
theorem aDW {a b:ByteArray} (h:a=b):Ending.returned (.string a)=.returned (.string b):=by rw [h]
def bs (l:List UInt8):ByteArray:=⟨l.toArray⟩
theorem dD (l:List UInt8):(bs l).size=l.length:=by simp [bs,ByteArray.size]
theorem aB9 (c:UInt8) (l:List UInt8):(ByteArray.mk #[c])++bs l=bs (c::l):=by
 unfold bs;rw [ByteArray.mk_append_mk];simp
theorem aGQ (s:ByteArray) (k:Nat) (h:k<s.size):s.data.toList.take (k+1)=s.data.toList.take k++[s[k]]:=by
 rw [List.take_succ_eq_append_getElem (by simpa using h)];rfl
theorem aAq (s:ByteArray) (k:Nat) (h:s.size≤k):s.data.toList.take k=s.data.toList:=List.take_of_length_le (by simpa using h)
theorem aEf (s:ByteArray):s.data.toList.length=s.size:=by simp
section
variable {P:Program} {ops:Array Oper} {Q:Exit→Act→World→Prop} {a:Act} {w w':World} {rest:List Oper} {o:Oper} {v:Value} {d:Option Tmp}
theorem eH (hg:o.guard=none) (hd:o.dst=d) (hr:(execOp a.eval o).run P w=.ok (.value v) w') (h:wpList P ops Q rest (a.put d v) w'):wpList P ops Q (o::rest) a w:=
 wpList_plain hg fun K hK=>by
  subst hd
  unfold Oper.wp
  rw [hr]
  exact hK _ _ h
theorem aC (hg:o.guard=none) (hd:o.dst=d) (hr:(execOp a.eval o).run P w=.ok (.value v) w) (h:wpList P ops Q rest (a.put d v) w):wpList P ops Q (o::rest) a w:=eH hg hd hr h
theorem bM (hg:o.guard=none) (hd:o.dst=d) (hr:(execOp a.eval o).run P w=.ok .skip w') (h:wpList P ops Q rest (a.put d undef) w'):wpList P ops Q (o::rest) a w:=
 wpList_plain hg fun K hK=>by
  subst hd
  unfold Oper.wp
  rw [hr]
  exact hK _ _ h
theorem bI {s:Sem Value} (h:s.run P w=.ok v w'):(do pure (Next.value (←s)):Sem Next).run P w=.ok (.value v) w':=by rw [Sem.run_bind,h];rfl
theorem fC {s:Sem Unit} (h:s.run P w=.ok () w'):(do s;pure Next.skip:Sem Next).run P w=.ok .skip w':=by rw [Sem.run_bind,h];rfl
end
theorem aF (w:World) (r:Option Nat):w.grownBy w r:=⟨rfl,rfl,rfl,yJ _,fun _ _ _=>rfl⟩
theorem bR (h:w.grownBy w1 r) (k:w1.grownBy w2 r):w.grownBy w2 r:=
 ⟨k.os.trans h.os,k.tape.trans h.tape,k.output.trans h.output,Nat.le_trans h.size k.size,fun i hi hn=>(k.block i (Nat.lt_of_lt_of_le hi h.size) hn).trans (h.block i hi hn)⟩
theorem aG (h:w.grownBy w1 r) (hb:Bw w1 w2):w.grownBy w2 r:=
 ⟨hb.os.trans h.os,hb.tape.trans h.tape,hb.output.trans h.output,Nat.le_trans h.size hb.size,fun k hk hn=>(hb.block k (Nat.lt_of_lt_of_le hk h.size)).trans (h.block k hk hn)⟩
theorem dM (h:w.grownBy w1 (some g)) (j:Nat) (v:Value):w.grownBy (w1.setCell ⟨g,j,none⟩ v) (some g):=
 ⟨h.os,h.tape,h.output,by simpa using h.size,fun k hk hn=>by
  rw [heap_setCell_other w1 ⟨g,j,none⟩ k v (fun e=>hn (by rw [e]))]
  exact h.block k hk hn⟩
theorem mE (h:w.grownBy w1 r) (n:Nat):w.grownBy (w1.drewN n) r:=aG h (below_drewN (yH _ _) n)
theorem kG {B:Nat} {a:World} (h:Below B a w) (hg:w.grownBy w' (some g)) (hB:B≤w.heap.size) (hr:B≤g):Below B a w':=h.grown hg hB (fun k hk=>by cases hk;exact hr)
theorem yG {b o:Nat} {v:Value} (h:w.cell? ⟨b,o,none⟩=some v):b<w.heap.size:=
 Nat.lt_of_not_le (fun hle=>by simp [World.cell?,Array.getElem?_eq_none hle] at h)
abbrev rv (a b:Int):Value:=.agg #[.int .i64 a,.int .i64 b]
def aM (a b:Int):Bool:=inB a 0 1000000000&&inB b 0 1000000000
theorem aO (h:aM a b=true):0≤a∧a≤1000000000∧0≤b∧b≤1000000000:=by
 simp only [aM,inB,yK,yL] at h
 omega
theorem yA (h:Bw w w1) (o:Obj):Bw w (w1.alloc o):=h.alloc h.size o
theorem yC (h:Bw w w1) (b j:Nat) (v:Value) (hb:w.heap.size≤b):Bw w (w1.setCell ⟨b,j,none⟩ v):=h.setCell hb v
theorem yB (h:Bw w w1) (k:Bw w1 w2):Bw w w2:=Below.trans h (k.mono h.size)
def Var (w:World) (t:TypeId) (g:Nat) (x y:Int):Prop:=w.heap[g]? = some (.cells #[.int .i64 x,.int .i64 y] t (0,0))
theorem Var.c0 (h:Var w t g x y):w.cell? ⟨g,0,none⟩=some (.int .i64 x):=by unfold Var at h;simp [World.cell?,h]
theorem Var.c1 (h:Var w t g x y):w.cell? ⟨g,1,none⟩=some (.int .i64 y):=by unfold Var at h;simp [World.cell?,h]
theorem Var.f (h:Var w t g x y) (j:Nat):w.frozen? ⟨g,j,none⟩=false:=by unfold Var at h;simp [World.frozen?,h]
theorem Var.lt (h:Var w t g x y):g<w.heap.size:=lt_of_block h
theorem Var.same (h:Var w t g x y) (e:w'.heap[g]? = w.heap[g]?):Var w' t g x y:=e.trans h
theorem Var.below (h:Var w t g x y) (hb:Bw w w'):Var w' t g x y:=(hb.block g h.lt).trans h
theorem bD (w:World) (t:TypeId) (x y:Int):Var (w.alloc (.cells #[.int .i64 x,.int .i64 y] t)) t w.heap.size x y:=by show (w.heap.push _)[w.heap.size]? = _;simp
theorem jK (w:World) (t u:TypeId) (a b x y:Int):Var ((w.alloc (.cells #[.int .i64 a,.int .i64 b] t)).alloc (.cells #[.int .i64 x,.int .i64 y] u)) u (w.heap.size+1) x y:=by
 have:=bD (w.alloc (.cells #[.int .i64 a,.int .i64 b] t)) u x y
 simpa using this
theorem Var.s0 (h:Var w t g x y) (u:Value):(w.setCell ⟨g,0,none⟩ u).cell? ⟨g,0,none⟩=some u:=World.cell?_setCell_same w _ _ h.c0
theorem Var.s1 (h:Var w t g x y) (u v:Value):((w.setCell ⟨g,0,none⟩ u).setCell ⟨g,1,none⟩ v).cell? ⟨g,1,none⟩=some v:=by
 refine World.cell?_setCell_same _ _ _ (u:=.int .i64 y) ?_
 have h1:=heap_setCell_same w g 0 _ _ u h
 simp [World.cell?,h1]
theorem Var.set (h:Var w t g a b) (x y:Int):Var ((w.setCell ⟨g,0,none⟩ (.int .i64 x)).setCell ⟨g,1,none⟩ (.int .i64 y)) t g x y:=by
 have h1:=heap_setCell_same w g 0 _ _ (.int .i64 x) h
 exact heap_setCell_same _ g 1 _ _ (.int .i64 y) h1
theorem Var.al (h:Var w t g x y) (o:Obj):Var (w.alloc o) t g x y:=h.below (yA (yH _ _) o)
theorem Var.drew (h:Var w t g x y):Var w.drew t g x y:=h
theorem Var.other (h:Var w t g x y) (k j:Nat) (v:Value) (hn:g≠k):Var (w.setCell ⟨k,j,none⟩ v) t g x y:=h.same (heap_setCell_other w ⟨k,j,none⟩ g v hn)
def Boxed (w0:World) (t:TypeId) (a b:Int) (wx:World):Prop:=Var wx t w0.heap.size a b∧Bw w0 wx
theorem Boxed.new (w0:World) (t:TypeId) (a b:Int):Boxed w0 t a b (w0.alloc (.cells #[.int .i64 a,.int .i64 b] t)):=⟨bD w0 t a b,yA (yH _ _) _⟩
theorem Boxed.call (h:Boxed w0 t a b w1) (hb:Bw w1 w2):Boxed w0 t a b w2:=⟨h.1.below hb,yB h.2 hb⟩
theorem Boxed.drew (h:Boxed w0 t a b w1):Boxed w0 t a b w1.drew:=h.call (yH _ _).drew
theorem Boxed.read (w0:World) (t:TypeId) (a b:Int):∀wx,Boxed w0 t a b wx→wx.cell? ⟨w0.heap.size,0,none⟩=some (.int .i64 a)∧wx.cell? ⟨w0.heap.size,1,none⟩=some (.int .i64 b):=fun wx h=>⟨h.1.c0,h.1.c1⟩
structure Q where
 name:List UInt8
 parent:List UInt8
 due:Int
 most:Int
abbrev qv (q:Q):Value:=.agg #[.string (bs q.name),.string (bs q.parent),.int .i64 q.due,.int .i64 q.most]
def QAt (w:World) (b p:Nat) (q:Q):Prop:=
 w.cell? ⟨b,p,none⟩=some (.string (bs q.name))∧w.cell? ⟨b,p+1,none⟩=some (.string (bs q.parent))∧w.cell? ⟨b,p+2,none⟩=some (.int .i64 q.due)∧w.cell? ⟨b,p+3,none⟩=some (.int .i64 q.most)
def gJ (w:World) (ao:Option Addr) (len:Nat) (l:List Q):Prop:=
 len=l.length∧(len=0∨∃b off,ao=some ⟨b,off,none⟩∧∀i (h:i<l.length),QAt w b (off+i*4) l[i])
theorem QAt.lt {b:Nat} {q:Q} (h:QAt w b p q):b<w.heap.size:=yG h.1
theorem QAt.below {b:Nat} {q:Q} (h:QAt w b p q) (hb:Bw w w'):QAt w' b p q:=
 ⟨(hb.cell h.lt).trans h.1,(hb.cell h.lt).trans h.2.1,(hb.cell h.lt).trans h.2.2.1,(hb.cell h.lt).trans h.2.2.2⟩
theorem gJ.below {len:Nat} {l:List Q} (h:gJ w ao len l) (hb:Bw w w'):gJ w' ao len l:=by
 obtain ⟨h1,h2⟩:=h
 refine ⟨h1,?_⟩
 rcases h2 with h2 | ⟨b,off,h3,h4⟩
 ·exact .inl h2
 ·exact .inr ⟨b,off,h3,fun i h=>(h4 i h).below hb⟩
theorem gJ.nil (w:World) (ao:Option Addr):gJ w ao 0 []:=⟨rfl,.inl rfl⟩
theorem gJ.at {len:Nat} {l:List Q} (h:gJ w ao len l) {i:Nat} (hi:i<len):∃b off,ao=some ⟨b,off,none⟩∧∀(h:i<l.length),QAt w b (off+i*4) l[i]:=by
 obtain ⟨h1,h2⟩:=h
 rcases h2 with h2 | ⟨b,off,h3,h4⟩
 ·omega
 ·exact ⟨b,off,h3,fun hi=>h4 i hi⟩
def Blk (w:World) (g:Nat) (arr:Array Value) (t:TypeId):Prop:=w.heap[g]? = some (.cells arr t (0,0))
theorem Blk.lt (h:Blk w g arr t):g<w.heap.size:=lt_of_block h
theorem Blk.below (h:Blk w g arr t) (hb:Bw w w'):Blk w' g arr t:=(hb.block g h.lt).trans h
theorem Blk.at (h:Blk w g arr t) (j:Nat):w.cell? ⟨g,j,none⟩=arr[j]?:=by
 unfold Blk at h;simp [World.cell?,h]
theorem Blk.f (h:Blk w g arr t) (j:Nat):w.frozen? ⟨g,j,none⟩=false:=by
 unfold Blk at h;simp [World.frozen?,h]
theorem Blk.al (h:Blk w g arr t) (o:Obj):Blk (w.alloc o) g arr t:=h.below (yA (yH _ _) o)
theorem Blk.drew (h:Blk w g arr t):Blk w.drew g arr t:=h
theorem Blk.set (h:Blk w g arr t) (j:Nat) (v:Value):Blk (w.setCell ⟨g,j,none⟩ v) g (arr.setIfInBounds j v) t:=heap_setCell_same w g j _ _ v h
theorem Blk.other (h:Blk w g arr t) (k j:Nat) (v:Value) (hn:g≠k):Blk (w.setCell ⟨k,j,none⟩ v) g arr t:=(heap_setCell_other w ⟨k,j,none⟩ g v hn).trans h
theorem yD (w:World) (arr:Array Value) (t:TypeId):Blk (w.alloc (.cells arr t)) w.heap.size arr t:=by show (w.heap.push _)[w.heap.size]? = _;simp
theorem yE (w:World) (o:Obj):(w.alloc o).heap.size=w.heap.size+1:=by show (w.heap.push _).size=_;simp
theorem aIq (h:Bw w w1) (n:Nat):Bw w (w1.drewN n):=by
 induction n with
 | zero=>exact h
 | succ n ih=>exact ih.drew
theorem dY (w:World) (a:Addr) (v:Value):(w.setCell a v).heap.size=w.heap.size:=by unfold World.setCell;simp
theorem zq {b:Nat} {a5 a6 a7:Value} (h:Blk w b #[a0,a1,a2,a3,a4,a5,a6,a7] t):w.cell? ⟨b,0,none⟩=some a0∧w.cell? ⟨b,1,none⟩=some a1∧w.cell? ⟨b,2,none⟩=some a2∧w.cell? ⟨b,3,none⟩=some a3∧w.cell? ⟨b,4,none⟩=some a4∧w.cell? ⟨b,5,none⟩=some a5∧w.cell? ⟨b,6,none⟩=some a6∧w.cell? ⟨b,7,none⟩=some a7:=⟨h.at 0,h.at 1,h.at 2,h.at 3,h.at 4,h.at 5,h.at 6,h.at 7⟩
theorem zp {b:Nat} (h:Blk w b #[a0,a1,a2,a3,a4] t):w.cell? ⟨b,0,none⟩=some a0∧w.cell? ⟨b,1,none⟩=some a1∧w.cell? ⟨b,2,none⟩=some a2∧w.cell? ⟨b,3,none⟩=some a3∧w.cell? ⟨b,4,none⟩=some a4:=⟨h.at 0,h.at 1,h.at 2,h.at 3,h.at 4⟩
def sW (w:World) (t:TypeId) (g n k:Nat) (l:List Q):Prop:=
 ∃arr:Array Value,w.heap[g]? = some (.cells arr t (0,0))∧arr.size=n*4∧∀i (h:i<l.length),i<k→arr[i*4]? = some (.string (bs l[i].name))∧arr[i*4+1]? = some (.string (bs l[i].parent))∧arr[i*4+2]? = some (.int .i64 l[i].due)∧arr[i*4+3]? = some (.int .i64 l[i].most)
theorem sW.lt {l:List Q} (h:sW w t g n k l):g<w.heap.size:=let ⟨_,h,_⟩:=h;lt_of_block h
theorem sW.below {l:List Q} (h:sW w t g n k l) (hb:Bw w w'):sW w' t g n k l:=by
 have hlt:=h.lt
 obtain ⟨arr,h1,h2⟩:=h
 exact ⟨arr,(hb.block g hlt).trans h1,h2⟩
theorem sW.cell {l:List Q} (h:sW w t g n k l) {j:Nat} (hj:j<n*4):∃v,w.cell? ⟨g,j,none⟩=some v:=by
 obtain ⟨arr,h1,h2,_⟩:=h
 exact ⟨arr[j]'(by omega),by simp [World.cell?,h1,Array.getElem?_eq_getElem (show j<arr.size by omega)]⟩
theorem sW.frozen {l:List Q} (h:sW w t g n k l) (j:Nat):w.frozen? ⟨g,j,none⟩=false:=by
 obtain ⟨arr,h1,h2,_⟩:=h
 simp [World.frozen?,h1]
theorem sW.row {l:List Q} (h:sW w t g n n l) (hl:n=l.length):gJ w (some ⟨g,0,none⟩) n l:=by
 obtain ⟨arr,h1,h2,h3⟩:=h
 refine ⟨hl,.inr ⟨g,0,rfl,fun i hi=>?_⟩⟩
 obtain ⟨a,b,c,d⟩:=h3 i hi (by omega)
 unfold QAt
 simp only [Nat.zero_add]
 exact ⟨by simp [World.cell?,h1,a],by simp [World.cell?,h1,b],by simp [World.cell?,h1,c],by simp [World.cell?,h1,d]⟩
def aL9 (w:World) (g p:Nat) (q:Q):World:=(((w.setCell ⟨g,p,none⟩ (.string (bs q.name))).setCell ⟨g,p+1,none⟩ (.string (bs q.parent))).setCell ⟨g,p+2,none⟩ (.int .i64 q.due)).setCell ⟨g,p+3,none⟩ (.int .i64 q.most)
theorem sW.step {l:List Q} (h:sW w t g n k l) (hk:k<n) (hl:k<l.length):sW (aL9 w g (k*4) l[k]) t g n (k+1) l:=by
 obtain ⟨arr,h1,h2,h3⟩:=h
 have e1:=heap_setCell_same w g (k*4) _ _ (.string (bs l[k].name)) h1
 have e2:=heap_setCell_same _ g (k*4+1) _ _ (.string (bs l[k].parent)) e1
 have e3:=heap_setCell_same _ g (k*4+2) _ _ (.int .i64 l[k].due) e2
 have e4:=heap_setCell_same _ g (k*4+3) _ _ (.int .i64 l[k].most) e3
 refine ⟨_,e4,by simp [h2],fun i hi hik=>?_⟩
 by_cases e:i=k
 ·subst e
  have q1:i*4+3<arr.size:=by omega
  refine ⟨?_,?_,?_,?_⟩<;>simp [Array.getElem?_setIfInBounds,h2]<;>omega
 ·obtain ⟨a,b,c,d⟩:=h3 i hi (by omega)
  refine ⟨?_,?_,?_,?_⟩
  ·rw [←a];simp only [Array.getElem?_setIfInBounds];repeat rw [if_neg (by omega)]
  ·rw [←b];simp only [Array.getElem?_setIfInBounds];repeat rw [if_neg (by omega)]
  ·rw [←c];simp only [Array.getElem?_setIfInBounds];repeat rw [if_neg (by omega)]
  ·rw [←d];simp only [Array.getElem?_setIfInBounds];repeat rw [if_neg (by omega)]
def aKs (w:World) (t:TypeId) (g n:Nat):Prop:=sW w t g n 0 []
theorem sW.any {l:List Q} (h:sW w t g n k l):aKs w t g n:=by
 obtain ⟨arr,h1,h2,_⟩:=h
 exact ⟨arr,h1,h2,fun i hi=>absurd hi (by simp)⟩
theorem aKs.set (h:aKs w t g n) (j:Nat) (v:Value):aKs (w.setCell ⟨g,j,none⟩ v) t g n:=by
 obtain ⟨arr,h1,h2,_⟩:=h
 exact ⟨_,heap_setCell_same w g j _ _ v h1,by simp [h2],fun i hi=>absurd hi (by simp)⟩
def aKL (l:List Q):Prop:=l.length≤1048576∧∀q ∈ l,q.name.length≤1048576∧q.parent.length≤1048576
def aJV (w0:World) (b p c r:Nat) (q:Q) (w:World):Prop:=QAt w b p q∧QAt w c r q∧Bw w0 w
theorem aJV.call {b r:Nat} {q:Q} (h:aJV w0 b p c r q w) (hb:Bw w w'):aJV w0 b p c r q w':=⟨h.1.below hb,h.2.1.below hb,yB h.2.2 hb⟩
theorem aJV.drew {b r:Nat} {q:Q} (h:aJV w0 b p c r q w):aJV w0 b p c r q w.drew:=h.call (yH _ _).drew
theorem aJV.read (w0:World) (b p c r:Nat) (q:Q):∀wx,aJV w0 b p c r q wx→wx.cell? ⟨b,p,none⟩=some (.string (bs q.name))∧wx.cell? ⟨b,p+1,none⟩=some (.string (bs q.parent))∧wx.cell? ⟨b,p+2,none⟩=some (.int .i64 q.due)∧wx.cell? ⟨b,p+3,none⟩=some (.int .i64 q.most)
  ∧wx.cell? ⟨c,r,none⟩=some (.string (bs q.name))∧wx.cell? ⟨c,r+1,none⟩=some (.string (bs q.parent))∧wx.cell? ⟨c,r+2,none⟩=some (.int .i64 q.due)∧wx.cell? ⟨c,r+3,none⟩=some (.int .i64 q.most):=
 fun wx h=>⟨h.1.1,h.1.2.1,h.1.2.2.1,h.1.2.2.2,h.2.1.1,h.2.1.2.1,h.2.1.2.2.1,h.2.1.2.2.2⟩
end
section
theorem lL (l m:List UInt8):((bs l).toList==(bs m).toList)=decide (l=m):=by
 rw [ByteArray.toList_eq,ByteArray.toList_eq]
 by_cases h:l=m
 ·subst h;simp
 ·simp [bs,h]
theorem qW (l:List UInt8):(bs l).toList.isEmpty=decide (l=[]):=by
 rw [ByteArray.toList_eq]
 cases l<;>simp [bs]
end
section
open Go.ChangeShapes Go.WideShapes Go.ChangeAt Go.RowKit Go.Deep
def aLx (q:Q):Prop:=q.name.length≤9223372036854775807∧q.parent.length≤9223372036854775807
end
end Go.Proofs.YtngkddhcmfbjnaaGreat
/-
 The laws' own toRes and eqRes,with the world behind them;walks over the dump.
-/
namespace Go.Proofs.YtngkddhcmfbjnaaGreat
open Go.RowKit
set_option linter.unusedVariables false
end Go.Proofs.YtngkddhcmfbjnaaGreat
/-
 Rows of Ask values: in memory,and rows that a call makes and fills one by one (mkrow.py wrote this).
-/
namespace Go.Proofs.YtngkddhcmfbjnaaGreat
open Go.RowKit
set_option linter.unusedVariables false
structure Ask where
 mem:Int
 cpu:Int
 count:Int
 node:List UInt8
 missed:Int
abbrev aKJ (q:Ask):Value:=.agg #[.int .i64 q.mem,.int .i64 q.cpu,.int .i64 q.count,.string (bs q.node),.int .i64 q.missed]
def sZ (w:World) (b p:Nat) (q:Ask):Prop:=
 w.cell? ⟨b,p,none⟩=some (.int .i64 q.mem)∧w.cell? ⟨b,p+1,none⟩=some (.int .i64 q.cpu)∧w.cell? ⟨b,p+2,none⟩=some (.int .i64 q.count)∧w.cell? ⟨b,p+3,none⟩=some (.string (bs q.node))∧w.cell? ⟨b,p+4,none⟩=some (.int .i64 q.missed)
def bE (w:World) (ao:Option Addr) (len:Nat) (l:List Ask):Prop:=
 len=l.length∧(len=0∨∃b off,ao=some ⟨b,off,none⟩∧∀i (h:i<l.length),sZ w b (off+i*5) l[i])
theorem sZ.lt {w:World} {b p:Nat} {q:Ask} (h:sZ w b p q):b<w.heap.size:=yG h.1
theorem sZ.below {w w':World} {b p:Nat} {q:Ask} (h:sZ w b p q) (hb:Bw w w'):sZ w' b p q:=
 ⟨(hb.cell h.lt).trans h.1,(hb.cell h.lt).trans h.2.1,(hb.cell h.lt).trans h.2.2.1,(hb.cell h.lt).trans h.2.2.2.1,(hb.cell h.lt).trans h.2.2.2.2⟩
theorem bE.below {w w':World} {ao:Option Addr} {len:Nat} {l:List Ask} (h:bE w ao len l) (hb:Bw w w'):bE w' ao len l:=by
 obtain ⟨h1,h2⟩:=h
 refine ⟨h1,?_⟩
 rcases h2 with h2 | ⟨b,off,h3,h4⟩
 ·exact .inl h2
 ·exact .inr ⟨b,off,h3,fun i h=>(h4 i h).below hb⟩
theorem bE.nil (w:World) (ao:Option Addr):bE w ao 0 []:=⟨rfl,.inl rfl⟩
theorem bE.at {w:World} {ao:Option Addr} {len:Nat} {l:List Ask} (h:bE w ao len l) {i:Nat} (hi:i<len):∃b off,ao=some ⟨b,off,none⟩∧∀(h:i<l.length),sZ w b (off+i*5) l[i]:=by
 obtain ⟨h1,h2⟩:=h
 rcases h2 with h2 | ⟨b,off,h3,h4⟩
 ·omega
 ·exact ⟨b,off,h3,fun hi=>h4 i hi⟩
def eU (w:World) (t:TypeId) (g n k:Nat) (l:List Ask):Prop:=
 ∃arr:Array Value,w.heap[g]? = some (.cells arr t (0,0))∧arr.size=n*5∧∀i (h:i<l.length),i<k→arr[i*5]? = some (.int .i64 l[i].mem)∧arr[i*5+1]? = some (.int .i64 l[i].cpu)∧arr[i*5+2]? = some (.int .i64 l[i].count)∧arr[i*5+3]? = some (.string (bs l[i].node))∧arr[i*5+4]? = some (.int .i64 l[i].missed)
theorem eU.lt {w:World} {t:TypeId} {g n k:Nat} {l:List Ask} (h:eU w t g n k l):g<w.heap.size:=let ⟨_,h,_⟩:=h;lt_of_block h
theorem eU.below {w w':World} {t:TypeId} {g n k:Nat} {l:List Ask} (h:eU w t g n k l) (hb:Bw w w'):eU w' t g n k l:=by
 have hlt:=h.lt
 obtain ⟨arr,h1,h2⟩:=h
 exact ⟨arr,(hb.block g hlt).trans h1,h2⟩
theorem eU.cell {w:World} {t:TypeId} {g n k:Nat} {l:List Ask} (h:eU w t g n k l) {j:Nat} (hj:j<n*5):∃v,w.cell? ⟨g,j,none⟩=some v:=by
 obtain ⟨arr,h1,h2,_⟩:=h
 exact ⟨arr[j]'(by omega),by simp [World.cell?,h1,Array.getElem?_eq_getElem (show j<arr.size by omega)]⟩
theorem eU.frozen {w:World} {t:TypeId} {g n k:Nat} {l:List Ask} (h:eU w t g n k l) (j:Nat):w.frozen? ⟨g,j,none⟩=false:=by
 obtain ⟨arr,h1,h2,_⟩:=h
 simp [World.frozen?,h1]
theorem eU.row {w:World} {t:TypeId} {g n:Nat} {l:List Ask} (h:eU w t g n n l) (hl:n=l.length):bE w (some ⟨g,0,none⟩) n l:=by
 obtain ⟨arr,h1,h2,h3⟩:=h
 refine ⟨hl,.inr ⟨g,0,rfl,fun i hi=>?_⟩⟩
 obtain ⟨a,b,c,d,e⟩:=h3 i hi (by omega)
 unfold sZ
 simp only [Nat.zero_add]
 exact ⟨by simp [World.cell?,h1,a],by simp [World.cell?,h1,b],by simp [World.cell?,h1,c],by simp [World.cell?,h1,d],by simp [World.cell?,h1,e]⟩
def aKW (w:World) (g p:Nat) (q:Ask):World:=(((((w.setCell ⟨g,p,none⟩ (.int .i64 q.mem)).setCell ⟨g,p+1,none⟩ (.int .i64 q.cpu)).setCell ⟨g,p+2,none⟩ (.int .i64 q.count)).setCell ⟨g,p+3,none⟩ (.string (bs q.node))).setCell ⟨g,p+4,none⟩ (.int .i64 q.missed))
theorem eU.step {w:World} {t:TypeId} {g n k:Nat} {l:List Ask} (h:eU w t g n k l) (hk:k<n) (hl:k<l.length):eU (aKW w g (k*5) l[k]) t g n (k+1) l:=by
 obtain ⟨arr,h1,h2,h3⟩:=h
 have e1:=heap_setCell_same w g (k*5) _ _ (.int .i64 l[k].mem) h1
 have e2:=heap_setCell_same _ g (k*5+1) _ _ (.int .i64 l[k].cpu) e1
 have e3:=heap_setCell_same _ g (k*5+2) _ _ (.int .i64 l[k].count) e2
 have e4:=heap_setCell_same _ g (k*5+3) _ _ (.string (bs l[k].node)) e3
 have e5:=heap_setCell_same _ g (k*5+4) _ _ (.int .i64 l[k].missed) e4
 refine ⟨_,e5,by simp [h2],fun i hi hik=>?_⟩
 by_cases e:i=k
 ·subst e
  have q1:i*5+4<arr.size:=by omega
  refine ⟨?_,?_,?_,?_,?_⟩<;>simp [Array.getElem?_setIfInBounds,h2]<;>omega
 ·obtain ⟨a,b,c,d,e⟩:=h3 i hi (by omega)
  refine ⟨?_,?_,?_,?_,?_⟩
  ·rw [←a];simp only [Array.getElem?_setIfInBounds];repeat rw [if_neg (by omega)]
  ·rw [←b];simp only [Array.getElem?_setIfInBounds];repeat rw [if_neg (by omega)]
  ·rw [←c];simp only [Array.getElem?_setIfInBounds];repeat rw [if_neg (by omega)]
  ·rw [←d];simp only [Array.getElem?_setIfInBounds];repeat rw [if_neg (by omega)]
  ·rw [←e];simp only [Array.getElem?_setIfInBounds];repeat rw [if_neg (by omega)]
end Go.Proofs.YtngkddhcmfbjnaaGreat
/-
 Rows of Machine values: in memory,and rows that a call makes and fills one by one (mkrow.py wrote this).
-/
namespace Go.Proofs.YtngkddhcmfbjnaaGreat
open Go.RowKit
set_option linter.unusedVariables false
structure Mac where
 name:List UInt8
 mem:Int
 cpu:Int
 seen:Int
abbrev aI8 (q:Mac):Value:=.agg #[.string (bs q.name),.int .i64 q.mem,.int .i64 q.cpu,.int .i64 q.seen]
def oK (w:World) (b p:Nat) (q:Mac):Prop:=
 w.cell? ⟨b,p,none⟩=some (.string (bs q.name))∧w.cell? ⟨b,p+1,none⟩=some (.int .i64 q.mem)∧w.cell? ⟨b,p+2,none⟩=some (.int .i64 q.cpu)∧w.cell? ⟨b,p+3,none⟩=some (.int .i64 q.seen)
def cO (w:World) (ao:Option Addr) (len:Nat) (l:List Mac):Prop:=
 len=l.length∧(len=0∨∃b off,ao=some ⟨b,off,none⟩∧∀i (h:i<l.length),oK w b (off+i*4) l[i])
theorem oK.lt {w:World} {b p:Nat} {q:Mac} (h:oK w b p q):b<w.heap.size:=yG h.1
theorem oK.below {w w':World} {b p:Nat} {q:Mac} (h:oK w b p q) (hb:Bw w w'):oK w' b p q:=
 ⟨(hb.cell h.lt).trans h.1,(hb.cell h.lt).trans h.2.1,(hb.cell h.lt).trans h.2.2.1,(hb.cell h.lt).trans h.2.2.2⟩
theorem cO.below {w w':World} {ao:Option Addr} {len:Nat} {l:List Mac} (h:cO w ao len l) (hb:Bw w w'):cO w' ao len l:=by
 obtain ⟨h1,h2⟩:=h
 refine ⟨h1,?_⟩
 rcases h2 with h2 | ⟨b,off,h3,h4⟩
 ·exact .inl h2
 ·exact .inr ⟨b,off,h3,fun i h=>(h4 i h).below hb⟩
theorem cO.nil (w:World) (ao:Option Addr):cO w ao 0 []:=⟨rfl,.inl rfl⟩
theorem cO.at {w:World} {ao:Option Addr} {len:Nat} {l:List Mac} (h:cO w ao len l) {i:Nat} (hi:i<len):∃b off,ao=some ⟨b,off,none⟩∧∀(h:i<l.length),oK w b (off+i*4) l[i]:=by
 obtain ⟨h1,h2⟩:=h
 rcases h2 with h2 | ⟨b,off,h3,h4⟩
 ·omega
 ·exact ⟨b,off,h3,fun hi=>h4 i hi⟩
def fU (w:World) (t:TypeId) (g n k:Nat) (l:List Mac):Prop:=
 ∃arr:Array Value,w.heap[g]? = some (.cells arr t (0,0))∧arr.size=n*4∧∀i (h:i<l.length),i<k→arr[i*4]? = some (.string (bs l[i].name))∧arr[i*4+1]? = some (.int .i64 l[i].mem)∧arr[i*4+2]? = some (.int .i64 l[i].cpu)∧arr[i*4+3]? = some (.int .i64 l[i].seen)
theorem fU.lt {w:World} {t:TypeId} {g n k:Nat} {l:List Mac} (h:fU w t g n k l):g<w.heap.size:=let ⟨_,h,_⟩:=h;lt_of_block h
theorem fU.below {w w':World} {t:TypeId} {g n k:Nat} {l:List Mac} (h:fU w t g n k l) (hb:Bw w w'):fU w' t g n k l:=by
 have hlt:=h.lt
 obtain ⟨arr,h1,h2⟩:=h
 exact ⟨arr,(hb.block g hlt).trans h1,h2⟩
theorem fU.cell {w:World} {t:TypeId} {g n k:Nat} {l:List Mac} (h:fU w t g n k l) {j:Nat} (hj:j<n*4):∃v,w.cell? ⟨g,j,none⟩=some v:=by
 obtain ⟨arr,h1,h2,_⟩:=h
 exact ⟨arr[j]'(by omega),by simp [World.cell?,h1,Array.getElem?_eq_getElem (show j<arr.size by omega)]⟩
theorem fU.frozen {w:World} {t:TypeId} {g n k:Nat} {l:List Mac} (h:fU w t g n k l) (j:Nat):w.frozen? ⟨g,j,none⟩=false:=by
 obtain ⟨arr,h1,h2,_⟩:=h
 simp [World.frozen?,h1]
theorem fU.row {w:World} {t:TypeId} {g n:Nat} {l:List Mac} (h:fU w t g n n l) (hl:n=l.length):cO w (some ⟨g,0,none⟩) n l:=by
 obtain ⟨arr,h1,h2,h3⟩:=h
 refine ⟨hl,.inr ⟨g,0,rfl,fun i hi=>?_⟩⟩
 obtain ⟨a,b,c,d⟩:=h3 i hi (by omega)
 unfold oK
 simp only [Nat.zero_add]
 exact ⟨by simp [World.cell?,h1,a],by simp [World.cell?,h1,b],by simp [World.cell?,h1,c],by simp [World.cell?,h1,d]⟩
def aKU (w:World) (g p:Nat) (q:Mac):World:=((((w.setCell ⟨g,p,none⟩ (.string (bs q.name))).setCell ⟨g,p+1,none⟩ (.int .i64 q.mem)).setCell ⟨g,p+2,none⟩ (.int .i64 q.cpu)).setCell ⟨g,p+3,none⟩ (.int .i64 q.seen))
theorem fU.step {w:World} {t:TypeId} {g n k:Nat} {l:List Mac} (h:fU w t g n k l) (hk:k<n) (hl:k<l.length):fU (aKU w g (k*4) l[k]) t g n (k+1) l:=by
 obtain ⟨arr,h1,h2,h3⟩:=h
 have e1:=heap_setCell_same w g (k*4) _ _ (.string (bs l[k].name)) h1
 have e2:=heap_setCell_same _ g (k*4+1) _ _ (.int .i64 l[k].mem) e1
 have e3:=heap_setCell_same _ g (k*4+2) _ _ (.int .i64 l[k].cpu) e2
 have e4:=heap_setCell_same _ g (k*4+3) _ _ (.int .i64 l[k].seen) e3
 refine ⟨_,e4,by simp [h2],fun i hi hik=>?_⟩
 by_cases e:i=k
 ·subst e
  have q1:i*4+3<arr.size:=by omega
  refine ⟨?_,?_,?_,?_⟩<;>simp [Array.getElem?_setIfInBounds,h2]<;>omega
 ·obtain ⟨a,b,c,d⟩:=h3 i hi (by omega)
  refine ⟨?_,?_,?_,?_⟩
  ·rw [←a];simp only [Array.getElem?_setIfInBounds];repeat rw [if_neg (by omega)]
  ·rw [←b];simp only [Array.getElem?_setIfInBounds];repeat rw [if_neg (by omega)]
  ·rw [←c];simp only [Array.getElem?_setIfInBounds];repeat rw [if_neg (by omega)]
  ·rw [←d];simp only [Array.getElem?_setIfInBounds];repeat rw [if_neg (by omega)]
end Go.Proofs.YtngkddhcmfbjnaaGreat
/-
 Rows of Cont values: in memory,and rows that a call makes and fills one by one (mkrow.py wrote this).
-/
namespace Go.Proofs.YtngkddhcmfbjnaaGreat
open Go.RowKit
set_option linter.unusedVariables false
structure Con where
 id:Int
 app:Int
 node:List UInt8
 mem:Int
 cpu:Int
abbrev conv (q:Con):Value:=.agg #[.int .i64 q.id,.int .i64 q.app,.string (bs q.node),.int .i64 q.mem,.int .i64 q.cpu]
def mQ (w:World) (b p:Nat) (q:Con):Prop:=
 w.cell? ⟨b,p,none⟩=some (.int .i64 q.id)∧w.cell? ⟨b,p+1,none⟩=some (.int .i64 q.app)∧w.cell? ⟨b,p+2,none⟩=some (.string (bs q.node))∧w.cell? ⟨b,p+3,none⟩=some (.int .i64 q.mem)∧w.cell? ⟨b,p+4,none⟩=some (.int .i64 q.cpu)
def bG (w:World) (ao:Option Addr) (len:Nat) (l:List Con):Prop:=
 len=l.length∧(len=0∨∃b off,ao=some ⟨b,off,none⟩∧∀i (h:i<l.length),mQ w b (off+i*5) l[i])
theorem mQ.lt {w:World} {b p:Nat} {q:Con} (h:mQ w b p q):b<w.heap.size:=yG h.1
theorem mQ.below {w w':World} {b p:Nat} {q:Con} (h:mQ w b p q) (hb:Bw w w'):mQ w' b p q:=
 ⟨(hb.cell h.lt).trans h.1,(hb.cell h.lt).trans h.2.1,(hb.cell h.lt).trans h.2.2.1,(hb.cell h.lt).trans h.2.2.2.1,(hb.cell h.lt).trans h.2.2.2.2⟩
theorem bG.below {w w':World} {ao:Option Addr} {len:Nat} {l:List Con} (h:bG w ao len l) (hb:Bw w w'):bG w' ao len l:=by
 obtain ⟨h1,h2⟩:=h
 refine ⟨h1,?_⟩
 rcases h2 with h2 | ⟨b,off,h3,h4⟩
 ·exact .inl h2
 ·exact .inr ⟨b,off,h3,fun i h=>(h4 i h).below hb⟩
theorem bG.nil (w:World) (ao:Option Addr):bG w ao 0 []:=⟨rfl,.inl rfl⟩
theorem bG.at {w:World} {ao:Option Addr} {len:Nat} {l:List Con} (h:bG w ao len l) {i:Nat} (hi:i<len):∃b off,ao=some ⟨b,off,none⟩∧∀(h:i<l.length),mQ w b (off+i*5) l[i]:=by
 obtain ⟨h1,h2⟩:=h
 rcases h2 with h2 | ⟨b,off,h3,h4⟩
 ·omega
 ·exact ⟨b,off,h3,fun hi=>h4 i hi⟩
def fV (w:World) (t:TypeId) (g n k:Nat) (l:List Con):Prop:=
 ∃arr:Array Value,w.heap[g]? = some (.cells arr t (0,0))∧arr.size=n*5∧∀i (h:i<l.length),i<k→arr[i*5]? = some (.int .i64 l[i].id)∧arr[i*5+1]? = some (.int .i64 l[i].app)∧arr[i*5+2]? = some (.string (bs l[i].node))∧arr[i*5+3]? = some (.int .i64 l[i].mem)∧arr[i*5+4]? = some (.int .i64 l[i].cpu)
theorem fV.lt {w:World} {t:TypeId} {g n k:Nat} {l:List Con} (h:fV w t g n k l):g<w.heap.size:=let ⟨_,h,_⟩:=h;lt_of_block h
theorem fV.below {w w':World} {t:TypeId} {g n k:Nat} {l:List Con} (h:fV w t g n k l) (hb:Bw w w'):fV w' t g n k l:=by
 have hlt:=h.lt
 obtain ⟨arr,h1,h2⟩:=h
 exact ⟨arr,(hb.block g hlt).trans h1,h2⟩
theorem fV.cell {w:World} {t:TypeId} {g n k:Nat} {l:List Con} (h:fV w t g n k l) {j:Nat} (hj:j<n*5):∃v,w.cell? ⟨g,j,none⟩=some v:=by
 obtain ⟨arr,h1,h2,_⟩:=h
 exact ⟨arr[j]'(by omega),by simp [World.cell?,h1,Array.getElem?_eq_getElem (show j<arr.size by omega)]⟩
theorem fV.frozen {w:World} {t:TypeId} {g n k:Nat} {l:List Con} (h:fV w t g n k l) (j:Nat):w.frozen? ⟨g,j,none⟩=false:=by
 obtain ⟨arr,h1,h2,_⟩:=h
 simp [World.frozen?,h1]
theorem fV.row {w:World} {t:TypeId} {g n:Nat} {l:List Con} (h:fV w t g n n l) (hl:n=l.length):bG w (some ⟨g,0,none⟩) n l:=by
 obtain ⟨arr,h1,h2,h3⟩:=h
 refine ⟨hl,.inr ⟨g,0,rfl,fun i hi=>?_⟩⟩
 obtain ⟨a,b,c,d,e⟩:=h3 i hi (by omega)
 unfold mQ
 simp only [Nat.zero_add]
 exact ⟨by simp [World.cell?,h1,a],by simp [World.cell?,h1,b],by simp [World.cell?,h1,c],by simp [World.cell?,h1,d],by simp [World.cell?,h1,e]⟩
def aKV (w:World) (g p:Nat) (q:Con):World:=(((((w.setCell ⟨g,p,none⟩ (.int .i64 q.id)).setCell ⟨g,p+1,none⟩ (.int .i64 q.app)).setCell ⟨g,p+2,none⟩ (.string (bs q.node))).setCell ⟨g,p+3,none⟩ (.int .i64 q.mem)).setCell ⟨g,p+4,none⟩ (.int .i64 q.cpu))
theorem fV.step {w:World} {t:TypeId} {g n k:Nat} {l:List Con} (h:fV w t g n k l) (hk:k<n) (hl:k<l.length):fV (aKV w g (k*5) l[k]) t g n (k+1) l:=by
 obtain ⟨arr,h1,h2,h3⟩:=h
 have e1:=heap_setCell_same w g (k*5) _ _ (.int .i64 l[k].id) h1
 have e2:=heap_setCell_same _ g (k*5+1) _ _ (.int .i64 l[k].app) e1
 have e3:=heap_setCell_same _ g (k*5+2) _ _ (.string (bs l[k].node)) e2
 have e4:=heap_setCell_same _ g (k*5+3) _ _ (.int .i64 l[k].mem) e3
 have e5:=heap_setCell_same _ g (k*5+4) _ _ (.int .i64 l[k].cpu) e4
 refine ⟨_,e5,by simp [h2],fun i hi hik=>?_⟩
 by_cases e:i=k
 ·subst e
  have q1:i*5+4<arr.size:=by omega
  refine ⟨?_,?_,?_,?_,?_⟩<;>simp [Array.getElem?_setIfInBounds,h2]<;>omega
 ·obtain ⟨a,b,c,d,e⟩:=h3 i hi (by omega)
  refine ⟨?_,?_,?_,?_,?_⟩
  ·rw [←a];simp only [Array.getElem?_setIfInBounds];repeat rw [if_neg (by omega)]
  ·rw [←b];simp only [Array.getElem?_setIfInBounds];repeat rw [if_neg (by omega)]
  ·rw [←c];simp only [Array.getElem?_setIfInBounds];repeat rw [if_neg (by omega)]
  ·rw [←d];simp only [Array.getElem?_setIfInBounds];repeat rw [if_neg (by omega)]
  ·rw [←e];simp only [Array.getElem?_setIfInBounds];repeat rw [if_neg (by omega)]
end Go.Proofs.YtngkddhcmfbjnaaGreat
/-
 Rows of App values: in memory,each with its asks,and rows that a call makes and fills one by one.
-/
namespace Go.Proofs.YtngkddhcmfbjnaaGreat
open Go.RowKit
set_option linter.unusedVariables false
structure bN where
 id:Int
 queue:List UInt8
 asks:List Ask
abbrev aHj (id:Int) (queue:List UInt8) (ao:Option Addr) (len cap:Nat):Value:=.agg #[.int .i64 id,.string (bs queue),.slice ao len cap]
theorem bE.other {w:World} {ao:Option Addr} {len:Nat} {l:List Ask} (h:bE w ao len l) (g j:Nat) (v:Value) (hg:∀b off,ao=some ⟨b,off,none⟩→b≠g):bE (w.setCell ⟨g,j,none⟩ v) ao len l:=by
 obtain ⟨h1,h2⟩:=h
 refine ⟨h1,?_⟩
 rcases h2 with h2 | ⟨b,off,h3,h4⟩
 ·exact .inl h2
 ·have hn:=hg b off h3
  have hc:∀p,(w.setCell ⟨g,j,none⟩ v).cell? ⟨b,p,none⟩=w.cell? ⟨b,p,none⟩:=fun p=>by
   unfold World.cell?;rw [heap_setCell_other w ⟨g,j,none⟩ b v hn]
  refine .inr ⟨b,off,h3,fun i h=>?_⟩
  obtain ⟨a,b,c,d,e⟩:=h4 i h
  exact ⟨by rw [hc];exact a,by rw [hc];exact b,by rw [hc];exact c,by rw [hc];exact d,by rw [hc];exact e⟩
def o7 (w:World) (b p:Nat) (q:bN) (ao:Option Addr) (len cap:Nat):Prop:=
 w.cell? ⟨b,p,none⟩=some (.int .i64 q.id)∧w.cell? ⟨b,p+1,none⟩=some (.string (bs q.queue))∧w.cell? ⟨b,p+2,none⟩=some (.slice ao len cap)∧bE w ao len q.asks∧len≤cap
def iC (w:World) (ao:Option Addr) (len:Nat) (l:List bN):Prop:=
 len=l.length∧(len=0∨∃b off,ao=some ⟨b,off,none⟩∧∀i (h:i<l.length),∃ao len cap,o7 w b (off+i*3) l[i] ao len cap)
theorem o7.lt {w:World} {b p:Nat} {q:bN} {ao:Option Addr} {len cap:Nat} (h:o7 w b p q ao len cap):b<w.heap.size:=yG h.1
theorem o7.below {w w':World} {b p:Nat} {q:bN} {ao:Option Addr} {len cap:Nat} (h:o7 w b p q ao len cap) (hb:Bw w w'):o7 w' b p q ao len cap:=
 ⟨(hb.cell h.lt).trans h.1,(hb.cell h.lt).trans h.2.1,(hb.cell h.lt).trans h.2.2.1,h.2.2.2.1.below hb,h.2.2.2.2⟩
theorem iC.below {w w':World} {ao:Option Addr} {len:Nat} {l:List bN} (h:iC w ao len l) (hb:Bw w w'):iC w' ao len l:=by
 obtain ⟨h1,h2⟩:=h
 refine ⟨h1,?_⟩
 rcases h2 with h2 | ⟨b,off,h3,h4⟩
 ·exact .inl h2
 ·exact .inr ⟨b,off,h3,fun i h=>let ⟨x,y,z,hh⟩:=h4 i h;⟨x,y,z,hh.below hb⟩⟩
theorem iC.nil (w:World) (ao:Option Addr):iC w ao 0 []:=⟨rfl,.inl rfl⟩
theorem iC.at {w:World} {ao:Option Addr} {len:Nat} {l:List bN} (h:iC w ao len l) {i:Nat} (hi:i<len):∃b off,ao=some ⟨b,off,none⟩∧∀(h:i<l.length),∃ao len cap,o7 w b (off+i*3) l[i] ao len cap:=by
 obtain ⟨h1,h2⟩:=h
 rcases h2 with h2 | ⟨b,off,h3,h4⟩
 ·omega
 ·exact ⟨b,off,h3,fun hi=>h4 i hi⟩
def lX (w:World) (g:Nat) (ao:Option Addr) (len cap:Nat) (l:List Ask):Prop:=bE w ao len l∧len≤cap∧(∀b off,ao=some ⟨b,off,none⟩→g<b)∧∃b,ao=some ⟨b,0,none⟩∧cap=len∧eU w 104 b len 0 []
theorem eU.other {w:World} {t:TypeId} {g n k:Nat} {l:List Ask} (h:eU w t g n k l) (b j:Nat) (v:Value) (hn:g≠b):eU (w.setCell ⟨b,j,none⟩ v) t g n k l:=by
 obtain ⟨arr,h1,h2⟩:=h
 exact ⟨arr,(heap_setCell_other w ⟨b,j,none⟩ g v hn).trans h1,h2⟩
theorem eU.any {w:World} {t:TypeId} {g n k:Nat} {l:List Ask} (h:eU w t g n k l):eU w t g n 0 []:=by
 obtain ⟨arr,h1,h2,_⟩:=h
 exact ⟨arr,h1,h2,fun i hi=>absurd hi (by simp)⟩
theorem lX.below {w w':World} {g:Nat} {ao:Option Addr} {len cap:Nat} {l:List Ask} (h:lX w g ao len cap l) (hb:Bw w w'):lX w' g ao len cap l:=⟨h.1.below hb,h.2.1,h.2.2.1,let ⟨b,e,c,d⟩:=h.2.2.2;⟨b,e,c,d.below hb⟩⟩
def eT (w:World) (t:TypeId) (g n k:Nat) (l:List bN):Prop:=
 ∃arr:Array Value,w.heap[g]? = some (.cells arr t (0,0))∧arr.size=n*3∧∀i (h:i<l.length),i<k→arr[i*3]? = some (.int .i64 l[i].id)∧arr[i*3+1]? = some (.string (bs l[i].queue))∧∃ao len cap,arr[i*3+2]? = some (.slice ao len cap)∧lX w g ao len cap l[i].asks
theorem eT.lt {w:World} {t:TypeId} {g n k:Nat} {l:List bN} (h:eT w t g n k l):g<w.heap.size:=let ⟨_,h,_⟩:=h;lt_of_block h
theorem eT.below {w w':World} {t:TypeId} {g n k:Nat} {l:List bN} (h:eT w t g n k l) (hb:Bw w w'):eT w' t g n k l:=by
 have hlt:=h.lt
 obtain ⟨arr,h1,h2,h3⟩:=h
 exact ⟨arr,(hb.block g hlt).trans h1,h2,fun i h hk=>let ⟨a,b,x,y,z,c,d⟩:=h3 i h hk;⟨a,b,x,y,z,c,d.below hb⟩⟩
theorem eT.cell {w:World} {t:TypeId} {g n k:Nat} {l:List bN} (h:eT w t g n k l) {j:Nat} (hj:j<n*3):∃v,w.cell? ⟨g,j,none⟩=some v:=by
 obtain ⟨arr,h1,h2,_⟩:=h
 exact ⟨arr[j]'(by omega),by simp [World.cell?,h1,Array.getElem?_eq_getElem (show j<arr.size by omega)]⟩
theorem eT.frozen {w:World} {t:TypeId} {g n k:Nat} {l:List bN} (h:eT w t g n k l) (j:Nat):w.frozen? ⟨g,j,none⟩=false:=by
 obtain ⟨arr,h1,h2,_⟩:=h
 simp [World.frozen?,h1]
theorem eT.row {w:World} {t:TypeId} {g n:Nat} {l:List bN} (h:eT w t g n n l) (hl:n=l.length):iC w (some ⟨g,0,none⟩) n l:=by
 obtain ⟨arr,h1,h2,h3⟩:=h
 refine ⟨hl,.inr ⟨g,0,rfl,fun i hi=>?_⟩⟩
 obtain ⟨a,b,x,y,z,c,d⟩:=h3 i hi (by omega)
 refine ⟨x,y,z,?_⟩
 unfold o7
 simp only [Nat.zero_add]
 exact ⟨by simp [World.cell?,h1,a],by simp [World.cell?,h1,b],by simp [World.cell?,h1,c],d.1,d.2.1⟩
def aG8 (w:World) (g p:Nat) (id:Int) (qu:List UInt8) (ao:Option Addr) (len cap:Nat):World:=((w.setCell ⟨g,p,none⟩ (.int .i64 id)).setCell ⟨g,p+1,none⟩ (.string (bs qu))).setCell ⟨g,p+2,none⟩ (.slice ao len cap)
theorem lX.put {w:World} {g:Nat} {ao:Option Addr} {len cap:Nat} {l:List Ask} (h:lX w g ao len cap l) (j:Nat) (v:Value):lX (w.setCell ⟨g,j,none⟩ v) g ao len cap l:=
 ⟨h.1.other g j v (fun b off e=>by have:=h.2.2.1 b off e;omega),h.2.1,h.2.2.1,let ⟨b,e,c,d⟩:=h.2.2.2;⟨b,e,c,d.other g j v (by have:=h.2.2.1 b 0 e;omega)⟩⟩
theorem lX.other {w:World} {g:Nat} {ao:Option Addr} {len cap:Nat} {l:List Ask} (h:lX w g ao len cap l) (k j:Nat) (v:Value) (hk:k<g):lX (w.setCell ⟨k,j,none⟩ v) g ao len cap l:=
 ⟨h.1.other k j v (fun b off e=>by have:=h.2.2.1 b off e;omega),h.2.1,h.2.2.1,let ⟨b,e,c,d⟩:=h.2.2.2;⟨b,e,c,d.other k j v (by have:=h.2.2.1 b 0 e;omega)⟩⟩
theorem eT.step {w:World} {t:TypeId} {g n k:Nat} {l:List bN} (h:eT w t g n k l) (hk:k<n) (hl:k<l.length) (AO:Option Addr) (LEN CAP:Nat) (ho:lX w g AO LEN CAP l[k].asks):eT (aG8 w g (k*3) l[k].id l[k].queue AO LEN CAP) t g n (k+1) l:=by
 obtain ⟨arr,h1,h2,h3⟩:=h
 have e1:=heap_setCell_same w g (k*3) _ _ (.int .i64 l[k].id) h1
 have e2:=heap_setCell_same _ g (k*3+1) _ _ (.string (bs l[k].queue)) e1
 have e3:=heap_setCell_same _ g (k*3+2) _ _ (.slice AO LEN CAP) e2
 have Jz:∀{ao len cap l'},lX w g ao len cap l'→lX (aG8 w g (k*3) l[k].id l[k].queue AO LEN CAP) g ao len cap l':=fun h=>((h.put _ _).put _ _).put _ _
 refine ⟨_,e3,by simp [h2],fun i hi hik=>?_⟩
 by_cases e:i=k
 ·subst e
  have q1:i*3+2<arr.size:=by omega
  refine ⟨?_,?_,AO,LEN,CAP,?_,Jz ho⟩<;>simp [Array.getElem?_setIfInBounds,h2]<;>omega
 ·obtain ⟨a,b,x,y,z,c,d⟩:=h3 i hi (by omega)
  refine ⟨?_,?_,x,y,z,?_,Jz d⟩
  ·rw [←a];simp only [Array.getElem?_setIfInBounds];repeat rw [if_neg (by omega)]
  ·rw [←b];simp only [Array.getElem?_setIfInBounds];repeat rw [if_neg (by omega)]
  ·rw [←c];simp only [Array.getElem?_setIfInBounds];repeat rw [if_neg (by omega)]
end Go.Proofs.YtngkddhcmfbjnaaGreat
/-
 The laws' own toAsk;a aBi over the dump.
-/
namespace Go.Proofs.YtngkddhcmfbjnaaGreat
open Go.RowKit
set_option linter.unusedVariables false
end Go.Proofs.YtngkddhcmfbjnaaGreat
/-
 The laws' own toMachine;a aBi over the dump.
-/
namespace Go.Proofs.YtngkddhcmfbjnaaGreat
open Go.RowKit
set_option linter.unusedVariables false
end Go.Proofs.YtngkddhcmfbjnaaGreat
/-
 The laws' own toCont;a aBi over the dump.
-/
namespace Go.Proofs.YtngkddhcmfbjnaaGreat
open Go.RowKit
set_option linter.unusedVariables false
end Go.Proofs.YtngkddhcmfbjnaaGreat
/-
 The laws' own eqAsk,at the same;a aBi over the dump.
-/
namespace Go.Proofs.YtngkddhcmfbjnaaGreat
open Go.RowKit
set_option linter.unusedVariables false
end Go.Proofs.YtngkddhcmfbjnaaGreat
/-
 The laws' own eqMachine,at the same;a aBi over the dump.
-/
namespace Go.Proofs.YtngkddhcmfbjnaaGreat
open Go.RowKit
set_option linter.unusedVariables false
end Go.Proofs.YtngkddhcmfbjnaaGreat
/-
 The laws' own eqCont,at the same;a aBi over the dump.
-/
namespace Go.Proofs.YtngkddhcmfbjnaaGreat
open Go.RowKit
set_option linter.unusedVariables false
end Go.Proofs.YtngkddhcmfbjnaaGreat
/-
 The laws' own toAskS: rows of Ask values made anew;walks over the dump (mkrow.py wrote this).
-/
namespace Go.Proofs.YtngkddhcmfbjnaaGreat
open Go.RowKit
set_option linter.unusedVariables false
end Go.Proofs.YtngkddhcmfbjnaaGreat
/-
 The laws' own toMachineS: rows of Machine values made anew;walks over the dump (mkrow.py wrote this).
-/
namespace Go.Proofs.YtngkddhcmfbjnaaGreat
open Go.RowKit
set_option linter.unusedVariables false
end Go.Proofs.YtngkddhcmfbjnaaGreat
/-
 The laws' own toContS: rows of Cont values made anew;walks over the dump (mkrow.py wrote this).
-/
namespace Go.Proofs.YtngkddhcmfbjnaaGreat
open Go.RowKit
set_option linter.unusedVariables false
theorem aKA:(Tryz.prog.info? 52).map (fun i=>(i.zero,i.size,i.bytes))=some (some (conv ⟨0,0,[],0,0⟩),5,48):=by kernel_rfl
theorem aGr (n:Nat) (hn:n≤1048576) (w:World) :
  (Instr.makeSlice 27 (.int .i64 (n:Int)) (.int .i64 (n:Int))).run Tryz.prog w=.ok (.slice (some ⟨w.heap.size,0,none⟩) n n) (w.alloc (.cells (madeCells (conv ⟨0,0,[],0,0⟩).cells (n*5)) 52)):=by
 obtain ⟨i,hi,hz⟩:=Option.map_eq_some_iff.1 aKA
 simp only [Prod.mk.injEq] at hz
 obtain ⟨hz,hs,hb⟩:=hz
 have hr:=run_make (P:=Tryz.prog) w 27 52 i _ Tryz.underlying27 hi hz .i64 .i64 n n (by omega) (Int.le_refl _) (by rw [hb];omega) (by omega)
 simp only [Int.toNat_natCast,hs] at hr
 exact hr
end Go.Proofs.YtngkddhcmfbjnaaGreat
/-
 The laws' own aLD and szAskS: how much is handed in;walks over the dump (mkrow.py wrote this).
-/
namespace Go.Proofs.YtngkddhcmfbjnaaGreat
open Go.RowKit
set_option linter.unusedVariables false
def aLD (q:Ask) (a:Int):Int:=if a - q.node.length<0 then -1 else a - q.node.length
def aKx (l:List Ask):Prop:=l.length≤1048576∧∀q ∈ l,q.node.length≤1048576
end Go.Proofs.YtngkddhcmfbjnaaGreat
/-
 The laws' own szMachine and szMachineS: how much is handed in;walks over the dump (mkrow.py wrote this).
-/
namespace Go.Proofs.YtngkddhcmfbjnaaGreat
open Go.RowKit
set_option linter.unusedVariables false
def aKv (l:List Mac):Prop:=l.length≤1048576∧∀q ∈ l,q.name.length≤1048576
end Go.Proofs.YtngkddhcmfbjnaaGreat
/-
 The laws' own szCont and szContS: how much is handed in;walks over the dump (mkrow.py wrote this).
-/
namespace Go.Proofs.YtngkddhcmfbjnaaGreat
open Go.RowKit
set_option linter.unusedVariables false
def aKw (l:List Con):Prop:=l.length≤1048576∧∀q ∈ l,q.node.length≤1048576
end Go.Proofs.YtngkddhcmfbjnaaGreat
/-
 The laws' own eqAskS,at rows that hold the same;walks over the dump (mkrow.py wrote this).
-/
namespace Go.Proofs.YtngkddhcmfbjnaaGreat
open Go.RowKit
set_option linter.unusedVariables false
def vG (w0:World) (b p c r:Nat) (q:Ask) (w:World):Prop:=sZ w b p q∧sZ w c r q∧Bw w0 w
theorem vG.call {w0 w w':World} {b p c r:Nat} {q:Ask} (h:vG w0 b p c r q w) (hb:Bw w w'):vG w0 b p c r q w':=⟨h.1.below hb,h.2.1.below hb,yB h.2.2 hb⟩
theorem vG.drew {w0 w:World} {b p c r:Nat} {q:Ask} (h:vG w0 b p c r q w):vG w0 b p c r q w.drew:=h.call (yH _ _).drew
theorem vG.read (w0:World) (b p c r:Nat) (q:Ask):∀wx,vG w0 b p c r q wx→wx.cell? ⟨b,p,none⟩=some (.int .i64 q.mem)∧wx.cell? ⟨b,p+1,none⟩=some (.int .i64 q.cpu)∧wx.cell? ⟨b,p+2,none⟩=some (.int .i64 q.count)∧wx.cell? ⟨b,p+3,none⟩=some (.string (bs q.node))∧wx.cell? ⟨b,p+4,none⟩=some (.int .i64 q.missed)
  ∧wx.cell? ⟨c,r,none⟩=some (.int .i64 q.mem)∧wx.cell? ⟨c,r+1,none⟩=some (.int .i64 q.cpu)∧wx.cell? ⟨c,r+2,none⟩=some (.int .i64 q.count)∧wx.cell? ⟨c,r+3,none⟩=some (.string (bs q.node))∧wx.cell? ⟨c,r+4,none⟩=some (.int .i64 q.missed):=
 fun wx h=>⟨h.1.1,h.1.2.1,h.1.2.2.1,h.1.2.2.2.1,h.1.2.2.2.2,h.2.1.1,h.2.1.2.1,h.2.1.2.2.1,h.2.1.2.2.2.1,h.2.1.2.2.2.2⟩
end Go.Proofs.YtngkddhcmfbjnaaGreat
/-
 The laws' own eqMachineS,at rows that hold the same;walks over the dump (mkrow.py wrote this).
-/
namespace Go.Proofs.YtngkddhcmfbjnaaGreat
open Go.RowKit
set_option linter.unusedVariables false
def vC (w0:World) (b p c r:Nat) (q:Mac) (w:World):Prop:=oK w b p q∧oK w c r q∧Bw w0 w
theorem vC.call {w0 w w':World} {b p c r:Nat} {q:Mac} (h:vC w0 b p c r q w) (hb:Bw w w'):vC w0 b p c r q w':=⟨h.1.below hb,h.2.1.below hb,yB h.2.2 hb⟩
theorem vC.drew {w0 w:World} {b p c r:Nat} {q:Mac} (h:vC w0 b p c r q w):vC w0 b p c r q w.drew:=h.call (yH _ _).drew
theorem vC.read (w0:World) (b p c r:Nat) (q:Mac):∀wx,vC w0 b p c r q wx→wx.cell? ⟨b,p,none⟩=some (.string (bs q.name))∧wx.cell? ⟨b,p+1,none⟩=some (.int .i64 q.mem)∧wx.cell? ⟨b,p+2,none⟩=some (.int .i64 q.cpu)∧wx.cell? ⟨b,p+3,none⟩=some (.int .i64 q.seen)
  ∧wx.cell? ⟨c,r,none⟩=some (.string (bs q.name))∧wx.cell? ⟨c,r+1,none⟩=some (.int .i64 q.mem)∧wx.cell? ⟨c,r+2,none⟩=some (.int .i64 q.cpu)∧wx.cell? ⟨c,r+3,none⟩=some (.int .i64 q.seen):=
 fun wx h=>⟨h.1.1,h.1.2.1,h.1.2.2.1,h.1.2.2.2,h.2.1.1,h.2.1.2.1,h.2.1.2.2.1,h.2.1.2.2.2⟩
end Go.Proofs.YtngkddhcmfbjnaaGreat
/-
 The laws' own eqContS,at rows that hold the same;walks over the dump (mkrow.py wrote this).
-/
namespace Go.Proofs.YtngkddhcmfbjnaaGreat
open Go.RowKit
set_option linter.unusedVariables false
def vE (w0:World) (b p c r:Nat) (q:Con) (w:World):Prop:=mQ w b p q∧mQ w c r q∧Bw w0 w
theorem vE.call {w0 w w':World} {b p c r:Nat} {q:Con} (h:vE w0 b p c r q w) (hb:Bw w w'):vE w0 b p c r q w':=⟨h.1.below hb,h.2.1.below hb,yB h.2.2 hb⟩
theorem vE.drew {w0 w:World} {b p c r:Nat} {q:Con} (h:vE w0 b p c r q w):vE w0 b p c r q w.drew:=h.call (yH _ _).drew
theorem vE.read (w0:World) (b p c r:Nat) (q:Con):∀wx,vE w0 b p c r q wx→wx.cell? ⟨b,p,none⟩=some (.int .i64 q.id)∧wx.cell? ⟨b,p+1,none⟩=some (.int .i64 q.app)∧wx.cell? ⟨b,p+2,none⟩=some (.string (bs q.node))∧wx.cell? ⟨b,p+3,none⟩=some (.int .i64 q.mem)∧wx.cell? ⟨b,p+4,none⟩=some (.int .i64 q.cpu)
  ∧wx.cell? ⟨c,r,none⟩=some (.int .i64 q.id)∧wx.cell? ⟨c,r+1,none⟩=some (.int .i64 q.app)∧wx.cell? ⟨c,r+2,none⟩=some (.string (bs q.node))∧wx.cell? ⟨c,r+3,none⟩=some (.int .i64 q.mem)∧wx.cell? ⟨c,r+4,none⟩=some (.int .i64 q.cpu):=
 fun wx h=>⟨h.1.1,h.1.2.1,h.1.2.2.1,h.1.2.2.2.1,h.1.2.2.2.2,h.2.1.1,h.2.1.2.1,h.2.1.2.2.1,h.2.1.2.2.2.1,h.2.1.2.2.2.2⟩
end Go.Proofs.YtngkddhcmfbjnaaGreat
/-
 The laws' own toApp and toAppS: rows made anew;walks over the dump.
-/
namespace Go.Proofs.YtngkddhcmfbjnaaGreat
open Go.RowKit
set_option linter.unusedVariables false
end Go.Proofs.YtngkddhcmfbjnaaGreat
/-
 The laws' own szApp and szAppS: how much is handed in;walks over the dump.
-/
namespace Go.Proofs.YtngkddhcmfbjnaaGreat
open Go.RowKit
set_option linter.unusedVariables false
def aHt (q:bN):Prop:=q.queue.length≤9223372036854775807∧q.asks.length≤9223372036854775807∧∀a ∈ q.asks,a.node.length≤9223372036854775807
def aJE (q:bN):Prop:=q.queue.length≤1048576∧aKx q.asks
def aKH (l:List bN):Prop:=l.length≤1048576∧∀q ∈ l,aJE q
end Go.Proofs.YtngkddhcmfbjnaaGreat
/-
 The laws' own eqApp and eqAppS,at rows that hold the same;walks over the dump.
-/
namespace Go.Proofs.YtngkddhcmfbjnaaGreat
open Go.RowKit
set_option linter.unusedVariables false
def nP (w0:World) (b p c r:Nat) (q:bN) (ao bo:Option Addr) (len cap ccap:Nat) (w:World):Prop:=o7 w b p q ao len cap∧o7 w c r q bo len ccap∧Bw w0 w
theorem nP.call {w0 w w':World} {b p c r:Nat} {q:bN} {ao bo:Option Addr} {len cap ccap:Nat} (h:nP w0 b p c r q ao bo len cap ccap w) (hb:Bw w w'):nP w0 b p c r q ao bo len cap ccap w':=⟨h.1.below hb,h.2.1.below hb,yB h.2.2 hb⟩
theorem nP.drew {w0 w:World} {b p c r:Nat} {q:bN} {ao bo:Option Addr} {len cap ccap:Nat} (h:nP w0 b p c r q ao bo len cap ccap w):nP w0 b p c r q ao bo len cap ccap w.drew:=h.call (yH _ _).drew
theorem nP.read (w0:World) (b p c r:Nat) (q:bN) (ao bo:Option Addr) (len cap ccap:Nat):∀wx,nP w0 b p c r q ao bo len cap ccap wx→wx.cell? ⟨b,p,none⟩=some (.int .i64 q.id)∧wx.cell? ⟨b,p+1,none⟩=some (.string (bs q.queue))∧wx.cell? ⟨b,p+2,none⟩=some (.slice ao len cap)
  ∧wx.cell? ⟨c,r,none⟩=some (.int .i64 q.id)∧wx.cell? ⟨c,r+1,none⟩=some (.string (bs q.queue))∧wx.cell? ⟨c,r+2,none⟩=some (.slice bo len ccap):=
 fun wx h=>⟨h.1.1,h.1.2.1,h.1.2.2.1,h.2.1.1,h.2.1.2.1,h.2.1.2.2.1⟩
end Go.Proofs.YtngkddhcmfbjnaaGreat
/-
 States: values,and what stands behind their slices.
-/
namespace Go.Proofs.YtngkddhcmfbjnaaGreat
open Go.RowKit
set_option linter.unusedVariables false
structure St where
 qs:List Q
 clock:Int
 epoch:Int
 next:Int
 serial:Int
 apps:List bN
 ms:List Mac
 cs:List Con
structure Sls where
 qa:Option Addr
 ql:Nat
 qc:Nat
 aa:Option Addr
 al:Nat
 ac:Nat
 ma:Option Addr
 ml:Nat
 mc:Nat
 ca:Option Addr
 cl:Nat
 cc:Nat
abbrev svc (x:Sls) (s:St):Array Value:=#[.slice x.qa x.ql x.qc,.int .i64 s.clock,.int .i64 s.epoch,.int .i64 s.next,.int .i64 s.serial,.slice x.aa x.al x.ac,.slice x.ma x.ml x.mc,.slice x.ca x.cl x.cc]
abbrev sv (x:Sls) (s:St):Value:=.agg (svc x s)
def gU (w:World) (x:Sls) (s:St):Prop:=gJ w x.qa x.ql s.qs∧iC w x.aa x.al s.apps∧cO w x.ma x.ml s.ms∧bG w x.ca x.cl s.cs
theorem gU.below {w w':World} {x:Sls} {s:St} (h:gU w x s) (hb:Bw w w'):gU w' x s:=⟨h.1.below hb,h.2.1.below hb,h.2.2.1.below hb,h.2.2.2.below hb⟩
def aDA (w:World) (g1 g2 g3 g4 ql al ml cl:Nat) (s:St):Prop:=
 sW w 56 g1 ql ql s.qs∧eT w 48 g2 al al s.apps∧fU w 102 g3 ml ml s.ms∧fV w 52 g4 cl cl s.cs
abbrev aLa (g1 g2 g3 g4 ql al ml cl:Nat):Sls:=⟨some ⟨g1,0,none⟩,ql,ql,some ⟨g2,0,none⟩,al,al,some ⟨g3,0,none⟩,ml,ml,some ⟨g4,0,none⟩,cl,cl⟩
def aL2 (x:Sls) (s:St):Prop:=x.ql=s.qs.length∧x.al=s.apps.length∧x.ml=s.ms.length∧x.cl=s.cs.length
theorem gU.len {w:World} {x:Sls} {s:St} (h:gU w x s):aL2 x s:=⟨h.1.1,h.2.1.1,h.2.2.1.1,h.2.2.2.1⟩
theorem aDA.below {w w':World} {g1 g2 g3 g4 ql al ml cl:Nat} {s:St} (h:aDA w g1 g2 g3 g4 ql al ml cl s) (hb:Bw w w'):aDA w' g1 g2 g3 g4 ql al ml cl s:=⟨h.1.below hb,h.2.1.below hb,h.2.2.1.below hb,h.2.2.2.below hb⟩
theorem aDA.row {w:World} {g1 g2 g3 g4:Nat} {x:Sls} {s:St} (h:aDA w g1 g2 g3 g4 x.ql x.al x.ml x.cl s) (hl:aL2 x s):gU w (aLa g1 g2 g3 g4 x.ql x.al x.ml x.cl) s:=⟨h.1.row hl.1,h.2.1.row hl.2.1,h.2.2.1.row hl.2.2.1,h.2.2.2.row hl.2.2.2⟩
theorem sW.other {w:World} {t:TypeId} {g n k:Nat} {l:List Q} (h:sW w t g n k l) (b j:Nat) (v:Value) (hn:g≠b):sW (w.setCell ⟨b,j,none⟩ v) t g n k l:=by
 obtain ⟨arr,h1,h2⟩:=h
 exact ⟨arr,(heap_setCell_other w ⟨b,j,none⟩ g v hn).trans h1,h2⟩
theorem fU.other {w:World} {t:TypeId} {g n k:Nat} {l:List Mac} (h:fU w t g n k l) (b j:Nat) (v:Value) (hn:g≠b):fU (w.setCell ⟨b,j,none⟩ v) t g n k l:=by
 obtain ⟨arr,h1,h2⟩:=h
 exact ⟨arr,(heap_setCell_other w ⟨b,j,none⟩ g v hn).trans h1,h2⟩
theorem fV.other {w:World} {t:TypeId} {g n k:Nat} {l:List Con} (h:fV w t g n k l) (b j:Nat) (v:Value) (hn:g≠b):fV (w.setCell ⟨b,j,none⟩ v) t g n k l:=by
 obtain ⟨arr,h1,h2⟩:=h
 exact ⟨arr,(heap_setCell_other w ⟨b,j,none⟩ g v hn).trans h1,h2⟩
theorem eT.other {w:World} {t:TypeId} {g n k:Nat} {l:List bN} (h:eT w t g n k l) (b j:Nat) (v:Value) (hn:b<g):eT (w.setCell ⟨b,j,none⟩ v) t g n k l:=by
 obtain ⟨arr,h1,h2,h3⟩:=h
 refine ⟨arr,(heap_setCell_other w ⟨b,j,none⟩ g v (show g≠b by omega)).trans h1,h2,fun i hi hk=>?_⟩
 obtain ⟨a,c,x,y,z,d,e⟩:=h3 i hi hk
 exact ⟨a,c,x,y,z,d,e.other b j v hn⟩
theorem aDA.other {w:World} {g1 g2 g3 g4 ql al ml cl:Nat} {s:St} (h:aDA w g1 g2 g3 g4 ql al ml cl s) (b j:Nat) (v:Value) (h1:b<g1) (h2:b<g2) (h3:b<g3) (h4:b<g4):aDA (w.setCell ⟨b,j,none⟩ v) g1 g2 g3 g4 ql al ml cl s:=
 ⟨h.1.other _ _ _ (by omega),h.2.1.other _ _ _ h2,h.2.2.1.other _ _ _ (by omega),h.2.2.2.other _ _ _ (by omega)⟩
end Go.Proofs.YtngkddhcmfbjnaaGreat
/-
 The laws' own szState: how much is handed in;walks over the dump.
-/
namespace Go.Proofs.YtngkddhcmfbjnaaGreat
open Go.RowKit
set_option linter.unusedVariables false
def dI (s:St):Prop:=aKL s.qs∧aKH s.apps∧aKv s.ms∧aKw s.cs
def aLU (x:Sls) (s:St):Prop:=(x.ql≤9223372036854775807∧∀q ∈ s.qs,q.name.length≤9223372036854775807∧q.parent.length≤9223372036854775807)∧(x.al≤9223372036854775807∧∀q ∈ s.apps,aHt q)∧(x.ml≤9223372036854775807∧∀q ∈ s.ms,q.name.length≤9223372036854775807)∧(x.cl≤9223372036854775807∧∀q ∈ s.cs,q.node.length≤9223372036854775807)
end Go.Proofs.YtngkddhcmfbjnaaGreat
/-
 The laws' own toState: a state made anew;a aBi over the dump.
-/
namespace Go.Proofs.YtngkddhcmfbjnaaGreat
open Go.RowKit
set_option linter.unusedVariables false
end Go.Proofs.YtngkddhcmfbjnaaGreat
/-
 The laws' own eqState,at states that hold the same;a aBi over the dump.
-/
namespace Go.Proofs.YtngkddhcmfbjnaaGreat
open Go.RowKit
set_option linter.unusedVariables false
def o6 (w:World) (x y:Sls) (s:St) (wx:World):Prop:=Blk wx w.heap.size (svc x s) 29∧Blk wx (w.heap.size+1) (svc y s) 29∧Bw w wx
theorem o6.call {w wx wy:World} {x y:Sls} {s:St} (h:o6 w x y s wx) (hb:Bw wx wy):o6 w x y s wy:=⟨h.1.below hb,h.2.1.below hb,yB h.2.2 hb⟩
theorem o6.drew {w wx:World} {x y:Sls} {s:St} (h:o6 w x y s wx):o6 w x y s wx.drew:=h.call (yH _ _).drew
theorem o6.new (w:World) (x y:Sls) (s:St):o6 w x y s ((w.alloc (.cells (svc x s) 29)).alloc (.cells (svc y s) 29)):=
 ⟨(yD _ _ _).al _,by have:=yD (w.alloc (.cells (svc x s) 29)) (svc y s) 29;rwa [yE] at this,yA (yA (yH _ _) _) _⟩
theorem o6.read (w:World) (x y:Sls) (s:St):∀wx,o6 w x y s wx→(wx.cell? ⟨w.heap.size,0,none⟩=some (.slice x.qa x.ql x.qc)∧wx.cell? ⟨w.heap.size,1,none⟩=some (.int .i64 s.clock)∧wx.cell? ⟨w.heap.size,2,none⟩=some (.int .i64 s.epoch)∧wx.cell? ⟨w.heap.size,3,none⟩=some (.int .i64 s.next)∧wx.cell? ⟨w.heap.size,4,none⟩=some (.int .i64 s.serial)∧wx.cell? ⟨w.heap.size,5,none⟩=some (.slice x.aa x.al x.ac)∧wx.cell? ⟨w.heap.size,6,none⟩=some (.slice x.ma x.ml x.mc)∧wx.cell? ⟨w.heap.size,7,none⟩=some (.slice x.ca x.cl x.cc))
  ∧wx.cell? ⟨w.heap.size+1,0,none⟩=some (.slice y.qa y.ql y.qc)∧wx.cell? ⟨w.heap.size+1,1,none⟩=some (.int .i64 s.clock)∧wx.cell? ⟨w.heap.size+1,2,none⟩=some (.int .i64 s.epoch)∧wx.cell? ⟨w.heap.size+1,3,none⟩=some (.int .i64 s.next)∧wx.cell? ⟨w.heap.size+1,4,none⟩=some (.int .i64 s.serial)∧wx.cell? ⟨w.heap.size+1,5,none⟩=some (.slice y.aa y.al y.ac)∧wx.cell? ⟨w.heap.size+1,6,none⟩=some (.slice y.ma y.ml y.mc)∧wx.cell? ⟨w.heap.size+1,7,none⟩=some (.slice y.ca y.cl y.cc):=
 fun wx h=>⟨⟨h.1.at 0,h.1.at 1,h.1.at 2,h.1.at 3,h.1.at 4,h.1.at 5,h.1.at 6,h.1.at 7⟩,h.2.1.at 0,h.2.1.at 1,h.2.1.at 2,h.2.1.at 3,h.2.1.at 4,h.2.1.at 5,h.2.1.at 6,h.2.1.at 7⟩
end Go.Proofs.YtngkddhcmfbjnaaGreat
/-
 What stands while a law over a state is walked.
-/
namespace Go.Proofs.YtngkddhcmfbjnaaGreat
open Go.RowKit
set_option linter.unusedVariables false
end Go.Proofs.YtngkddhcmfbjnaaGreat
/-
 An amount among the cells of what came in.
-/
namespace Go.Proofs.YtngkddhcmfbjnaaGreat
open Go.ChangeShapes Go.WideShapes Go.ChangeAt Go.RowKit Go.Deep
set_option linter.unusedVariables false
end Go.Proofs.YtngkddhcmfbjnaaGreat
/-
 A slice of Ask values that came in: what it holds (mkrow.py wrote this).
-/
namespace Go.Proofs.YtngkddhcmfbjnaaGreat
open Go.ChangeShapes Go.WideShapes Go.ChangeAt Go.RowKit Go.Deep
set_option linter.unusedVariables false
def aLA (q:Ask):Prop:=q.node.length≤9223372036854775807∧(Lit.int .i64 q.mem).wf=true∧(Lit.int .i64 q.cpu).wf=true∧(Lit.int .i64 q.count).wf=true∧(Lit.int .i64 q.missed).wf=true
end Go.Proofs.YtngkddhcmfbjnaaGreat
/-
 A slice of Machine values that came in: what it holds (mkrow.py wrote this).
-/
namespace Go.Proofs.YtngkddhcmfbjnaaGreat
open Go.ChangeShapes Go.WideShapes Go.ChangeAt Go.RowKit Go.Deep
set_option linter.unusedVariables false
def aKu (q:Mac):Prop:=q.name.length≤9223372036854775807∧(Lit.int .i64 q.mem).wf=true∧(Lit.int .i64 q.cpu).wf=true∧(Lit.int .i64 q.seen).wf=true
end Go.Proofs.YtngkddhcmfbjnaaGreat
/-
 A slice of Cont values that came in: what it holds (mkrow.py wrote this).
-/
namespace Go.Proofs.YtngkddhcmfbjnaaGreat
open Go.ChangeShapes Go.WideShapes Go.ChangeAt Go.RowKit Go.Deep
set_option linter.unusedVariables false
def aKz (q:Con):Prop:=q.node.length≤9223372036854775807∧(Lit.int .i64 q.id).wf=true∧(Lit.int .i64 q.app).wf=true∧(Lit.int .i64 q.mem).wf=true∧(Lit.int .i64 q.cpu).wf=true
end Go.Proofs.YtngkddhcmfbjnaaGreat
/-
 A slice of App values that came in: what it holds.
-/
namespace Go.Proofs.YtngkddhcmfbjnaaGreat
open Go.ChangeShapes Go.WideShapes Go.ChangeAt Go.RowKit Go.Deep
set_option linter.unusedVariables false
def aEF (q:bN):Prop:=q.queue.length≤9223372036854775807∧(Lit.int .i64 q.id).wf=true∧q.asks.length≤9223372036854775807∧∀a ∈ q.asks,aLA a
theorem aEF.big {q:bN} (h:aEF q):aHt q:=⟨h.1,h.2.2.1,fun a ha=>(h.2.2.2 a ha).1⟩
end Go.Proofs.YtngkddhcmfbjnaaGreat
/-
 A state that comes in as an argument.
-/
namespace Go.Proofs.YtngkddhcmfbjnaaGreat
open Go.ChangeShapes Go.WideShapes Go.ChangeAt Go.RowKit Go.Deep
set_option linter.unusedVariables false
def aKr (x:Sls) (s:St):Prop:=(x.ql≤9223372036854775807∧∀q ∈ s.qs,aLx q∧(Lit.int .i64 q.due).wf=true∧(Lit.int .i64 q.most).wf=true)∧(x.al≤9223372036854775807∧∀q ∈ s.apps,aEF q)∧(x.ml≤9223372036854775807∧∀q ∈ s.ms,aKu q)∧(x.cl≤9223372036854775807∧∀q ∈ s.cs,aKz q)∧(Lit.int .i64 s.clock).wf=true∧(Lit.int .i64 s.epoch).wf=true∧(Lit.int .i64 s.next).wf=true∧(Lit.int .i64 s.serial).wf=true
theorem aKr.big {x:Sls} {s:St} (h:aKr x s):aLU x s:=⟨⟨h.1.1,fun q hq=>(h.1.2 q hq).1⟩,⟨h.2.1.1,fun q hq=>(h.2.1.2 q hq).big⟩,⟨h.2.2.1.1,fun q hq=>(h.2.2.1.2 q hq).1⟩,h.2.2.2.1.1,fun q hq=>(h.2.2.2.1.2 q hq).1⟩
end Go.Proofs.YtngkddhcmfbjnaaGreat
namespace Go.Proofs.YtngkddhcmfbjnaaGreat
section
open Go.RowKit
variable {a:Act} {K:Act→World→Prop} {listed:Array Bool} {ops:Array Oper} {arr:Array Value} {c d h s:Int} {xs:List ByteArray} {nm:List UInt8} {B B' E N b cap fuel g i j k n p q:Nat} {o oi:Oper} {ao:Option Addr} {P:Program} {t:TypeId} {u v x:Value} {w w' w0 wx:World} {S:World→Prop}
def SS (w:World) (g cap:Nat) (xs:List ByteArray):Prop:=w.ownsRow g 9 1 (.slice (some ⟨g,0,none⟩) xs.length cap) xs.length (xs.map Value.string)
theorem SS.cell (h:SS w g cap xs) (j:Nat) (hj:j<xs.length):w.cell? ⟨g,j,none⟩=some (.string xs[j]):=by
 have:=World.ownsRow.cellAt h j (by omega)
 rw [this];simp [hj]
theorem SS.frozen (h:SS w g cap xs) (j:Nat):w.frozen? ⟨g,j,none⟩=false:=World.ownsRow.frozenAt h j
theorem SS.block (h:SS w g cap xs):∃cur,w.heap[g]? = some (.cells cur 9 (0,0))∧xs.length≤cap∧cap≤maxLen∧cur.size=cap∧cur.toList.take xs.length=xs.map Value.string:=by
 rcases h.2 with ⟨h1,_⟩ | ⟨g',cap',cur,h1,_,h2,h3,h4,h5,h6⟩
 ·simp at h1
 ·simp only [Value.slice.injEq,Option.some.injEq,Addr.mk.injEq,and_true,true_and] at h1
  obtain ⟨rfl,rfl⟩:=h1
  exact ⟨cur,h2,h3,h4,by simpa using h5,by simpa using h6⟩
theorem SS.mk {cur:Array Value} (h:w.heap[g]? = some (.cells cur 9 (0,0))) (h1:xs.length≤cap) (h2:cap≤maxLen) (h3:cur.size=cap) (h4:cur.toList.take xs.length=xs.map Value.string):SS w g cap xs:=
 ⟨by simp,.inr ⟨g,cap,cur,rfl,yJ _,h,h1,h2,by simpa using h3,by simpa using h4⟩⟩
theorem SS.lt (h:SS w g cap xs):g<w.heap.size:=by
 obtain ⟨cur,h1,_⟩:=h.block
 exact lt_of_block h1
theorem SS.same (h:SS w g cap xs) (hg:w'.heap[g]? = w.heap[g]?):SS w' g cap xs:=by
 obtain ⟨cur,h1,h2,h3,h4,h5⟩:=h.block
 exact SS.mk (hg.trans h1) h2 h3 h4 h5
theorem SS.below (h:SS w g cap xs) (hb:Below B w w') (hg:g<B):SS w' g cap xs:=h.same (hb.block g hg)
theorem SS.set (h:SS w g cap xs) (j:Nat) (hj:j<xs.length) (x:ByteArray):SS (w.setCell ⟨g,j,none⟩ (.string x)) g cap (xs.set j x):=by
 obtain ⟨cur,h1,h2,h3,h4,h5⟩:=h.block
 refine SS.mk (heap_setCell_same w g j cur _ _ h1) (by simpa using h2) h3 (by simpa using h4) ?_
 rw [List.length_set,Array.toList_setIfInBounds,List.take_set,h5,List.map_set]
def dgs (u:Nat):List UInt8:=if u=0 then [] else Lib.decDigits u
theorem aIo:dgs 0=[]:=rfl
theorem sM {u:Nat} (h:u≠0):dgs u=Lib.decDigits u:=by rw [dgs,if_neg h]
theorem aB6 {u:Nat} (h:u≠0):dgs u=dgs (u / 10)++[UInt8.ofNat (48+u % 10)]:=by
 rw [sM h,Lib.decDigits]
 by_cases h10:u<10
 ·rw [dif_pos h10]
  have e:u / 10=0:=by omega
  rw [e,aIo,Nat.mod_eq_of_lt h10];rfl
 ·rw [dif_neg h10,sM (by omega)]
theorem aDM:∀d:Nat,d<10→(ByteArray.mk #[48,49,50,51,52,53,54,55,56,57]).extract d (d+1)=⟨#[UInt8.ofNat (48+d)]⟩:=by
 intro d h
 match d,h with
 | 0,_=>rfl
 | 1,_=>rfl
 | 2,_=>rfl
 | 3,_=>rfl
 | 4,_=>rfl
 | 5,_=>rfl
 | 6,_=>rfl
 | 7,_=>rfl
 | 8,_=>rfl
 | 9,_=>rfl
 | d+10,h=>exact absurd h (by omega)
def mk (N:Nat):ByteArray:=bs (109::dgs N)
def aK5 (k:Nat):Nat→List ByteArray
 | 0=>[]
 | n+1=>mk k::aK5 (k+1) n
def aL0 (k:Nat) (xs:List ByteArray) (j:Nat):List ByteArray:=(aK5 k xs.length).take j++xs.drop j
def Cel (w:World) (t:TypeId) (g N:Nat):Prop:=∃arr:Array Value,w.heap[g]? = some (.cells arr t (0,0))∧arr.size=N
theorem Cel.lt (h:Cel w t g N):g<w.heap.size:=let ⟨_,h,_⟩:=h;lt_of_block h
theorem Cel.of_block (h:Cel w t g N) (e:w'.heap[g]? = w.heap[g]?):Cel w' t g N:=by
 obtain ⟨arr,h1,h2⟩:=h
 exact ⟨arr,e.trans h1,h2⟩
theorem Cel.below (h:Cel w t g N) (hb:Bw w w'):Cel w' t g N:=h.of_block (hb.block g h.lt)
theorem Cel.set (h:Cel w t g N) (b j:Nat) (v:Value):Cel (w.setCell ⟨b,j,none⟩ v) t g N:=by
 by_cases e:g=b
 ·subst e
  obtain ⟨arr,h1,h2⟩:=h
  exact ⟨_,heap_setCell_same w g j _ _ v h1,by simp [h2]⟩
 ·exact h.of_block (heap_setCell_other w ⟨b,j,none⟩ g v e)
theorem Cel.cell (h:Cel w t g N) (hj:j<N):∃v,w.cell? ⟨g,j,none⟩=some v:=by
 obtain ⟨arr,h1,h2⟩:=h
 exact ⟨arr[j]'(by omega),by simp [World.cell?,h1,Array.getElem?_eq_getElem (show j<arr.size by omega)]⟩
theorem Cel.frozen (h:Cel w t g N) (j:Nat):w.frozen? ⟨g,j,none⟩=false:=by
 obtain ⟨arr,h1,h2⟩:=h
 simp [World.frozen?,h1]
structure Mkd (B E:Nat) (w w':World):Prop where
 os:w'.os=w.os
 tape:w'.tape=w.tape
 output:w'.output=w.output
 size:w.heap.size≤w'.heap.size
 block:∀k,k<w.heap.size→(k<B∨E≤k)→w'.heap[k]? = w.heap[k]?
 cel:∀t g N,Cel w t g N→Cel w' t g N
theorem Mkd.refl (B E:Nat) (w:World):Mkd B E w w:=⟨rfl,rfl,rfl,yJ _,fun _ _ _=>rfl,fun _ _ _ h=>h⟩
theorem Mkd.trans {a b c:World} (h:Mkd B E a b) (k:Mkd B E b c):Mkd B E a c:=
 ⟨k.os.trans h.os,k.tape.trans h.tape,k.output.trans h.output,Nat.le_trans h.size k.size,fun i hi ho=>(k.block i (Nat.lt_of_lt_of_le hi h.size) ho).trans (h.block i hi ho),fun t g N x=>k.cel t g N (h.cel t g N x)⟩
theorem Mkd.mono {E':Nat} {a b:World} (h:Mkd B E a b) (h1:B'≤B) (h2:E≤E'):Mkd B' E' a b:=
 ⟨h.os,h.tape,h.output,h.size,fun i hi ho=>h.block i hi (by omega),h.cel⟩
theorem Mkd.of_below (hb:Bw w w'):Mkd B E w w':=⟨hb.os,hb.tape,hb.output,hb.size,fun i hi _=>hb.block i hi,fun t g N x=>x.below hb⟩
theorem Mkd.on {a:World} (h:Mkd B E a w) (hb:Bw w w'):Mkd B E a w':=h.trans (.of_below hb)
theorem Mkd.sc {a:World} (h:Mkd B E a w) (g j:Nat) (v:Value) (h1:B≤g) (h2:g<E):Mkd B E a (w.setCell ⟨g,j,none⟩ v):=
 h.trans ⟨rfl,rfl,rfl,by simp [World.setCell],fun k _ ho=>Below.heap_setCell _ _ _ _ (by show k≠g;omega),fun t g' N x=>x.set g j v⟩
theorem Mkd.below {a:World} (h:Mkd B E a w) (hB:B≤a.heap.size):Below B a w:=⟨h.os,h.tape,h.output,h.size,fun k hk=>h.block k (by omega) (.inl hk)⟩
theorem Mkd.blk {a:World} (h:Mkd B E a w) (hb:Blk a g arr t) (ho:g<B∨E≤g):Blk w g arr t:=(h.block g hb.lt ho).trans hb
theorem sW.cel {l:List Q} (h:sW w t g n k l):Cel w t g (n*4):=let ⟨arr,h1,h2,_⟩:=h;⟨arr,h1,h2⟩
theorem eU.cel {l:List Ask} (h:eU w t g n k l):Cel w t g (n*5):=let ⟨arr,h1,h2,_⟩:=h;⟨arr,h1,h2⟩
theorem fU.cel {l:List Mac} (h:fU w t g n k l):Cel w t g (n*4):=let ⟨arr,h1,h2,_⟩:=h;⟨arr,h1,h2⟩
theorem fV.cel {l:List Con} (h:fV w t g n k l):Cel w t g (n*5):=let ⟨arr,h1,h2,_⟩:=h;⟨arr,h1,h2⟩
theorem eT.cel {l:List bN} (h:eT w t g n k l):Cel w t g (n*3):=let ⟨arr,h1,h2,_⟩:=h;⟨arr,h1,h2⟩
def aLG (k j:Nat):Mac:=⟨109::dgs (k+4*j),(k:Int)+4*(j:Int)+1,(k:Int)+4*(j:Int)+1+1,(k:Int)+4*(j:Int)+1+1+1⟩
def aK3 (k n:Nat):List Mac:=(List.range n).map (aLG k)
theorem fU.next {l:List Mac} (h:fU w t g n k l) (c:∀hk:k<l.length,oK w g (k*4) l[k]):fU w t g n (k+1) l:=by
 obtain ⟨arr,h1,h2,h3⟩:=h
 refine ⟨arr,h1,h2,fun i hi hik=>?_⟩
 by_cases e:i=k
 ·subst e
  obtain ⟨c0,c1,c2,c3⟩:=c hi
  simp [World.cell?,h1] at c0 c1 c2 c3
  exact ⟨c0,c1,c2,c3⟩
 ·exact h3 i hi (by omega)
def vD (w0:World) (b p:Nat) (q:Mac) (w:World):Prop:=oK w b p q∧Bw w0 w
theorem vD.call {q:Mac} (h:vD w0 b p q w) (hb:Bw w w'):vD w0 b p q w':=⟨h.1.below hb,yB h.2 hb⟩
theorem vD.drew {q:Mac} (h:vD w0 b p q w):vD w0 b p q w.drew:=h.call (yH _ _).drew
theorem vD.read (w0:World) (b p:Nat) (q:Mac):∀wx,vD w0 b p q wx→wx.cell? ⟨b,p,none⟩=some (.string (bs q.name))∧wx.cell? ⟨b,p+1,none⟩=some (.int .i64 q.mem)∧wx.cell? ⟨b,p+2,none⟩=some (.int .i64 q.cpu)∧wx.cell? ⟨b,p+3,none⟩=some (.int .i64 q.seen):=fun wx h=>h.1
def aLH (k j:Nat):Con:=⟨(k:Int)+5*(j:Int),(k:Int)+5*(j:Int)+1,109::dgs (k+5*j+1+1),(k:Int)+5*(j:Int)+1+1+1,(k:Int)+5*(j:Int)+1+1+1+1⟩
def aJP (k n:Nat):List Con:=(List.range n).map (aLH k)
theorem fV.next {l:List Con} (h:fV w t g n k l) (c:∀hk:k<l.length,mQ w g (k*5) l[k]):fV w t g n (k+1) l:=by
 obtain ⟨arr,h1,h2,h3⟩:=h
 refine ⟨arr,h1,h2,fun i hi hik=>?_⟩
 by_cases e:i=k
 ·subst e
  obtain ⟨c0,c1,c2,c3,c4⟩:=c hi
  simp [World.cell?,h1] at c0 c1 c2 c3 c4
  exact ⟨c0,c1,c2,c3,c4⟩
 ·exact h3 i hi (by omega)
def vF (w0:World) (b p:Nat) (q:Con) (w:World):Prop:=mQ w b p q∧Bw w0 w
theorem vF.call {q:Con} (h:vF w0 b p q w) (hb:Bw w w'):vF w0 b p q w':=⟨h.1.below hb,yB h.2 hb⟩
theorem vF.drew {q:Con} (h:vF w0 b p q w):vF w0 b p q w.drew:=h.call (yH _ _).drew
theorem vF.read (w0:World) (b p:Nat) (q:Con):∀wx,vF w0 b p q wx→wx.cell? ⟨b,p,none⟩=some (.int .i64 q.id)∧wx.cell? ⟨b,p+1,none⟩=some (.int .i64 q.app)∧wx.cell? ⟨b,p+2,none⟩=some (.string (bs q.node))∧wx.cell? ⟨b,p+3,none⟩=some (.int .i64 q.mem)∧wx.cell? ⟨b,p+4,none⟩=some (.int .i64 q.cpu):=fun wx h=>h.1
def aLI (k j:Nat):Ask:=⟨(k:Int)+5*(j:Int),(k:Int)+5*(j:Int)+1,(k:Int)+5*(j:Int)+1+1,109::dgs (k+5*j+1+1+1),(k:Int)+5*(j:Int)+1+1+1+1⟩
def aK4 (k n:Nat):List Ask:=(List.range n).map (aLI k)
theorem eU.next {l:List Ask} (h:eU w t g n k l) (c:∀hk:k<l.length,sZ w g (k*5) l[k]):eU w t g n (k+1) l:=by
 obtain ⟨arr,h1,h2,h3⟩:=h
 refine ⟨arr,h1,h2,fun i hi hik=>?_⟩
 by_cases e:i=k
 ·subst e
  obtain ⟨c0,c1,c2,c3,c4⟩:=c hi
  simp [World.cell?,h1] at c0 c1 c2 c3 c4
  exact ⟨c0,c1,c2,c3,c4⟩
 ·exact h3 i hi (by omega)
theorem aY (h:w.cell? ⟨g,p,none⟩=some u) (hne:q≠p):(w.setCell ⟨g,q,none⟩ v).cell? ⟨g,p,none⟩=some u:=
 (World.cell?_setCell_other _ _ _ _ (fun e=>hne (congrArg Addr.off e))).trans h
theorem iB (h:w.cell? ⟨g,p,none⟩=some u) (hb:Bw w w'):w'.cell? ⟨g,p,none⟩=some u:=(hb.cell (yG h)).trans h
def aLF (j:Nat):Q:=⟨109::dgs (1+4*j),109::dgs (1+4*j+1),1+4*(j:Int)+1+1,1+4*(j:Int)+1+1+1⟩
def aJO (n:Nat):List Q:=(List.range n).map aLF
theorem sW.next {l:List Q} (h:sW w t g n k l) (c:∀hk:k<l.length,QAt w g (k*4) l[k]):sW w t g n (k+1) l:=by
 obtain ⟨arr,h1,h2,h3⟩:=h
 refine ⟨arr,h1,h2,fun i hi hik=>?_⟩
 by_cases e:i=k
 ·subst e
  obtain ⟨c0,c1,c2,c3⟩:=c hi
  simp [World.cell?,h1] at c0 c1 c2 c3
  exact ⟨c0,c1,c2,c3⟩
 ·exact h3 i hi (by omega)
theorem aH5 (h:w.cell? ⟨g,p,none⟩=some u) (hne:q≠p):(w.setCell ⟨g,q,none⟩ v).cell? ⟨g,p,none⟩=some u:=
 (World.cell?_setCell_other _ _ _ _ (fun e=>hne (congrArg Addr.off e))).trans h
def aJW (w0:World) (b p:Nat) (q:Q) (w:World):Prop:=QAt w b p q∧Bw w0 w
theorem aJW.call {q:Q} (h:aJW w0 b p q w) (hb:Bw w w'):aJW w0 b p q w':=⟨h.1.below hb,yB h.2 hb⟩
theorem aJW.drew {q:Q} (h:aJW w0 b p q w):aJW w0 b p q w.drew:=h.call (yH _ _).drew
theorem aJW.read (w0:World) (b p:Nat) (q:Q):∀wx,aJW w0 b p q wx→wx.cell? ⟨b,p,none⟩=some (.string (bs q.name))∧wx.cell? ⟨b,p+1,none⟩=some (.string (bs q.parent))∧wx.cell? ⟨b,p+2,none⟩=some (.int .i64 q.due)∧wx.cell? ⟨b,p+3,none⟩=some (.int .i64 q.most):=
 fun wx h=>⟨h.1.1,h.1.2.1,h.1.2.2.1,h.1.2.2.2⟩
theorem aG3 (h:arr[j]? = some x):arr.setIfInBounds j x=arr:=by
 apply Array.ext
 ·simp
 ·intro i h1 h2
  rw [Array.getElem_setIfInBounds]
  split
  ·rename_i e
   subst e
   rw [Array.getElem?_eq_getElem h2] at h
   exact (Option.some.inj h).symm
  ·rfl
theorem mX (h:w.cell? ⟨g,j,none⟩=some x):w.setCell ⟨g,j,none⟩ x=w:=by
 cases ho:w.heap[g]? with
 | none=>simp [World.cell?,ho] at h
 | some o=>
  cases o with
  | cells cur t fr=>
   have hx:cur[j]? = some x:=by simpa [World.cell?,ho] using h
   rw [setCell_eq_setRow w g j cur t fr x ho,aG3 hx]
   exact setRow_self w g cur t fr ho
  | _=>simp [World.cell?,ho] at h
structure aEE (S:World→Prop) (w0:World) (n:Nat):Prop where
 call:∀{wx wy:World},S wx→Bw wx wy→S wy
 set:∀{wx:World} (k j:Nat) (v:Value),S wx→n≤k→S (wx.setCell ⟨k,j,none⟩ v)
 size:∀{wx:World},S wx→n≤wx.heap.size
 below:∀{wx:World},S wx→Bw w0 wx
theorem aEE.drew (h:aEE S w0 n) (hs:S wx):S wx.drew:=h.call hs (yH _ _).drew
theorem aEE.al (h:aEE S w0 n) (hs:S wx) (o:Obj):S (wx.alloc o):=h.call hs (yA (yH _ _) o)
theorem aEE.set2 (h:aEE S w0 n) (hs:S wx) (k:Nat) (a b:Value) (hk:n≤k):S ((wx.setCell ⟨k,0,none⟩ a).setCell ⟨k,1,none⟩ b):=h.set k 1 b (h.set k 0 a hs hk) hk
def Kp (w1 wx:World):Prop:=Bw w1 wx
theorem aK (w1:World):aEE (Kp w1) w1 w1.heap.size where
 call:=fun h hb=>yB h hb
 set:=fun k j v h hk=>yC h _ _ _ hk
 size:=fun h=>h.size
 below:=fun h=>h
theorem Kp.cell {w1:World} (h:Kp w1 wx) (hc:w1.cell? ⟨b,j,none⟩=some v):wx.cell? ⟨b,j,none⟩=some v:=(Below.cell h (p:=⟨b,j,none⟩) (yG hc)).trans hc
theorem Kp.new (w1:World):Kp w1 w1:=yH _ _
abbrev aD6 (q:Mac):List Value:=[.string (bs q.name),.int .i64 q.mem,.int .i64 q.cpu,.int .i64 q.seen]
def dR:List Mac→List Value
 | []=>[]
 | q::t=>aD6 q++dR t
theorem aA0 (a:List Mac) (q:Mac):dR (a++[q])=dR a++aD6 q:=by
 induction a with
 | nil=>rfl
 | cons x t ih=>rw [List.cons_append,dR,dR,ih,List.append_assoc]
theorem iG:∀l:List Mac,(dR l).length=l.length*4
 | []=>rfl
 | q::t=>by rw [dR,List.length_append,iG t];simp;omega
theorem qJ:∀(l:List Mac) (i:Nat) (h:i<l.length),(dR l)[i*4]? = some (.string (bs l[i].name))∧(dR l)[i*4+1]? = some (.int .i64 l[i].mem)∧(dR l)[i*4+2]? = some (.int .i64 l[i].cpu)∧(dR l)[i*4+3]? = some (.int .i64 l[i].seen)
 | q::t,0,_=>⟨rfl,rfl,rfl,rfl⟩
 | q::t,i+1,h=>by
  have e:=qJ t i (by simpa using h)
  have k:∀j,(dR (q::t))[(i+1)*4+j]? = (dR t)[i*4+j]?:=fun j=>by
   rw [dR,show (i+1)*4+j=(aD6 q).length+(i*4+j) by simp;omega,List.getElem?_append_right (by omega)]
   congr 1
   omega
  have k0:=k 0
  simp only [Nat.add_zero] at k0
  rw [k0,k 1,k 2,k 3]
  simpa using e
theorem rV {off len:Nat} {l:List Mac} (h:cO w (some ⟨b,off,none⟩) len l):∀j u,(dR l)[j]? = some u→w.cell? ⟨b,off+j,none⟩=some u:=fun j u hj=>by
 have hjl:j<l.length*4:=by rw [←iG];exact (List.getElem?_eq_some_iff.1 hj).1
 obtain ⟨h1,h2⟩:=h
 rcases h2 with h2 | ⟨b',off',e,h4⟩
 ·omega
 ·cases e
  have hi:j / 4<l.length:=by omega
  obtain ⟨a0,a1,a2,a3⟩:=qJ l (j / 4) hi
  obtain ⟨c0,c1,c2,c3⟩:=h4 (j / 4) hi
  rcases (show j % 4=0∨j % 4=1∨j % 4=2∨j % 4=3 by omega) with e | e | e | e
  ·rw [show j=j / 4*4 by omega] at hj ⊢;rw [a0] at hj;cases hj;exact c0
  ·rw [show j=j / 4*4+1 by omega] at hj ⊢;rw [a1] at hj;cases hj;rw [←Nat.add_assoc];exact c1
  ·rw [show j=j / 4*4+2 by omega] at hj ⊢;rw [a2] at hj;cases hj;rw [←Nat.add_assoc];exact c2
  ·rw [show j=j / 4*4+3 by omega] at hj ⊢;rw [a3] at hj;cases hj;rw [←Nat.add_assoc];exact c3
theorem rW:∀(l:List Mac),∀u ∈ dR l,u.oneCell'=true
 | [],u,h=>by simp [dR] at h
 | q::t,u,h=>by
  rw [dR,List.mem_append] at h
  rcases h with h | h
  ·simp at h
   rcases h with rfl | rfl | rfl | rfl<;>rfl
  ·exact rW t u h
def aHv (B:Nat) (w:World) (v:Value) (l:List Mac):Prop:=w.ownsRow B 102 4 v l.length (dR l)
theorem aI2 (B:Nat) (w:World):aHv B w (.slice none 0 0) []:=World.ownsRow_nil _ _ _ _
theorem aAZ (w:World):w.alloc (.cells #[] 102) |>.ownsRow w.heap.size 102 4 (.slice (some ⟨w.heap.size,0,none⟩) 0 0) 0 []:=
 ⟨rfl,.inr ⟨w.heap.size,0,#[],rfl,yJ _,by show (w.heap.push _)[w.heap.size]? = _;simp,yJ _,by unfold maxLen;omega,rfl,rfl⟩⟩
theorem xI {l:List Mac} (h:aHv B w v l) (hb:B'≤B):aHv B' w v l:=by
 obtain ⟨h1,h2⟩:=h
 refine ⟨h1,?_⟩
 rcases h2 with h2 | ⟨g,cap,cur,a,b,c⟩
 ·exact .inl h2
 ·exact .inr ⟨g,cap,cur,a,Nat.le_trans hb b,c⟩
theorem aI1 {l:List Mac} (h:aHv B w v l):∃ao cap,v=.slice ao l.length cap∧cO w ao l.length l∧l.length≤cap∧(l≠[]→∃g cur,ao=some ⟨g,0,none⟩∧B≤g∧w.heap[g]? = some (.cells cur 102 (0,0))∧cur.size=cap*4):=by
 rcases h.2 with ⟨rfl,h0⟩ | ⟨g,cap,cur,rfl,h1,h2,h3,h4,h5,h6⟩
 ·exact ⟨none,0,by rw [h0],⟨rfl,.inl h0⟩,by omega,fun hn=>absurd (List.length_eq_zero_iff.1 h0) hn⟩
 ·refine ⟨some ⟨g,0,none⟩,cap,rfl,⟨rfl,.inr ⟨g,0,rfl,fun i hi=>?_⟩⟩,h3,fun _=>⟨g,cur,rfl,h1,h2,h5⟩⟩
  obtain ⟨a,b,c,d⟩:=qJ l i hi
  have k:∀j (v:Value),j<l.length*4→(dR l)[j]? = some v→w.cell? ⟨g,j,none⟩=some v:=fun j v hj hv=>by
   rw [←h6,List.getElem?_take_of_lt hj] at hv
   simp [World.cell?,h2]
   simpa using hv
  unfold oK
  rw [Nat.zero_add]
  exact ⟨k _ _ (by omega) a,k _ _ (by omega) b,k _ _ (by omega) c,k _ _ (by omega) d⟩
theorem Tryz.infoMachine:(Tryz.prog.info? 102).map (fun i=>(i.zero,i.size,i.bytes))=some (some (.agg #[.string ByteArray.empty,.int .i64 0,.int .i64 0,.int .i64 0]),4,40):=by kernel_rfl
theorem vV (ao:Option Addr) (len cap:Nat) (l:List Mac) (w:World) (h:cO w ao len l) (hl:len≤1048576) :
  cP 110 #[.slice ao len cap] w fun e w'=>∃v,e=.returned v∧aHv w.heap.size w' v l∧Bw w w':=by
 obtain ⟨i0,hi,hz0,hz1,hz2⟩:=info_parts Tryz.infoMachine
 cases ao with
 | none=>
  have hn:len=0:=by rcases h.2 with h | ⟨b,off,e,_⟩;exact h;cases e
  subst hn
  have hl0:l=[]:=List.length_eq_zero_iff.1 h.1.symm
  subst hl0
  have hnl:∀wx,(binOp .eql 26 (.slice none 0 cap) (.slice none 0 0)).run Tryz.prog wx=.ok (.bool true) wx:=fun wx=>Lib.run_eql_slice_nil wx _ _ none 0 cap 0 0 Tryz.underlying26
  clear h hl
  go_enter Tryz.func110,Tryz.ntmps110
  go_wp2
  go_ret
  exact ⟨_,rfl,aI2 _ _,yH _ _⟩
 | some ad=>
  have Gz:∀j u,(dR l)[j]? = some u→(w.alloc (.cells #[] 102)).cell? (ad.add j)=some u:=fun j u hj=>by
   have hjl:j<l.length*4:=by rw [←iG];exact (List.getElem?_eq_some_iff.1 hj).1
   rcases h.2 with h0 | ⟨b,off,e,_⟩
   ·have:=h.1;omega
   ·cases e
    have:=rV (h.below (yA (yH _ w) (.cells #[] 102))) j u hj
    rw [Lib.add_plain]
    exact this
  have QH:=aA Gz
  have Q6:=aA h.1
  have Hq:=aAZ w
  have hll:(dR l).length=len*4:=by rw [iG,h.1]
  have gy:=rW l
  have hnl:∀wx,(binOp .eql 26 (.slice (some ad) len cap) (.slice none 0 0)).run Tryz.prog wx=.ok (.bool false) wx:=fun wx=>Lib.run_eql_slice_nil wx _ _ (some ad) len cap 0 0 Tryz.underlying26
  clear h Gz
  go_enter Tryz.func110,Tryz.ntmps110
  go_wp2_with (at_builtin;refine wpList_append_own _ rfl _ _ 26 rfl w.heap.size 102 i0 (.agg #[.string ByteArray.empty,.int .i64 0,.int .i64 0,.int .i64 0]) 4 40 Tryz.underlying26 hi hz0 hz1 hz2 rfl (by decide) _ _ _ rfl Hq ad len cap (dR l) rfl hll (uH QH) gy ?c3 ?c4 ?c5 ?_)
  case c3=>unfold maxLen;omega
  case c4=>omega
  case c5=>simp
  intro v' w3 Hy Hz _
  have HO:=aA (show aHv w.heap.size w3 v' l by
   unfold aHv
   rw [←uH Q6]
   simpa using Hy)
  have HB:=aA (show Bw w w3 from (yA (yH _ w) (.cells #[] 102)).grown Hz (by simp) (fun k e=>by simp [Value.ownBlock] at e;omega))
  clear Hy Hz Hq gy hll
  go_wp2
  go_ret
  exact ⟨_,rfl,uH HO,uH HB⟩
abbrev aDt (q:Con):List Value:=[.int .i64 q.id,.int .i64 q.app,.string (bs q.node),.int .i64 q.mem,.int .i64 q.cpu]
def aJ:List Con→List Value
 | []=>[]
 | q::t=>aDt q++aJ t
theorem sP (a:List Con) (q:Con):aJ (a++[q])=aJ a++aDt q:=by
 induction a with
 | nil=>rfl
 | cons x t ih=>rw [List.cons_append,aJ,aJ,ih,List.append_assoc]
theorem bB:∀l:List Con,(aJ l).length=l.length*5
 | []=>rfl
 | q::t=>by rw [aJ,List.length_append,bB t];simp;omega
theorem gQ:∀(l:List Con) (i:Nat) (h:i<l.length),(aJ l)[i*5]? = some (.int .i64 l[i].id)∧(aJ l)[i*5+1]? = some (.int .i64 l[i].app)∧(aJ l)[i*5+2]? = some (.string (bs l[i].node))∧(aJ l)[i*5+3]? = some (.int .i64 l[i].mem)∧(aJ l)[i*5+4]? = some (.int .i64 l[i].cpu)
 | q::t,0,_=>⟨rfl,rfl,rfl,rfl,rfl⟩
 | q::t,i+1,h=>by
  have e:=gQ t i (by simpa using h)
  have k:∀j,(aJ (q::t))[(i+1)*5+j]? = (aJ t)[i*5+j]?:=fun j=>by
   rw [aJ,show (i+1)*5+j=(aDt q).length+(i*5+j) by simp;omega,List.getElem?_append_right (by omega)]
   congr 1
   omega
  have k0:=k 0
  simp only [Nat.add_zero] at k0
  rw [k0,k 1,k 2,k 3,k 4]
  simpa using e
theorem iJ {off len:Nat} {l:List Con} (h:bG w (some ⟨b,off,none⟩) len l):∀j u,(aJ l)[j]? = some u→w.cell? ⟨b,off+j,none⟩=some u:=fun j u hj=>by
 have hjl:j<l.length*5:=by rw [←bB];exact (List.getElem?_eq_some_iff.1 hj).1
 obtain ⟨h1,h2⟩:=h
 rcases h2 with h2 | ⟨b',off',e,h4⟩
 ·omega
 ·cases e
  have hi:j / 5<l.length:=by omega
  obtain ⟨a0,a1,a2,a3,a4⟩:=gQ l (j / 5) hi
  obtain ⟨c0,c1,c2,c3,c4⟩:=h4 (j / 5) hi
  rcases (show j % 5=0∨j % 5=1∨j % 5=2∨j % 5=3∨j % 5=4 by omega) with e | e | e | e | e
  ·rw [show j=j / 5*5 by omega] at hj ⊢;rw [a0] at hj;cases hj;exact c0
  ·rw [show j=j / 5*5+1 by omega] at hj ⊢;rw [a1] at hj;cases hj;rw [←Nat.add_assoc];exact c1
  ·rw [show j=j / 5*5+2 by omega] at hj ⊢;rw [a2] at hj;cases hj;rw [←Nat.add_assoc];exact c2
  ·rw [show j=j / 5*5+3 by omega] at hj ⊢;rw [a3] at hj;cases hj;rw [←Nat.add_assoc];exact c3
  ·rw [show j=j / 5*5+4 by omega] at hj ⊢;rw [a4] at hj;cases hj;rw [←Nat.add_assoc];exact c4
theorem jF:∀(l:List Con),∀u ∈ aJ l,u.oneCell'=true
 | [],u,h=>by simp [aJ] at h
 | q::t,u,h=>by
  rw [aJ,List.mem_append] at h
  rcases h with h | h
  ·simp at h
   rcases h with rfl | rfl | rfl | rfl | rfl<;>rfl
  ·exact jF t u h
def zQ (B:Nat) (w:World) (v:Value) (l:List Con):Prop:=w.ownsRow B 52 5 v l.length (aJ l)
theorem aEr (B:Nat) (w:World):zQ B w (.slice none 0 0) []:=World.ownsRow_nil _ _ _ _
theorem aAg (w:World):w.alloc (.cells #[] 52) |>.ownsRow w.heap.size 52 5 (.slice (some ⟨w.heap.size,0,none⟩) 0 0) 0 []:=
 ⟨rfl,.inr ⟨w.heap.size,0,#[],rfl,yJ _,by show (w.heap.push _)[w.heap.size]? = _;simp,yJ _,by unfold maxLen;omega,rfl,rfl⟩⟩
theorem aAh {l:List Con} (h:zQ B w v l) (hb:Bw w w'):zQ B w' v l:=
 World.ownsRow.kept h (aG (aF w none) hb) (by by_cases e:v.ownBlock=none;exact .inl e;exact .inr e)
theorem aH3 {l:List Con} (h:zQ B w v l) (hb:B'≤B):zQ B' w v l:=by
 obtain ⟨h1,h2⟩:=h
 refine ⟨h1,?_⟩
 rcases h2 with h2 | ⟨g,cap,cur,a,b,c⟩
 ·exact .inl h2
 ·exact .inr ⟨g,cap,cur,a,Nat.le_trans hb b,c⟩
theorem wF {l:List Con} (h:zQ B w v l):∃ao cap,v=.slice ao l.length cap∧bG w ao l.length l∧l.length≤cap∧(l≠[]→∃g cur,ao=some ⟨g,0,none⟩∧B≤g∧w.heap[g]? = some (.cells cur 52 (0,0))∧cur.size=cap*5):=by
 rcases h.2 with ⟨rfl,h0⟩ | ⟨g,cap,cur,rfl,h1,h2,h3,h4,h5,h6⟩
 ·exact ⟨none,0,by rw [h0],⟨rfl,.inl h0⟩,by omega,fun hn=>absurd (List.length_eq_zero_iff.1 h0) hn⟩
 ·refine ⟨some ⟨g,0,none⟩,cap,rfl,⟨rfl,.inr ⟨g,0,rfl,fun i hi=>?_⟩⟩,h3,fun _=>⟨g,cur,rfl,h1,h2,h5⟩⟩
  obtain ⟨a,b,c,d,e⟩:=gQ l i hi
  have k:∀j (v:Value),j<l.length*5→(aJ l)[j]? = some v→w.cell? ⟨g,j,none⟩=some v:=fun j v hj hv=>by
   rw [←h6,List.getElem?_take_of_lt hj] at hv
   simp [World.cell?,h2]
   simpa using hv
  unfold mQ
  rw [Nat.zero_add]
  exact ⟨k _ _ (by omega) a,k _ _ (by omega) b,k _ _ (by omega) c,k _ _ (by omega) d,k _ _ (by omega) e⟩
theorem aAf {l:List Con} (h:zQ B w v l) (k j:Nat) (x:Value) (hk:k<B):zQ B (w.setCell ⟨k,j,none⟩ x) v l:=by
 obtain ⟨h1,h2⟩:=h
 refine ⟨h1,?_⟩
 rcases h2 with h2 | ⟨g,cap,cur,a,b,c,d⟩
 ·exact .inl h2
 ·exact .inr ⟨g,cap,cur,a,b,(heap_setCell_other w ⟨k,j,none⟩ g x (show g≠k by omega)).trans c,d⟩
theorem Tryz.infoCont:(Tryz.prog.info? 52).map (fun i=>(i.zero,i.size,i.bytes))=some (some (.agg #[.int .i64 0,.int .i64 0,.string ByteArray.empty,.int .i64 0,.int .i64 0]),5,48):=by kernel_rfl
theorem aBa (ao:Option Addr) (len cap:Nat) (l:List Con) (w:World) (h:bG w ao len l) (hl:len≤1048576) :
  cP 156 #[.slice ao len cap] w fun e w'=>∃v,e=.returned v∧zQ w.heap.size w' v l∧Bw w w':=by
 obtain ⟨i0,hi,hz0,hz1,hz2⟩:=info_parts Tryz.infoCont
 cases ao with
 | none=>
  have hn:len=0:=by rcases h.2 with h | ⟨b,off,e,_⟩;exact h;cases e
  subst hn
  have hl0:l=[]:=List.length_eq_zero_iff.1 h.1.symm
  subst hl0
  have hnl:∀wx,(binOp .eql 27 (.slice none 0 cap) (.slice none 0 0)).run Tryz.prog wx=.ok (.bool true) wx:=fun wx=>Lib.run_eql_slice_nil wx _ _ none 0 cap 0 0 Tryz.underlying27
  clear h hl
  go_enter Tryz.func156,Tryz.ntmps156
  go_wp2
  go_ret
  exact ⟨_,rfl,aEr _ _,yH _ _⟩
 | some ad=>
  have Gz:∀j u,(aJ l)[j]? = some u→(w.alloc (.cells #[] 52)).cell? (ad.add j)=some u:=fun j u hj=>by
   have hjl:j<l.length*5:=by rw [←bB];exact (List.getElem?_eq_some_iff.1 hj).1
   rcases h.2 with h0 | ⟨b,off,e,_⟩
   ·have:=h.1;omega
   ·cases e
    have:=iJ (h.below (yA (yH _ w) (.cells #[] 52))) j u hj
    rw [Lib.add_plain]
    exact this
  have QH:=aA Gz
  have Q6:=aA h.1
  have Hq:=aAg w
  have hll:(aJ l).length=len*5:=by rw [bB,h.1]
  have gy:=jF l
  have hnl:∀wx,(binOp .eql 27 (.slice (some ad) len cap) (.slice none 0 0)).run Tryz.prog wx=.ok (.bool false) wx:=fun wx=>Lib.run_eql_slice_nil wx _ _ (some ad) len cap 0 0 Tryz.underlying27
  clear h Gz
  go_enter Tryz.func156,Tryz.ntmps156
  go_wp2_with (at_builtin;refine wpList_append_own _ rfl _ _ 27 rfl w.heap.size 52 i0 (.agg #[.int .i64 0,.int .i64 0,.string ByteArray.empty,.int .i64 0,.int .i64 0]) 5 48 Tryz.underlying27 hi hz0 hz1 hz2 rfl (by decide) _ _ _ rfl Hq ad len cap (aJ l) rfl hll (uH QH) gy ?c3 ?c4 ?c5 ?_)
  case c3=>unfold maxLen;omega
  case c4=>omega
  case c5=>simp
  intro v' w3 Hy Hz _
  have HO:=aA (show zQ w.heap.size w3 v' l by
   unfold zQ
   rw [←uH Q6]
   simpa using Hy)
  have HB:=aA (show Bw w w3 from (yA (yH _ w) (.cells #[] 52)).grown Hz (by simp) (fun k e=>by simp [Value.ownBlock] at e;omega))
  clear Hy Hz Hq gy hll
  go_wp2
  go_ret
  exact ⟨_,rfl,uH HO,uH HB⟩
theorem kS (s:ByteArray) (w:World) (hs:s.size≤281474976710656) :
  cP 111 #[.string s] w fun e w'=>e=.returned (.string s)∧Bw w w':=by
 go_enter Tryz.func111,Tryz.ntmps111
 go_wp2_with fail
 refine (Tryz.stringslite_Clone s _ hs).mono ?_
 rintro e w1 ⟨rfl,hb⟩
 have HB:Hid (Bw w w1):=hb
 clear hb
 go_wp2
 go_ret
 exact ⟨rfl,HB⟩
abbrev aKT (q:Q):List Value:=[.string (bs q.name),.string (bs q.parent),.int .i64 q.due,.int .i64 q.most]
def fD:List Q→List Value
 | []=>[]
 | q::t=>aKT q++fD t
theorem iE:∀l:List Q,(fD l).length=l.length*4
 | []=>rfl
 | q::t=>by rw [fD,List.length_append,iE t];simp;omega
theorem wY:∀(l:List Q) (i:Nat) (h:i<l.length),(fD l)[i*4]? = some (.string (bs l[i].name))∧(fD l)[i*4+1]? = some (.string (bs l[i].parent))∧(fD l)[i*4+2]? = some (.int .i64 l[i].due)∧(fD l)[i*4+3]? = some (.int .i64 l[i].most)
 | q::t,0,_=>⟨rfl,rfl,rfl,rfl⟩
 | q::t,i+1,h=>by
  have e:=wY t i (by simpa using h)
  have k:∀j,(fD (q::t))[(i+1)*4+j]? = (fD t)[i*4+j]?:=fun j=>by
   rw [fD,show (i+1)*4+j=(aKT q).length+(i*4+j) by simp;omega,List.getElem?_append_right (by omega)]
   congr 1
   omega
  have k0:=k 0
  simp only [Nat.add_zero] at k0
  rw [k0,k 1,k 2,k 3]
  simpa using e
def oH (B:Nat) (w:World) (v:Value) (l:List Q):Prop:=w.ownsRow B 56 4 v l.length (fD l)
theorem aE2 (B:Nat) (w:World):oH B w (.slice none 0 0) []:=World.ownsRow_nil _ _ _ _
theorem rR (w:World):oH w.heap.size (w.alloc (.cells #[] 56)) (.slice (some ⟨w.heap.size,0,none⟩) 0 0) []:=
 ⟨rfl,.inr ⟨w.heap.size,0,#[],rfl,yJ _,by show (w.heap.push _)[w.heap.size]? = _;simp,yJ _,by unfold maxLen;omega,rfl,rfl⟩⟩
theorem oH.below {l:List Q} (h:oH B w v l) (hb:Bw w w'):oH B w' v l:=
 h.kept (aG (aF w none) hb) (by by_cases e:v.ownBlock=none;exact .inl e;exact .inr e)
theorem oH.row {l:List Q} (h:oH B w v l):∃ao cap,v=.slice ao l.length cap∧gJ w ao l.length l∧l.length≤cap:=by
 rcases h.2 with ⟨rfl,h0⟩ | ⟨g,cap,cur,rfl,h1,h2,h3,h4,h5,h6⟩
 ·exact ⟨none,0,by rw [h0],⟨rfl,.inl h0⟩,by omega⟩
 ·refine ⟨some ⟨g,0,none⟩,cap,rfl,⟨rfl,.inr ⟨g,0,rfl,fun i hi=>?_⟩⟩,h3⟩
  obtain ⟨a,b,c,d⟩:=wY l i hi
  have k:∀j (v:Value),j<l.length*4→(fD l)[j]? = some v→w.cell? ⟨g,j,none⟩=some v:=fun j v hj hv=>by
   rw [←h6,List.getElem?_take_of_lt hj] at hv
   simp [World.cell?,h2]
   simpa using hv
  unfold QAt
  rw [Nat.zero_add]
  exact ⟨k _ _ (by omega) a,k _ _ (by omega) b,k _ _ (by omega) c,k _ _ (by omega) d⟩
theorem oH.some {l:List Q} (h:oH B w v l) (hl:l≠[]):∃g cap,v=.slice (some ⟨g,0,none⟩) l.length cap∧aKs w 56 g cap∧gJ w (some ⟨g,0,none⟩) l.length l∧l.length≤cap∧B≤g:=by
 obtain ⟨ao,cap,e,hr,hc⟩:=h.row
 rcases h.2 with ⟨rfl,h0⟩ | ⟨g,cap',cur,rfl,h1,h2,h3,h4,h5,h6⟩
 ·exact absurd (List.eq_nil_of_length_eq_zero h0) hl
 ·simp only [Value.slice.injEq] at e
  obtain ⟨rfl,_,rfl⟩:=e
  exact ⟨g,cap',rfl,⟨cur,h2,by omega,fun i hi=>absurd hi (by simp)⟩,hr,hc,h1⟩
theorem Tryz.infoQ:(Tryz.prog.info? 56).map (fun i=>(i.zero,i.size,i.bytes))=some (some (.agg #[.string ByteArray.empty,.string ByteArray.empty,.int .i64 0,.int .i64 0]),4,48):=by kernel_rfl
theorem aAD (q:Con) (w:World) (hn:q.node.length≤1048576) :
  cP 157 #[conv q] w fun e w'=>e=.returned (conv q)∧Bw w w':=by
 obtain ⟨id,ap,nd,me,cp⟩:=q
 simp only at hn
 have hs:(bs nd).size≤281474976710656:=by rw [dD];omega
 have HB0:=aA (yA (yA (yH _ w) (.cells #[.int .i64 id,.int .i64 ap,.string (bs nd),.int .i64 me,.int .i64 cp] 52)) (.cells #[.int .i64 0,.int .i64 0,.string ByteArray.empty,.int .i64 0,.int .i64 0] 52))
 have P0:=aA ((yD w #[.int .i64 id,.int .i64 ap,.string (bs nd),.int .i64 me,.int .i64 cp] 52).al (.cells #[.int .i64 0,.int .i64 0,.string ByteArray.empty,.int .i64 0,.int .i64 0] 52))
 have P1:=aA (show Blk _ (w.heap.size+1) #[.int .i64 0,.int .i64 0,.string ByteArray.empty,.int .i64 0,.int .i64 0] 52 by have:=yD (w.alloc (.cells #[.int .i64 id,.int .i64 ap,.string (bs nd),.int .i64 me,.int .i64 cp] 52)) #[.int .i64 0,.int .i64 0,.string ByteArray.empty,.int .i64 0,.int .i64 0] 52;rwa [yE] at this)
 clear hn
 go_enter Tryz.func157,Tryz.ntmps157
 go_wp2_with fail
 refine (kS (bs nd) _ hs).mono ?_
 rintro e w1 ⟨rfl,hb⟩
 have HB1:=aA (yB (uH HB0) hb)
 have Q0:=aA ((uH P0).below hb)
 have Q1:=aA ((uH P1).below hb)
 clear hb HB0 P0 P1
 have d2:=(uH Q0).at 2
 have f2:=(uH Q0).f 2
 simp at d2
 go_upto_region 2 with fail
 have HB2:=aA (yC (uH HB1) w.heap.size 2 (.string (bs nd)) (yJ _))
 have R0:=aA (show Blk (w1.setCell ⟨w.heap.size,2,none⟩ (.string (bs nd))) w.heap.size #[.int .i64 id,.int .i64 ap,.string (bs nd),.int .i64 me,.int .i64 cp] 52 from (uH Q0).set 2 (.string (bs nd)))
 have R1:=aA ((uH Q1).other w.heap.size 2 (.string (bs nd)) (by omega))
 generalize w1.setCell ⟨w.heap.size,2,none⟩ (.string (bs nd))=w2 at HB2 R0 R1 ⊢
 clear d2 f2 HB1 Q0 Q1
 obtain ⟨a0,a1,a2,a3,a4⟩:=zp (uH R0)
 obtain ⟨c0,c1,c2,c3,c4⟩:=zp (uH R1)
 have f0:=(uH R1).f 0;have f1:=(uH R1).f 1;have f2:=(uH R1).f 2;have f3:=(uH R1).f 3;have f4:=(uH R1).f 4
 go_wp2
 have GM:=aA (yC (yC (yC (yC (yC (uH HB2) (w.heap.size+1) 0 (.int .i64 id) (by omega)) (w.heap.size+1) 1 (.int .i64 ap) (by omega)) (w.heap.size+1) 2 (.string (bs nd)) (by omega)) (w.heap.size+1) 3 (.int .i64 me) (by omega)) (w.heap.size+1) 4 (.int .i64 cp) (by omega))
 have R9:=aA (show Blk (((((w2.setCell ⟨w.heap.size+1,0,none⟩ (.int .i64 id)).setCell ⟨w.heap.size+1,1,none⟩ (.int .i64 ap)).setCell ⟨w.heap.size+1,2,none⟩ (.string (bs nd))).setCell ⟨w.heap.size+1,3,none⟩ (.int .i64 me)).setCell ⟨w.heap.size+1,4,none⟩ (.int .i64 cp)) (w.heap.size+1) #[.int .i64 id,.int .i64 ap,.string (bs nd),.int .i64 me,.int .i64 cp] 52 from (((((uH R1).set 0 (.int .i64 id)).set 1 (.int .i64 ap)).set 2 (.string (bs nd))).set 3 (.int .i64 me)).set 4 (.int .i64 cp))
 generalize (((((w2.setCell ⟨w.heap.size+1,0,none⟩ (.int .i64 id)).setCell ⟨w.heap.size+1,1,none⟩ (.int .i64 ap)).setCell ⟨w.heap.size+1,2,none⟩ (.string (bs nd))).setCell ⟨w.heap.size+1,3,none⟩ (.int .i64 me)).setCell ⟨w.heap.size+1,4,none⟩ (.int .i64 cp))=W9 at GM R9 ⊢
 obtain ⟨z0,z1,z2,z3,z4⟩:=zp (uH R9)
 refine bodyPost_ret (v:=.agg #[.int .i64 id,.int .i64 ap,.string (bs nd),.int .i64 me,.int .i64 cp]) (by simp [results,Tryz.results157,go_sem,z0,z1,z2,z3,z4]) rfl ⟨rfl,uH GM⟩
def aN (nm:List UInt8):List Q→Nat→Int
 | [],_=>-1
 | q::t,k=>if q.name=nm then k else aN nm t (k+1)
def place (l:List Q) (nm:List UInt8):Int:=aN nm l 0
theorem zV {l:List Q} (h:k<l.length):aN nm (l.drop k) k=if l[k].name=nm then (k:Int) else aN nm (l.drop (k+1)) (k+1):=by
 rw [List.drop_eq_getElem_cons h,aN]
theorem aBG {l:List Q} (h:l.length≤k):aN nm (l.drop k) k = -1:=by
 rw [List.drop_of_length_le h];rfl
theorem aBg (x m:Int) (h0:0≤m) (h1:m<9223372036854775808):0≤bits .and .i64 x m∧bits .and .i64 x m≤m:=by
 obtain ⟨M,rfl⟩:=Int.eq_ofNat_of_zero_le h0
 have hM:(BitVec.ofInt 64 (M:Int)).toNat=M:=by rw [BitVec.toNat_ofInt];omega
 have hle:(BitVec.ofInt 64 x &&& BitVec.ofInt 64 (M:Int)).toNat≤M:=by
  rw [BitVec.toNat_and,hM];exact Nat.and_le_right
 have e:bits .and .i64 x (M:Int)=IntKind.i64.wrap ((BitVec.ofInt 64 x &&& BitVec.ofInt 64 (M:Int)).toNat:Int):=rfl
 rw [e,IntKind.wrap_i64]
 omega
def Code (w:World) (B:Nat) (ao:Option Addr) (len:Nat):Prop:=
 B≤w.heap.size∧len≤1048576∧(len=0∨∃b off,∃zs:Nat→Int,ao=some ⟨b,off,none⟩∧b<B∧(∀j,j<len→w.cell? ⟨b,off+j,none⟩=some (.int .u8 (zs j)))∧∀j,0≤zs j∧zs j≤255)
def Cur (w:World) (g:Nat) (ao:Option Addr) (len cap:Nat):Prop:=
 ∃(i:Nat) (h:Int),w.heap[g]? = some (.cells #[.slice ao len cap,.int .i64 (i:Int),.int .i64 h] 96 (0,0))∧i≤len
theorem Cur.lt {len:Nat} (h:Cur w g ao len cap):g<w.heap.size:=by
 obtain ⟨i,x,h,_⟩:=h
 exact lt_of_block h
theorem Code.below {len:Nat} (h:Code w B ao len) (hb:Below B' w w') (hB:B≤B'):Code w' B ao len:=by
 refine ⟨Nat.le_trans h.1 hb.size,h.2.1,?_⟩
 rcases h.2.2 with h0 | ⟨b,off,zs,h1,h2,h3,h4⟩
 ·exact .inl h0
 ·exact .inr ⟨b,off,zs,h1,h2,fun j hj=>(hb.cell (p:=⟨b,off+j,none⟩) (by show b<B';omega)).trans (h3 j hj),h4⟩
theorem Code.grown {len:Nat} (h:Code w B ao len) (hg:w.grownBy w' (some g)) (hB:B≤g):Code w' B ao len:=
 h.below (kG (yH B w) hg h.1 hB) (yJ _)
theorem Cur.below {len:Nat} (h:Cur w g ao len cap) (hb:Below B w w') (hg:g<B):Cur w' g ao len cap:=by
 obtain ⟨i,x,h1,h2⟩:=h
 exact ⟨i,x,(hb.block g hg).trans h1,h2⟩
theorem aH2 {len:Nat} (hg:w.heap[g]? = some (.cells #[.slice ao len cap,.int .i64 (i:Int),.int .i64 h] 96 (0,0))) (H:Int) (n m:Nat) (hi:i≤len) :
  Cur (((w.setCell ⟨g,2,none⟩ (.int .i64 H)).drewN n).drewN m) g ao len cap∧w.grownBy (((w.setCell ⟨g,2,none⟩ (.int .i64 H)).drewN n).drewN m) (some g):=by
 refine ⟨⟨i,H,?_,hi⟩,mE (mE (dM (aF w _) 2 _) n) m⟩
 have:=heap_setCell_same w g 2 _ _ (.int .i64 H) hg
 exact this.trans (by simp)
theorem aH1 {len:Nat} (hg:w.heap[g]? = some (.cells #[.slice ao len cap,.int .i64 (i:Int),.int .i64 h] 96 (0,0))) (H:Int) (n:Nat) (hi:i+1≤len) :
  Cur (((w.setCell ⟨g,2,none⟩ (.int .i64 H)).drewN n).setCell ⟨g,1,none⟩ (.int .i64 ((i:Int)+1))) g ao len cap∧w.grownBy (((w.setCell ⟨g,2,none⟩ (.int .i64 H)).drewN n).setCell ⟨g,1,none⟩ (.int .i64 ((i:Int)+1))) (some g):=by
 refine ⟨⟨i+1,H,?_,hi⟩,dM (mE (dM (aF w _) 2 _) n) 1 _⟩
 have h1:=heap_setCell_same w g 2 _ _ (.int .i64 H) hg
 have h2:=heap_setCell_same ((w.setCell ⟨g,2,none⟩ (.int .i64 H)).drewN n) g 1 _ _ (.int .i64 ((i:Int)+1)) h1
 exact h2.trans (by simp)
theorem kR (B g:Nat) (ao:Option Addr) (len cap:Nat) (w:World) (hcur:Cur w g ao len cap) (hcode:Code w B ao len) (hB:B≤g) :
  cP 119 #[.pointer (some ⟨g,0,none⟩)] w fun e w'=>∃x:Int,e=.returned (.int .i64 x)∧0≤x∧x≤255∧Cur w' g ao len cap∧w.grownBy w' (some g):=by
 obtain ⟨i,h,hg,hi⟩:=hcur
 have c0:w.cell? ⟨g,0,none⟩=some (.slice ao len cap):=by simp [World.cell?,hg]
 have c1:w.cell? ⟨g,1,none⟩=some (.int .i64 (i:Int)):=by simp [World.cell?,hg]
 have c2:w.cell? ⟨g,2,none⟩=some (.int .i64 h):=by simp [World.cell?,hg]
 have f1:w.frozen? ⟨g,1,none⟩=false:=by simp [World.frozen?,hg]
 have f2:w.frozen? ⟨g,2,none⟩=false:=by simp [World.frozen?,hg]
 have HG:=aA hg
 clear hg
 have hl:=hcode.2.1
 by_cases hlt:i<len
 ·rcases hcode.2.2 with h0 | ⟨b,off,zs,rfl,QF,hz,hzs⟩
  ·omega
  have hcz:∀v,(w.setCell ⟨g,2,none⟩ v).cell? ⟨b,off+i,none⟩=some (.int .u8 (zs i)):=fun v=>(World.cell?_setCell_other _ ⟨g,2,none⟩ ⟨b,off+i,none⟩ _ (by intro e;have:=congrArg Addr.block e;simp at this;omega)).trans (hz i hlt)
  obtain ⟨hz0,hz1⟩:=hzs i
  have YV:(i:Int)<(len:Int):=by omega
  clear hz hzs hcode
  go_enter Tryz.func119,Tryz.ntmps119
  go_wp2_with fail
  go_quiet (fail)
  go_wp2_with fail
  go_quiet (fail)
  go_wp2_with fail
  go_quiet (fail)
  go_wp2
  go_ret
  have hm:=aBg
  exact ⟨_,rfl,(hm _ 255 (by decide) (by decide)).1,(hm _ 255 (by decide) (by decide)).2,aH1 (uH HG) _ _ (by omega)⟩
 ·clear hcode
  go_enter Tryz.func119,Tryz.ntmps119
  go_wp2_with fail
  go_quiet (fail)
  go_wp2_with fail
  go_quiet (fail)
  go_wp2
  go_ret
  have hm:=aBg
  exact ⟨_,rfl,(hm _ 255 (by decide) (by decide)).1,(hm _ 255 (by decide) (by decide)).2,aH2 (uH HG) _ _ _ hi⟩
theorem uM (B g:Nat) (ao:Option Addr) (len cap:Nat) (n:Int) (w:World) (hcur:Cur w g ao len cap) (hcode:Code w B ao len) (hB:B≤g) (hn0:0<n) (hn1:n≤9223372036854775807) :
  cP 66 #[.pointer (some ⟨g,0,none⟩),.int .i64 n] w fun e w'=>∃x:Int,e=.returned (.int .i64 x)∧0≤x∧x<n∧Cur w' g ao len cap∧w.grownBy w' (some g):=by
 have HC:=aA hcur
 have HK:=aA hcode
 clear hcur hcode
 by_cases h256:n≤256
 ·go_enter Tryz.func66,Tryz.ntmps66
  go_wp2_with fail
  refine (kR B g ao len cap _ (uH HC) (uH HK) hB).mono ?_
  rintro e w1 ⟨x,rfl,hx0,hx1,hc1,hg1⟩
  have Z7:=aA hc1
  have XG:=aA hg1
  clear hc1 hg1
  go_wp2
  go_ret
  exact ⟨_,rfl,Int.emod_nonneg _ (by omega),Int.emod_lt_of_pos _ hn0,uH Z7,uH XG⟩
 ·go_enter Tryz.func66,Tryz.ntmps66
  go_wp2_with fail
  refine (kR B g ao len cap _ (uH HC) (uH HK) hB).mono ?_
  rintro e w1 ⟨x1,rfl,hx10,hx11,hc1,hg1⟩
  have Z7:=aA hc1
  have UF:=aA ((uH HK).grown hg1 hB)
  have XG:=aA hg1
  clear hc1 hg1
  go_wp2_with fail
  refine (kR B g ao len cap _ (uH Z7) (uH UF) hB).mono ?_
  rintro e w2 ⟨x2,rfl,hx20,hx21,hc2,hg2⟩
  have Zw:=aA hc2
  have WQ:=aA ((uH UF).grown hg2 hB)
  have HG2:=aA (bR (uH XG) hg2)
  clear hc2 hg2
  go_wp2_with fail
  refine (kR B g ao len cap _ (uH Zw) (uH WQ) hB).mono ?_
  rintro e w3 ⟨x3,rfl,hx30,hx31,hc3,hg3⟩
  have JA:=aA hc3
  have HK3:=aA ((uH WQ).grown hg3 hB)
  have vk:=aA (bR (uH HG2) hg3)
  clear hc3 hg3
  go_wp2_with fail
  refine (kR B g ao len cap _ (uH JA) (uH HK3) hB).mono ?_
  rintro e w4 ⟨x4,rfl,hx40,hx41,hc4,hg4⟩
  have Pk:=aA hc4
  have HG4:=aA (bR (uH vk) hg4)
  clear hc4 hg4
  go_wp2
  go_ret
  exact ⟨_,rfl,Int.emod_nonneg _ (by omega),Int.emod_lt_of_pos _ hn0,uH Pk,uH HG4⟩
theorem wR (N:Nat) (w:World) (hN:(N:Int)≤9223372036854775807) :
  cP 123 #[.int .i64 (N:Int)] w fun e w'=>e=.returned (.string (bs (Lib.itoa N)))∧w'=w:=by
 by_cases h0:N=0
 ·subst h0
  go_enter Tryz.func123,Tryz.ntmps123
  go_wp2
  go_ret
  exact ⟨aDW (by rw [Lib.itoa_nonneg,Lib.decDigits];rfl),rfl⟩
 ·have gz:(Lib.decDigits N).length≤20:=by rw [Lib.decDigits_length];exact Lib.nDigits_le20 N (by omega)
  have hne:((N:Int)==0)=false:=by simp;omega
  have hit:Hid (dgs N=Lib.itoa N):=aA (by rw [sM h0,Lib.itoa_nonneg])
  have Gx:(dgs N).length≤20:=by rw [sM h0];exact gz
  clear gz
  go_enter Tryz.func123,Tryz.ntmps123
  go_wp2
  go_loop [3,4,5] (fun o m _=>∃(u:Nat) (l:List UInt8),u≤N∧m=.int .i64 (u:Int)∧o=.string (bs l)∧dgs u++l=dgs N) (fun _ m _=>(intOf m).toNat)
  case atStart=>exact ⟨N,[],yJ _,rfl,rfl,by simp⟩
  case round=>
   obtain ⟨u,l,hu,rfl,rfl,ZY⟩:=hrel
   have hl:l.length≤20:=by have:=congrArg List.length ZY;simp only [List.length_append] at this;omega
   have hl2:(bs l).size≤20:=by rw [dD];exact hl
   have HC:=aA ZY
   clear ZY hl
   by_cases hu0:u=0
   ·subst hu0
    go_wp2
    go_ret
    exact ⟨aDW (congrArg bs ((uH HC).trans (uH hit))),rfl⟩
   ·go_wp2
    go_round
    case rel=>exact ⟨u / 10,UInt8.ofNat (48+u % 10)::l,by omega,by go_num,aGW (by rw [aDM _ (by omega),aB9]),by rw [←uH HC,aB6 hu0];simp⟩
    case measure=>simp [intOf];omega
theorem wS (N:Nat) (w:World) (h0:N≠0) (hN:(N:Int)≤9223372036854775808) :
  cP 123 #[.int .i64 (-(N:Int))] w fun e w'=>e=.returned (.string (bs (Lib.itoa (-(N:Int)))))∧w'=w:=by
 have gz:(Lib.decDigits N).length≤20:=by rw [Lib.decDigits_length];exact Lib.nDigits_le20 N (by omega)
 have hne:((-(N:Int))==0)=false:=by simp;omega
 have hit:Hid (45::dgs N=Lib.itoa (-(N:Int))):=aA (by rw [sM h0,Lib.itoa_neg _ (by omega)])
 have Gx:(dgs N).length≤20:=by rw [sM h0];exact gz
 clear gz
 go_enter Tryz.func123,Tryz.ntmps123
 go_wp2
 go_loop [3,4,5] (fun o m _=>∃(u:Nat) (l:List UInt8),u≤N∧m=.int .i64 (-(u:Int))∧o=.string (bs l)∧dgs u++l=dgs N) (fun _ m _=>(-(intOf m)).toNat)
 case atStart=>exact ⟨N,[],yJ _,rfl,rfl,by simp⟩
 case round=>
  obtain ⟨u,l,hu,rfl,rfl,ZY⟩:=hrel
  have hl:l.length≤20:=by have:=congrArg List.length ZY;simp only [List.length_append] at this;omega
  have hl2:(bs l).size≤20:=by rw [dD];exact hl
  have HC:=aA ZY
  clear ZY hl
  by_cases hu0:u=0
  ·subst hu0
   go_wp2
   go_ret
   exact ⟨aDW (by rw [aB9];exact congrArg bs ((congrArg (fun t=>45::t) (uH HC)).trans (uH hit))),rfl⟩
  ·go_wp2
   ·go_round
    case rel=>exact ⟨u / 10,UInt8.ofNat (48+u % 10)::l,by omega,by go_num,aGW (by rw [aDM _ (by omega),aB9]),by rw [←uH HC,aB6 hu0];simp⟩
    case measure=>simp [intOf];omega
   ·have hd:(u:Int) % 10≤0:=by assumption
    go_round
    case rel=>exact ⟨u / 10,UInt8.ofNat (48+u % 10)::l,by omega,by go_num,aGW (by rw [show (-((u:Int) % 10)).toNat=u % 10 from by omega,show (-((u:Int) % 10)+1).toNat=u % 10+1 from by omega,aDM _ (by omega),aB9]),by rw [←uH HC,aB6 hu0];simp⟩
    case measure=>simp [intOf];omega
theorem wT (n:Int) (w:World) (h0 : -9223372036854775808≤n) (h1:n≤9223372036854775807) :
  cP 123 #[.int .i64 n] w fun e w'=>e=.returned (.string (bs (Lib.itoa n)))∧w'=w:=by
 by_cases h:0≤n
 ·obtain ⟨N,rfl⟩:=Int.eq_ofNat_of_zero_le h
  exact wR N w h1
 ·obtain ⟨N,hN⟩:=Int.eq_ofNat_of_zero_le (a:=-n) (by omega)
  have e:n = -(N:Int):=by omega
  subst e
  exact wS N w (by omega) (by omega)
theorem mP {Q:Exit→Act→World→Prop} {md:Region.Mode} {d:Option Tmp} (hi:ops[i]? = some oi) (hd:oi.dst=d)
  (hs:Region.noSelect ops=true) (hf:Region.free md ops listed i=true) (hr:(Region.ready md ops listed).contains i=true)
  (hQ:∀c a w,Q (.panic c) (a.put d v) w→Q (.panic c) a w) (hy:YieldsIf P ops S oi v a) (hS:S w)
  (h:wpAnyH P md ops Q S fuel (listed.setIfInBounds i true) (a.put d v) w):wpAnyH P md ops Q S (fuel+1) listed a w:=by
 subst hd
 exact wpAnyH_take hi hs hf hr hQ hy hS h
theorem aLC {Q:Exit→Act→World→Prop} {md:Region.Mode} (i d:Nat) (hi:ops[i]? = some oi) (hd:oi.dst=some d) (hS:S w)
  (h:wpAnyH P md ops Q S fuel (listed.setIfInBounds i true) (a.put (some d) undef) w)
  (hs:Region.noSelect ops=true:=by kernel_rfl) (hf:Region.free md ops listed i=true:=by kernel_rfl) (hr:(Region.ready md ops listed).contains i=true:=by kernel_rfl)
  (hQ:∀c a w,Q (.panic c) (a.put (some d) undef) w→Q (.panic c) a w:=by exact fun _ _ _ h=>h) (hw:Region.wanted oi (yielded ops a.tmps)=false:=by kernel_rfl):wpAnyH P md ops Q S (fuel+1) listed a w:=
 mP hi hd hs hf hr hQ (Or.inr ⟨hw,rfl⟩) hS h
theorem bW {Q:Exit→Act→World→Prop} {md:Region.Mode} (i d:Nat) (v:Value) (hi:ops[i]? = some oi) (hd:oi.dst=some d) (hS:S w)
  (h:wpAnyH P md ops Q S fuel (listed.setIfInBounds i true) (a.put (some d) v) w)
  (hs:Region.noSelect ops=true:=by kernel_rfl) (hf:Region.free md ops listed i=true:=by kernel_rfl) (hr:(Region.ready md ops listed).contains i=true:=by kernel_rfl)
  (hQ:∀c a w,Q (.panic c) (a.put (some d) v) w→Q (.panic c) a w:=by exact fun _ _ _ h=>h) (hy:YieldsIf P ops S oi v a:=by exact Or.inl ⟨by rfl,fun wz hz=>by (go_simp;try with_reducible rfl)⟩):wpAnyH P md ops Q S (fuel+1) listed a w:=
 mP hi hd hs hf hr hQ hy hS h
theorem tW {Q:Exit→Act→World→Prop} {md:Region.Mode} (i d:Nat) (v:Value) (hS:S w) (h:wpAnyH P md ops Q S fuel (listed.setIfInBounds i true) (a.put (some d) v) w) (hi:ops[i]? = some oi:=by rfl) (hd:oi.dst=some d:=by rfl) (hs:Region.noSelect ops=true:=by kernel_rfl) (hf:Region.free md ops listed i=true:=by kernel_rfl) (hr:(Region.ready md ops listed).contains i=true:=by kernel_rfl) (hQ:∀c a w,Q (.panic c) (a.put (some d) v) w→Q (.panic c) a w:=by exact fun _ _ _ h=>h) (hy:YieldsIf P ops S oi v a:=by exact Or.inl ⟨by rfl,fun wz hz=>by (go_simp;try with_reducible rfl)⟩):wpAnyH P md ops Q S (fuel+1) listed a w:=bW i d v hi hd hS h hs hf hr hQ hy
theorem tU {Q:Exit→Act→World→Prop} {md:Region.Mode} (i d:Nat) (hS:S w) (h:wpAnyH P md ops Q S fuel (listed.setIfInBounds i true) (a.put (some d) undef) w) (hi:ops[i]? = some oi:=by rfl) (hd:oi.dst=some d:=by rfl) (hs:Region.noSelect ops=true:=by kernel_rfl) (hf:Region.free md ops listed i=true:=by kernel_rfl) (hr:(Region.ready md ops listed).contains i=true:=by kernel_rfl) (hQ:∀c a w,Q (.panic c) (a.put (some d) undef) w→Q (.panic c) a w:=by exact fun _ _ _ h=>h) (hw:Region.wanted oi (yielded ops a.tmps)=false:=by kernel_rfl):wpAnyH P md ops Q S (fuel+1) listed a w:=aLC i d hi hd hS h hs hf hr hQ hw
def lM (P:Program) (md:Region.Mode) (ops:Array Oper) (Q:Exit→Act→World→Prop) (X:Nat) (S T:World→Prop):Nat→Array Bool→Act→World→Prop
 | 0,listed,a,w=>Region.ready md ops listed=[]∧Q .normal a w
 | fuel+1,listed,a,w=>(Region.ready md ops listed=[]→Q .normal a w)∧
  ∀i ∈ Region.ready md ops listed,wpOp P ops Q i (fun a' w'=>S w'∧((listed.setIfInBounds i true).getD X false=false→T w')∧lM P md ops Q X S T fuel (listed.setIfInBounds i true) a' w') a w
section
variable {P:Program} {ops:Array Oper} {Q:Exit→Act→World→Prop} {md:Region.Mode} {X:Nat} {S T:World→Prop}
theorem aAH:∀(fuel:Nat) (listed:Array Bool) (a:Act) (w:World),lM P md ops Q X S T fuel listed a w→wpAny P md ops Q fuel listed a w
 | 0,_,_,_,h=>h
 | fuel+1,_,_,_,h=>⟨h.1,fun i hi=>wpOp_mono (fun a' w' h'=>aAH fuel _ a' w' h'.2.2) (h.2 i hi)⟩
theorem jB {id:Nat} (X:Nat) (S T:World→Prop) (hm:P.follows .mixedOrders=true) (h1:S w.drew) (h2:T w.drew)
  (h:S w.drew→T w.drew→lM P .any ops Q X S T ops.size (Array.replicate ops.size false) a w.drew):(Code.region id ops true).wp P Q a w:=
 wp_region_any hm (aAH _ _ _ _ (h h1 h2))
theorem gK:∀(fuel:Nat) (listed:Array Bool) (a:Act) (w:World),listed.getD X false=true→wpAnyH P md ops Q S fuel listed a w→lM P md ops Q X S T fuel listed a w
 | 0,_,_,_,_,h=>h
 | fuel+1,_,_,_,hX,h=>⟨h.1,fun i hi=>wpOp_mono (fun a' w' h'=>⟨h'.1,(fun e=>by rw [getD_set_true hX] at e;cases e),gK fuel _ a' w' (getD_set_true hX) h'.2⟩) (h.2 i hi)⟩
theorem tH {U:World→Prop} (hi:ops[i]? = some oi) (hsel:∀(j:Nat) (o:Oper) cs b,ops[j]? = some o→o.op≠.select cs b) (hXi:i≠X)
  (hQ:∀c a w,Q (.panic c) (a.put oi.dst v) w→Q (.panic c) a w)
  (c:Bool) (hU1:c=true→∀w,S w→U w) (hU2:c=false→(∀w,T w→U w)∧∃ox,ops[X]? = some ox∧∃e ∈ ox.after,Region.binds md e=true∧e.on=i) :
  ∀(fuel:Nat) (listed:Array Bool) (a:Act) (w:World),
   (∀j oj,ops[j]? = some oj→j≠i→listed.getD j true=false→(∀e ∈ oj.after,Region.binds md e=true→e.on≠i)→oi.apart ops oj=true)→
   i ∈ Region.ready md ops listed→YieldsIf P ops U oi v a→(c=false→listed.getD X false=false)→S w→(listed.getD X false=false→T w)→
   lM P md ops Q X S T fuel (listed.setIfInBounds i true) (a.put oi.dst v) w→lM P md ops Q X S T (fuel+1) listed a w:=by
 have hw:∀(listed:Array Bool) w,(c=false→listed.getD X false=false)→S w→(listed.getD X false=false→T w)→U w:=fun listed w h0 h1 h2=>by
  cases c
  ·exact (hU2 rfl).1 w (h2 (h0 rfl))
  ·exact hU1 rfl w h1
 intro fuel
 induction fuel with
 | zero=>
  intro listed a w _ hr hy hX h1 h2 H
  refine ⟨fun h=>(by rw [h] at hr;cases hr),fun j hj=>?_⟩
  by_cases hji:j=i
  ·subst hji;exact hy.wpOp hi (hw listed w hX h1 h2) ⟨h1,fun e=>h2 (by rwa [getD_set_ne false hXi] at e),H⟩
  ·have:=ready_mono hj hji
   rw [H.1] at this
   cases this
 | succ fuel ih=>
  intro listed a w hfree hr hy hX h1 h2 H
  refine ⟨fun h=>(by rw [h] at hr;cases hr),fun j hj=>?_⟩
  by_cases hji:j=i
  ·subst hji;exact hy.wpOp hi (hw listed w hX h1 h2) ⟨h1,fun e=>h2 (by rwa [getD_set_ne false hXi] at e),H⟩
  ·have k1:=H.2 j (ready_mono hj hji)
   obtain ⟨bv,oj,hoj,Qj⟩:=mem_ready.1 hj
   have Jk:∀e ∈ oj.after,Region.binds md e=true→e.on≠i:=fun e he hb heq=>by
    have q1:=Qj e he hb
    have q0:=(mem_ready.1 hr).1
    rw [heq] at q1
    rcases Nat.lt_or_ge i listed.size with h' | h'
    ·simp [h'] at q0 q1;rw [q0] at q1;cases q1
    ·simp [Array.getElem?_eq_none h'] at q1
   have k2:=wpOp_putIf hoj (hfree j oj hoj hji bv Jk) (fun cs b=>hsel i oi cs b hi) (fun cs b=>hsel j oj cs b hoj) hQ hy k1
   have Yq:∀k ok,ops[k]? = some ok→k≠i→(listed.setIfInBounds j true).getD k true=false→
     (∀e ∈ ok.after,Region.binds md e=true→e.on≠i)→oi.apart ops ok=true:=fun k ok hk hki hun hno=>by
    refine hfree k ok hk hki ?_ hno
    by_cases hjk:j=k
    ·subst hjk;exact bv
    ·rw [getD_set_ne true hjk] at hun;exact hun
   refine wpOp_mono (fun a' w' h3=>?_) k2
   obtain ⟨y1,s1,t1,H1⟩:=h3
   rw [Array.setIfInBounds_comm _ _ (Ne.symm hji)] at H1
   have t2:(listed.setIfInBounds j true).getD X false=false→T w':=fun e=>by
    refine t1 ?_
    by_cases BB:j=X
    ·subst BB
     rw [Array.setIfInBounds_comm _ _ (Ne.symm hji),getD_set_ne false hXi]
     exact e
    ·rw [getD_set_ne false BB,getD_set_ne false hXi]
     rw [getD_set_ne false BB] at e
     exact e
   refine ⟨s1,t2,ih (listed.setIfInBounds j true) a' w' Yq (ready_mono hr (Ne.symm hji)) y1 (fun hc=>?_) s1 t2 H1⟩
   have BB:j≠X:=fun e=>by
    subst e
    obtain ⟨_,ox,hox,e,he,hb,heq⟩:=hU2 hc
    rw [hox] at hoj
    cases hoj
    exact Jk e he hb heq
   rw [getD_set_ne false BB]
   exact hX hc
def aDH (md:Region.Mode) (ops:Array Oper) (X i:Nat):Bool:=((ops[X]?).map fun o=>o.after.any fun e=>Region.binds md e&&e.on==i).getD false
theorem aFD (h:aDH md ops X i=true):∃ox,ops[X]? = some ox∧∃e ∈ ox.after,Region.binds md e=true∧e.on=i:=by
 unfold aDH at h
 cases ho:ops[X]? with
 | none=>rw [ho] at h;simp at h
 | some o=>
  rw [ho] at h
  simp only [Option.map_some,Option.getD_some] at h
  obtain ⟨e,he,hb⟩:=Array.any_eq_true'.1 h
  simp only [yK,beq_iff_eq] at hb
  exact ⟨o,rfl,e,he,hb.1,hb.2⟩
theorem aX (i d:Nat) (v:Value) (hi:ops[i]? = some oi) (hd:oi.dst=some d) (hS:S w) (hT:T w)
  (h:lM P md ops Q X S T fuel (listed.setIfInBounds i true) (a.put (some d) v) w)
  (hy:YieldsIf P ops S oi v a:=by exact Or.inl ⟨by rfl,fun wz hz=>by (go_simp;try with_reducible rfl)⟩)
  (hs:Region.noSelect ops=true:=by kernel_rfl) (hf:Region.free md ops listed i=true:=by kernel_rfl) (hr:(Region.ready md ops listed).contains i=true:=by kernel_rfl) (hX:(i != X)=true:=by kernel_rfl)
  (hQ:∀c a w,Q (.panic c) (a.put (some d) v) w→Q (.panic c) a w:=by exact fun _ _ _ h=>h):lM P md ops Q X S T (fuel+1) listed a w:=by
 rw [←hd] at h hQ
 exact tH hi (Region.noSelect_spec hs) (by simpa using hX) hQ true (fun _ _ h=>h) (fun e=>by cases e) fuel listed a w (Region.free_spec hi hf) (by simpa using hr) hy (fun e=>by cases e) hS (fun _=>hT) h
theorem tT (i d:Nat) (v:Value) (hi:ops[i]? = some oi) (hd:oi.dst=some d) (hS:S w) (hT:T w)
  (h:lM P md ops Q X S T fuel (listed.setIfInBounds i true) (a.put (some d) v) w)
  (hy:YieldsIf P ops T oi v a:=by exact Or.inl ⟨by rfl,fun wz hz=>by (go_simp;try with_reducible rfl)⟩)
  (hs:Region.noSelect ops=true:=by kernel_rfl) (hf:Region.free md ops listed i=true:=by kernel_rfl) (hr:(Region.ready md ops listed).contains i=true:=by kernel_rfl) (hX:(i != X)=true:=by kernel_rfl)
  (hw:aDH md ops X i=true:=by kernel_rfl) (hl:listed.getD X false=false:=by kernel_rfl)
  (hQ:∀c a w,Q (.panic c) (a.put (some d) v) w→Q (.panic c) a w:=by exact fun _ _ _ h=>h):lM P md ops Q X S T (fuel+1) listed a w:=by
 rw [←hd] at h hQ
 exact tH hi (Region.noSelect_spec hs) (by simpa using hX) hQ false (fun e=>by cases e) (fun _=>⟨fun _ h=>h,aFD hw⟩) fuel listed a w (Region.free_spec hi hf) (by simpa using hr) hy (fun _=>hl) hS (fun _=>hT) h
def aB (P:Program) (md:Region.Mode) (ops:Array Oper) (Q:Exit→Act→World→Prop) (X:Nat) (S T:World→Prop) (fuel:Nat) (listed:Array Bool) (a:Act) (w:World) (rs:List Nat):Prop:=
 ∀i ∈ rs,wpOp P ops Q i (fun a' w'=>S w'∧((listed.setIfInBounds i true).getD X false=false→T w')∧lM P md ops Q X S T fuel (listed.setIfInBounds i true) a' w') a w
theorem aB.nil:aB P md ops Q X S T fuel listed a w []:=fun _ h=>by cases h
theorem aB.cons {rs:List Nat} (ho:ops[i]? = some o)
  (h:∀K':Act→World→Prop,Shut (∀a w,S w→((listed.setIfInBounds i true).getD X false=false→T w)→lM P md ops Q X S T fuel (listed.setIfInBounds i true) a w→K' a w)→if Region.wanted o (yielded ops a.tmps)=true then Oper.wp P o a w K' Q else K' (a.put o.dst undef) w)
  (hs:aB P md ops Q X S T fuel listed a w rs):aB P md ops Q X S T fuel listed a w (i::rs):=fun j hj=>by
 rcases List.mem_cons.1 hj with rfl | hj
 ·exact wpOp_step ho (fun K' hK=>h K' (fun a w h1 h2 h3=>hK a w ⟨h1,h2,h3⟩))
 ·exact hs j hj
theorem aD (rs:List Nat) (h:aB P md ops Q X S T fuel listed a w rs) (hr:Region.ready md ops listed=rs:=by kernel_rfl) (hne:(rs != [])=true:=by kernel_rfl):lM P md ops Q X S T (fuel+1) listed a w:=
 ⟨fun h0=>absurd (hr ▸ h0) (by simpa using hne),hr ▸ h⟩
theorem eG (d:Nat) (hw:Region.wanted o (yielded ops a.tmps)=true) (hd:o.dst=some d) (hr:(execOp a.eval o).run P w=.ok (.value v) w') (h:K (a.put (some d) v) w'):if Region.wanted o (yielded ops a.tmps)=true then Oper.wp P o a w K Q else K (a.put o.dst undef) w:=by
 rw [←hd] at h
 rw [if_pos hw]
 unfold Oper.wp
 rw [hr]
 exact h
theorem fQ (hw:Region.wanted o (yielded ops a.tmps)=true) (hd:o.dst=none) (hr:(execOp a.eval o).run P w=.ok .skip w') (h:K (a.put none undef) w'):if Region.wanted o (yielded ops a.tmps)=true then Oper.wp P o a w K Q else K (a.put o.dst undef) w:=by
 rw [←hd] at h
 rw [if_pos hw]
 unfold Oper.wp
 rw [hr]
 exact h
theorem eY {s x:Operand} {vs vx:Value} (ho:o.op=.call { callee:=.builtin .append,args:=#[s,x],argTypes:=#[t,t] }) (hs:a.eval s=vs) (hx:a.eval x=vx) (gq:(Builtin.append_ #[t,t] o.type #[vs,vx]).run P w=.ok v w'):(execOp a.eval o).run P w=.ok (.value v) w':=by
 simp [execOp,ho,resolve,invoke,builtin,hs,hx,gq,Result.andThen]
end
theorem aQ (x a b:Int) (w:World) :
  cP 51 #[.int .i64 x,.int .i64 a,.int .i64 b] w fun e w'=>e=.returned (.bool (inB x a b))∧w=w':=by
 by_cases h1:a≤x
 ·by_cases h2:x≤b
  ·go_enter Tryz.func51,Tryz.ntmps51
   go_wp2
   go_ret
   exact ⟨yF (cZ h1 h2).symm,rfl⟩
  ·go_enter Tryz.func51,Tryz.ntmps51
   go_wp2
   go_ret
   exact ⟨yF (bK (by omega)).symm,rfl⟩
 ·go_enter Tryz.func51,Tryz.ntmps51
  go_wp2
  go_ret
  exact ⟨yF (bK (by omega)).symm,rfl⟩
theorem aR (a b:Int) (w:World) :
  cP 86 #[rv a b] w fun e w'=>e=.returned (.bool (aM a b))∧w'=w.alloc (.cells #[.int .i64 a,.int .i64 b] 37):=by
 cases h1:inB a 0 1000000000
 ·go_enter Tryz.func86,Tryz.ntmps86
  go_wp2_with (go_at_call 51;refine (aQ _ _ _ _).mono ?_;rintro e w' ⟨rfl,rfl⟩)
  go_ret
  exact ⟨yF (by simp [aM,h1]),rfl⟩
 ·go_enter Tryz.func86,Tryz.ntmps86
  go_wp2_with (go_at_call 51;refine (aQ _ _ _ _).mono ?_;rintro e w' ⟨rfl,rfl⟩)
  go_ret
  exact ⟨yF (by simp [aM,h1]),rfl⟩
theorem aAy (a b:Int) (w:World) :
  cP 86 #[rv a b] w fun e w'=>e=.returned (.bool (aM a b))∧Bw w w':=
 (aR a b w).mono fun e w' h=>⟨h.1,by rw [h.2];exact yA (yH _ _) _⟩
def aP (s a b c d:Int):Bool:=aM a b&&aM c d&&aM (a+s*c) (b+s*d)
def kT (s a b c d:Int):Value:=if aP s a b c d then rv (a+s*c) (b+s*d) else rv 0 0
theorem mH {a b:Int} (h:aP s a b c d=false):kT s a b c d=rv 0 0:=by simp [kT,h]
theorem oF {a b:Int} (h:aP s a b c d=true):kT s a b c d=rv (a+s*c) (b+s*d):=by simp [kT,h]
theorem jQ (ao:Option Addr) (len cap:Nat) (l:List Q) (nm:List UInt8) (w:World) (h:gJ w ao len l) (hl:len≤1048576) :
  cP 97 #[.slice ao len cap,.string (bs nm)] w fun e w'=>e=.returned (.int .i64 (place l nm))∧w=w':=by
 have HR:=aA h
 have HL:=aA h.1
 clear h
 go_enter Tryz.func97,Tryz.ntmps97
 go_wp2
 go_loopw [5] (fun i wr=>∃k:Nat,k≤len∧i=.int .i64 k∧Hid (place l nm=aN nm (l.drop k) k)∧wr=w) (fun i _=>len - (intOf i).toNat)
 case atStart=>exact ⟨0,Nat.zero_le _,rfl,aA (by simp [place]),rfl⟩
 case round=>
  obtain ⟨k,hk,rfl,hp,rfl⟩:=hrel
  by_cases hlt:k<len
  ·obtain ⟨b,off,rfl,hq⟩:=(uH HR).at hlt
   have hkl:k<l.length:=by have:=uH HL;omega
   have hst:=aA (zV (nm:=nm) (l:=l) (k:=k) hkl)
   have hq0:=(hq hkl).1
   clear hq
   obtain ⟨s,hs⟩:∃s,l[k].name=s:=⟨_,rfl⟩
   rw [hs] at hq0 hst
   have hbe:=lL s nm
   clear hs hkl
   by_cases he:s=nm
   ·have HE:=aA he
    rw [decide_eq_true he] at hbe
    clear he
    go_wp2
    go_ret
    exact ⟨eP (by rw [uH hp,uH hst,if_pos (uH HE)]),rfl⟩
   ·have HE:=aA he
    rw [decide_eq_false he] at hbe
    clear he
    go_wp2
    go_roundw
    case rel=>exact ⟨k+1,by omega,by go_num,aA (by rw [uH hp,uH hst,if_neg (uH HE)]),trivial⟩
    case measure=>simp [intOf];omega
  ·go_wp2
   go_ret
   exact ⟨eP (by rw [uH hp,aBG (by have:=uH HL;omega)]),rfl⟩
def dC (nm:List UInt8):List Q→Int
 | []=>0
 | q::t=>(if q.parent=nm then q.due else 0)+dC nm t
def iA (l:List Q) (nm:List UInt8):Int:=dC nm (l.drop 1)
theorem yS {l:List Q} (h:k<l.length):dC nm (l.drop k)=(if l[k].parent=nm then l[k].due else 0)+dC nm (l.drop (k+1)):=by
 rw [List.drop_eq_getElem_cons h,dC]
theorem aAc {l:List Q} (h:l.length≤k):dC nm (l.drop k)=0:=by
 rw [List.drop_of_length_le h];rfl
theorem aFa (ao:Option Addr) (len cap:Nat) (l:List Q) (nm:List UInt8) (w:World) (h:gJ w ao len l) (hl:len≤1048576) (hd:∀q ∈ l,0≤q.due∧q.due≤10000) :
  cP 106 #[.slice ao len cap,.string (bs nm)] w fun e w'=>e=.returned (.int .i64 (iA l nm))∧w=w':=by
 have HR:=aA h
 have HL:=aA h.1
 have HD:=aA hd
 clear h hd
 go_enter Tryz.func106,Tryz.ntmps106
 go_wp2
 go_loopw [5,6] (fun s i wr=>∃(k:Nat) (a:Int),1≤k∧k≤len+1∧i=.int .i64 k∧s=.int .i64 a∧0≤a∧a≤10000*k∧Hid (iA l nm=a+dC nm (l.drop k))∧wr=w) (fun _ i _=>len+1 - (intOf i).toNat)
 case atStart=>exact ⟨1,0,by omega,by omega,rfl,rfl,by omega,by omega,aA (by simp [iA]),rfl⟩
 case round=>
  obtain ⟨k,a,hk1,hk,rfl,rfl,ha0,ha1,hp,rfl⟩:=hrel
  by_cases hlt:k<len
  ·obtain ⟨b,off,rfl,hq⟩:=(uH HR).at hlt
   have hkl:k<l.length:=by have:=uH HL;omega
   have hst:=aA (yS (nm:=nm) (l:=l) (k:=k) hkl)
   have hq1:=(hq hkl).2.1
   have hq2:=(hq hkl).2.2.1
   obtain ⟨d0,d1⟩:=uH HD l[k] (yM _)
   clear hq
   obtain ⟨s,hs⟩:∃s,l[k].parent=s:=⟨_,rfl⟩
   obtain ⟨d,hdd⟩:∃d,l[k].due=d:=⟨_,rfl⟩
   rw [hs] at hq1 hst
   rw [hdd] at hq2 hst d0 d1
   have hbe:=lL s nm
   clear hs hdd hkl
   by_cases he:s=nm
   ·have HE:=aA he
    rw [decide_eq_true he] at hbe
    clear he
    go_wp2
    go_roundw
    case rel=>exact ⟨k+1,a+d,by omega,by omega,by go_num,by go_num,by omega,by omega,aA (by rw [uH hp,uH hst,if_pos (uH HE)];omega),trivial⟩
    case measure=>simp [intOf];omega
   ·have HE:=aA he
    rw [decide_eq_false he] at hbe
    clear he
    go_wp2
    go_roundw
    case rel=>exact ⟨k+1,a,by omega,by omega,by go_num,rfl,by omega,by omega,aA (by rw [uH hp,uH hst,if_neg (uH HE)];omega),trivial⟩
    case measure=>simp [intOf];omega
  ·go_wp2
   go_ret
   exact ⟨eP (by rw [uH hp,aAc (by have:=uH HL;omega)];omega),rfl⟩
theorem wH (s:ByteArray) (k:Nat) (h:k<s.size) (p:UInt8→Bool) (h1:(s.data.toList.take k).all p=true) (h2:p s[k]=true):(s.data.toList.take (k+1)).all p=true:=by
 rw [aGQ s k h,List.all_append,h1];simpa using h2
theorem aD5 (s:ByteArray) (k:Nat) (h:k<s.size) (p:UInt8→Bool) (h2:p s[k]=false):s.data.toList.all p=false:=by
 rw [List.all_eq_false]
 exact ⟨s[k],by simp [ByteArray.getElem_eq_getElem_data],by simp [h2]⟩
def qI (c:UInt8):Bool:=inB c.toNat 97 122||inB c.toNat 48 57
def bJ (l:List UInt8):Bool:=inB l.length 1 10&&l.all qI
theorem lF (s:ByteArray) (w:World) (hs:s.size≤1048576) :
  cP 105 #[.string s] w fun e w'=>e=.returned (.bool (bJ s.data.toList))∧w'=w:=by
 go_enter Tryz.func105,Tryz.ntmps105
 go_wp2
 go_loop [3] (fun i=>∃k:Nat,k≤s.size∧i=.int .i64 k∧(s.data.toList.take k).all qI=true) (fun i=>s.size - (intOf i).toNat)
 case atStart=>exact ⟨0,Nat.zero_le _,rfl,by simp⟩
 case round=>
  obtain ⟨k,hk,rfl,Qj⟩:=hrel
  have HA:=aA Qj
  clear Qj
  by_cases hlt:k<s.size
  ·have hb:(s[k].toNat:Int)≤255:=aH6 _
   by_cases h1:97≤(s[k].toNat:Int)∧(s[k].toNat:Int)≤122
   ·have e1:inB (s[k].toNat:Int) 97 122=true:=cZ h1.1 h1.2
    clear h1
    go_wp2_with (go_at_call 51;refine (aQ _ _ _ _).mono ?_;rintro e w' ⟨rfl,rfl⟩)
    go_round
    case rel=>exact ⟨k+1,by omega,by go_num,wH s k hlt _ (uH HA) (by simp [qI,e1])⟩
    case measure=>simp [intOf];omega
   ·have e1:inB (s[k].toNat:Int) 97 122=false:=bK h1
    clear h1
    by_cases h2:48≤(s[k].toNat:Int)∧(s[k].toNat:Int)≤57
    ·have e2:inB (s[k].toNat:Int) 48 57=true:=cZ h2.1 h2.2
     clear h2
     go_wp2_with (go_at_call 51;refine (aQ _ _ _ _).mono ?_;rintro e w' ⟨rfl,rfl⟩)
     go_round
     case rel=>exact ⟨k+1,by omega,by go_num,wH s k hlt _ (uH HA) (by simp [qI,e1,e2])⟩
     case measure=>simp [intOf];omega
    ·have e2:inB (s[k].toNat:Int) 48 57=false:=bK h2
     clear h2
     have hf:Hid (bJ s.data.toList=false):=aA (by rw [bJ,aD5 s k hlt qI (by simp [qI,e1,e2])];simp)
     go_wp2_with (go_at_call 51;refine (aQ _ _ _ _).mono ?_;rintro e w' ⟨rfl,rfl⟩)
     go_ret
     exact ⟨yF (uH hf).symm,rfl⟩
  ·have hf:Hid (bJ s.data.toList=inB (s.size:Int) 1 10):=aA (by rw [bJ,←aAq s k (by omega),uH HA,aAq s k (by omega),aEf];simp)
   go_wp2_with (go_at_call 51;refine (aQ _ _ _ _).mono ?_;rintro e w' ⟨rfl,rfl⟩)
   go_ret
   exact ⟨yF (uH hf).symm,rfl⟩
def qOk (l:List Q) (k:Nat) (q:Q):Bool:=
 bJ q.name&&decide (place l q.name=k)&&inB q.most 0 10000&&inB q.due 0 q.most
  && (if k=0 then decide (q.parent=[])&&decide (q.due=10000) else inB (place l q.parent) 0 ((k:Int) - 1))
def gN (l:List Q):List Q→Nat→Bool
 | [],_=>true
 | q::t,k=>qOk l k q&&gN l t (k+1)
def jY (l:List Q):List Q→Bool
 | []=>true
 | q::t=>decide (iA l q.name≤10000)&&jY l t
def aH (l:List Q):Bool:=gN l l 0&&jY l l&&inB l.length 1 20
theorem aD3 {l:List Q} (h:k<l.length):gN l (l.drop k) k=(qOk l k l[k]&&gN l (l.drop (k+1)) (k+1)):=by
 rw [List.drop_eq_getElem_cons h,gN]
theorem aFY {l:List Q} (h:l.length≤k):gN l (l.drop k) k=true:=by
 rw [List.drop_of_length_le h];rfl
theorem aDN {l:List Q} (h:k<l.length):jY l (l.drop k)=(decide (iA l l[k].name≤10000)&&jY l (l.drop (k+1))):=by
 rw [List.drop_eq_getElem_cons h,jY]
theorem aFF {l:List Q} (h:l.length≤k):jY l (l.drop k)=true:=by
 rw [List.drop_of_length_le h];rfl
theorem aAY {l:List Q}:∀(m:List Q) (k:Nat),gN l m k=true→∀q ∈ m,0≤q.due∧q.due≤10000
 | [],_,_,q,h=>by simp at h
 | x::t,k,h,q,hq=>by
  rw [gN,yK] at h
  rcases List.mem_cons.1 hq with rfl | hq
  ·have:=h.1
   simp only [qOk,inB,yK,yL] at this
   omega
  ·exact aAY t (k+1) h.2 q hq
theorem xE {l:List Q} (h:gN l l 0=false):aH l=false:=by simp [aH,h]
theorem aKY {l:List Q} (h:jY l l=false):aH l=false:=by simp [aH,h]
theorem aKX {l:List Q} (h1:gN l l 0=true) (h2:jY l l=true):aH l=inB l.length 1 20:=by simp [aH,h1,h2]
theorem zD:∀a:List UInt8,Op.bytesLess a a=false
 | []=>rfl
 | c::t=>by simp [Op.bytesLess,zD t]
theorem qX:∀a b c:List UInt8,Op.bytesLess a b=true→Op.bytesLess b c=true→Op.bytesLess a c=true
 | _,[],_,h,_=>by simp [Op.bytesLess] at h
 | _,_::_,[],_,h=>by simp [Op.bytesLess] at h
 | [],_::_,_::_,_,_=>by simp [Op.bytesLess]
 | x::a,y::b,z::c,h,k=>by
  simp only [Op.bytesLess,Bool.or_eq_true,yK,yL,beq_iff_eq] at h k ⊢
  rcases h with h | ⟨rfl,h⟩
  ·rcases k with k | ⟨rfl,k⟩
   ·exact .inl (UInt8.lt_trans h k)
   ·exact .inl h
  ·rcases k with k | ⟨rfl,k⟩
   ·exact .inl k
   ·exact .inr ⟨rfl,qX a b c h k⟩
theorem aEw:∀a b:List UInt8,Op.bytesLess a b=false→a≠b→Op.bytesLess b a=true
 | [],[],_,h=>absurd rfl h
 | [],_::_,h,_=>by simp [Op.bytesLess] at h
 | _::_,[],_,_=>by simp [Op.bytesLess]
 | x::a,y::b,h,k=>by
  simp only [Op.bytesLess,Bool.or_eq_false_iff,Bool.and_eq_false_iff,decide_eq_false_iff_not,beq_eq_false_iff_ne] at h
  simp only [Op.bytesLess,Bool.or_eq_true,yK,yL,beq_iff_eq]
  by_cases hxy:x=y
  ·subst hxy
   right
   refine ⟨rfl,aEw a b ?_ (fun e=>k (by rw [e]))⟩
   rcases h.2 with h2 | h2
   ·exact absurd rfl h2
   ·exact h2
  ·left
   have h1:=h.1
   have:x.toNat≠y.toNat:=fun e=>hxy (UInt8.toNat_inj.1 e)
   rw [UInt8.lt_iff_toNat_lt] at h1 ⊢
   omega
abbrev pv (a b c d:Int):Value:=.agg #[.int .i64 a,.int .i64 b,.int .i64 c,.int .i64 d]
theorem nE (n:Int) (w:World) :
  cP 125 #[.int .i64 n] w fun e w'=>e=.returned (.bool (inB n 0 1000000000))∧w=w':=by
 by_cases h1:0≤n
 ·by_cases h2:n≤1000000000
  ·go_enter Tryz.func125,Tryz.ntmps125
   go_wp2
   go_ret
   exact ⟨yF (cZ h1 h2).symm,rfl⟩
  ·go_enter Tryz.func125,Tryz.ntmps125
   go_wp2
   go_ret
   exact ⟨yF (bK (by omega)).symm,rfl⟩
 ·go_enter Tryz.func125,Tryz.ntmps125
  go_wp2
  go_ret
  exact ⟨yF (bK (by omega)).symm,rfl⟩
theorem qG (a b:Int) (w:World) :
  cP 115 #[rv a b] w fun e w'=>e=.returned (.bool (aM a b))∧w'=w.alloc (.cells #[.int .i64 a,.int .i64 b] 37):=by
 cases h1:inB a 0 1000000000
 ·go_enter Tryz.func115,Tryz.ntmps115
  go_wp2_with (go_at_call 125;refine (nE _ _).mono ?_;rintro e w' ⟨rfl,rfl⟩)
  go_ret
  exact ⟨yF (by simp [aM,h1]),rfl⟩
 ·go_enter Tryz.func115,Tryz.ntmps115
  go_wp2_with (go_at_call 125;refine (nE _ _).mono ?_;rintro e w' ⟨rfl,rfl⟩)
  go_ret
  exact ⟨yF (by simp [aM,h1]),rfl⟩
theorem aJL (a b:Int) (w:World) :
  cP 115 #[rv a b] w fun e w'=>e=.returned (.bool (aM a b))∧Bw w w':=
 (qG a b w).mono fun e w' h=>⟨h.1,by rw [h.2];exact yA (yH _ _) _⟩
theorem mD (x:Int) (w:World) :
  cP 163 #[.int .u8 x] w fun e w'=>e=.returned (.bool (inB x 48 57))∧w'=w:=by
 by_cases h1:48≤x
 ·by_cases h2:x≤57
  ·go_enter Tryz.func163,Tryz.ntmps163
   go_wp2
   go_ret
   exact ⟨yF (cZ h1 h2).symm,rfl⟩
  ·go_enter Tryz.func163,Tryz.ntmps163
   go_wp2
   go_ret
   exact ⟨yF (bK (by omega)).symm,rfl⟩
 ·go_enter Tryz.func163,Tryz.ntmps163
  go_wp2
  go_ret
  exact ⟨yF (bK (by omega)).symm,rfl⟩
theorem lK (s:ByteArray) (w:World) (hs:s.size≤1048576) :
  cP 128 #[.string s] w fun e w'=>e=.returned (.bool (bJ s.data.toList))∧w'=w:=by
 by_cases h0:1≤s.size
 ·by_cases h1:s.size≤10
  ·have hin:Hid (inB (s.data.toList.length:Int) 1 10=true):=aA (by rw [aEf];exact cZ (by omega) (by omega))
   go_enter Tryz.func128,Tryz.ntmps128
   go_wp2
   go_loop [14] (fun i=>∃k:Nat,k≤s.size∧i=.int .i64 k∧(s.data.toList.take k).all qI=true) (fun i=>s.size - (intOf i).toNat)
   case atStart=>exact ⟨0,Nat.zero_le _,rfl,by simp⟩
   case round=>
    obtain ⟨k,hk,rfl,Qj⟩:=hrel
    have HA:=aA Qj
    clear Qj
    by_cases hlt:k<s.size
    ·have hb:(s[k].toNat:Int)≤255:=aH6 _
     by_cases h3:48≤(s[k].toNat:Int)∧(s[k].toNat:Int)≤57
     ·have e1:inB (s[k].toNat:Int) 48 57=true:=cZ h3.1 h3.2
      clear h3
      go_wp2_with (go_at_call 163;refine (mD _ _).mono ?_;rintro e w' ⟨rfl,rfl⟩)
      go_round
      case rel=>exact ⟨k+1,by omega,by go_num,wH s k hlt _ (uH HA) (by simp [qI,e1])⟩
      case measure=>simp [intOf];omega
     ·have e1:inB (s[k].toNat:Int) 48 57=false:=bK h3
      clear h3
      by_cases h4:97≤(s[k].toNat:Int)
      ·by_cases h5:(s[k].toNat:Int)≤122
       ·have HN:Hid (qI s[k]=true):=aA (by simp [qI,e1,cZ h4 h5])
        go_wp2_with (go_at_call 163;refine (mD _ _).mono ?_;rintro e w' ⟨rfl,rfl⟩)
        go_round
        case rel=>exact ⟨k+1,by omega,by go_num,wH s k hlt _ (uH HA) (uH HN)⟩
        case measure=>simp [intOf];omega
       ·have hf:Hid (bJ s.data.toList=false):=aA (by rw [bJ,aD5 s k hlt qI (by simp [qI,e1,bK (x:=(s[k].toNat:Int)) (a:=97) (b:=122) (by omega)])];simp)
        go_wp2_with (go_at_call 163;refine (mD _ _).mono ?_;rintro e w' ⟨rfl,rfl⟩)
        go_ret
        exact ⟨yF (uH hf).symm,rfl⟩
      ·have hf:Hid (bJ s.data.toList=false):=aA (by rw [bJ,aD5 s k hlt qI (by simp [qI,e1,bK (x:=(s[k].toNat:Int)) (a:=97) (b:=122) (by omega)])];simp)
       go_wp2_with (go_at_call 163;refine (mD _ _).mono ?_;rintro e w' ⟨rfl,rfl⟩)
       go_ret
       exact ⟨yF (uH hf).symm,rfl⟩
    ·have hf:Hid (bJ s.data.toList=true):=aA (by rw [bJ,uH hin,←aAq s k (by omega),uH HA];rfl)
     go_wp2
     go_ret
     exact ⟨yF (uH hf).symm,rfl⟩
  ·have hf:Hid (bJ s.data.toList=false):=aA (by rw [bJ,aEf,bK (by omega)];simp)
   go_enter Tryz.func128,Tryz.ntmps128
   go_wp2
   go_ret
   exact ⟨yF (uH hf).symm,rfl⟩
 ·have hf:Hid (bJ s.data.toList=false):=aA (by rw [bJ,aEf,bK (by omega)];simp)
  go_enter Tryz.func128,Tryz.ntmps128
  go_wp2
  go_ret
  exact ⟨yF (uH hf).symm,rfl⟩
theorem pM (n:Int) (w:World) :
  cP 126 #[.int .i64 n] w fun e w'=>e=.returned (.bool (inB n 1 1000000000))∧w=w':=by
 by_cases h1:1≤n
 ·by_cases h2:n≤1000000000
  ·go_enter Tryz.func126,Tryz.ntmps126
   go_wp2
   go_ret
   exact ⟨yF (cZ h1 h2).symm,rfl⟩
  ·go_enter Tryz.func126,Tryz.ntmps126
   go_wp2
   go_ret
   exact ⟨yF (bK (by omega)).symm,rfl⟩
 ·go_enter Tryz.func126,Tryz.ntmps126
  go_wp2
  go_ret
  exact ⟨yF (bK (by omega)).symm,rfl⟩
abbrev aGG (q:Q):Obj:=.cells #[.string (bs q.name),.string (bs q.parent),.int .i64 q.due,.int .i64 q.most] 56
def mO (w:World) (g:Nat) (q:Q):Prop:=w.heap[g]? = some (aGG q)
theorem mO.new (w:World) (q:Q):mO (w.alloc (aGG q)) w.heap.size q:=by show (w.heap.push _)[w.heap.size]? = _;simp
theorem mO.lt {q:Q} (h:mO w g q):g<w.heap.size:=lt_of_block h
theorem mO.below {q:Q} (h:mO w g q) (hb:Bw w w'):mO w' g q:=(hb.block g h.lt).trans h
theorem mO.c0 {q:Q} (h:mO w g q):w.cell? ⟨g,0,none⟩=some (.string (bs q.name)):=by unfold mO at h;simp [World.cell?,h]
theorem mO.c1 {q:Q} (h:mO w g q):w.cell? ⟨g,1,none⟩=some (.string (bs q.parent)):=by unfold mO at h;simp [World.cell?,h]
theorem mO.c2 {q:Q} (h:mO w g q):w.cell? ⟨g,2,none⟩=some (.int .i64 q.due):=by unfold mO at h;simp [World.cell?,h]
theorem mO.c3 {q:Q} (h:mO w g q):w.cell? ⟨g,3,none⟩=some (.int .i64 q.most):=by unfold mO at h;simp [World.cell?,h]
def QB (w0:World) (g:Nat) (q:Q) (w:World):Prop:=mO w g q∧Bw w0 w
theorem QB.call {q:Q} (h:QB w0 g q w) (hb:Bw w w'):QB w0 g q w':=⟨h.1.below hb,yB h.2 hb⟩
theorem QB.drew {q:Q} (h:QB w0 g q w):QB w0 g q w.drew:=h.call (yH _ _).drew
theorem QB.read (w0:World) (g:Nat) (q:Q):∀wx,QB w0 g q wx→wx.cell? ⟨g,0,none⟩=some (.string (bs q.name))∧wx.cell? ⟨g,1,none⟩=some (.string (bs q.parent))∧wx.cell? ⟨g,2,none⟩=some (.int .i64 q.due)∧wx.cell? ⟨g,3,none⟩=some (.int .i64 q.most):=fun wx h=>⟨h.1.c0,h.1.c1,h.1.c2,h.1.c3⟩
theorem nW (a b c d:Int) (w:World) :
  cP 62 #[pv a b c d] w fun e w'=>e=.returned (.bool (aM a b&&aM c d))∧Bw w w':=by
 cases h1:aM a b
 ·go_enter Tryz.func62,Tryz.ntmps62
  go_wp2_with (go_at_call 115;refine (qG _ _ _).mono ?_;rintro e w' ⟨rfl,rfl⟩)
  go_ret
  refine ⟨rfl,?_⟩
  repeat (first | exact yH _ _ | refine yA ?_ _ | refine Below.drew ?_ | refine yC ?_ _ _ _ (by omega))
 ·go_enter Tryz.func62,Tryz.ntmps62
  go_wp2_with (go_at_call 115;refine (qG _ _ _).mono ?_;rintro e w' ⟨rfl,rfl⟩)
  go_ret
  refine ⟨rfl,?_⟩
  repeat (first | exact yH _ _ | refine yA ?_ _ | refine Below.drew ?_ | refine yC ?_ _ _ _ (by omega))
def orV (a b:Int):Value:=if aM a b then rv a b else rv 0 0
theorem aJJ (a b:Int) (w:World) :
  cP 65 #[rv a b] w fun e w'=>e=.returned (.tuple #[orV a b,.bool (aM a b)])∧Bw w w':=by
 cases h1:aM a b
 ·rw [show orV a b=rv 0 0 by simp [orV,h1]]
  go_enter Tryz.func65,Tryz.ntmps65
  go_wp2_with (go_at_call 115;refine (qG _ _ _).mono ?_;rintro e w' ⟨rfl,rfl⟩)
  refine bodyPost_ret (v:=.tuple #[rv 0 0,.bool false]) (by simp [results,Tryz.results65,go_sem]) rfl ⟨rfl,?_⟩
  repeat (first | exact yH _ _ | refine yA ?_ _ | refine Below.drew ?_ | refine yC ?_ _ _ _ (by omega))
 ·rw [show orV a b=rv a b by simp [orV,h1]]
  go_enter Tryz.func65,Tryz.ntmps65
  go_wp2_with (go_at_call 115;refine (qG _ _ _).mono ?_;rintro e w' ⟨rfl,rfl⟩)
  refine bodyPost_ret (v:=.tuple #[rv a b,.bool true]) (by simp [results,Tryz.results65,go_sem]) rfl ⟨rfl,?_⟩
  repeat (first | exact yH _ _ | refine yA ?_ _ | refine Below.drew ?_ | refine yC ?_ _ _ _ (by omega))
end
section
open Go.RowKit Go.Shelf
variable {b j:Nat} {v:Value} {W W' w:World}
def KpA (W W':World):Prop:=∀(k:Nat) (o:Obj),W.heap[k]? = some o→o.isCells=true→W'.heap[k]? = some o
theorem aFc {A B C:World} (h:KpA A B) (k:KpA B C):KpA A C:=fun i o ho hc=>k i o (h i o ho hc) hc
theorem aIc (W:World) (l:Nat) (o o':Obj) (hl:w.heap.size≤l) (h:W.heap[l]? = some o) (h1:o.isCells=false) (h2:o.isWalk=false):KpA W (W.putObj l o'):=fun k q hq hc=>by
 have hne:k≠l:=fun e=>by
  subst e
  rw [hq] at h
  cases h
  rw [h1] at hc
  cases hc
 exact ((grownBy_putObj' W l o').block k (lt_of_block hq) (by simp;omega)).trans hq
theorem jR (h:Bw W W'):KpA W W':=fun k o ho _=>(h.block k (lt_of_block ho)).trans ho
theorem aFn (hc:W.cell? ⟨b,j,none⟩=some v):∃o,W.heap[b]? = some o∧o.isCells=true:=by
 cases h:W.heap[b]? with
 | none=>simp [World.cell?,h] at hc
 | some o=>
  refine ⟨o,rfl,?_⟩
  cases o<;>simp [World.cell?,h] at hc<;>rfl
theorem KpA.cell (h:KpA W W') (hc:W.cell? ⟨b,j,none⟩=some v):W'.cell? ⟨b,j,none⟩=some v:=by
 obtain ⟨o,h1,h2⟩:=aFn hc
 have h3:=h b o h1 h2
 unfold World.cell? at hc ⊢
 rw [h1] at hc
 rw [h3]
 exact hc
theorem iI {w':World} (hb:Bw w w'):KeepsOthers w w':=KeepsOthers.of_grownBy (row:=none) (aG (aF w none) hb) (fun j o e=>by cases e)
end
section
def within (a b c d:Int):Bool:=aM a b&&aM c d&&decide (a≤c)&&decide (b≤d)
end
section
open Go.RowKit
variable {arr:Array Value} {x y:Int} {ps:List (List UInt8)} {o:List ByteArray} {l:List Int} {B b g j k:Nat} {ao:Option Addr} {P:Program} {t:TypeId} {v:Value} {w w':World}
theorem eD (a b c d:Int) (w:World) :
  cP 35 #[rv a b,rv c d] w fun e w'=>e=.returned (.bool (within a b c d))∧Bw w w':=by
 cases h1:aM a b
 ·rw [show within a b c d=false by simp [within,h1]]
  go_enter Tryz.func35,Tryz.ntmps35
  go_wp2_with (go_at_call 86;refine (aR _ _ _).mono ?_;rintro e w' ⟨rfl,rfl⟩)
  go_ret
  refine ⟨rfl,?_⟩
  repeat (first | exact yH _ _ | refine yA ?_ _ | refine Below.drew ?_ | refine yC ?_ _ _ _ (by omega))
 ·cases h2:aM c d
  ·rw [show within a b c d=false by simp [within,h2]]
   go_enter Tryz.func35,Tryz.ntmps35
   go_wp2_with (go_at_call 86;refine (aR _ _ _).mono ?_;rintro e w' ⟨rfl,rfl⟩)
   go_ret
   refine ⟨rfl,?_⟩
   repeat (first | exact yH _ _ | refine yA ?_ _ | refine Below.drew ?_ | refine yC ?_ _ _ _ (by omega))
  ·by_cases h3:a≤c
   ·by_cases h4:b≤d
    ·rw [show within a b c d=true by simp [within,h1,h2,h3,h4]]
     go_enter Tryz.func35,Tryz.ntmps35
     go_wp2_with (go_at_call 86;refine (aR _ _ _).mono ?_;rintro e w' ⟨rfl,rfl⟩)
     go_ret
     refine ⟨rfl,?_⟩
     repeat (first | exact yH _ _ | refine yA ?_ _ | refine Below.drew ?_ | refine yC ?_ _ _ _ (by omega))
    ·rw [show within a b c d=false by simp [within,h4]]
     go_enter Tryz.func35,Tryz.ntmps35
     go_wp2_with (go_at_call 86;refine (aR _ _ _).mono ?_;rintro e w' ⟨rfl,rfl⟩)
     go_ret
     refine ⟨yF (decide_eq_false (by omega)),?_⟩
     repeat (first | exact yH _ _ | refine yA ?_ _ | refine Below.drew ?_ | refine yC ?_ _ _ _ (by omega))
   ·rw [show within a b c d=false by simp [within,h3]]
    go_enter Tryz.func35,Tryz.ntmps35
    go_wp2_with (go_at_call 86;refine (aR _ _ _).mono ?_;rintro e w' ⟨rfl,rfl⟩)
    go_ret
    refine ⟨rfl,?_⟩
    repeat (first | exact yH _ _ | refine yA ?_ _ | refine Below.drew ?_ | refine yC ?_ _ _ _ (by omega))
def aLY (w0:World) (n:Nat) (L:List (Nat×Array Value×TypeId)) (wx:World):Prop:=
 (∀p ∈ L,p.1<n∧Blk wx p.1 p.2.1 p.2.2)∧n≤wx.heap.size∧w0.heap.size≤n∧Bw w0 wx
theorem aLY.blk {w0:World} {n:Nat} {L:List (Nat×Array Value×TypeId)} {wx:World} (h:aLY w0 n L wx) {p:Nat×Array Value×TypeId} (hp:p ∈ L):Blk wx p.1 p.2.1 p.2.2:=(h.1 p hp).2
theorem Var.blk (h:Var w t g x y):Blk w g #[.int .i64 x,.int .i64 y] t:=h
theorem dP (ty:TypeId) (v:Value) (h:Blk w b arr t) (hj:j<arr.size) (hi:(P.info? ty).map (·.size)=some 1) (h1:v.oneCell'=true) :
  (Instr.storeAt ty (.pointer (some ⟨b,j,none⟩)) v).run P w=.ok () (w.setCell ⟨b,j,none⟩ v):=by
 have c1:w.cell? ⟨b,j,none⟩=some arr[j]:=by rw [h.at];simp [hj]
 have f1:=h.f j
 have hs:=run_storeCells_cells (P:=P) b j [v] 0 w (fun i hi=>by simp at hi;subst hi;simp [c1]) (fun i hi=>by simp at hi;subst hi;simpa using f1) (fun u hu=>by simp at hu;subst hu;exact h1)
 simp only [Nat.add_zero] at hs
 have hc:v.cells=#[v]:=by cases v<;>first | rfl | cases h1
 cases hq:P.info? ty with
 | none=>simp [hq] at hi
 | some i=>
  have hz:i.size=1:=by simpa [hq] using hi
  simp [Instr.storeAt,Instr.sureAddr,storeVar,sizeOf,typeInfo,hq,hc,hz,hs]
  rfl
theorem bP {old:Array Value} (ty:TypeId) (h:Blk w b old t) (hi:(P.info? ty).map (·.size)=some arr.size) (ho:old.size=arr.size) (h1:arr.all (·.oneCell')=true) :
  (Instr.storeAt ty (.pointer (some ⟨b,0,none⟩)) (.agg arr)).run P w=.ok () (w.setRow b arr):=by
 simp only [Instr.storeAt,Instr.sureAddr,Sem.run_bind,Sem.run_pure,Result.andThen]
 exact run_storeVar_row w b t ty old arr h hi ho h1
theorem bS (w:World) (t:TypeId) (z:Array Value) (hz:(P.info? t).map (·.zero)=some (some (.agg z))) :
  (Instr.alloc t true (.tuple #[])).run P w=.ok (.pointer (some ⟨w.heap.size,0,none⟩)) (w.alloc (.cells z t)):=by
 cases hq:P.info? t with
 | none=>simp [hq] at hz
 | some i=>
  have h:i.zero=some (.agg z):=by simpa [hq] using hz
  simp [Instr.alloc,zeroValue,typeInfo,hq,h,newVar,newRow,Value.cells,go_sem]
theorem aCC (w:World) (t e:TypeId) (len sz:Nat) (parts:Array (Nat×Value)) (z:Value) (cells:Array Value) (hu:P.underlying t=some (.slice e)) (hi:(P.info? e).map (fun i=>(i.zero,i.size))=some (some z,sz)) (hs:len*sz≤16777216) (hp:0<len*sz)
  (hf:Instr.fill (fun i=>some (i*sz,sz)) ((Array.range (len*sz)).map (z.cells[· % z.cells.size]!)) parts.toList=some cells) :
  (Instr.buildSlice t len parts).run P w=.ok (.slice (some ⟨w.heap.size,0,none⟩) len len) (w.alloc (.cells cells e)):=by
 cases hq:P.info? e with
 | none=>simp [hq] at hi
 | some i=>
  simp only [hq,Option.map_some,Option.some.injEq,Prod.mk.injEq] at hi
  obtain ⟨h1,rfl⟩:=hi
  exact run_buildSlice w t e len parts cells i z hu hq h1 (by omega) (by omega) hf
theorem aLO (a b c d e:Value) (base:Array Value) (hb:base.size=5):Instr.fill (fun i=>some (i*5,5)) base [(0,.agg #[a,b,c,d,e])]=some #[a,b,c,d,e]:=by
 obtain ⟨l⟩:=base
 match l,hb with
 | [_,_,_,_,_],_=>rfl
theorem mY (w:World) (t e:TypeId) (parts:Array (Nat×Value)) (z:Value) (a b c d f:Value) (hu:P.underlying t=some (.slice e)) (hi:(P.info? e).map (fun i=>(i.zero,i.size))=some (some z,5)) (hp:parts=#[(0,.agg #[a,b,c,d,f])]) :
  (Instr.buildSlice t 1 parts).run P w=.ok (.slice (some ⟨w.heap.size,0,none⟩) 1 1) (w.alloc (.cells #[a,b,c,d,f] e)):=by
 subst hp
 exact aCC w t e 1 5 _ z _ hu hi (by decide) (by decide) (aLO a b c d f _ (by simp))
theorem aLQ (a b c:Value) (base:Array Value) (hb:base.size=3):Instr.fill (fun i=>some (i*3,3)) base [(0,.agg #[a,b,c])]=some #[a,b,c]:=by
 obtain ⟨l⟩:=base
 match l,hb with
 | [_,_,_],_=>rfl
theorem aJ7 (w:World) (t e:TypeId) (parts:Array (Nat×Value)) (z:Value) (a b c:Value) (hu:P.underlying t=some (.slice e)) (hi:(P.info? e).map (fun i=>(i.zero,i.size))=some (some z,3)) (hp:parts=#[(0,.agg #[a,b,c])]) :
  (Instr.buildSlice t 1 parts).run P w=.ok (.slice (some ⟨w.heap.size,0,none⟩) 1 1) (w.alloc (.cells #[a,b,c] e)):=by
 subst hp
 exact aCC w t e 1 3 _ z _ hu hi (by decide) (by decide) (aLQ a b c _ (by simp))
theorem aIu (h:Blk w b arr 48) (hs:arr.size=3):(Instr.loadAt 48 (.pointer (some ⟨b,0,none⟩))).run Tryz.prog w=.ok (.agg arr) w:=by
 simp only [Instr.loadAt,Instr.sureAddr,Sem.run_bind,Sem.run_pure,Result.andThen]
 exact run_loadVar_row w b 48 48 arr (0,0) _ h Tryz.underlying48 rfl (by rw [show (Tryz.prog.info? 48).map (·.size)=some 3 by kernel_rfl,hs])
theorem aCr (h:Blk w b arr 52) (hs:arr.size=5):(Instr.loadAt 52 (.pointer (some ⟨b,0,none⟩))).run Tryz.prog w=.ok (.agg arr) w:=by
 simp only [Instr.loadAt,Instr.sureAddr,Sem.run_bind,Sem.run_pure,Result.andThen]
 exact run_loadVar_row w b 52 52 arr (0,0) _ h Tryz.underlying52 rfl (by rw [show (Tryz.prog.info? 52).map (·.size)=some 5 by kernel_rfl,hs])
theorem bF (h:Blk w b arr 29) (hs:arr.size=8):(Instr.loadAt 29 (.pointer (some ⟨b,0,none⟩))).run Tryz.prog w=.ok (.agg arr) w:=by
 simp only [Instr.loadAt,Instr.sureAddr,Sem.run_bind,Sem.run_pure,Result.andThen]
 exact run_loadVar_row w b 29 29 arr (0,0) _ h Tryz.underlying29 rfl (by rw [show (Tryz.prog.info? 29).map (·.size)=some 8 by kernel_rfl,hs])
theorem aCD (h:Blk w b #[.int .i64 x,.int .i64 y] 37):(Instr.loadAt 37 (.pointer (some ⟨b,0,none⟩))).run Tryz.prog w=.ok (rv x y) w:=by
 simp only [Instr.loadAt,Instr.sureAddr,Sem.run_bind,Sem.run_pure,Result.andThen]
 exact run_loadVar_row w b 37 37 #[.int .i64 x,.int .i64 y] (0,0) _ h Tryz.underlying37 rfl (by rw [show (Tryz.prog.info? 37).map (·.size)=some 2 by kernel_rfl];rfl)
def aDG (w:World) (ao:Option Addr) (len:Nat) (l:List Int):Prop:=
 len=l.length∧(len=0∨∃b off,ao=some ⟨b,off,none⟩∧∀i (h:i<l.length),w.cell? ⟨b,off+i,none⟩=some (.int .i64 l[i]))
theorem aDG.below {len:Nat} (h:aDG w ao len l) (hb:Bw w w'):aDG w' ao len l:=by
 obtain ⟨h1,h2⟩:=h
 refine ⟨h1,?_⟩
 rcases h2 with h2 | ⟨b,off,h3,h4⟩
 ·exact .inl h2
 ·exact .inr ⟨b,off,h3,fun i h=>(hb.cell (yG (h4 i h))).trans (h4 i h)⟩
theorem aDG.at {len:Nat} (h:aDG w ao len l) {i:Nat} (hi:i<len):∃b off,ao=some ⟨b,off,none⟩∧∀(h:i<l.length),w.cell? ⟨b,off+i,none⟩=some (.int .i64 l[i]):=by
 obtain ⟨h1,h2⟩:=h
 rcases h2 with h2 | ⟨b,off,h3,h4⟩
 ·omega
 ·exact ⟨b,off,h3,fun hi=>h4 i hi⟩
def wD (x:Int):List Int→Bool
 | []=>false
 | y::t=>decide (y=x)||wD x t
def gX (x:Int):List Int→Nat→Int
 | [],_=>-1
 | y::t,k=>if y=x then k else gX x t (k+1)
theorem aB2 (h:k<l.length):gX x (l.drop k) k=if l[k]=x then (k:Int) else gX x (l.drop (k+1)) (k+1):=by rw [List.drop_eq_getElem_cons h,gX]
theorem aCf (h:l.length≤k):gX x (l.drop k) k = -1:=by rw [List.drop_of_length_le h];rfl
theorem aEj {x:Int}:∀(l:List Int) (k:Nat),decide (0≤gX x l k)=wD x l
 | [],k=>rfl
 | y::t,k=>by
  by_cases h:y=x
  ·simp [gX,wD,h]
  ·rw [gX,if_neg h,wD,aEj t]
   simp [h]
theorem aCb (ao:Option Addr) (len cap:Nat) (l:List Int) (x:Int) (w:World) (h:aDG w ao len l) (hl:len≤1048576) :
  cP 114 #[.slice ao len cap,.int .i64 x] w fun e w'=>e=.returned (.int .i64 (gX x l 0))∧w=w':=by
 have HR:=aA h
 have HL:=aA h.1
 clear h
 go_enter Tryz.func114,Tryz.ntmps114
 go_wp2
 go_loopw [8] (fun i wr=>∃k:Nat,k≤len∧i=.int .i64 k∧Hid (gX x l 0=gX x (l.drop k) k)∧wr=w) (fun i _=>len - (intOf i).toNat)
 case atStart=>exact ⟨0,Nat.zero_le _,rfl,aA (by simp),rfl⟩
 case round=>
  obtain ⟨k,hk,rfl,hp,rfl⟩:=hrel
  by_cases hlt:k<len
  ·obtain ⟨b,off,rfl,hq⟩:=(uH HR).at hlt
   have hkl:k<l.length:=by have:=uH HL;omega
   have hst:=aA (aB2 (x:=x) hkl)
   have c0:=hq hkl
   clear hq
   obtain ⟨s,hs⟩:∃s,l[k]=s:=⟨_,rfl⟩
   rw [hs] at c0 hst
   clear hs hkl
   by_cases he:s=x
   ·have HE:=aA he
    have hbe:(x==s)=true:=by simp [he]
    clear he
    go_wp2
    go_ret
    exact ⟨eP (by rw [uH hp,uH hst,if_pos (uH HE)]),rfl⟩
   ·have HE:=aA he
    have hbe:(x==s)=false:=by simp;exact fun e=>he e.symm
    clear he
    go_wp2
    go_roundw
    case rel=>exact ⟨k+1,by omega,by go_num,aA (by rw [uH hp,uH hst,if_neg (uH HE)]),trivial⟩
    case measure=>simp [intOf];omega
  ·go_wp2
   go_ret
   exact ⟨eP (by rw [uH hp,aCf (by have:=uH HL;omega)]),rfl⟩
theorem yZ (ao:Option Addr) (len cap:Nat) (l:List Int) (x:Int) (w:World) (h:aDG w ao len l) (hl:len≤1048576) :
  cP 61 #[.slice ao len cap,.int .i64 x] w fun e w'=>e=.returned (.bool (wD x l))∧w=w':=by
 have C:=aA (aCb ao len cap l x w h hl)
 have hh:=aEj (x:=x) l 0
 obtain ⟨r,hr⟩:∃r,gX x l 0=r:=⟨_,rfl⟩
 rw [hr] at C hh
 have HH:=aA hh
 clear h hr hh
 go_enter Tryz.func61,Tryz.ntmps61
 go_wp2_with fail
 refine (uH C).mono ?_
 rintro e w1 ⟨rfl,rfl⟩
 clear C
 go_wp2
 go_ret
 exact ⟨yF (uH HH),rfl⟩
def yO (l:List Int):List Value:=l.map (Value.int .i64)
def aBl (B:Nat) (w:World) (v:Value) (l:List Int):Prop:=w.ownsRow B 3 1 v l.length (yO l)
theorem aFf (w:World):aBl w.heap.size (w.alloc (.cells #[] 3)) (.slice (some ⟨w.heap.size,0,none⟩) 0 0) []:=
 ⟨rfl,.inr ⟨w.heap.size,0,#[],rfl,yJ _,by show (w.heap.push _)[w.heap.size]? = _;simp,yJ _,by unfold maxLen;omega,rfl,rfl⟩⟩
theorem dX (h:aBl B w v l) (hb:Bw w w'):aBl B w' v l:=
 World.ownsRow.kept h (aG (aF w none) hb) (by by_cases e:v.ownBlock=none;exact .inl e;exact .inr e)
theorem aEh (h:aBl B w v l):∃ao cap,v=.slice ao l.length cap∧aDG w ao l.length l:=by
 rcases h.2 with ⟨rfl,h0⟩ | ⟨g,cap,cur,rfl,h1,h2,h3,h4,h5,h6⟩
 ·exact ⟨none,0,by rw [h0],⟨rfl,.inl h0⟩⟩
 ·refine ⟨some ⟨g,0,none⟩,cap,rfl,⟨rfl,.inr ⟨g,0,rfl,fun i hi=>?_⟩⟩⟩
  have hv:(yO l)[i]? = some (.int .i64 l[i]):=by simp [yO,hi]
  rw [←h6,List.getElem?_take_of_lt (by simpa using hi)] at hv
  simp only [Nat.zero_add]
  simp [World.cell?,h2]
  simpa using hv
theorem Tryz.infoI:(Tryz.prog.info? 3).map (fun i=>(i.zero,i.size,i.bytes))=some (some (.int .i64 0),1,8):=by kernel_rfl
abbrev iY (o:List ByteArray):List Value:=o.map Value.string
theorem Tryz.infoS:(Tryz.prog.info? 9).map (fun i=>(i.zero,i.size,i.bytes))=some (some (.string ByteArray.empty),1,16):=by kernel_rfl
theorem rO (w:World):(w.alloc (.cells #[] 9)).ownsRow w.heap.size 9 1 (.slice (some ⟨w.heap.size,0,none⟩) 0 0) ([]:List ByteArray).length (iY []):=
 ⟨rfl,.inr ⟨w.heap.size,0,#[],rfl,yJ _,by show (w.heap.push _)[w.heap.size]? = _;simp,yJ _,by unfold maxLen;omega,rfl,rfl⟩⟩
theorem pW {wr w1:World} {v':Value} {x:ByteArray} {ob:Obj} (hb:Below B w wr) (Hq:wr.ownsRow B 9 1 v o.length (iY o))
  (h1:w1.ownsRow B 9 1 v' (o.length+1) (iY o++[.string x])) (hg:(wr.alloc ob).grownBy w1 v.ownBlock) (hB:B≤wr.heap.size) :
  w1.ownsRow B 9 1 v' (o++[x]).length (iY (o++[x]))∧Below B w w1:=by
 refine ⟨by simpa [iY] using h1,(hb.alloc hB ob).grown hg (by simp;omega) ?_⟩
 intro k hk
 rcases Hq.2 with ⟨rfl,_⟩ | ⟨g,cap,cur,rfl,hg',_⟩
 ·simp [Value.ownBlock] at hk
 ·simp [Value.ownBlock] at hk;omega
theorem aFL (h:w.ownsRow B 9 1 v o.length (iY o)) (ho:1≤o.length):∃g cap,v=.slice (some ⟨g,0,none⟩) o.length cap∧SS w g cap o∧B≤g:=by
 rcases h.2 with ⟨_,h0⟩ | ⟨g,cap,cur,rfl,h1,h2,h3,h4,h5,h6⟩
 ·omega
 ·exact ⟨g,cap,rfl,SS.mk h2 h3 h4 (by simpa using h5) (by simpa using h6),h1⟩
theorem gD (h:w.ownsRow B 9 1 v o.length (iY o)) (hb:Bw w w'):w'.ownsRow B 9 1 v o.length (iY o):=
 h.kept (aG (aF w none) hb) (by by_cases e:v.ownBlock=none;exact .inl e;exact .inr e)
def bY (B:Nat) (w:World) (v:Value) (ps:List (List UInt8)):Prop:=w.ownsRow B 9 1 v (ps.map bs).length (iY (ps.map bs))
theorem bY.of (h:w.ownsRow B 9 1 v o.length (iY o)) (e:o=ps.map bs):bY B w v ps:=by subst e;exact h
theorem bY.below (h:bY B w v ps) (hb:Bw w w'):bY B w' v ps:=gD h hb
theorem kJ (h:bY B w v []):∃a cap,v=.slice a 0 cap:=by
 rcases h.2 with ⟨rfl,_⟩ | ⟨g,cap,cur,rfl,_⟩
 ·exact ⟨_,_,rfl⟩
 ·exact ⟨_,_,rfl⟩
theorem kI (h:bY B w v ps) (hp:ps≠[]):∃g cap,v=.slice (some ⟨g,0,none⟩) ps.length cap∧SS w g cap (ps.map bs)∧B≤g:=by
 have hl:0<ps.length:=List.length_pos_iff.2 hp
 obtain ⟨g,cap,h1,h2,h3⟩:=aFL h (by simp;omega)
 exact ⟨g,cap,by rw [h1];simp,h2,h3⟩
theorem SS.text {cap:Nat} (h:SS w g cap (ps.map bs)) (hj:j<ps.length):w.cell? ⟨g,j,none⟩=some (.string (bs ps[j])):=by
 have:=h.cell j (by simpa using hj)
 simpa using this
def gH (a b n:Int):Bool:=aM a b&&inB n 0 10000
def fA (a b n:Int):Int:=if gH a b n then a*n / 10000 else 0
def fB (a b n:Int):Int:=if gH a b n then b*n / 10000 else 0
theorem uI {a n A N:Int} (h0:0≤a) (h1:a≤A) (h2:0≤n) (h3:n≤N):0≤a*n∧a*n≤A*N:=
 ⟨Int.mul_nonneg h0 h2,Int.mul_le_mul h1 h3 h2 (Int.le_trans h0 h1)⟩
theorem aAx (a b n:Int) (w:World) :
  cP 153 #[rv a b,.int .i64 n] w fun e w'=>e=.returned (rv (fA a b n) (fB a b n))∧Bw w w':=by
 cases h1:aM a b
 ·rw [show fA a b n=0 by simp [fA,gH,h1],show fB a b n=0 by simp [fB,gH,h1]]
  go_enter Tryz.func153,Tryz.ntmps153
  go_wp2_with (first | (go_at_call 86;refine (aR _ _ _).mono ?_;rintro e w' ⟨rfl,rfl⟩) | (go_at_call 51;refine (aQ _ _ _ _).mono ?_;rintro e w' ⟨rfl,rfl⟩))
  refine bodyPost_ret (v:=rv 0 0) (by simp [results,Tryz.results153,go_sem]) rfl ⟨rfl,?_⟩
  repeat (first | exact yH _ _ | refine yA ?_ _ | refine Below.drew ?_ | refine yC ?_ _ _ _ (by omega))
 ·cases h2:inB n 0 10000
  ·rw [show fA a b n=0 by simp [fA,gH,h2],show fB a b n=0 by simp [fB,gH,h2]]
   go_enter Tryz.func153,Tryz.ntmps153
   go_wp2_with (first | (go_at_call 86;refine (aR _ _ _).mono ?_;rintro e w' ⟨rfl,rfl⟩) | (go_at_call 51;refine (aQ _ _ _ _).mono ?_;rintro e w' ⟨rfl,rfl⟩))
   refine bodyPost_ret (v:=rv 0 0) (by simp [results,Tryz.results153,go_sem]) rfl ⟨rfl,?_⟩
   repeat (first | exact yH _ _ | refine yA ?_ _ | refine Below.drew ?_ | refine yC ?_ _ _ _ (by omega))
  ·rw [show fA a b n=a*n / 10000 by simp [fA,gH,h1,h2],show fB a b n=b*n / 10000 by simp [fB,gH,h1,h2]]
   obtain ⟨q1,q2,q3,q4⟩:=aO h1
   have hn:0≤n∧n≤10000:=by simpa [inB] using h2
   obtain ⟨m1,m2⟩:=uI q1 q2 hn.1 hn.2
   obtain ⟨m3,m4⟩:=uI q3 q4 hn.1 hn.2
   go_enter Tryz.func153,Tryz.ntmps153
   go_wp2_with (first | (go_at_call 86;refine (aR _ _ _).mono ?_;rintro e w' ⟨rfl,rfl⟩) | (go_at_call 51;refine (aQ _ _ _ _).mono ?_;rintro e w' ⟨rfl,rfl⟩))
   refine bodyPost_ret (v:=rv (a*n / 10000) (b*n / 10000)) (by simp [results,Tryz.results153,go_sem]) rfl ⟨rfl,?_⟩
   repeat (first | exact yH _ _ | refine yA ?_ _ | refine Below.drew ?_ | refine yC ?_ _ _ _ (by omega))
end
end Go.Proofs.YtngkddhcmfbjnaaGreat
namespace Go.Proofs.YtngkddhcmfbjnaaGreat.HeapM
set_option linter.unusedVariables false
variable {α:Type} (le:α→α→Prop) (d:α)
def at' (l:List α) (k:Nat):α:=l.getD k d
def swapL (l:List α) (i j:Nat):List α:=(l.set i (l.getD j d)).set j (l.getD i d)
theorem swap_len (l:List α) (i j:Nat):(swapL d l i j).length=l.length:=by simp [swapL]
theorem wN (l:List α) (i j k:Nat) (hi:i<l.length) (hj:j<l.length):at' d (swapL d l i j) k=if k=j then at' d l i else if k=i then at' d l j else at' d l k:=by
 unfold at' swapL
 simp only [List.getD_eq_getElem?_getD,List.getElem?_set,List.length_set]
 by_cases h1:k=j
 ·subst h1;simp [hj]
 ·by_cases h2:k=i
  ·subst h2;simp [h1,hi,Ne.symm h1]
  ·simp [h1,h2,Ne.symm h1,Ne.symm h2]
theorem swap_perm (l:List α) (i j:Nat) (hi:i<l.length) (hj:j<l.length):(swapL d l i j).Perm l:=by
 have h:=Array.swap_perm (xs:=l.toArray) (i:=i) (j:=j) (by simpa using hi) (by simpa using hj)
 have e:(l.toArray.swap i j (by simpa using hi) (by simpa using hj)).toList=swapL d l i j:=by
  apply List.ext_getElem?
  intro k
  unfold swapL
  simp [Array.swap,List.getElem?_set,List.getD_eq_getElem?_getD,hi,hj]
 have h2:=h.toList
 rw [e] at h2
 simpa using h2
def par (k:Nat):Nat:=(k - 1) / 2
theorem par_lt {k:Nat} (h:0<k):par k<k:=by unfold par;omega
def Heap (n:Nat) (l:List α):Prop:=∀k,0<k→k<n→le (at' d l (par k)) (at' d l k)
def aHp (n:Nat) (l:List α) (j:Nat):Prop:=
 (∀k,0<k→k<n→k≠j→le (at' d l (par k)) (at' d l k))∧(∀k,0<k→k<n→par k=j→0<j→le (at' d l (par j)) (at' d l k))
def zP (n:Nat) (l:List α) (i:Nat):Prop:=
 (∀k,0<k→k<n→par k≠i→le (at' d l (par k)) (at' d l k))∧(∀k,0<k→k<n→par k=i→0<i→le (at' d l (par i)) (at' d l k))
structure Order:Prop where
 trans:∀x y z,le x y→le y z→le x z
 total:∀x y,le x y∨le y x
variable {le d}
theorem Order.refl (O:Order le) (x:α):le x x:=(O.total x x).elim id id
theorem aGN {n:Nat} {l:List α} {j:Nat} (h:aHp le d n l j) (hj:j=0∨le (at' d l (par j)) (at' d l j)):Heap le d n l:=fun k h0 h1=>by
 by_cases e:k=j
 ·subst e
  rcases hj with h | h
  ·omega
  ·exact h
 ·exact h.1 k h0 h1 e
theorem aJ0 (O:Order le) {n:Nat} {l:List α} {j:Nat} (hn:n≤l.length) (h:aHp le d n l j) (h0:0<j) (h1:j<n) (hb:le (at' d l j) (at' d l (par j))):aHp le d n (swapL d l (par j) j) (par j):=by
 have hp:=par_lt h0
 have hsw:=fun k=>wN d l (par j) j k (by omega) (by omega)
 refine ⟨fun k k0 k1 kn=>?_,fun k k0 k1 kp p0=>?_⟩
 ·rw [hsw,hsw]
  by_cases e:k=j
  ·subst e
   rw [if_pos rfl,if_neg (by omega),if_pos rfl]
   exact hb
  ·rw [if_neg e,if_neg kn]
   have hkp:=par_lt k0
   by_cases e1:par k=j
   ·rw [if_pos e1]
    exact h.2 k k0 k1 e1 h0
   ·rw [if_neg e1]
    by_cases e2:par k=par j
    ·rw [if_pos e2]
     have:=h.1 k k0 k1 e
     rw [e2] at this
     exact O.trans _ _ _ hb this
    ·rw [if_neg e2]
     exact h.1 k k0 k1 e
 ·rw [hsw,hsw]
  have hpp:=par_lt p0
  rw [if_neg (by omega),if_neg (by omega)]
  have hg:=h.1 (par j) p0 (by omega) (by omega)
  by_cases e:k=j
  ·subst e
   rw [if_pos rfl]
   exact hg
  ·rw [if_neg e]
   have hkp:=par_lt k0
   rw [if_neg (by omega)]
   have:=h.1 k k0 k1 e
   rw [kp] at this
   exact O.trans _ _ _ hg this
theorem aIH {n:Nat} {l:List α} (h:Heap le d n l):aHp le d (n+1) l n:=by
 refine ⟨fun k h0 h1 hn=>h k h0 (by omega),fun k h0 h1 hk _=>?_⟩
 have:=par_lt h0
 omega
theorem aAa {n:Nat} {l l':List α} (h:Heap le d n l) (e:∀k,k<n→at' d l' k=at' d l k):Heap le d n l':=fun k h0 h1=>by
 rw [e _ (by have:=par_lt h0;omega),e _ h1]
 exact h k h0 h1
theorem aCl {n:Nat} {l:List α} {i:Nat} (h:zP le d n l i) (hk:∀k,0<k→k<n→par k=i→le (at' d l i) (at' d l k)):Heap le d n l:=fun k h0 h1=>by
 by_cases e:par k=i
 ·rw [e];exact hk k h0 h1 e
 ·exact h.1 k h0 h1 e
theorem aHY (O:Order le) {n:Nat} {l:List α} {i j:Nat} (hn:n≤l.length) (h:zP le d n l i) (h0:0<j) (h1:j<n) (hj:par j=i) (hb:le (at' d l j) (at' d l i)) (hmin:∀k,0<k→k<n→par k=i→le (at' d l j) (at' d l k)):zP le d n (swapL d l i j) j:=by
 have hp:=par_lt h0
 have hsw:=fun k=>wN d l i j k (by omega) (by omega)
 refine ⟨fun k k0 k1 kn=>?_,fun k k0 k1 kp p0=>?_⟩
 ·have hkp:=par_lt k0
  rw [hsw,hsw,if_neg kn]
  by_cases e:k=j
  ·subst e
   rw [if_pos rfl,if_pos hj]
   exact hb
  ·rw [if_neg e]
   by_cases e1:par k=i
   ·rw [if_pos e1]
    rw [if_neg (by omega)]
    exact hmin k k0 k1 e1
   ·rw [if_neg e1]
    by_cases e2:k=i
    ·rw [if_pos e2]
     subst e2
     exact h.2 j h0 h1 hj k0
    ·rw [if_neg e2]
     exact h.1 k k0 k1 e1
 ·have hkp:=par_lt k0
  rw [hsw,hsw,hj,if_neg (by omega),if_pos rfl,if_neg (by omega),if_neg (by omega)]
  have:=h.1 k k0 k1 (by omega)
  rw [kp] at this
  exact this
theorem aFk {n:Nat} {l l':List α} (h:Heap le d n l) (m:Nat) (hm:m≤n) (e:∀k,0<k→k<m→at' d l' k=at' d l k):zP le d m l' 0:=by
 refine ⟨fun k h0 h1 hn=>?_,fun k h0 h1 hk hz=>by omega⟩
 have:=par_lt h0
 rw [e _ (by omega) (by omega),e k h0 h1]
 exact h k h0 (by omega)
theorem aIi (O:Order le) {n:Nat} {l:List α} (h:Heap le d n l):∀k,k<n→le (at' d l 0) (at' d l k):=by
 intro k
 induction k using Nat.strongRecOn with
 | _ k ih=>
  intro hk
  by_cases e:k=0
  ·subst e;exact O.refl _
  ·have hp:=par_lt (k:=k) (by omega)
   exact O.trans _ _ _ (ih _ hp (by omega)) (h k (by omega) hk)
theorem aE5 {i k:Nat} (h:0<k):par k=i↔k=2*i+1∨k=2*i+2:=by unfold par;omega
def Sorted (le:α→α→Prop):List α→Prop
 | []=>True
 | x::t=>(∀y ∈ t,le x y)∧Sorted le t
theorem sorted_unique (anti:∀x y,le x y→le y x→x=y):∀(a b:List α),Sorted le a→Sorted le b→a.Perm b→a=b
 | [],b,_,_,h=>h.nil_eq
 | x::t,[],_,_,h=>by simpa using h.length_eq
 | x::t,y::u,ha,hb,h=>by
  have hx:x ∈ y::u:=h.subset (by simp)
  have hy:y ∈ x::t:=h.symm.subset (by simp)
  have e:x=y:=by
   rcases List.mem_cons.1 hx with h1 | h1
   ·exact h1
   ·rcases List.mem_cons.1 hy with h2 | h2
    ·exact h2.symm
    ·exact anti _ _ (ha.1 y h2) (hb.1 x h1)
  subst e
  have:=sorted_unique anti t u ha.2 hb.2 ((List.perm_cons x).1 h)
  rw [this]
theorem sorted_snoc:∀(a:List α) (x:α),Sorted le a→(∀y ∈ a,le y x)→Sorted le (a++[x])
 | [],x,_,_=>⟨by simp,trivial⟩
 | y::t,x,h,hx=>by
  refine ⟨fun z hz=>?_,sorted_snoc t x h.2 (fun z hz=>hx z (by simp [hz]))⟩
  rcases List.mem_append.1 hz with h1 | h1
  ·exact h.1 z h1
  ·simp at h1;subst h1;exact hx y (by simp)
theorem aG9 (O:Order le) {l l':List α} (hl:0<l.length) (hh:Heap le d l.length l) (hp:l'.Perm (swapL d l 0 (l.length - 1))) (QI:at' d l' (l.length - 1)=at' d l 0) (hq:Heap le d (l.length - 1) l') :
  Heap le d (l.length - 1) (l'.take (l.length - 1))∧(l'.take (l.length - 1)++[at' d l 0]).Perm l∧∀x ∈ l'.take (l.length - 1),le (at' d l 0) x:=by
 have hpl:l'.Perm l:=hp.trans (swap_perm d l 0 (l.length - 1) (by omega) (by omega))
 have gz:l'.length=l.length:=hpl.length_eq
 have YS:l'=l'.take (l.length - 1)++[at' d l 0]:=by
  conv=>lhs;rw [←List.take_append_drop (l.length - 1) l']
  congr 1
  have h1:l'.drop (l.length - 1)=[l'[l.length - 1]'(by omega)]:=by
   rw [List.drop_eq_getElem_cons (by omega),List.drop_of_length_le (by omega)]
  rw [h1,←QI]
  unfold at'
  rw [List.getD_eq_getElem?_getD,List.getElem?_eq_getElem (by omega)]
  rfl
 refine ⟨aAa hq (fun k hk=>?_),by rw [←YS];exact hpl,fun x hx=>?_⟩
 ·unfold at'
  rw [List.getD_eq_getElem?_getD,List.getD_eq_getElem?_getD,List.getElem?_take_of_lt hk]
 ·have hm:x ∈ l:=hpl.subset (List.mem_of_mem_take hx)
  obtain ⟨k,hk,e⟩:=List.mem_iff_getElem.1 hm
  have:=aIi O hh k hk
  unfold at' at this
  rw [List.getD_eq_getElem?_getD (i:=k),List.getElem?_eq_getElem hk] at this
  rw [←e]
  exact this
end Go.Proofs.YtngkddhcmfbjnaaGreat.HeapM
namespace Go.Proofs.YtngkddhcmfbjnaaGreat.OrdM
set_option linter.unusedVariables false
variable {β:Type} (lt:β→β→Bool) (nl:List UInt8→List UInt8→Bool)
def ahead (x y:List UInt8×β):Bool:=lt x.2 y.2||(!lt y.2 x.2&&nl x.1 y.1)
structure Weak:Prop where
 irr:∀a,lt a a=false
 asym:∀a b,lt a b=true→lt b a=false
 ntrans:∀a b c,lt b a=false→lt c b=false→lt c a=false
structure Names:Prop where
 irr:∀a,nl a a=false
 trans:∀a b c,nl a b=true→nl b c=true→nl a c=true
 tri:∀a b,nl a b=false→a≠b→nl b a=true
variable {lt nl}
theorem Names.asym (N:Names nl) {a b:List UInt8} (h:nl a b=true):nl b a=false:=by
 cases hb:nl b a with
 | false=>rfl
 | true=>have:=N.trans _ _ _ h hb;rw [N.irr] at this;exact absurd this (by simp)
theorem Names.ntrans (N:Names nl) {a b c:List UInt8} (h:nl b a=false) (k:nl c b=false):nl c a=false:=by
 cases hc:nl c a with
 | false=>rfl
 | true=>
  by_cases e:b=a
  ·subst e;rw [hc] at k;exact absurd k (by simp)
  ·have h1:=N.tri _ _ h e
   have h2:=N.trans _ _ _ hc h1
   rw [h2] at k;exact absurd k (by simp)
theorem ahead_asym (W:Weak lt) (N:Names nl) {x y:List UInt8×β} (h:ahead lt nl x y=true):ahead lt nl y x=false:=by
 unfold ahead at *
 simp only [Bool.or_eq_true,yK,Bool.not_eq_true',Bool.or_eq_false_iff,Bool.and_eq_false_iff,Bool.not_eq_false'] at *
 rcases h with h | ⟨h1,h2⟩
 ·exact ⟨W.asym _ _ h,.inl h⟩
 ·exact ⟨h1,.inr (N.asym h2)⟩
theorem ahead_ntrans (W:Weak lt) (N:Names nl) {x y z:List UInt8×β} (h:ahead lt nl y x=false) (k:ahead lt nl z y=false):ahead lt nl z x=false:=by
 unfold ahead at *
 simp only [Bool.or_eq_false_iff,Bool.and_eq_false_iff,Bool.not_eq_false'] at *
 obtain ⟨h1,h2⟩:=h
 obtain ⟨k1,k2⟩:=k
 refine ⟨W.ntrans _ _ _ h1 k1,?_⟩
 cases hx:lt x.2 z.2 with
 | true=>exact .inl rfl
 | false=>
  right
  have hxy:lt x.2 y.2=false:=by
   cases e:lt x.2 y.2 with
   | false=>rfl
   | true=>have:=W.ntrans _ _ _ k1 hx;rw [this] at e;exact absurd e (by simp)
  have hyz:lt y.2 z.2=false:=by
   cases e:lt y.2 z.2 with
   | false=>rfl
   | true=>have:=W.ntrans _ _ _ hx h1;rw [this] at e;exact absurd e (by simp)
  rw [hxy] at h2
  rw [hyz] at k2
  exact N.ntrans (h2.resolve_left (by simp)) (k2.resolve_left (by simp))
theorem ahead_anti (W:Weak lt) (N:Names nl) {x y:List UInt8×β} (h:ahead lt nl y x=false) (k:ahead lt nl x y=false):x.1=y.1:=by
 unfold ahead at *
 simp only [Bool.or_eq_false_iff,Bool.and_eq_false_iff,Bool.not_eq_false'] at *
 obtain ⟨h1,h2⟩:=h
 obtain ⟨k1,k2⟩:=k
 have a1:=h2.resolve_left (by rw [k1];simp)
 have a2:=k2.resolve_left (by rw [h1];simp)
 apply Classical.byContradiction
 intro e
 have:=N.tri _ _ a2 e
 rw [a1] at this
 exact absurd this (by simp)
def ins {α:Type} (p:α→α→Bool) (x:α):List α→List α
 | []=>[x]
 | y::t=>if p y x=true then y::ins p x t else x::y::t
theorem ins_perm {α:Type} (p:α→α→Bool) (x:α):∀l:List α,(ins p x l).Perm (x::l)
 | []=>List.Perm.refl _
 | y::t=>by
  unfold ins
  split
  ·exact ((ins_perm p x t).cons y).trans (List.Perm.swap x y t)
  ·exact List.Perm.refl _
theorem ins_sorted {α:Type} {p:α→α→Bool} (asym:∀a b,p a b=true→p b a=false) (nt:∀a b c,p b a=false→p c b=false→p c a=false) (x:α):∀l:List α,HeapM.Sorted (fun a b=>p b a=false) l→HeapM.Sorted (fun a b=>p b a=false) (ins p x l)
 | [],_=>⟨by simp,trivial⟩
 | y::t,h=>by
  unfold ins
  split
  ·rename_i hp
   refine ⟨fun z hz=>?_,ins_sorted asym nt x t h.2⟩
   rcases List.mem_cons.1 ((ins_perm p x t).subset hz) with e | e
   ·subst e;exact asym _ _ hp
   ·exact h.1 z e
  ·rename_i hp
   have hp':p y x=false:=by simpa using hp
   refine ⟨fun z hz=>?_,h⟩
   rcases List.mem_cons.1 hz with e | e
   ·subst e;exact hp'
   ·exact nt _ _ _ hp' (h.1 z e)
end Go.Proofs.YtngkddhcmfbjnaaGreat.OrdM
namespace Go.Proofs.YtngkddhcmfbjnaaGreat
section
open Go.RowKit
variable {a b u v x y:Int} {l:List (List UInt8)} {g k:Nat} {t:TypeId} {w w':World}
theorem kU {α:Type} {le:α→α→Prop}:∀l:List α,l.Pairwise le→HeapM.Sorted le l
 | [],_=>trivial
 | x::t,h=>⟨(List.pairwise_cons.1 h).1,kU t (List.pairwise_cons.1 h).2⟩
theorem aKo (x y:List UInt8):Op.bytesLess y x=false↔x≤y:=by
 rw [bytesLess_eq]
 simp
theorem aKD (a b:List UInt8) (h:Op.bytesLess a b=true):Op.bytesLess b a=false:=by
 cases hb:Op.bytesLess b a with
 | false=>rfl
 | true=>have:=qX _ _ _ h hb;rw [zD] at this;exact absurd this (by simp)
theorem aH7 (a b c:List UInt8) (h:Op.bytesLess b a=false) (k:Op.bytesLess c b=false):Op.bytesLess c a=false:=by
 rw [aKo] at *
 exact List.le_trans h k
def xZ (l:List (List UInt8)) (o:List (List UInt8)):List (List UInt8):=l.foldl (fun o x=>OrdM.ins Op.bytesLess x o) o
theorem pJ:∀(l o:List (List UInt8)),(xZ l o).Perm (l++o)
 | [],o=>List.Perm.refl _
 | x::t,o=>by
  refine (pJ t (OrdM.ins Op.bytesLess x o)).trans ?_
  refine (List.Perm.append_left t (OrdM.ins_perm _ x o)).trans ?_
  exact List.perm_middle
theorem qO:∀(l o:List (List UInt8)),HeapM.Sorted (fun a b=>Op.bytesLess b a=false) o→HeapM.Sorted (fun a b=>Op.bytesLess b a=false) (xZ l o)
 | [],o,h=>h
 | x::t,o,h=>qO t _ (OrdM.ins_sorted aKD aH7 x o h)
theorem aHJ (l:List (List UInt8)):xZ l []=l.mergeSort fun x y=>decide (x≤y):=by
 refine HeapM.sorted_unique (le:=fun a b=>Op.bytesLess b a=false) ?_ _ _ (qO l [] trivial) ?_ ?_
 ·intro x y h k
  apply Classical.byContradiction
  intro e
  have:=aEw _ _ h (fun h=>e h.symm)
  rw [k] at this
  exact absurd this (by simp)
 ·refine kU _ ?_
  refine (List.pairwise_mergeSort (le:=fun x y=>decide (x≤y)) ?_ ?_ l).imp ?_
  ·intro a b c h k
   simp only [yL] at *
   exact List.le_trans h k
  ·intro a b
   simp only [Bool.or_eq_true,yL]
   exact List.le_total a b
  ·intro a b h
   rw [aKo]
   simpa using h
 ·have:=pJ l []
  rw [List.append_nil] at this
  exact this.trans (List.mergeSort_perm _ _).symm
theorem aDk (l:List (List UInt8)) (x:List UInt8):xZ (l++[x]) []=OrdM.ins Op.bytesLess x (xZ l []):=by
 rw [xZ,List.foldl_append];rfl
def j3 (p:List UInt8→List UInt8→Bool) (x:List UInt8):List (List UInt8)→Nat
 | []=>0
 | y::t=>if p y x=true then j3 p x t+1 else 0
theorem xX (p:List UInt8→List UInt8→Bool) (x:List UInt8):∀l,OrdM.ins p x l=l.take (j3 p x l)++x::l.drop (j3 p x l)
 | []=>rfl
 | y::t=>by
  unfold OrdM.ins j3
  by_cases h:p y x=true
  ·rw [if_pos h,if_pos h,List.take_succ_cons,List.drop_succ_cons,xX p x t];rfl
  ·rw [if_neg h,if_neg h];rfl
theorem xA (p:List UInt8→List UInt8→Bool) (x:List UInt8) (h:k<l.length):k+j3 p x (l.drop k)=if p l[k] x=true then (k+1)+j3 p x (l.drop (k+1)) else k:=by
 rw [List.drop_eq_getElem_cons h,j3]
 split<;>omega
theorem aAS (p:List UInt8→List UInt8→Bool) (x:List UInt8) (h:l.length≤k):k+j3 p x (l.drop k)=k:=by
 rw [List.drop_of_length_le h];rfl
def l5 (u d:Int):Int×Int:=if 0<d then (u,d) else if 0<u then (1,0) else (0,1)
def less (a b c d:Int):Bool:=if b=0 then false else if d=0 then true else decide (a*d<c*b)
def fO (a b c d:Int):Int×Int:=if aM a b&&aM c d then (if less (l5 a c).1 (l5 a c).2 (l5 b d).1 (l5 b d).2 then l5 b d else l5 a c) else (0,1)
def jH (x:Int):Prop:=0≤x∧x≤1000000000
theorem p9 (ha:jH a) (hb:jH b):0≤a*b∧a*b≤1000000000000000000:=
 ⟨Int.mul_nonneg ha.1 hb.1,Int.le_trans (Int.mul_le_mul ha.2 hb.2 hb.1 (by decide)) (by decide)⟩
theorem kK {d:Int} (hu:jH u) (hd:jH d):jH (l5 u d).1∧jH (l5 u d).2:=by
 unfold l5 jH at *
 split
 ·exact ⟨hu,hd⟩
 ·split<;>simp
theorem eF (h:aM a b=true):jH a∧jH b:=by
 have:=aO h
 exact ⟨⟨this.1,this.2.1⟩,this.2.2⟩
theorem kN (a b c d:Int):jH (fO a b c d).1∧jH (fO a b c d).2:=by
 unfold fO
 split
 ·rename_i h
  simp only [yK] at h
  obtain ⟨s1,s2⟩:=eF h.1
  obtain ⟨s3,s4⟩:=eF h.2
  split
  ·exact kK s2 s4
  ·exact kK s1 s3
 ·exact ⟨by unfold jH;simp,by unfold jH;simp⟩
theorem tZ (u d:Int) (w:World) :
  cP 204 #[.int .i64 u,.int .i64 d] w fun e w'=>e=.returned (.tuple #[.int .i64 (l5 u d).1,.int .i64 (l5 u d).2])∧w'=w:=by
 by_cases h1:0<d
 ·rw [show l5 u d=(u,d) from if_pos h1]
  go_enter Tryz.func204,Tryz.ntmps204
  go_wp2
  go_ret2
  exact ⟨rfl,rfl⟩
 ·by_cases h2:0<u
  ·rw [show l5 u d=(1,0) by simp [l5,h1,h2]]
   go_enter Tryz.func204,Tryz.ntmps204
   go_wp2
   go_ret2
   exact ⟨rfl,rfl⟩
  ·rw [show l5 u d=(0,1) by simp [l5,h1,h2]]
   go_enter Tryz.func204,Tryz.ntmps204
   go_wp2
   go_ret2
   exact ⟨rfl,rfl⟩
theorem mV (a b c d:Int) (w:World) (ha:jH a) (hb:jH b) (hc:jH c) (hd:jH d) :
  cP 201 #[.int .i64 a,.int .i64 b,.int .i64 c,.int .i64 d] w fun e w'=>e=.returned (.bool (less a b c d))∧w'=w:=by
 obtain ⟨m1,m2⟩:=p9 ha hd
 obtain ⟨m3,m4⟩:=p9 hc hb
 by_cases h1:b=0
 ·rw [show less a b c d=false from if_pos h1]
  go_enter Tryz.func201,Tryz.ntmps201
  go_wp2
  go_ret
  exact ⟨rfl,rfl⟩
 ·by_cases h2:d=0
  ·rw [show less a b c d=true by simp [less,h1,h2]]
   go_enter Tryz.func201,Tryz.ntmps201
   go_wp2
   go_ret
   exact ⟨rfl,rfl⟩
  ·rw [show less a b c d=decide (a*d<c*b) by simp [less,h1,h2]]
   go_enter Tryz.func201,Tryz.ntmps201
   go_wp2
   go_ret
   exact ⟨rfl,rfl⟩
theorem pX (a b c d:Int) (w:World) :
  cP 200 #[rv a b,rv c d] w fun e w'=>e=.returned (.tuple #[.int .i64 (fO a b c d).1,.int .i64 (fO a b c d).2])∧Bw w w':=by
 cases h1:aM a b
 ·rw [show fO a b c d=(0,1) by simp [fO,h1]]
  go_enter Tryz.func200,Tryz.ntmps200
  go_wp2_with (go_at_call 86;refine (aR _ _ _).mono ?_;rintro e w' ⟨rfl,rfl⟩)
  go_ret2
  refine ⟨rfl,?_⟩
  repeat (first | exact yH _ _ | refine yA ?_ _ | refine Below.drew ?_ | refine yC ?_ _ _ _ (by omega))
 ·cases h2:aM c d
  ·rw [show fO a b c d=(0,1) by simp [fO,h2]]
   go_enter Tryz.func200,Tryz.ntmps200
   go_wp2_with (go_at_call 86;refine (aR _ _ _).mono ?_;rintro e w' ⟨rfl,rfl⟩)
   go_ret2
   refine ⟨rfl,?_⟩
   repeat (first | exact yH _ _ | refine yA ?_ _ | refine Below.drew ?_ | refine yC ?_ _ _ _ (by omega))
  ·obtain ⟨s1,s2⟩:=eF h1
   obtain ⟨s3,s4⟩:=eF h2
   obtain ⟨p1,p2⟩:=kK s1 s3
   obtain ⟨p3,p4⟩:=kK s2 s4
   cases h3:less (l5 a c).1 (l5 a c).2 (l5 b d).1 (l5 b d).2
   ·rw [show fO a b c d=l5 a c by simp [fO,h1,h2,h3]]
    go_enter Tryz.func200,Tryz.ntmps200
    go_wp2_with (first | (go_at_call 86;refine (aR _ _ _).mono ?_;rintro e w' ⟨rfl,rfl⟩) | (go_at_call 204;refine (tZ _ _ _).mono ?_;rintro e w' ⟨rfl,rfl⟩) | (go_at_call 201;refine (mV _ _ _ _ _ p1 p2 p3 p4).mono ?_;rintro e w' ⟨rfl,rfl⟩))
    go_ret2
    refine ⟨rfl,?_⟩
    repeat (first | exact yH _ _ | refine yA ?_ _ | refine Below.drew ?_ | refine yC ?_ _ _ _ (by omega))
   ·rw [show fO a b c d=l5 b d by simp [fO,h1,h2,h3]]
    go_enter Tryz.func200,Tryz.ntmps200
    go_wp2_with (first | (go_at_call 86;refine (aR _ _ _).mono ?_;rintro e w' ⟨rfl,rfl⟩) | (go_at_call 204;refine (tZ _ _ _).mono ?_;rintro e w' ⟨rfl,rfl⟩) | (go_at_call 201;refine (mV _ _ _ _ _ p1 p2 p3 p4).mono ?_;rintro e w' ⟨rfl,rfl⟩))
    go_ret2
    refine ⟨rfl,?_⟩
    repeat (first | exact yH _ _ | refine yA ?_ _ | refine Below.drew ?_ | refine yC ?_ _ _ _ (by omega))
def pO (w:World) (t:TypeId) (g:Nat) (x y u v:Int):Prop:=w.heap[g]? = some (.cells #[.int .i64 x,.int .i64 y,.int .i64 u,.int .i64 v] t (0,0))
theorem pO.c0 (h:pO w t g x y u v):w.cell? ⟨g,0,none⟩=some (.int .i64 x):=by unfold pO at h;simp [World.cell?,h]
theorem pO.c1 (h:pO w t g x y u v):w.cell? ⟨g,1,none⟩=some (.int .i64 y):=by unfold pO at h;simp [World.cell?,h]
theorem pO.c2 (h:pO w t g x y u v):w.cell? ⟨g,2,none⟩=some (.int .i64 u):=by unfold pO at h;simp [World.cell?,h]
theorem pO.c3 (h:pO w t g x y u v):w.cell? ⟨g,3,none⟩=some (.int .i64 v):=by unfold pO at h;simp [World.cell?,h]
theorem pO.lt (h:pO w t g x y u v):g<w.heap.size:=lt_of_block h
theorem pO.same (h:pO w t g x y u v) (e:w'.heap[g]? = w.heap[g]?):pO w' t g x y u v:=e.trans h
theorem pO.below (h:pO w t g x y u v) (hb:Bw w w'):pO w' t g x y u v:=(hb.block g h.lt).trans h
theorem pO.al (h:pO w t g x y u v) (o:Obj):pO (w.alloc o) t g x y u v:=h.below (yA (yH _ _) o)
theorem vX (w:World) (t:TypeId) (x y u v:Int):pO (w.alloc (.cells #[.int .i64 x,.int .i64 y,.int .i64 u,.int .i64 v] t)) t w.heap.size x y u v:=by show (w.heap.push _)[w.heap.size]? = _;simp
theorem pO.grown {row:Option Nat} (h:pO w t g x y u v) (hg:w.grownBy w' row) (hne:some g≠row):pO w' t g x y u v:=(hg.block g h.lt hne).trans h
theorem Var.grown' {row:Option Nat} (h:Var w t g x y) (hg:w.grownBy w' row) (hne:some g≠row):Var w' t g x y:=(hg.block g h.lt hne).trans h
end
end Go.Proofs.YtngkddhcmfbjnaaGreat
namespace Go.Proofs.YtngkddhcmfbjnaaGreat.HeapM
set_option linter.unusedVariables false
def upL {α:Type} (d:α) (ah:α→α→Bool):Nat→List α→Nat→List α
 | 0,l,_=>l
 | n+1,l,j=>if j=0 then l else if ah (at' d l j) (at' d l (par j))=true then upL d ah n (swapL d l (par j) j) (par j) else l
theorem aEO {α:Type} (d:α) (ah:α→α→Bool):∀(n m:Nat) (l:List α) (j:Nat),j<n→j<m→upL d ah n l j=upL d ah m l j
 | n+1,m+1,l,j,h1,h2=>by
  rw [upL,upL]
  by_cases h0:j=0
  ·rw [if_pos h0,if_pos h0]
  ·rw [if_neg h0,if_neg h0]
   have hp:=par_lt (k:=j) (by omega)
   rw [aEO d ah n m _ _ (by omega) (by omega)]
def aBV {α:Type} (d:α) (ah:α→α→Bool) (n:Nat) (l:List α) (i:Nat):Nat:=if 2*i+2<n∧ah (at' d l (2*i+2)) (at' d l (2*i+1))=true then 2*i+2 else 2*i+1
def lU {α:Type} (d:α) (ah:α→α→Bool) (n:Nat):Nat→List α→Nat→List α
 | 0,l,_=>l
 | f+1,l,i=>if n≤2*i+1 then l else if ah (at' d l (aBV d ah n l i)) (at' d l i)=true then lU d ah n f (swapL d l i (aBV d ah n l i)) (aBV d ah n l i) else l
theorem aHF {α:Type} {d:α} {ah:α→α→Bool} {n:Nat} {l:List α} {i:Nat} (h:¬n≤2*i+1):i<aBV d ah n l i∧aBV d ah n l i<n:=by unfold aBV;split<;>omega
theorem oC {α:Type} (d:α) (ah:α→α→Bool) (n:Nat):∀(f m:Nat) (l:List α) (i:Nat),n - i<f→n - i<m→lU d ah n f l i=lU d ah n m l i
 | f+1,m+1,l,i,h1,h2=>by
  rw [lU,lU]
  by_cases h0:n≤2*i+1
  ·rw [if_pos h0,if_pos h0]
  ·rw [if_neg h0,if_neg h0]
   have hk:=aHF (d:=d) (ah:=ah) (l:=l) h0
   rw [oC d ah n f m _ _ (by omega) (by omega)]
variable {α:Type} {le:α→α→Prop} {d:α} {ah:α→α→Bool}
theorem aEN (O:Order le) (h1:∀x y,ah x y=true→le x y) (h2:∀x y,ah x y=false→le y x) (n:Nat):∀(f:Nat) (l:List α) (j:Nat),j<f→j<n→n≤l.length→aHp le d n l j→Heap le d n (upL d ah f l j)∧(upL d ah f l j).Perm l
 | f+1,l,j,hf,hj,hn,hu=>by
  rw [upL]
  by_cases h0:j=0
  ·rw [if_pos h0]
   exact ⟨aGN hu (Or.inl h0),List.Perm.refl _⟩
  ·rw [if_neg h0]
   have hp:=par_lt (k:=j) (by omega)
   by_cases hb:ah (at' d l j) (at' d l (par j))=true
   ·rw [if_pos hb]
    have:=aEN O h1 h2 n f (swapL d l (par j) j) (par j) (by omega) (by omega) (by rw [swap_len];exact hn) (aJ0 O hn hu (by omega) hj (h1 _ _ hb))
    exact ⟨this.1,this.2.trans (swap_perm d l (par j) j (by omega) (by omega))⟩
   ·rw [if_neg hb]
    exact ⟨aGN hu (Or.inr (h2 _ _ (by simpa using hb))),List.Perm.refl _⟩
theorem aJo {n:Nat} {l:List α} {i:Nat}:par (aBV d ah n l i)=i:=by unfold aBV par;split<;>omega
theorem aJp (O:Order le) (h1:∀x y,ah x y=true→le x y) (h2:∀x y,ah x y=false→le y x) {n:Nat} {l:List α} {i:Nat}:∀k,0<k→k<n→par k=i→le (at' d l (aBV d ah n l i)) (at' d l k):=fun k k0 k1 kp=>by
 unfold aBV
 rcases (aE5 k0).1 kp with e | e<;>subst e<;>split
 ·next h=>exact h1 _ _ h.2
 ·exact O.refl _
 ·exact O.refl _
 ·next h=>exact h2 _ _ (by simpa [k1] using h)
theorem aAd (O:Order le) (h1:∀x y,ah x y=true→le x y) (h2:∀x y,ah x y=false→le y x) (n:Nat):∀(f:Nat) (l:List α) (i:Nat),n - i<f→n≤l.length→zP le d n l i→Heap le d n (lU d ah n f l i)∧(lU d ah n f l i).Perm l∧∀k,n≤k→at' d (lU d ah n f l i) k=at' d l k
 | f+1,l,i,hf,hn,hu=>by
  rw [lU]
  by_cases h0:n≤2*i+1
  ·rw [if_pos h0]
   exact ⟨aCl hu (fun k k0 k1 kp=>by have:=(aE5 k0).1 kp;omega),List.Perm.refl _,fun _ _=>rfl⟩
  ·rw [if_neg h0]
   have hk:=aHF (d:=d) (ah:=ah) (l:=l) h0
   have hm:=aJp (d:=d) (l:=l) (n:=n) (i:=i) O h1 h2
   have hp:=aJo (d:=d) (ah:=ah) (l:=l) (n:=n) (i:=i)
   by_cases hb:ah (at' d l (aBV d ah n l i)) (at' d l i)=true
   ·rw [if_pos hb]
    have:=aAd O h1 h2 n f (swapL d l i (aBV d ah n l i)) (aBV d ah n l i) (by omega) (by rw [swap_len];exact hn) (aHY O hn hu (by omega) hk.2 hp (h1 _ _ hb) hm)
    refine ⟨this.1,this.2.1.trans (swap_perm d l _ _ (by omega) (by omega)),fun k h=>?_⟩
    rw [this.2.2 k h,wN d l _ _ _ (by omega) (by omega),if_neg (by omega),if_neg (by omega)]
   ·rw [if_neg hb]
    exact ⟨aCl hu (fun k k0 k1 kp=>O.trans _ _ _ (h2 _ _ (by simpa using hb)) (hm k k0 k1 kp)),List.Perm.refl _,fun _ _=>rfl⟩
theorem push_heap (O:Order le) (h1:∀x y,ah x y=true→le x y) (h2:∀x y,ah x y=false→le y x) (l:List α) (x:α) (h:Heap le d l.length l):Heap le d (l.length+1) (upL d ah (l.length+1) (l++[x]) l.length)∧(upL d ah (l.length+1) (l++[x]) l.length).Perm (l++[x]):=by
 refine aEN O h1 h2 _ _ _ _ (by omega) (by omega) (by simp) (aIH (aAa h (fun k hk=>?_)))
 unfold at'
 simp [List.getD_eq_getElem?_getD,List.getElem?_append_left hk]
def popL (d:α) (ah:α→α→Bool) (l:List α):List α:=lU d ah (l.length - 1) (l.length - 1+1) (swapL d l 0 (l.length - 1)) 0
theorem pop_heap (O:Order le) (h1:∀x y,ah x y=true→le x y) (h2:∀x y,ah x y=false→le y x) (l:List α) (hl:0<l.length) (h:Heap le d l.length l) :
  at' d (popL d ah l) (l.length - 1)=at' d l 0∧Heap le d (l.length - 1) ((popL d ah l).take (l.length - 1))∧((popL d ah l).take (l.length - 1)++[at' d l 0]).Perm l∧∀x ∈ (popL d ah l).take (l.length - 1),le (at' d l 0) x:=by
 have hd:=aAd (d:=d) O h1 h2 (l.length - 1) (l.length - 1+1) (swapL d l 0 (l.length - 1)) 0 (by omega) (by rw [swap_len];omega) (aFk h (l.length - 1) (by omega) (fun k k0 k1=>by rw [wN d l _ _ _ (by omega) (by omega),if_neg (by omega),if_neg (by omega)]))
 have QI:at' d (popL d ah l) (l.length - 1)=at' d l 0:=by
  unfold popL
  rw [hd.2.2 _ (yJ _),wN d l _ _ _ (by omega) (by omega),if_pos rfl]
 exact ⟨QI,aG9 O hl h hd.2.1 QI hd.1⟩
end Go.Proofs.YtngkddhcmfbjnaaGreat.HeapM
namespace Go.Proofs.YtngkddhcmfbjnaaGreat
section
open Go.RowKit
variable {a:Act} {listed:Array Bool} {ops:Array Oper} {c:Array Value} {ps:List (List UInt8)} {rs:List Nat} {xs:List Value} {B B' cap g gb n sz:Nat} {I:Nat→Array Bool→Act→World→Prop} {o:Oper} {P:Program} {E:TypeId} {v:Value} {w w' w1:World} {S:World→Prop}
def wI (E:TypeId) (sz B:Nat) (w:World) (v:Value) (n:Nat) (xs:List Value):Prop:=w.ownsRow B E sz v n xs∧v≠.slice none 0 0
theorem qN (h:Bw w1 w):wI E sz w1.heap.size (w.alloc (.cells #[] E)) (.slice (some ⟨w.heap.size,0,none⟩) 0 0) 0 []:=
 ⟨⟨by simp,.inr ⟨w.heap.size,0,#[],rfl,h.size,by show (w.heap.push _)[w.heap.size]? = _;simp,yJ _,by unfold maxLen;omega,by simp,by simp⟩⟩,by simp⟩
theorem wI.al (h:wI E sz B w v n xs) (o:Obj):wI E sz B (w.alloc o) v n xs:=⟨h.1.alloc o,h.2⟩
theorem wI.open (h:wI E sz B w v n xs):∃g cap,v=.slice (some ⟨g,0,none⟩) n cap∧B≤g∧w.ownsRow g E sz (.slice (some ⟨g,0,none⟩) n cap) n xs∧n≤cap:=by
 obtain ⟨⟨h1,h2⟩,h3⟩:=h
 rcases h2 with ⟨e,_⟩ | ⟨g,cap,cur,rfl,hg,hb,hc,k⟩
 ·exact absurd e h3
 ·exact ⟨g,cap,rfl,hg,⟨h1,.inr ⟨g,cap,cur,rfl,yJ _,hb,hc,k⟩⟩,hc⟩
def aDC (E:TypeId) (w1 w:World) (gb:Nat) (c:Array Value):Prop:=w1.heap.size≤gb∧w.heap[gb]? = some (.cells c E (0,0))
theorem nZ (h:Bw w1 w) (c:Array Value):aDC E w1 (w.alloc (.cells c E)) w.heap.size c:=⟨h.size,by show (w.heap.push _)[w.heap.size]? = _;simp⟩
theorem aDC.lt (h:aDC E w1 w gb c):gb<w.heap.size:=(Array.getElem?_eq_some_iff.1 h.2).1
theorem aDC.al (h:aDC E w1 w gb c) (o:Obj):aDC E w1 (w.alloc o) gb c:=⟨h.1,by
 have:=h.lt
 show (w.heap.push o)[gb]? = _
 rw [Array.getElem?_push,if_neg (by omega)];exact h.2⟩
theorem aDC.same (h:aDC E w1 w gb c) (e:w'.heap[gb]? = w.heap[gb]?):aDC E w1 w' gb c:=⟨h.1,e.trans h.2⟩
theorem aDC.news (h:aDC E w1 w gb c):∀i u,c.toList[i]? = some u→w.cell? (Addr.add ⟨gb,0,none⟩ i)=some u:=fun i u hu=>by
 rw [Lib.add_plain,Nat.zero_add]
 rw [Array.getElem?_toList] at hu
 simp [World.cell?,h.2,hu]
theorem lJ {K:Act→World→Prop} {Q:Exit→Act→World→Prop} {Ex:Prop} (hgd:o.guard=none) (s x:Operand) (t:TypeId)
  (ho:o.op=.call { callee:=.builtin .append,args:=#[s,x],argTypes:=#[t,t] })
  (E:TypeId) (i:TypeInfo) (z:Value) (size bytes:Nat) (ht:P.underlying t=some (.slice E)) (hi:P.info? E=some i) (hz:i.zero=some z)
  (hsize:i.size=size) (hby:i.bytes=bytes) (hzs:z.cells.size=size) (hsz:0<size)
  (v:Value) (n:Nat) (xs:List Value) (hs:a.eval s=v) (hr:wI E size w1.heap.size w v n xs) (kp:Bw w1 w)
  (ad:Addr) (m c:Nat) (news:List Value) (hx:a.eval x=.slice (some ad) m c) (hl:news.length=m*size) (QZ:∀j u,news[j]? = some u→w.cell? (ad.add j)=some u) (h1:∀u ∈ news,u.oneCell'=true)
  (h63:n+m≤maxLen) (hbytes:(n+m)*bytes≤140737488355328)
  (h:∀v' w',wI E size w1.heap.size w' v' (n+m) (xs++news)→Bw w1 w'→(∀k,k<w.heap.size→some k≠v.ownBlock→w'.heap[k]? = w.heap[k]?)→K (a.put o.dst v') w') :
  if Region.wanted o (yielded ops a.tmps)=true then Oper.wp P o a w K Q else Ex:=by
 have hw:Region.wanted o (yielded ops a.tmps)=true:=by simp [Region.wanted,hgd]
 rw [if_pos hw]
 refine wp_append_own w s x t ho w1.heap.size E i z size bytes ht hi hz hsize hby hzs hsz v n xs hs hr.1 ad m c news hx hl QZ h1 h63 hbytes kp.size ?_
 intro v' w' Hq hg hn
 refine h v' w' ⟨Hq,fun e=>hr.2 (hn.1 e).1⟩ (kp.grown hg kp.size ?_) (fun k hk hne=>hg.block k hk hne)
 intro k hk
 rcases hr.1.2 with ⟨rfl,_⟩ | ⟨g,cap,cur,rfl,hg',_⟩
 ·simp [Value.ownBlock] at hk
 ·simp [Value.ownBlock] at hk;omega
theorem aBJ {n':Nat} {xs':List Value} (h:wI E sz B w v n xs) (hn:n=n') (hx:xs=xs'):wI E sz B w v n' xs':=by subst hn hx;exact h
def hiA (g cap k sz:Nat):Addr:=if cap=k then ⟨g,0,none⟩ else ⟨g,k*sz,none⟩
theorem aJR {k:Nat} (h:k<cap) (i:Nat):(hiA g cap k sz).add i=⟨g,k*sz+i,none⟩:=by
 rw [hiA,if_neg (by omega),Lib.add_plain]
theorem aHZ (g n cap k:Nat) (hk:k≤cap) (wx:World):(Instr.slice 41 (.slice (some ⟨g,0,none⟩) n cap) none (some (.int .i64 (k:Int))) none).run Tryz.prog wx=.ok (.slice (some ⟨g,0,none⟩) k cap) wx:=by
 rw [run_slice_h (P:=Tryz.prog) (w:=wx) 41 (some ⟨g,0,none⟩) n cap Tryz.underlying41 .i64 (k:Int) (by omega) (by omega)]
 rw [show (sizeOf (Tryz.prog.elem 41)).run Tryz.prog wx=.ok 1 wx from by kernel_rfl]
 simp [Result.andThen,sliced,Addr.add]
theorem aH0 (g n cap k:Nat) (hk:k≤n) (wx:World):(Instr.slice 41 (.slice (some ⟨g,0,none⟩) n cap) (some (.int .i64 (k:Int))) none none).run Tryz.prog wx=.ok (.slice (some (hiA g cap k 1)) (n - k) (cap - k)) wx:=by
 rw [run_slice_l (P:=Tryz.prog) (w:=wx) 41 (some ⟨g,0,none⟩) n cap Tryz.underlying41 .i64 (k:Int) (by omega) (by omega)]
 rw [show (sizeOf (Tryz.prog.elem 41)).run Tryz.prog wx=.ok 1 wx from by kernel_rfl]
 simp only [Result.andThen,sliced,Int.toNat_natCast,hiA]
 by_cases h:cap=k
 ·rw [if_pos h,if_pos h]
 ·rw [if_neg h,if_neg h]
  simp [Addr.add]
  try omega
theorem SS.lo {xs:List ByteArray} (h:SS w g cap xs) (hb:Bw w w') (k:Nat):∀i u,((xs.take k).map Value.string)[i]? = some u→w'.cell? (Addr.add ⟨g,0,none⟩ i)=some u:=fun i u hu=>by
 have hlt:=(List.getElem?_eq_some_iff.1 hu).1
 rw [List.length_map,List.length_take] at hlt
 have:=(h.below hb h.lt).cell i (by omega)
 rw [Lib.add_plain,Nat.zero_add,this,←hu]
 simp [show i<k by omega,show i<xs.length by omega]
theorem SS.hi {xs:List ByteArray} (h:SS w g cap xs) (hb:Bw w w') (k:Nat):∀i u,((xs.drop k).map Value.string)[i]? = some u→w'.cell? (Addr.add (hiA g cap k 1) i)=some u:=fun i u hu=>by
 have hlt:=(List.getElem?_eq_some_iff.1 hu).1
 rw [List.length_map,List.length_drop] at hlt
 obtain ⟨_,_,hc,_⟩:=h.block
 have:=(h.below hb h.lt).cell (k+i) (by omega)
 rw [aJR (by omega),Nat.mul_one,this,←hu]
 simp [show k+i<xs.length by omega]
theorem l7 (l:List ByteArray):∀u ∈ l.map Value.string,u.oneCell'=true:=fun u hu=>by
 obtain ⟨x,_,rfl⟩:=List.mem_map.1 hu
 rfl
theorem eO (w:World) {rest:List Oper} {Q:Exit→Act→World→Prop} (hgd:o.guard=none) (s x:Operand) (t:TypeId)
  (ho:o.op=.call { callee:=.builtin .append,args:=#[s,x],argTypes:=#[t,t] })
  (base:Nat) (e:TypeId) (i:TypeInfo) (z:Value) (size bytes:Nat) (ht:P.underlying t=some (.slice e)) (hi:P.info? e=some i) (hz:i.zero=some z)
  (hsize:i.size=size) (hby:i.bytes=bytes) (hzs:z.cells.size=size) (hsz:0<size)
  (v:Value) (n:Nat) (xs:List Value) (hs:a.eval s=v) (Hq:w.ownsRow base e size v n xs)
  (ao:Option Addr) (m c:Nat) (news:List Value) (hx:a.eval x=.slice ao m c) (hn:ao=none→m=0∧c=0) (hl:news.length=m*size) (QZ:∀ad,ao=some ad→∀j u,news[j]? = some u→w.cell? (ad.add j)=some u) (h1:∀u ∈ news,u.oneCell'=true)
  (h63:n+m≤maxLen) (hbytes:(n+m)*bytes≤140737488355328) (hbase:base≤w.heap.size)
  (h:∀v' w',w'.ownsRow base e size v' (n+m) (xs++news)→w.grownBy w' v.ownBlock→(v'=.slice none 0 0↔v=.slice none 0 0∧m=0)→wpList P ops Q rest (a.put o.dst v') w'):wpList P ops Q (o::rest) a w:=by
 cases ao with
 | some ad=>exact wpList_append_own w hgd s x t ho base e i z size bytes ht hi hz hsize hby hzs hsz v n xs hs Hq ad m c news hx hl (QZ ad rfl) h1 h63 hbytes hbase h
 | none=>
  obtain ⟨rfl,rfl⟩:=hn rfl
  obtain rfl:news=[]:=List.eq_nil_of_length_eq_zero (by omega)
  refine wpList_append_own_none hgd s x t ho base e i size ht hi v n xs hs Hq hx (h v w (by simpa using Hq) ⟨rfl,rfl,rfl,yJ _,fun _ _ _=>rfl⟩ (by simp))
def AWh (w:World) (B E g n:Nat):Prop:=Cel w 48 g (n*3)∧∀i,i<n→∃b len,w.cell? ⟨g,i*3+2,none⟩=some (.slice (some ⟨b,0,none⟩) len len)∧Cel w 104 b (len*5)∧len≤1048576∧B≤b∧b<E∧b≠g
theorem AWh.below {E:Nat} (h:AWh w B E g n) (hb:Bw w w'):AWh w' B E g n:=
 ⟨h.1.below hb,fun i hi=>let ⟨b,len,a,c,d⟩:=h.2 i hi;⟨b,len,iB a hb,c.below hb,d⟩⟩
theorem AWh.sc {E:Nat} (h:AWh w B E g n) (j:Nat) (v:Value) (hj:∀i,j≠i*3+2):AWh (w.setCell ⟨g,j,none⟩ v) B E g n:=
 ⟨h.1.set _ _ _,fun i hi=>let ⟨b,len,a,c,d⟩:=h.2 i hi;⟨b,len,aY a (hj i),c.set _ _ _,d⟩⟩
theorem AWh.mono {E E':Nat} (h:AWh w B E g n) (h1:B'≤B) (h2:E≤E'):AWh w B' E' g n:=
 ⟨h.1,fun i hi=>let ⟨b,len,a,c,d,e,f,k⟩:=h.2 i hi;⟨b,len,a,c,d,by omega,by omega,k⟩⟩
def aLZ (l:List Con):Prop:=∀i j (hi:i<l.length) (hj:j<l.length),i<j→l[i].id<l[j].id
theorem aBA (ao bo:Option Addr) (n ca cb:Nat) (l:List Int) (w:World) (h:aDG w ao n l) (h':aDG w bo n l) (hl:n≤1048576) :
  cP 8 #[.slice ao n ca,.slice bo n cb] w fun e w'=>e=.returned (.bool true)∧Bw w w':=by
 have H:=aA h
 have H':=aA h'
 clear h h'
 go_enter Tryz.func8,Tryz.ntmps8
 go_wp2
 go_loopw [5] (fun i wr=>∃(k:Nat),k≤n∧i=.int .i64 k∧Hid (Bw w wr)) (fun i _=>n - (intOf i).toNat)
 case atStart=>exact ⟨0,Nat.zero_le _,rfl,aA (yH _ _)⟩
 case round=>
  obtain ⟨k,hk,rfl,HB⟩:=hrel
  by_cases hlt:k<n
  ·have H1:=aA ((uH H).below (uH HB))
   have H2:=aA ((uH H').below (uH HB))
   have hkl:k<l.length:=by have:=(uH H).1;omega
   rcases (uH H1).2 with h0 | ⟨b,off,rfl,hb⟩
   ·omega
   rcases (uH H2).2 with h0 | ⟨b',off',rfl,hb'⟩
   ·omega
   have c0:=hb k hkl
   have c1:=hb' k hkl
   generalize l[k]=x at c0 c1
   have k0:(k:Int)<n:=by omega
   have k1:(0:Int)≤k:=by omega
   clear hb hb' hkl
   go_wp2_with fail
   go_region_with (fail)
   all_goals
    go_wp2
    first
    | exact ⟨⟨k+1,by omega,by go_num,aA (uH HB).drew⟩,by simp [intOf];omega⟩
    | (go_roundw;exact ⟨k+1,by omega,by go_num,aA (uH HB).drew⟩;(simp [intOf];omega))
  ·obtain rfl:k=n:=by omega
   have k0:¬(k:Int)<k:=by omega
   go_wp2
   go_ret
   exact ⟨rfl,uH HB⟩
theorem fH (a b c d:Int) (w:World) :
  cP 18 #[rv a b,rv c d] w fun e w'=>e=.returned (.bool (within a b c d))∧Bw w w':=by
 have GH:=aA ((bD w 37 a b).al (.cells #[.int .i64 c,.int .i64 d] 37))
 have GI:=aA (jK w 37 37 a b c d)
 have HB0:=aA (yA (yA (yH _ w) (.cells #[.int .i64 a,.int .i64 b] 37)) (.cells #[.int .i64 c,.int .i64 d] 37))
 have hc:=aA (nW a b c d)
 cases h0:aM a b&&aM c d
 ·rw [show within a b c d=false by rw [within,h0];rfl]
  go_enter Tryz.func18,Tryz.ntmps18
  go_wp2_with fail
  refine (uH hc _).mono ?_
  rw [h0]
  rintro e w1 ⟨rfl,hb⟩
  have V1:=(uH GH).below hb
  have V2:=(uH GI).below hb
  have a1:=V1.c0
  have a2:=V1.c1
  have a3:=V2.c0
  have a4:=V2.c1
  have HB:=aA (yB (uH HB0) hb)
  clear hb GH GI HB0 V1 V2 hc
  go_wp2
  go_ret
  exact ⟨rfl,uH HB⟩
 ·by_cases h3:a≤c
  ·by_cases h4:b≤d
   ·rw [show within a b c d=true by rw [within,h0];simp [h3,h4]]
    go_enter Tryz.func18,Tryz.ntmps18
    go_wp2_with fail
    refine (uH hc _).mono ?_
    rw [h0]
    rintro e w1 ⟨rfl,hb⟩
    have V1:=(uH GH).below hb
    have V2:=(uH GI).below hb
    have a1:=V1.c0
    have a2:=V1.c1
    have a3:=V2.c0
    have a4:=V2.c1
    have HB:=aA (yB (uH HB0) hb)
    clear hb GH GI HB0 V1 V2 hc
    go_wp2
    go_ret
    exact ⟨rfl,uH HB⟩
   ·rw [show within a b c d=false by rw [within,h0];simp [h4]]
    go_enter Tryz.func18,Tryz.ntmps18
    go_wp2_with fail
    refine (uH hc _).mono ?_
    rw [h0]
    rintro e w1 ⟨rfl,hb⟩
    have V1:=(uH GH).below hb
    have V2:=(uH GI).below hb
    have a1:=V1.c0
    have a2:=V1.c1
    have a3:=V2.c0
    have a4:=V2.c1
    have HB:=aA (yB (uH HB0) hb)
    clear hb GH GI HB0 V1 V2 hc
    go_wp2
    go_ret
    exact ⟨yF (decide_eq_false (by omega)),uH HB⟩
  ·rw [show within a b c d=false by rw [within,h0];simp [h3]]
   go_enter Tryz.func18,Tryz.ntmps18
   go_wp2_with fail
   refine (uH hc _).mono ?_
   rw [h0]
   rintro e w1 ⟨rfl,hb⟩
   have V1:=(uH GH).below hb
   have V2:=(uH GI).below hb
   have a1:=V1.c0
   have a2:=V1.c1
   have a3:=V2.c0
   have a4:=V2.c1
   have HB:=aA (yB (uH HB0) hb)
   clear hb GH GI HB0 V1 V2 hc
   go_wp2
   go_ret
   exact ⟨rfl,uH HB⟩
theorem bY.base (h:bY B w v ps) (hb:B'≤B):bY B' w v ps:=by
 obtain ⟨h1,h2⟩:=h
 refine ⟨h1,?_⟩
 rcases h2 with h2 | ⟨g,cap,cur,a,b,c⟩
 ·exact .inl h2
 ·exact .inr ⟨g,cap,cur,a,by omega,c⟩
theorem SS.own (h:SS w g cap (ps.map bs)):bY g w (.slice (some ⟨g,0,none⟩) ps.length cap) ps:=by
 have:=h
 unfold SS at this
 rw [List.length_map] at this
 unfold bY
 rw [List.length_map]
 exact this
def aI (P:Program) (md:Region.Mode) (ops:Array Oper) (Q:Exit→Act→World→Prop) (S:World→Prop) (I:Nat→Array Bool→Act→World→Prop) (n:Nat) (listed:Array Bool) (a:Act) (w:World) (rs:List Nat):Prop:=
 ∀i ∈ rs,wpOp P ops Q i (fun a' w'=>S w'∧I n (listed.setIfInBounds i true) a' w') a w
theorem aI.nil {md:Region.Mode} {Q:Exit→Act→World→Prop}:aI P md ops Q S I n listed a w []:=fun _ h=>by cases h
theorem aI.cons {md:Region.Mode} {Q:Exit→Act→World→Prop} {i:Nat} (ho:ops[i]? = some o)
  (h:∀K':Act→World→Prop,Shut (∀a w,S w→I n (listed.setIfInBounds i true) a w→K' a w)→if Region.wanted o (yielded ops a.tmps)=true then Oper.wp P o a w K' Q else K' (a.put o.dst undef) w)
  (hs:aI P md ops Q S I n listed a w rs):aI P md ops Q S I n listed a w (i::rs):=fun j hj=>by
 rcases List.mem_cons.1 hj with rfl | hj
 ·exact wpOp_step ho (fun K' hK=>h K' (fun a w hS hW=>hK a w ⟨hS,hW⟩))
 ·exact hs j hj
theorem nS {P:Program} {ops:Array Oper} {Q:Exit→Act→World→Prop} {md:Region.Mode} {S:World→Prop} (I:Nat→Array Bool→Act→World→Prop)
  (step:∀n listed a w,I (n+1) listed a w→Region.ready md ops listed≠[]∧aI P md ops Q S I n listed a w (Region.ready md ops listed))
  (fin:∀listed a w,I 0 listed a w→Region.ready md ops listed=[]∧Q .normal a w) :
  ∀n listed a w,I n listed a w→wpAnyH P md ops Q S n listed a w
 | 0,listed,a,w,h=>fin listed a w h
 | n+1,listed,a,w,h=>⟨fun e=>absurd e (step n listed a w h).1,fun i hi=>wpOp_mono (fun a' w' k=>⟨k.1,nS I step fin n _ a' w' k.2⟩) ((step n listed a w h).2 i hi)⟩
theorem bO {Q:Exit→Act→World→Prop} {md:Region.Mode} (hr:Region.ready md ops listed=rs) (hne:rs≠[])
  (h:aI P md ops Q S I n listed a w rs):Region.ready md ops listed≠[]∧aI P md ops Q S I n listed a w (Region.ready md ops listed):=by
 subst hr
 exact ⟨hne,h⟩
end
section
open Go.RowKit Go.Sort
theorem aGq (ps:List (List UInt8)):(ps.map bs).map Value.string=ps.map encStr:=by
 rw [List.map_map]
 apply List.map_congr_left
 intro a _
 rfl
theorem aIL (g cap:Nat) (ps:List (List UInt8)) (w:World) (h:SS w g cap (ps.map bs)) (hl:ps.length≤2097152) :
  cP 82 #[.slice (some ⟨g,0,none⟩) ps.length cap] w fun e w'=>e=.returned (.tuple #[])∧SS w' g cap ((ps.mergeSort fun x y=>decide (x≤y)).map bs)∧w.grownBy w' (some g):=by
 obtain ⟨cur,h1,h2,h3,h4,h5⟩:=h.block
 rw [List.length_map] at h2 h5
 rw [aGq] at h5
 refine (Tryz.slices_Sort_string g 0 cap ps w (holds_of_block h1 h5) h.lt (by omega)).mono ?_
 rintro e w' ⟨rfl,n,os,rfl⟩
 have gz:(ps.mergeSort fun x y=>decide (x≤y)).length=ps.length:=List.length_mergeSort _
 refine ⟨rfl,?_,grownBy_sorted _⟩
 have:=ownsRow_sorted (n:=n) (os:=os) (ts:=ps.mergeSort fun x y=>decide (x≤y)) gz (yJ g) h1 h2 h3 (by omega)
 unfold SS
 rw [List.length_map,gz,aGq]
 exact this
end
section
open Go.RowKit
variable {listed:Array Bool} {ops:Array Oper} {L:List (Nat×Array Value×TypeId)} {zs:List Int} {cap fuel:Nat} {o:Oper} {a:Option Addr} {P:Program} {w w0 wx:World} {S:World→Prop}
def HBk (w0:World) (L:List (Nat×Array Value×TypeId)) (wx:World):Prop:=
 (∀p ∈ L,Blk wx p.1 p.2.1 p.2.2)∧Bw w0 wx
theorem HBk.call {wy:World} (h:HBk w0 L wx) (hb:Bw wx wy):HBk w0 L wy:=⟨fun p hp=>(h.1 p hp).below hb,yB h.2 hb⟩
theorem HBk.drew (h:HBk w0 L wx):HBk w0 L wx.drew:=h.call (yH _ _).drew
theorem HBk.al (h:HBk w0 L wx) (o:Obj):HBk w0 L (wx.alloc o):=h.call (yA (yH _ _) o)
theorem HBk.set (h:HBk w0 L wx) (k j:Nat) (v:Value) (hk:w0.heap.size≤k) (hn:∀p ∈ L,p.1≠k):HBk w0 L (wx.setCell ⟨k,j,none⟩ v):=
 ⟨fun p hp=>(h.1 p hp).other k j v (hn p hp),yC h.2 _ _ _ hk⟩
theorem HBk.blk (h:HBk w0 L wx) {g:Nat} {c:Array Value} {t:TypeId} (hp:(g,c,t) ∈ L):Blk wx g c t:=h.1 _ hp
theorem HBk.cell (h:HBk w0 L wx) {b j:Nat} {v:Value} (hc:w0.cell? ⟨b,j,none⟩=some v):wx.cell? ⟨b,j,none⟩=some v:=(Below.cell h.2 (p:=⟨b,j,none⟩) (yG hc)).trans hc
def aHr (w:World) (a:Option Addr) (len cap:Nat) (zs:List Int):Prop:=
 (a=none∧len=0∧cap=0∧zs=[])∨
 ∃x,a=some x∧len≤cap∧cap≤maxLen∧zs.length=cap∧(∀i,i<zs.length→w.cell? (x.add i)=some (.int .u8 (zs.getD i 0)))∧∀n ∈ zs,(Lit.int .u8 n).wf=true
theorem aHr.len {len:Nat} (h:aHr w a len cap zs):len≤9223372036854775807:=by
 rcases h with ⟨_,h0,_⟩ | ⟨x,rfl,h1,h2,_⟩
 ·omega
 ·unfold maxLen at h2;omega
theorem aKB {len:Nat} (h:aHr w a len cap zs) (hl:len≤1048576):Code w w.heap.size a len:=by
 refine ⟨yJ _,hl,?_⟩
 rcases h with ⟨_,h0,_⟩ | ⟨x,rfl,h1,h2,h3,h4,h5⟩
 ·exact .inl h0
 ·by_cases h0:len=0
  ·exact .inl h0
  ·refine .inr ?_
   obtain ⟨b,off,spot⟩:=x
   have hc0:=h4 0 (by omega)
   have JS:spot=none:=by simpa [Addr.add] using World.cell?_spot hc0
   subst JS
   rw [Lib.add_plain] at hc0
   refine ⟨b,off,fun j=>(zs.getD j 0),rfl,yG hc0,fun j hj=>?_,fun j=>?_⟩
   ·have:=h4 j (by omega)
    rw [Lib.add_plain] at this
    exact this
   ·by_cases hj:j<zs.length
    ·have hw:=h5 zs[j] (yM hj)
     have hb:=bounds_u8 hw
     simp only [List.getD_eq_getElem?_getD,List.getElem?_eq_getElem hj,Option.getD_some]
     omega
    ·simp only [List.getD_eq_getElem?_getD,List.getElem?_eq_none (Nat.le_of_not_lt hj),Option.getD_none];omega
def aKp (len:Nat):Bool:=decide (1048576<(len:Int))
theorem aH8 (a:Option Addr) (len cap:Nat) (w:World) (h:len≤9223372036854775807) :
  cP 4 #[.slice a len cap] w fun e w'=>e=.returned (.bool (aKp len))∧w=w':=by
 go_enter Tryz.func4,Tryz.ntmps4
 go_wp2
 go_ret
 exact ⟨rfl,rfl⟩
theorem yRq {Q:Exit→Act→World→Prop} {md:Region.Mode} {a:Act} (i:Nat) (ho:ops[i]? = some o) (h:∀K':Act→World→Prop,Shut (∀a w,S w→(S w→wpAnyH P md ops Q S fuel (listed.setIfInBounds i true) a w)→K' a w)→if Region.wanted o (yielded ops a.tmps)=true then Oper.wp P o a w K' Q else K' (a.put o.dst undef) w) (hr:Region.ready md ops listed=[i]:=by kernel_rfl) : wpAnyH P md ops Q S (fuel+1) listed a w:=wpAnyH_ready hr (by simp) (AllReadyH.cons ho h AllReadyH.nil)
theorem ySq {Q:Exit→Act→World→Prop} {md:Region.Mode} {a:Act} {q:Oper} (i j:Nat) (ho:ops[i]? = some o) (hq:ops[j]? = some q) (h:∀K':Act→World→Prop,Shut (∀a w,S w→(S w→wpAnyH P md ops Q S fuel (listed.setIfInBounds i true) a w)→K' a w)→if Region.wanted o (yielded ops a.tmps)=true then Oper.wp P o a w K' Q else K' (a.put o.dst undef) w) (g:∀K':Act→World→Prop,Shut (∀a w,S w→(S w→wpAnyH P md ops Q S fuel (listed.setIfInBounds j true) a w)→K' a w)→if Region.wanted q (yielded ops a.tmps)=true then Oper.wp P q a w K' Q else K' (a.put q.dst undef) w) (hr:Region.ready md ops listed=[i,j]:=by kernel_rfl) : wpAnyH P md ops Q S (fuel+1) listed a w:=wpAnyH_ready hr (by simp) (AllReadyH.cons ho h (AllReadyH.cons hq g AllReadyH.nil))
end
end Go.Proofs.YtngkddhcmfbjnaaGreat
