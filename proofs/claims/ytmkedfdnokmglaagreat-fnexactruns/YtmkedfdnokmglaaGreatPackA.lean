/-
  Texts in one: Base, Grow, IntS, ResV, QV, KeptV, QBlk, SzQ2, ToQ, EqQ, TxtM, OpenQ, StrS, DecM, MarkT, CelV, MarkH, HeldQ, SOwn, InsT, TakeD, InvR, HeldK, WpL, AppN, Sets.
-/
import Derived.Below
import Derived.Test.YtmkedfdnokmglaaGreatRows
import Derived.WalkKit
import Derived.WalkSpells
import Derived.WalkLawsBesides
import Derived.BigQuiet
import Derived.Laws.AppendOwn
import Derived.Laws.MakeOwn
import Derived.Deep.RegionHeld3
import Derived.ProofKit
import Derived.OpenShut
import Derived.ChangeSame
import Derived.Deep.Slices
import Derived.Lib.ItoaMem
import Derived.Lib.ItoaLen
import Derived.Laws.IdiomStrings
import Derived.Deep.QuietTactic
import Derived.Deep.RegionWith
import Derived.Deep.WholeRow
import Derived.Laws.AppendOwnNone
set_option maxRecDepth 100000
set_option maxHeartbeats 16000000
set_option linter.unusedVariables false
set_option linter.unusedSimpArgs false
namespace Go.Proofs.YtmkedfdnokmglaaGreat
section
open Go.RowKit
theorem hide {p:Prop} (h:p):Hid p:=h
theorem sA {α : Type _} (l : List α) (i : Nat) (a : α) : l.toArray.setIfInBounds i a = (l.set i a).toArray := List.setIfInBounds_toArray ..
theorem sB {α : Type _} (x : α) (l : List α) (a : α) : (x :: l).set 0 a = a :: l := rfl
theorem sC {α : Type _} (x : α) (l : List α) (n : Nat) (a : α) : (x :: l).set (n + 1) a = x :: l.set n a := rfl
theorem zW : (∀ (a : Act) (d : Nat) (v : Value), a.put (some d) v = { a with tmps := a.tmps.setIfInBounds d v }) ∧ (∀ (a : Act) (v : Value), a.put none v = a) ∧ (∀ {α : Type} (l : List α) (i : Nat) (a : α), l.toArray.setIfInBounds i a = (l.set i a).toArray) ∧ (∀ {α : Type} (x : α) (l : List α) (a : α), (x :: l).set 0 a = a :: l) ∧ (∀ {α : Type} (x : α) (l : List α) (n : Nat) (a : α), (x :: l).set (n + 1) a = x :: l.set n a) := ⟨fun _ _ _ => rfl, fun _ _ => rfl, fun _ _ _ => List.setIfInBounds_toArray .., fun _ _ _ => rfl, fun _ _ _ _ => rfl⟩
theorem yH (B : Nat) (w : World) : Below B w w := ⟨rfl, rfl, rfl, Nat.le.refl, fun _ _ => rfl⟩
theorem yJ (n : Nat) : n ≤ n := Nat.le.refl
theorem yK (a b : Bool) : ((a && b) = true) = (a = true ∧ b = true) := by cases a <;> cases b <;> simp
theorem yL {p : Prop} [Decidable p] : (decide p = true) = p := propext (decide_eq_true_iff ..)
theorem yM {α : Type _} {l : List α} {n : Nat} (h : n < l.length) : l[n] ∈ l := List.mem_of_getElem rfl
theorem uH {p:Prop} (h:Hid p):p:=h
theorem ret_int {k:IntKind} {a b:Int} (h:a=b):Ending.returned (.int k a)=.returned (.int k b):=by rw [h]
theorem str_eq {a b:ByteArray} (h:a=b):Value.string a=.string b:=by rw [h]
theorem ret_str {a b:ByteArray} (h:a=b):Ending.returned (.string a)=.returned (.string b):=by rw [h]
def bs (l:List UInt8):ByteArray:=⟨l.toArray⟩
theorem bs_size (l:List UInt8):(bs l).size=l.length:=by simp [bs,ByteArray.size]
theorem cons_bs (c:UInt8) (l:List UInt8):(ByteArray.mk #[c])++bs l=bs (c::l):=by
 unfold bs;rw [ByteArray.mk_append_mk];simp
theorem grownBy_refl (w:World) (r:Option Nat):w.grownBy w r:=⟨rfl,rfl,rfl,yJ _,fun _ _ _=>rfl⟩
theorem grownBy_below {w w1 w2:World} {r:Option Nat} (h:w.grownBy w1 r) (hb:Below w1.heap.size w1 w2):w.grownBy w2 r:=
 ⟨hb.os.trans h.os,hb.tape.trans h.tape,hb.output.trans h.output,Nat.le_trans h.size hb.size,fun k hk hn=>(hb.block k (Nat.lt_of_lt_of_le hk h.size)).trans (h.block k hk hn)⟩
theorem yG {w:World} {b o:Nat} {v:Value} (h:w.cell? ⟨b,o,none⟩=some v):b<w.heap.size:=
 Nat.lt_of_not_le (fun hle=>by simp [World.cell?,Array.getElem?_eq_none hle] at h)
def NRow (w:World) (ao:Option Addr) (len:Nat) (l:List Int):Prop:=
 len=l.length∧(len=0∨∃b off,ao=some ⟨b,off,none⟩∧∀i (h:i<l.length),w.cell? ⟨b,off+i,none⟩=some (.int .i64 l[i]))
theorem NRow.below {w w':World} {ao:Option Addr} {len:Nat} {l:List Int} (h:NRow w ao len l) (hb:Below w.heap.size w w'):NRow w' ao len l:=by
 obtain ⟨h1,h2⟩:=h
 refine ⟨h1,?_⟩
 rcases h2 with h2 | ⟨b,off,h3,h4⟩
 ·exact .inl h2
 ·exact .inr ⟨b,off,h3,fun i h=>(hb.cell (yG (h4 i h))).trans (h4 i h)⟩
theorem NRow.at {w:World} {ao:Option Addr} {len:Nat} {l:List Int} (h:NRow w ao len l) {i:Nat} (hi:i<len):∃b off,ao=some ⟨b,off,none⟩∧∀(h:i<l.length),w.cell? ⟨b,off+i,none⟩=some (.int .i64 l[i]):=by
 obtain ⟨h1,h2⟩:=h
 rcases h2 with h2 | ⟨b,off,h3,h4⟩
 ·omega
 ·exact ⟨b,off,h3,fun hi=>h4 i hi⟩
def icells (l:List Int):List Value:=l.map (Value.int .i64)
def IOwn (B:Nat) (w:World) (v:Value) (l:List Int):Prop:=w.ownsRow B 3 1 v l.length (icells l)
theorem iown_empty (w:World):IOwn w.heap.size (w.alloc (.cells #[] 3)) (.slice (some ⟨w.heap.size,0,none⟩) 0 0) []:=
 ⟨rfl,.inr ⟨w.heap.size,0,#[],rfl,yJ _,by show (w.heap.push _)[w.heap.size]? = _;simp,yJ _,by unfold maxLen;omega,rfl,rfl⟩⟩
theorem iown_below {w w':World} {B:Nat} {v:Value} {l:List Int} (h:IOwn B w v l) (hb:Below w.heap.size w w'):IOwn B w' v l:=
 World.ownsRow.kept h (grownBy_below (grownBy_refl w none) hb) (by by_cases e:v.ownBlock=none;exact .inl e;exact .inr e)
theorem Tryz.infoI:(Tryz.prog.info? 3).map (fun i=>(i.zero,i.size,i.bytes))=some (some (.int .i64 0),1,8):=by kernel_rfl
abbrev rv (a b:Int):Value:=.agg #[.int .i64 a,.int .i64 b]
theorem yA {w w1:World} (h:Below w.heap.size w w1) (o:Obj):Below w.heap.size w (w1.alloc o):=h.alloc h.size o
theorem yC {w w1:World} (h:Below w.heap.size w w1) (b j:Nat) (v:Value) (hb:w.heap.size≤b):Below w.heap.size w (w1.setCell ⟨b,j,none⟩ v):=h.setCell hb v
theorem yB {w w1 w2:World} (h:Below w.heap.size w w1) (k:Below w1.heap.size w1 w2):Below w.heap.size w w2:=Below.trans h (k.mono h.size)
def Var (w:World) (t:TypeId) (g:Nat) (x y:Int):Prop:=w.heap[g]? = some (.cells #[.int .i64 x,.int .i64 y] t (0,0))
theorem Var.c0 {w:World} {t:TypeId} {g:Nat} {x y:Int} (h:Var w t g x y):w.cell? ⟨g,0,none⟩=some (.int .i64 x):=by unfold Var at h;simp [World.cell?,h]
theorem Var.c1 {w:World} {t:TypeId} {g:Nat} {x y:Int} (h:Var w t g x y):w.cell? ⟨g,1,none⟩=some (.int .i64 y):=by unfold Var at h;simp [World.cell?,h]
theorem Var.f {w:World} {t:TypeId} {g:Nat} {x y:Int} (h:Var w t g x y) (j:Nat):w.frozen? ⟨g,j,none⟩=false:=by unfold Var at h;simp [World.frozen?,h]
theorem Var.lt {w:World} {t:TypeId} {g:Nat} {x y:Int} (h:Var w t g x y):g<w.heap.size:=lt_of_block h
theorem Var.same {w w':World} {t:TypeId} {g:Nat} {x y:Int} (h:Var w t g x y) (e:w'.heap[g]? = w.heap[g]?):Var w' t g x y:=e.trans h
theorem Var.below {w w':World} {t:TypeId} {g:Nat} {x y:Int} (h:Var w t g x y) (hb:Below w.heap.size w w'):Var w' t g x y:=(hb.block g h.lt).trans h
theorem var_new (w:World) (t:TypeId) (x y:Int):Var (w.alloc (.cells #[.int .i64 x,.int .i64 y] t)) t w.heap.size x y:=by show (w.heap.push _)[w.heap.size]? = _;simp
theorem Var.set {w:World} {t:TypeId} {g:Nat} {a b:Int} (h:Var w t g a b) (x y:Int):Var ((w.setCell ⟨g,0,none⟩ (.int .i64 x)).setCell ⟨g,1,none⟩ (.int .i64 y)) t g x y:=by
 have h1:=heap_setCell_same w g 0 _ _ (.int .i64 x) h
 exact heap_setCell_same _ g 1 _ _ (.int .i64 y) h1
theorem Var.al {w:World} {t:TypeId} {g:Nat} {x y:Int} (h:Var w t g x y) (o:Obj):Var (w.alloc o) t g x y:=h.below (yA (yH _ _) o)
theorem Var.drew {w:World} {t:TypeId} {g:Nat} {x y:Int} (h:Var w t g x y):Var w.drew t g x y:=h
theorem Var.other {w:World} {t:TypeId} {g:Nat} {x y:Int} (h:Var w t g x y) (k j:Nat) (v:Value) (hn:g≠k):Var (w.setCell ⟨k,j,none⟩ v) t g x y:=h.same (heap_setCell_other w ⟨k,j,none⟩ g v hn)
def Boxed (w0:World) (t:TypeId) (a b:Int) (wx:World):Prop:=Var wx t w0.heap.size a b∧Below w0.heap.size w0 wx
theorem Boxed.new (w0:World) (t:TypeId) (a b:Int):Boxed w0 t a b (w0.alloc (.cells #[.int .i64 a,.int .i64 b] t)):=⟨var_new w0 t a b,yA (yH _ _) _⟩
theorem Boxed.call {w0 w1 w2:World} {t:TypeId} {a b:Int} (h:Boxed w0 t a b w1) (hb:Below w1.heap.size w1 w2):Boxed w0 t a b w2:=⟨h.1.below hb,yB h.2 hb⟩
theorem Boxed.drew {w0 w1:World} {t:TypeId} {a b:Int} (h:Boxed w0 t a b w1):Boxed w0 t a b w1.drew:=h.call (yH _ _).drew
theorem Boxed.read (w0:World) (t:TypeId) (a b:Int):∀wx,Boxed w0 t a b wx→wx.cell? ⟨w0.heap.size,0,none⟩=some (.int .i64 a)∧wx.cell? ⟨w0.heap.size,1,none⟩=some (.int .i64 b):=fun wx h=>⟨h.1.c0,h.1.c1⟩
structure Q where
 name:List UInt8
 parent:List UInt8
 due:Int
 most:Int
abbrev qv (q:Q):Value:=.agg #[.string (bs q.name),.string (bs q.parent),.int .i64 q.due,.int .i64 q.most]
def QAt (w:World) (b p:Nat) (q:Q):Prop:=
 w.cell? ⟨b,p,none⟩=some (.string (bs q.name))∧w.cell? ⟨b,p+1,none⟩=some (.string (bs q.parent))∧w.cell? ⟨b,p+2,none⟩=some (.int .i64 q.due)∧w.cell? ⟨b,p+3,none⟩=some (.int .i64 q.most)
def QRow (w:World) (ao:Option Addr) (len:Nat) (l:List Q):Prop:=
 len=l.length∧(len=0∨∃b off,ao=some ⟨b,off,none⟩∧∀i (h:i<l.length),QAt w b (off+i*4) l[i])
theorem QAt.lt {w:World} {b p:Nat} {q:Q} (h:QAt w b p q):b<w.heap.size:=yG h.1
theorem QAt.below {w w':World} {b p:Nat} {q:Q} (h:QAt w b p q) (hb:Below w.heap.size w w'):QAt w' b p q:=
 ⟨(hb.cell h.lt).trans h.1,(hb.cell h.lt).trans h.2.1,(hb.cell h.lt).trans h.2.2.1,(hb.cell h.lt).trans h.2.2.2⟩
theorem QRow.below {w w':World} {ao:Option Addr} {len:Nat} {l:List Q} (h:QRow w ao len l) (hb:Below w.heap.size w w'):QRow w' ao len l:=by
 obtain ⟨h1,h2⟩:=h
 refine ⟨h1,?_⟩
 rcases h2 with h2 | ⟨b,off,h3,h4⟩
 ·exact .inl h2
 ·exact .inr ⟨b,off,h3,fun i h=>(h4 i h).below hb⟩
theorem QRow.nil (w:World) (ao:Option Addr):QRow w ao 0 []:=⟨rfl,.inl rfl⟩
theorem QRow.at {w:World} {ao:Option Addr} {len:Nat} {l:List Q} (h:QRow w ao len l) {i:Nat} (hi:i<len):∃b off,ao=some ⟨b,off,none⟩∧∀(h:i<l.length),QAt w b (off+i*4) l[i]:=by
 obtain ⟨h1,h2⟩:=h
 rcases h2 with h2 | ⟨b,off,h3,h4⟩
 ·omega
 ·exact ⟨b,off,h3,fun hi=>h4 i hi⟩
def Blk (w:World) (g:Nat) (arr:Array Value) (t:TypeId):Prop:=w.heap[g]? = some (.cells arr t (0,0))
theorem Blk.lt {w:World} {g:Nat} {arr:Array Value} {t:TypeId} (h:Blk w g arr t):g<w.heap.size:=lt_of_block h
theorem Blk.below {w w':World} {g:Nat} {arr:Array Value} {t:TypeId} (h:Blk w g arr t) (hb:Below w.heap.size w w'):Blk w' g arr t:=(hb.block g h.lt).trans h
theorem Blk.at {w:World} {g:Nat} {arr:Array Value} {t:TypeId} (h:Blk w g arr t) (j:Nat):w.cell? ⟨g,j,none⟩=arr[j]?:=by
 unfold Blk at h;simp [World.cell?,h]
theorem Blk.f {w:World} {g:Nat} {arr:Array Value} {t:TypeId} (h:Blk w g arr t) (j:Nat):w.frozen? ⟨g,j,none⟩=false:=by
 unfold Blk at h;simp [World.frozen?,h]
theorem Blk.al {w:World} {g:Nat} {arr:Array Value} {t:TypeId} (h:Blk w g arr t) (o:Obj):Blk (w.alloc o) g arr t:=h.below (yA (yH _ _) o)
theorem Blk.drew {w:World} {g:Nat} {arr:Array Value} {t:TypeId} (h:Blk w g arr t):Blk w.drew g arr t:=h
theorem Blk.set {w:World} {g:Nat} {arr:Array Value} {t:TypeId} (h:Blk w g arr t) (j:Nat) (v:Value):Blk (w.setCell ⟨g,j,none⟩ v) g (arr.setIfInBounds j v) t:=heap_setCell_same w g j _ _ v h
theorem Blk.other {w:World} {g:Nat} {arr:Array Value} {t:TypeId} (h:Blk w g arr t) (k j:Nat) (v:Value) (hn:g≠k):Blk (w.setCell ⟨k,j,none⟩ v) g arr t:=(heap_setCell_other w ⟨k,j,none⟩ g v hn).trans h
theorem yD (w:World) (arr:Array Value) (t:TypeId):Blk (w.alloc (.cells arr t)) w.heap.size arr t:=by show (w.heap.push _)[w.heap.size]? = _;simp
theorem yE (w:World) (o:Obj):(w.alloc o).heap.size=w.heap.size+1:=by show (w.heap.push _).size=_;simp
theorem below_dn {w w1:World} (h:Below w.heap.size w w1) (n:Nat):Below w.heap.size w (w1.drewN n):=by
 induction n with
 | zero=>exact h
 | succ n ih=>exact ih.drew
theorem set_size (w:World) (a:Addr) (v:Value):(w.setCell a v).heap.size=w.heap.size:=by unfold World.setCell;simp
theorem zq {w:World} {b:Nat} {t:TypeId} {a0 a1 a2 a3 a4 a5 a6 a7:Value} (h:Blk w b #[a0,a1,a2,a3,a4,a5,a6,a7] t):w.cell? ⟨b,0,none⟩=some a0∧w.cell? ⟨b,1,none⟩=some a1∧w.cell? ⟨b,2,none⟩=some a2∧w.cell? ⟨b,3,none⟩=some a3∧w.cell? ⟨b,4,none⟩=some a4∧w.cell? ⟨b,5,none⟩=some a5∧w.cell? ⟨b,6,none⟩=some a6∧w.cell? ⟨b,7,none⟩=some a7:=⟨h.at 0,h.at 1,h.at 2,h.at 3,h.at 4,h.at 5,h.at 6,h.at 7⟩
theorem zp {w:World} {b:Nat} {t:TypeId} {a0 a1 a2 a3 a4:Value} (h:Blk w b #[a0,a1,a2,a3,a4] t):w.cell? ⟨b,0,none⟩=some a0∧w.cell? ⟨b,1,none⟩=some a1∧w.cell? ⟨b,2,none⟩=some a2∧w.cell? ⟨b,3,none⟩=some a3∧w.cell? ⟨b,4,none⟩=some a4:=⟨h.at 0,h.at 1,h.at 2,h.at 3,h.at 4⟩
def QBlk (w:World) (t:TypeId) (g n k:Nat) (l:List Q):Prop:=
 ∃arr:Array Value,w.heap[g]? = some (.cells arr t (0,0))∧arr.size=n*4∧∀i (h:i<l.length),i<k→arr[i*4]? = some (.string (bs l[i].name))∧arr[i*4+1]? = some (.string (bs l[i].parent))∧arr[i*4+2]? = some (.int .i64 l[i].due)∧arr[i*4+3]? = some (.int .i64 l[i].most)
theorem QBlk.lt {w:World} {t:TypeId} {g n k:Nat} {l:List Q} (h:QBlk w t g n k l):g<w.heap.size:=let ⟨_,h,_⟩:=h;lt_of_block h
theorem QBlk.below {w w':World} {t:TypeId} {g n k:Nat} {l:List Q} (h:QBlk w t g n k l) (hb:Below w.heap.size w w'):QBlk w' t g n k l:=by
 have hlt:=h.lt
 obtain ⟨arr,h1,h2⟩:=h
 exact ⟨arr,(hb.block g hlt).trans h1,h2⟩
theorem QBlk.cell {w:World} {t:TypeId} {g n k:Nat} {l:List Q} (h:QBlk w t g n k l) {j:Nat} (hj:j<n*4):∃v,w.cell? ⟨g,j,none⟩=some v:=by
 obtain ⟨arr,h1,h2,_⟩:=h
 exact ⟨arr[j]'(by omega),by simp [World.cell?,h1,Array.getElem?_eq_getElem (show j<arr.size by omega)]⟩
theorem QBlk.frozen {w:World} {t:TypeId} {g n k:Nat} {l:List Q} (h:QBlk w t g n k l) (j:Nat):w.frozen? ⟨g,j,none⟩=false:=by
 obtain ⟨arr,h1,h2,_⟩:=h
 simp [World.frozen?,h1]
theorem QBlk.row {w:World} {t:TypeId} {g n:Nat} {l:List Q} (h:QBlk w t g n n l) (hl:n=l.length):QRow w (some ⟨g,0,none⟩) n l:=by
 obtain ⟨arr,h1,h2,h3⟩:=h
 refine ⟨hl,.inr ⟨g,0,rfl,fun i hi=>?_⟩⟩
 obtain ⟨a,b,c,d⟩:=h3 i hi (by omega)
 unfold QAt
 simp only [Nat.zero_add]
 exact ⟨by simp [World.cell?,h1,a],by simp [World.cell?,h1,b],by simp [World.cell?,h1,c],by simp [World.cell?,h1,d]⟩
theorem qblk_made (w:World) (t:TypeId) (z:Array Value) (n:Nat) (l:List Q):QBlk (w.alloc (.cells (madeCells z (n*4)) t)) t w.heap.size n 0 l:=
 ⟨madeCells z (n*4),by show (w.heap.push _)[w.heap.size]? = _;simp,size_madeCells _ _,fun i _ h=>absurd h (by omega)⟩
def putQ (w:World) (g p:Nat) (q:Q):World:=(((w.setCell ⟨g,p,none⟩ (.string (bs q.name))).setCell ⟨g,p+1,none⟩ (.string (bs q.parent))).setCell ⟨g,p+2,none⟩ (.int .i64 q.due)).setCell ⟨g,p+3,none⟩ (.int .i64 q.most)
theorem QBlk.step {w:World} {t:TypeId} {g n k:Nat} {l:List Q} (h:QBlk w t g n k l) (hk:k<n) (hl:k<l.length):QBlk (putQ w g (k*4) l[k]) t g n (k+1) l:=by
 obtain ⟨arr,h1,h2,h3⟩:=h
 have e1:=heap_setCell_same w g (k*4) _ _ (.string (bs l[k].name)) h1
 have e2:=heap_setCell_same _ g (k*4+1) _ _ (.string (bs l[k].parent)) e1
 have e3:=heap_setCell_same _ g (k*4+2) _ _ (.int .i64 l[k].due) e2
 have e4:=heap_setCell_same _ g (k*4+3) _ _ (.int .i64 l[k].most) e3
 refine ⟨_,e4,by simp [h2],fun i hi hik=>?_⟩
 by_cases e:i=k
 ·subst e
  have q1:i*4+3<arr.size:=by omega
  refine ⟨?_,?_,?_,?_⟩<;>simp [Array.getElem?_setIfInBounds,h2]<;>omega
 ·obtain ⟨a,b,c,d⟩:=h3 i hi (by omega)
  refine ⟨?_,?_,?_,?_⟩
  ·rw [←a];simp only [Array.getElem?_setIfInBounds];repeat rw [if_neg (by omega)]
  ·rw [←b];simp only [Array.getElem?_setIfInBounds];repeat rw [if_neg (by omega)]
  ·rw [←c];simp only [Array.getElem?_setIfInBounds];repeat rw [if_neg (by omega)]
  ·rw [←d];simp only [Array.getElem?_setIfInBounds];repeat rw [if_neg (by omega)]
def QAny (w:World) (t:TypeId) (g n:Nat):Prop:=QBlk w t g n 0 []
theorem QBlk.any {w:World} {t:TypeId} {g n k:Nat} {l:List Q} (h:QBlk w t g n k l):QAny w t g n:=by
 obtain ⟨arr,h1,h2,_⟩:=h
 exact ⟨arr,h1,h2,fun i hi=>absurd hi (by simp)⟩
theorem QAny.set {w:World} {t:TypeId} {g n:Nat} (h:QAny w t g n) (j:Nat) (v:Value):QAny (w.setCell ⟨g,j,none⟩ v) t g n:=by
 obtain ⟨arr,h1,h2,_⟩:=h
 exact ⟨_,heap_setCell_same w g j _ _ v h1,by simp [h2],fun i hi=>absurd hi (by simp)⟩
def szQ (q:Q) (a:Int):Int:=if a - q.name.length<0 then -1 else if a - q.name.length - q.parent.length<0 then -1 else a - q.name.length - q.parent.length
def FitQ (l:List Q):Prop:=l.length≤1048576∧∀q ∈ l,q.name.length≤1048576∧q.parent.length≤1048576
theorem szQueue_any (q:Q) (a:Int) (w:World) (ha0:0≤a) (ha1:a≤1048576) (hn:q.name.length≤9223372036854775807) (hp:q.parent.length≤9223372036854775807) :
  Calls Tryz.prog 37 #[qv q,.int .i64 a] w fun e w'=>e=.returned (.int .i64 (szQ q a))∧Below w.heap.size w w':=by
 obtain ⟨nm,pa,du,mo⟩:=q
 have z1:=bs_size nm
 have z2:=bs_size pa
 simp only at hn hp
 unfold szQ
 simp only
 by_cases h1:a - nm.length<0
 ·rw [if_pos h1]
  go_enter Tryz.func37,Tryz.ntmps37
  go_wp2
  go_ret
  refine ⟨rfl,?_⟩
  repeat (first | exact yH _ _ | refine yA ?_ _ | refine Below.drew ?_ | refine yC ?_ _ _ _ (by omega))
 ·rw [if_neg h1]
  by_cases h2:a - nm.length - pa.length<0
  ·rw [if_pos h2]
   go_enter Tryz.func37,Tryz.ntmps37
   go_wp2
   go_ret
   refine ⟨rfl,?_⟩
   repeat (first | exact yH _ _ | refine yA ?_ _ | refine Below.drew ?_ | refine yC ?_ _ _ _ (by omega))
  ·rw [if_neg h2]
   go_enter Tryz.func37,Tryz.ntmps37
   go_wp2
   go_ret
   refine ⟨rfl,?_⟩
   repeat (first | exact yH _ _ | refine yA ?_ _ | refine Below.drew ?_ | refine yC ?_ _ _ _ (by omega))
theorem szQ_cases (q:Q) (a:Int) (ha0:0≤a) (ha1:a≤1048576):szQ q a = -1∨(0≤szQ q a∧szQ q a≤a∧q.name.length≤1048576∧q.parent.length≤1048576):=by
 unfold szQ
 split
 ·exact .inl rfl
 ·split
  ·exact .inl rfl
  ·right;omega
theorem szQueueS_any (ao:Option Addr) (len cap:Nat) (l:List Q) (w:World) (h:QRow w ao len l) (hlen:len≤9223372036854775807) (hm:∀q ∈ l,q.name.length≤9223372036854775807∧q.parent.length≤9223372036854775807) :
  Calls Tryz.prog 14 #[.slice ao len cap,.int .i64 1048576] w fun e w'=>∃r:Int,e=.returned (.int .i64 r)∧(r = -1∨(0≤r∧r≤1048576∧FitQ l))∧Below w.heap.size w w':=by
 have HR:=hide h
 have HL:=hide h.1
 have HM:=hide hm
 clear h hm
 by_cases hbig:len≤1048576
 ·have hb1:¬(1048576:Int) - len<0:=by omega
  go_enter Tryz.func14,Tryz.ntmps14
  go_wp2
  go_loopw [1,5] (fun s i wr=>∃(k:Nat) (a:Int),k≤len∧i=.int .i64 k∧s=.int .i64 a∧0≤a∧a≤1048576∧Hid (∀q ∈ l.take k,q.name.length≤1048576∧q.parent.length≤1048576)∧Hid (Below w.heap.size w wr)) (fun _ i _=>len - (intOf i).toNat)
  case atStart=>exact ⟨0,(1048576:Int) - len,Nat.zero_le _,rfl,rfl,by omega,by omega,hide (by simp),hide (yH _ _)⟩
  case round=>
   obtain ⟨k,a,hk,rfl,rfl,ha0,ha1,HP,HB⟩:=hrel
   by_cases hlt:k<len
   ·obtain ⟨b,off,rfl,hq⟩:=((uH HR).below (uH HB)).at hlt
    have hkl:k<l.length:=by have:=uH HL;omega
    obtain ⟨c0,c1,c2,c3⟩:=hq hkl
    obtain ⟨n1,n2⟩:=uH HM l[k] (yM _)
    have htk:=List.take_succ_eq_append_getElem hkl
    obtain ⟨q,hs⟩:∃q,l[k]=q:=⟨_,rfl⟩
    rw [hs] at c0 c1 c2 c3 n1 n2 htk
    have HTK:=hide htk
    have C:=hide (fun wx=>szQueue_any q a wx ha0 ha1 n1 n2)
    obtain ⟨r,hr⟩:∃r,szQ q a=r:=⟨_,rfl⟩
    have hcs:=szQ_cases q a ha0 ha1
    rw [hr] at C hcs
    have HC:=hide hcs
    clear hq hs hkl hr hcs htk n1 n2
    go_wp2_with fail
    refine (uH C _).mono ?_
    rintro e w1 ⟨rfl,hb⟩
    have HB1:=hide (yB (uH HB) hb)
    clear hb C c0 c1 c2 c3
    rcases uH HC with hr | ⟨r0,r1,r2,r3⟩
    ·subst hr
     go_wp2
     go_ret
     exact ⟨-1,rfl,.inl rfl,uH HB1⟩
    ·have HN:=hide (show ∀q ∈ l.take (k+1),q.name.length≤1048576∧q.parent.length≤1048576 by
      rw [uH HTK]
      intro x hx
      rcases List.mem_append.1 hx with hx | hx
      ·exact uH HP x hx
      ·rw [List.mem_singleton.1 hx];exact ⟨r2,r3⟩)
     clear r2 r3 HP HTK HC
     go_wp2
     go_roundw
     case rel=>exact ⟨k+1,r,by omega,by go_num,rfl,by omega,by omega,HN,HB1⟩
     case measure=>simp [intOf];omega
   ·have HF:=hide (show FitQ l from ⟨by have:=uH HL;omega,fun q hq=>uH HP q (by rw [List.take_of_length_le (by have:=uH HL;omega)];exact hq)⟩)
    go_wp2
    go_ret
    exact ⟨a,rfl,.inr ⟨ha0,ha1,uH HF⟩,uH HB⟩
 ·have hb1:(1048576:Int) - len<0:=by omega
  go_enter Tryz.func14,Tryz.ntmps14
  go_wp2
  go_ret
  exact ⟨-1,rfl,.inl rfl,yH _ _⟩
theorem toQueue_any (q:Q) (w:World) :
  Calls Tryz.prog 43 #[qv q] w fun e w'=>e=.returned (qv q)∧Below w.heap.size w w':=by
 obtain ⟨nm,pa,du,mo⟩:=q
 go_enter Tryz.func43,Tryz.ntmps43
 go_wp2
 refine bodyPost_ret (v:=qv ⟨nm,pa,du,mo⟩) (by simp [results,Tryz.results43,go_sem]) rfl ⟨rfl,?_⟩
 repeat (first | exact yH _ _ | refine yA ?_ _ | refine Below.drew ?_ | refine yC ?_ _ _ _ (by omega))
theorem queueInfo:(Tryz.prog.info? 95).map (fun i=>(i.zero,i.size,i.bytes))=some (some (qv ⟨[],[],0,0⟩),4,48):=by kernel_rfl
theorem make_queues (n:Nat) (hn:n≤1048576) (w:World) :
  (Instr.makeSlice 37 (.int .i64 (n:Int)) (.int .i64 (n:Int))).run Tryz.prog w=.ok (.slice (some ⟨w.heap.size,0,none⟩) n n) (w.alloc (.cells (madeCells (qv ⟨[],[],0,0⟩).cells (n*4)) 95)):=by
 obtain ⟨i,hi,hz⟩:=Option.map_eq_some_iff.1 queueInfo
 simp only [Prod.mk.injEq] at hz
 obtain ⟨hz,hs,hb⟩:=hz
 have hr:=run_make (P:=Tryz.prog) w 37 95 i _ Tryz.underlying37 hi hz .i64 .i64 n n (by omega) (Int.le_refl _) (by rw [hb];omega) (by omega)
 simp only [Int.toNat_natCast,hs] at hr
 exact hr
theorem toQueueS_any (ao:Option Addr) (len cap:Nat) (l:List Q) (w:World) (h:QRow w ao len l) (hl:len≤1048576) :
  Calls Tryz.prog 17 #[.slice ao len cap] w fun e w'=>e=.returned (.slice (some ⟨w.heap.size,0,none⟩) len len)∧QBlk w' 95 w.heap.size len len l∧Below w.heap.size w w':=by
 have HR:=hide h
 have HL:=hide h.1
 have hmk:=make_queues len hl w
 obtain ⟨zs,hzs⟩:∃z,z=(qv ⟨[],[],0,0⟩).cells:=⟨_,rfl⟩
 rw [←hzs] at hmk
 clear h hzs
 go_enter Tryz.func17,Tryz.ntmps17
 go_wp2
 clear hmk
 go_loopw [4] (fun i wr=>∃k:Nat,k≤len∧i=.int .i64 k∧Hid (QBlk wr 95 w.heap.size len k l)∧Hid (Below w.heap.size w wr)) (fun i _=>len - (intOf i).toNat)
 case atStart=>exact ⟨0,Nat.zero_le _,rfl,hide (qblk_made w _ _ _ _),hide (yA (yH _ _) _)⟩
 case round=>
  obtain ⟨k,hk,rfl,HQ,HB⟩:=hrel
  by_cases hlt:k<len
  ·obtain ⟨b,off,rfl,hq⟩:=((uH HR).below (uH HB)).at hlt
   have hkl:k<l.length:=by have:=uH HL;omega
   obtain ⟨c0,c1,c2,c3⟩:=hq hkl
   obtain ⟨q,hs⟩:∃q,l[k]=q:=⟨_,rfl⟩
   rw [hs] at c0 c1 c2 c3
   have hst:∀wx,QBlk wx 95 w.heap.size len k l→QBlk (putQ wx w.heap.size (k*4) q) 95 w.heap.size len (k+1) l:=fun wx hx=>by have:=hx.step hlt hkl;rw [hs] at this;exact this
   have HST:=hide hst
   clear hst hq hs hkl
   go_wp2_with fail
   refine (toQueue_any q _).mono ?_
   rintro e w1 ⟨rfl,hb⟩
   have HQ1:=hide ((uH HQ).below hb)
   have HB1:=hide (yB (uH HB) hb)
   clear hb c0 c1 c2 c3
   obtain ⟨v0,d0⟩:=(uH HQ1).cell (j:=k*4) (by omega)
   obtain ⟨v1,d1⟩:=(uH HQ1).cell (j:=k*4+1) (by omega)
   obtain ⟨v2,d2⟩:=(uH HQ1).cell (j:=k*4+2) (by omega)
   obtain ⟨v3,d3⟩:=(uH HQ1).cell (j:=k*4+3) (by omega)
   have f0:=(uH HQ1).frozen (k*4)
   have f1:=(uH HQ1).frozen (k*4+1)
   have f2:=(uH HQ1).frozen (k*4+2)
   have f3:=(uH HQ1).frozen (k*4+3)
   go_wp2
   go_roundw
   case rel=>exact ⟨k+1,by omega,by go_num,hide (uH HST _ (uH HQ1)),hide (yC (yC (yC (yC (uH HB1) _ _ _ (by omega)) _ _ _ (by omega)) _ _ _ (by omega)) _ _ _ (by omega))⟩
   case measure=>simp [intOf];omega
  ·have hkk:k=len:=by omega
   subst hkk
   go_wp2
   go_ret
   exact ⟨rfl,uH HQ,uH HB⟩
theorem eqQueue_same (q:Q) (w:World) :
  Calls Tryz.prog 48 #[qv q,qv q] w fun e w'=>e=.returned (.bool true)∧Below w.heap.size w w':=by
 obtain ⟨nm,pa,du,mo⟩:=q
 go_enter Tryz.func48,Tryz.ntmps48
 go_wp2
 go_ret
 refine ⟨rfl,?_⟩
 repeat (first | exact yH _ _ | refine yA ?_ _ | refine Below.drew ?_ | refine yC ?_ _ _ _ (by omega))
def QTwo (w0:World) (b p c r:Nat) (q:Q) (w:World):Prop:=QAt w b p q∧QAt w c r q∧Below w0.heap.size w0 w
theorem QTwo.call {w0 w w':World} {b p c r:Nat} {q:Q} (h:QTwo w0 b p c r q w) (hb:Below w.heap.size w w'):QTwo w0 b p c r q w':=⟨h.1.below hb,h.2.1.below hb,yB h.2.2 hb⟩
theorem QTwo.drew {w0 w:World} {b p c r:Nat} {q:Q} (h:QTwo w0 b p c r q w):QTwo w0 b p c r q w.drew:=h.call (yH _ _).drew
theorem QTwo.read (w0:World) (b p c r:Nat) (q:Q):∀wx,QTwo w0 b p c r q wx→wx.cell? ⟨b,p,none⟩=some (.string (bs q.name))∧wx.cell? ⟨b,p+1,none⟩=some (.string (bs q.parent))∧wx.cell? ⟨b,p+2,none⟩=some (.int .i64 q.due)∧wx.cell? ⟨b,p+3,none⟩=some (.int .i64 q.most)
  ∧wx.cell? ⟨c,r,none⟩=some (.string (bs q.name))∧wx.cell? ⟨c,r+1,none⟩=some (.string (bs q.parent))∧wx.cell? ⟨c,r+2,none⟩=some (.int .i64 q.due)∧wx.cell? ⟨c,r+3,none⟩=some (.int .i64 q.most):=
 fun wx h=>⟨h.1.1,h.1.2.1,h.1.2.2.1,h.1.2.2.2,h.2.1.1,h.2.1.2.1,h.2.1.2.2.1,h.2.1.2.2.2⟩
theorem eqQueueS_same (ao bo:Option Addr) (len cap ccap:Nat) (l:List Q) (w:World) (h:QRow w ao len l) (h':QRow w bo len l) (hl:len≤1048576) :
  Calls Tryz.prog 20 #[.slice ao len cap,.slice bo len ccap] w fun e w'=>e=.returned (.bool true)∧Below w.heap.size w w':=by
 have HR:=hide h
 have HR':=hide h'
 have HL:=hide h.1
 clear h h'
 go_enter Tryz.func20,Tryz.ntmps20
 go_wp2
 go_loopw [5] (fun i wr=>∃k:Nat,k≤len∧i=.int .i64 k∧Hid (Below w.heap.size w wr)) (fun i _=>len - (intOf i).toNat)
 case atStart=>exact ⟨0,Nat.zero_le _,rfl,hide (yH _ _)⟩
 case round=>
  obtain ⟨k,hk,rfl,HB⟩:=hrel
  by_cases hlt:k<len
  ·obtain ⟨b,off,rfl,hq⟩:=((uH HR).below (uH HB)).at hlt
   obtain ⟨c,coff,rfl,hq'⟩:=((uH HR').below (uH HB)).at hlt
   have hkl:k<l.length:=by have:=uH HL;omega
   have A0:=hide (show QTwo w b (off+k*4) c (coff+k*4) l[k] wr from ⟨hq hkl,hq' hkl,uH HB⟩)
   obtain ⟨q,hs⟩:∃q,l[k]=q:=⟨_,rfl⟩
   rw [hs] at A0
   have R:=QTwo.read w b (off+k*4) c (coff+k*4) q
   have k0:(0:Int)≤k:=by omega
   have k1:(k:Int)<len:=by omega
   clear hq hq' hs hkl
   go_wp2_with fail
   go_region_held3 (fun wx=>QTwo w b (off+k*4) c (coff+k*4) q wx)
    (first | (with_reducible assumption) | exact (uH A0).drew | exact QTwo.call (by assumption) (by assumption))
    (first
    | (go_at_call 48;refine (eqQueue_same _ _).mono ?_;rintro e wt ⟨rfl,hb⟩;have SA:=QTwo.call (w0:=w) (b:=b) (p:=off+k*4) (c:=c) (r:=coff+k*4) (q:=q) (by assumption) hb))
   have HB2:=hide SA.2.2
   clear SA R A0
   go_wp2
   go_roundw
   case rel=>exact ⟨k+1,by omega,by go_num,HB2⟩
   case measure=>simp [intOf];omega
  ·go_wp2
   go_ret
   exact ⟨rfl,uH HB⟩
end
section
theorem bs_back (s:ByteArray):bs s.data.toList=s:=by simp [bs]
end
section
open Go.ChangeShapes Go.WideShapes Go.ChangeAt Go.RowKit Go.Deep
theorem cells_lq:Tryz.prog.cellsOf 85=4:=by kernel_rfl
theorem cells_qs:Tryz.prog.cellsOf 9=1:=by kernel_rfl
theorem cells_qi:Tryz.prog.cellsOf 3=1:=by kernel_rfl
def QFit (q:Q):Prop:=q.name.length≤9223372036854775807∧q.parent.length≤9223372036854775807
theorem open_q1 {H:Type} {enc:TypeId×Value→H} {W:World} {base:Nat} {sp:Nat→Bool} {held:Bool} {fuel:Nat} {cs:List Value} {x:DataW H×List MemPlace}
  (h:DataW.trod enc Tryz.prog W base sp held fuel 85 cs=some x) :
  ∃q:Q,cs=[.string (bs q.name),.string (bs q.parent),.int .i64 q.due,.int .i64 q.most]∧QFit q∧(Lit.int .i64 q.due).wf=true∧(Lit.int .i64 q.most).wf=true:=by
 obtain ⟨xs,n,rfl,rfl,hlen,hxs,hf⟩:=DataW.trod_struct Tryz.underlying85 h
 rw [cells_lq] at hlen
 have hxs:xs.length=4:=hxs
 match cs,hlen,xs,hxs with
 | [c0,c1,c2,c3],_,[x0,x1,x2,x3],_=>
  have h0:=hf 0 _ rfl
  have h1:=hf 1 _ rfl
  have h2:=hf 2 _ rfl
  have h3:=hf 3 _ rfl
  obtain ⟨s0,e0,_,b0⟩:=DataW.trod_string Tryz.underlying9 h0
  obtain ⟨s1,e1,_,b1⟩:=DataW.trod_string Tryz.underlying9 h1
  obtain ⟨d,e2,_,b2⟩:=DataW.trod_int Tryz.underlying3 h2
  obtain ⟨m,e3,_,b3⟩:=DataW.trod_int Tryz.underlying3 h3
  simp [cells_qs,cells_qi] at e0 e1 e2 e3
  subst e0 e1 e2 e3
  refine ⟨⟨s0.data.toList,s1.data.toList,d,m⟩,by simp only [bs_back],⟨?_,?_⟩,b2,b3⟩
  ·simpa [maxLen] using b0
  ·simpa [maxLen] using b1
theorem open_queues {H:Type} {enc:TypeId×Value→H} {W:World} {base:Nat} {held:Bool} {ao:Option Addr} {len cap:Nat} {d:DataW H} {p:List MemPlace}
  (h:DataW.Trod enc Tryz.prog W base (fun _=>true) held 22 (.slice ao len cap) d p) :
  ∃l:List Q,QRow W ao len l∧len≤9223372036854775807∧∀q ∈ l,QFit q∧(Lit.int .i64 q.due).wf=true∧(Lit.int .i64 q.most).wf=true:=by
 obtain ⟨fuel,hf⟩:=h
 rcases open_slice Tryz.underlying22 hf with ⟨hcs,_⟩ | ⟨a,len',cap',m,n,D,Pl,hcs,hb,hl,hm,hmm,hx,hel⟩
 ·simp [Value.cells] at hcs
  obtain ⟨rfl,rfl,rfl⟩:=hcs
  exact ⟨[],QRow.nil _ _,by omega,by simp⟩
 ·simp [Value.cells] at hcs
  obtain ⟨rfl,rfl,rfl⟩:=hcs
  simp only [if_true] at hmm
  subst hmm
  rw [cells_lq] at hel
  have inh:Inhabited Q:=⟨⟨[],[],0,0⟩⟩
  obtain ⟨F,hF⟩:=choose_lt (α:=Q) (n:=len) (p:=fun i q=>W.cells? base (a.add (i*4)) 4=some [.string (bs q.name),.string (bs q.parent),.int .i64 q.due,.int .i64 q.most]∧QFit q∧(Lit.int .i64 q.due).wf=true∧(Lit.int .i64 q.most).wf=true) (fun i hi=>by
   obtain ⟨cs',h1,h2⟩:=hel i (by omega)
   obtain ⟨q,rfl,h3⟩:=open_q1 h2
   exact ⟨q,h1,h3⟩)
  refine ⟨(List.range len).map F,?_,by have:maxLen=9223372036854775807:=rfl;omega,?_⟩
  ·refine ⟨by simp,?_⟩
   by_cases h0:len=0
   ·exact .inl h0
   ·right
    obtain ⟨b,off,spot⟩:=a
    have hc0:=(World.cells?_some (hF 0 (by omega)).1).2.2 0 (by omega)
    have hspot:spot=none:=by simpa [Addr.add] using World.cell?_spot hc0
    subst hspot
    refine ⟨b,off,rfl,fun i hi=>?_⟩
    have hi':i<len:=by simpa using hi
    obtain ⟨_,_,hc⟩:=World.cells?_some (hF i hi').1
    rw [Lib.add_plain] at hc
    have k0:=hc 0 (by omega)
    have k1:=hc 1 (by omega)
    have k2:=hc 2 (by omega)
    have k3:=hc 3 (by omega)
    rw [Lib.add_plain] at k0 k1 k2 k3
    simp only [List.getElem_map,List.getElem_range]
    exact ⟨k0,k1,k2,k3⟩
  ·intro q hq
   obtain ⟨i,hi,rfl⟩:=List.mem_map.1 hq
   exact (hF i (by simpa using hi)).2
end
section
open Go.RowKit
def SS (w:World) (g cap:Nat) (xs:List ByteArray):Prop:=w.ownsRow g 9 1 (.slice (some ⟨g,0,none⟩) xs.length cap) xs.length (xs.map Value.string)
theorem SS.cell {w:World} {g cap:Nat} {xs:List ByteArray} (h:SS w g cap xs) (j:Nat) (hj:j<xs.length):w.cell? ⟨g,j,none⟩=some (.string xs[j]):=by
 have:=World.ownsRow.cellAt h j (by omega)
 rw [this];simp [hj]
theorem SS.frozen {w:World} {g cap:Nat} {xs:List ByteArray} (h:SS w g cap xs) (j:Nat):w.frozen? ⟨g,j,none⟩=false:=World.ownsRow.frozenAt h j
theorem SS.block {w:World} {g cap:Nat} {xs:List ByteArray} (h:SS w g cap xs):∃cur,w.heap[g]? = some (.cells cur 9 (0,0))∧xs.length≤cap∧cap≤maxLen∧cur.size=cap∧cur.toList.take xs.length=xs.map Value.string:=by
 rcases h.2 with ⟨h1,_⟩ | ⟨g',cap',cur,h1,_,h2,h3,h4,h5,h6⟩
 ·simp at h1
 ·simp only [Value.slice.injEq,Option.some.injEq,Addr.mk.injEq,and_true,true_and] at h1
  obtain ⟨rfl,rfl⟩:=h1
  exact ⟨cur,h2,h3,h4,by simpa using h5,by simpa using h6⟩
theorem SS.mk {w:World} {g cap:Nat} {xs:List ByteArray} {cur:Array Value} (h:w.heap[g]? = some (.cells cur 9 (0,0))) (h1:xs.length≤cap) (h2:cap≤maxLen) (h3:cur.size=cap) (h4:cur.toList.take xs.length=xs.map Value.string):SS w g cap xs:=
 ⟨by simp,.inr ⟨g,cap,cur,rfl,yJ _,h,h1,h2,by simpa using h3,by simpa using h4⟩⟩
theorem SS.lt {w:World} {g cap:Nat} {xs:List ByteArray} (h:SS w g cap xs):g<w.heap.size:=by
 obtain ⟨cur,h1,_⟩:=h.block
 exact lt_of_block h1
theorem SS.same {w w':World} {g cap:Nat} {xs:List ByteArray} (h:SS w g cap xs) (hg:w'.heap[g]? = w.heap[g]?):SS w' g cap xs:=by
 obtain ⟨cur,h1,h2,h3,h4,h5⟩:=h.block
 exact SS.mk (hg.trans h1) h2 h3 h4 h5
theorem SS.below {w w':World} {B g cap:Nat} {xs:List ByteArray} (h:SS w g cap xs) (hb:Below B w w') (hg:g<B):SS w' g cap xs:=h.same (hb.block g hg)
theorem SS.set {w:World} {g cap:Nat} {xs:List ByteArray} (h:SS w g cap xs) (j:Nat) (hj:j<xs.length) (x:ByteArray):SS (w.setCell ⟨g,j,none⟩ (.string x)) g cap (xs.set j x):=by
 obtain ⟨cur,h1,h2,h3,h4,h5⟩:=h.block
 refine SS.mk (heap_setCell_same w g j cur _ _ h1) (by simpa using h2) h3 (by simpa using h4) ?_
 rw [List.length_set,Array.toList_setIfInBounds,List.take_set,h5,List.map_set]
def dgs (u:Nat):List UInt8:=if u=0 then [] else Lib.decDigits u
theorem dgs_zero:dgs 0=[]:=rfl
theorem dgs_pos {u:Nat} (h:u≠0):dgs u=Lib.decDigits u:=by rw [dgs,if_neg h]
theorem dgs_step {u:Nat} (h:u≠0):dgs u=dgs (u / 10)++[UInt8.ofNat (48+u % 10)]:=by
 rw [dgs_pos h,Lib.decDigits]
 by_cases h10:u<10
 ·rw [dif_pos h10]
  have e:u / 10=0:=by omega
  rw [e,dgs_zero,Nat.mod_eq_of_lt h10];rfl
 ·rw [dif_neg h10,dgs_pos (by omega)]
def dch (d:Nat):UInt8:=UInt8.ofNat (48+d)
def mk (N:Nat):ByteArray:=bs (109::dgs N)
theorem markText_any (N:Nat) (w:World) (h0:0<N) (hN:(N:Int)≤9223372036854775807) :
  Calls Tryz.prog 50 #[.int .i64 (N:Int)] w fun e w'=>e=.returned (.string (mk N))∧Below w.heap.size w w':=by
 have hlen2:(dgs N).length≤20:=by rw [dgs_pos (by omega),Lib.decDigits_length];exact Lib.nDigits_le20 N (by omega)
 have hcv:∀(wr:World) (x:Nat),x<10→(convert 131 9 (.slice (some ⟨wr.heap.size,0,none⟩) 1 1)).run Tryz.prog (wr.alloc (.cells #[.int .u8 (48+(x:Int))] 5))=.ok (.string ⟨#[dch x]⟩) (wr.alloc (.cells #[.int .u8 (48+(x:Int))] 5)):=by
  intro wr x hx
  refine run_convert_bytes_back _ 131 9 5 ⟨wr.heap.size,0,none⟩ 1 [dch x] Tryz.underlying131 Tryz.underlying5 Tryz.underlying9 (fun j hj=>?_)
  match j,hj with
  | 0,_=>simp [Addr.add,dch];omega
 go_enter Tryz.func50,Tryz.ntmps50
 go_wp2
 go_loopw [0,3] (fun m o wr=>∃(u:Nat) (l:List UInt8),u≤N∧m=.int .i64 (u:Int)∧o=.string (bs l)∧dgs u++l=dgs N∧Below w.heap.size w wr) (fun m _ _=>(intOf m).toNat)
 case atStart=>exact ⟨N,[],yJ _,rfl,rfl,by simp,yH _ _⟩
 case round=>
  obtain ⟨u,l,hu,rfl,rfl,hcat,hbel⟩:=hrel
  have hl:l.length≤20:=by have:=congrArg List.length hcat;simp only [List.length_append] at this;omega
  have hl2:(bs l).size≤20:=by rw [bs_size];exact hl
  have hsz:=hbel.size
  have HC:=hide hcat
  have HB:=hide hbel
  clear hcat hl hbel
  by_cases hu0:u=0
  ·subst hu0
   clear hcv
   go_wp2
   go_ret
   exact ⟨ret_str (by rw [cons_bs,mk];exact congrArg bs (congrArg (fun t=>109::t) (uH HC))),uH HB⟩
  ·have hcw:=hcv wr (u % 10) (by omega)
   rw [show ((u % 10:Nat):Int)=(u:Int) % 10 from by omega] at hcw
   clear hcv
   have hcs:(ByteArray.mk #[dch (u % 10)]).size=1:=rfl
   go_wp2
   go_roundw
   case rel=>exact ⟨u / 10,dch (u % 10)::l,by omega,by go_num,str_eq (cons_bs _ _),by rw [←uH HC,dgs_step hu0,dch];simp,(uH HB).alloc hsz _⟩
   case measure=>simp [intOf];omega
theorem markText_int (x:Int) (w:World) (h0:0<x) (hN:x≤9223372036854775807) :
  Calls Tryz.prog 50 #[.int .i64 x] w fun e w'=>e=.returned (.string (mk x.toNat))∧Below w.heap.size w w':=by
 obtain ⟨N,rfl⟩:=Int.eq_ofNat_of_zero_le (a:=x) (by omega)
 rw [Int.toNat_natCast]
 exact markText_any N w (by omega) hN
def marks (k:Nat):Nat→List ByteArray
 | 0=>[]
 | n+1=>mk k::marks (k+1) n
def Cel (w:World) (t:TypeId) (g N:Nat):Prop:=∃arr:Array Value,w.heap[g]? = some (.cells arr t (0,0))∧arr.size=N
theorem Cel.lt {w:World} {t:TypeId} {g N:Nat} (h:Cel w t g N):g<w.heap.size:=let ⟨_,h,_⟩:=h;lt_of_block h
theorem Cel.of_block {w w':World} {t:TypeId} {g N:Nat} (h:Cel w t g N) (e:w'.heap[g]? = w.heap[g]?):Cel w' t g N:=by
 obtain ⟨arr,h1,h2⟩:=h
 exact ⟨arr,e.trans h1,h2⟩
theorem Cel.below {w w':World} {t:TypeId} {g N:Nat} (h:Cel w t g N) (hb:Below w.heap.size w w'):Cel w' t g N:=h.of_block (hb.block g h.lt)
theorem Cel.set {w:World} {t:TypeId} {g N:Nat} (h:Cel w t g N) (b j:Nat) (v:Value):Cel (w.setCell ⟨b,j,none⟩ v) t g N:=by
 by_cases e:g=b
 ·subst e
  obtain ⟨arr,h1,h2⟩:=h
  exact ⟨_,heap_setCell_same w g j _ _ v h1,by simp [h2]⟩
 ·exact h.of_block (heap_setCell_other w ⟨b,j,none⟩ g v e)
theorem Cel.cell {w:World} {t:TypeId} {g N:Nat} (h:Cel w t g N) {j:Nat} (hj:j<N):∃v,w.cell? ⟨g,j,none⟩=some v:=by
 obtain ⟨arr,h1,h2⟩:=h
 exact ⟨arr[j]'(by omega),by simp [World.cell?,h1,Array.getElem?_eq_getElem (show j<arr.size by omega)]⟩
theorem Cel.frozen {w:World} {t:TypeId} {g N:Nat} (h:Cel w t g N) (j:Nat):w.frozen? ⟨g,j,none⟩=false:=by
 obtain ⟨arr,h1,h2⟩:=h
 simp [World.frozen?,h1]
structure Mkd (B E:Nat) (w w':World):Prop where
 os:w'.os=w.os
 tape:w'.tape=w.tape
 output:w'.output=w.output
 size:w.heap.size≤w'.heap.size
 block:∀k,k<w.heap.size→(k<B∨E≤k)→w'.heap[k]? = w.heap[k]?
 cel:∀t g N,Cel w t g N→Cel w' t g N
theorem Mkd.refl (B E:Nat) (w:World):Mkd B E w w:=⟨rfl,rfl,rfl,yJ _,fun _ _ _=>rfl,fun _ _ _ h=>h⟩
theorem Mkd.trans {B E:Nat} {a b c:World} (h:Mkd B E a b) (k:Mkd B E b c):Mkd B E a c:=
 ⟨k.os.trans h.os,k.tape.trans h.tape,k.output.trans h.output,Nat.le_trans h.size k.size,fun i hi ho=>(k.block i (Nat.lt_of_lt_of_le hi h.size) ho).trans (h.block i hi ho),fun t g N x=>k.cel t g N (h.cel t g N x)⟩
theorem Mkd.mono {B E B' E':Nat} {a b:World} (h:Mkd B E a b) (h1:B'≤B) (h2:E≤E'):Mkd B' E' a b:=
 ⟨h.os,h.tape,h.output,h.size,fun i hi ho=>h.block i hi (by omega),h.cel⟩
theorem Mkd.of_below {B E:Nat} {w w':World} (hb:Below w.heap.size w w'):Mkd B E w w':=⟨hb.os,hb.tape,hb.output,hb.size,fun i hi _=>hb.block i hi,fun t g N x=>x.below hb⟩
theorem Mkd.on {B E:Nat} {a w w':World} (h:Mkd B E a w) (hb:Below w.heap.size w w'):Mkd B E a w':=h.trans (.of_below hb)
theorem Mkd.sc {B E:Nat} {a w:World} (h:Mkd B E a w) (g j:Nat) (v:Value) (h1:B≤g) (h2:g<E):Mkd B E a (w.setCell ⟨g,j,none⟩ v):=
 h.trans ⟨rfl,rfl,rfl,by simp [World.setCell],fun k _ ho=>Below.heap_setCell _ _ _ _ (by show k≠g;omega),fun t g' N x=>x.set g j v⟩
theorem Mkd.below {B E:Nat} {a w:World} (h:Mkd B E a w) (hB:B≤a.heap.size):Below B a w:=⟨h.os,h.tape,h.output,h.size,fun k hk=>h.block k (by omega) (.inl hk)⟩
theorem Mkd.blk {B E g:Nat} {a w:World} {arr:Array Value} {t:TypeId} (h:Mkd B E a w) (hb:Blk a g arr t) (ho:g<B∨E≤g):Blk w g arr t:=(h.block g hb.lt ho).trans hb
theorem QBlk.tail {w:World} {t:TypeId} {g n k:Nat} {l:List Q} (h:QBlk w t g n k l) {p:Nat} (hp:k*4≤p) (v:Value):QBlk (w.setCell ⟨g,p,none⟩ v) t g n k l:=by
 obtain ⟨arr,h1,h2,h3⟩:=h
 refine ⟨_,heap_setCell_same w g p _ _ v h1,by simp [h2],fun i hi hik=>?_⟩
 obtain ⟨a,b,c,d⟩:=h3 i hi hik
 refine ⟨?_,?_,?_,?_⟩
 ·rw [←a,Array.getElem?_setIfInBounds,if_neg (by omega)]
 ·rw [←b,Array.getElem?_setIfInBounds,if_neg (by omega)]
 ·rw [←c,Array.getElem?_setIfInBounds,if_neg (by omega)]
 ·rw [←d,Array.getElem?_setIfInBounds,if_neg (by omega)]
theorem QBlk.next {w:World} {t:TypeId} {g n k:Nat} {l:List Q} (h:QBlk w t g n k l) (c:∀hk:k<l.length,QAt w g (k*4) l[k]):QBlk w t g n (k+1) l:=by
 obtain ⟨arr,h1,h2,h3⟩:=h
 refine ⟨arr,h1,h2,fun i hi hik=>?_⟩
 by_cases e:i=k
 ·subst e
  obtain ⟨c0,c1,c2,c3⟩:=c hi
  simp [World.cell?,h1] at c0 c1 c2 c3
  exact ⟨c0,c1,c2,c3⟩
 ·exact h3 i hi (by omega)
theorem QBlk.rowOf {w:World} {t:TypeId} {g c n:Nat} {l:List Q} (h:QBlk w t g c n l) (hl:n=l.length):QRow w (some ⟨g,0,none⟩) n l:=by
 obtain ⟨arr,h1,h2,h3⟩:=h
 refine ⟨hl,.inr ⟨g,0,rfl,fun i hi=>?_⟩⟩
 obtain ⟨a,b,c,d⟩:=h3 i hi (by omega)
 unfold QAt
 simp only [Nat.zero_add]
 exact ⟨by simp [World.cell?,h1,a],by simp [World.cell?,h1,b],by simp [World.cell?,h1,c],by simp [World.cell?,h1,d]⟩
def QOne (w0:World) (b p:Nat) (q:Q) (w:World):Prop:=QAt w b p q∧Below w0.heap.size w0 w
theorem QOne.call {w0 w w':World} {b p:Nat} {q:Q} (h:QOne w0 b p q w) (hb:Below w.heap.size w w'):QOne w0 b p q w':=⟨h.1.below hb,yB h.2 hb⟩
theorem QOne.drew {w0 w:World} {b p:Nat} {q:Q} (h:QOne w0 b p q w):QOne w0 b p q w.drew:=h.call (yH _ _).drew
theorem QOne.read (w0:World) (b p:Nat) (q:Q):∀wx,QOne w0 b p q wx→wx.cell? ⟨b,p,none⟩=some (.string (bs q.name))∧wx.cell? ⟨b,p+1,none⟩=some (.string (bs q.parent))∧wx.cell? ⟨b,p+2,none⟩=some (.int .i64 q.due)∧wx.cell? ⟨b,p+3,none⟩=some (.int .i64 q.most):=
 fun wx h=>⟨h.1.1,h.1.2.1,h.1.2.2.1,h.1.2.2.2⟩
abbrev scells (o:List ByteArray):List Value:=o.map Value.string
theorem Tryz.infoS:(Tryz.prog.info? 9).map (fun i=>(i.zero,i.size,i.bytes))=some (some (.string ByteArray.empty),1,16):=by kernel_rfl
theorem sown_below {w w':World} {B:Nat} {v:Value} {o:List ByteArray} (h:w.ownsRow B 9 1 v o.length (scells o)) (hb:Below w.heap.size w w'):w'.ownsRow B 9 1 v o.length (scells o):=
 h.kept (grownBy_below (grownBy_refl w none) hb) (by by_cases e:v.ownBlock=none;exact .inl e;exact .inr e)
def Texts (B:Nat) (w:World) (v:Value) (ps:List (List UInt8)):Prop:=w.ownsRow B 9 1 v (ps.map bs).length (scells (ps.map bs))
theorem Texts.below {w w':World} {B:Nat} {v:Value} {ps:List (List UInt8)} (h:Texts B w v ps) (hb:Below w.heap.size w w'):Texts B w' v ps:=sown_below h hb
def IRow (E:TypeId) (sz B:Nat) (w:World) (v:Value) (n:Nat) (xs:List Value):Prop:=w.ownsRow B E sz v n xs∧v≠.slice none 0 0
theorem irow_new {E:TypeId} {sz:Nat} {w1 w:World} (h:Below w1.heap.size w1 w):IRow E sz w1.heap.size (w.alloc (.cells #[] E)) (.slice (some ⟨w.heap.size,0,none⟩) 0 0) 0 []:=
 ⟨⟨by simp,.inr ⟨w.heap.size,0,#[],rfl,h.size,by show (w.heap.push _)[w.heap.size]? = _;simp,yJ _,by unfold maxLen;omega,by simp,by simp⟩⟩,by simp⟩
theorem IRow.al {E:TypeId} {sz B n:Nat} {w:World} {v:Value} {xs:List Value} (h:IRow E sz B w v n xs) (o:Obj):IRow E sz B (w.alloc o) v n xs:=⟨h.1.alloc o,h.2⟩
theorem IRow.open {E:TypeId} {sz B n:Nat} {w:World} {v:Value} {xs:List Value} (h:IRow E sz B w v n xs):∃g cap,v=.slice (some ⟨g,0,none⟩) n cap∧B≤g∧w.ownsRow g E sz (.slice (some ⟨g,0,none⟩) n cap) n xs∧n≤cap:=by
 obtain ⟨⟨h1,h2⟩,h3⟩:=h
 rcases h2 with ⟨e,_⟩ | ⟨g,cap,cur,rfl,hg,hb,hc,k⟩
 ·exact absurd e h3
 ·exact ⟨g,cap,rfl,hg,⟨h1,.inr ⟨g,cap,cur,rfl,yJ _,hb,hc,k⟩⟩,hc⟩
def IBox (E:TypeId) (w1 w:World) (gb:Nat) (c:Array Value):Prop:=w1.heap.size≤gb∧w.heap[gb]? = some (.cells c E (0,0))
theorem ibox_new {E:TypeId} {w1 w:World} (h:Below w1.heap.size w1 w) (c:Array Value):IBox E w1 (w.alloc (.cells c E)) w.heap.size c:=⟨h.size,by show (w.heap.push _)[w.heap.size]? = _;simp⟩
theorem IBox.lt {E:TypeId} {w1 w:World} {gb:Nat} {c:Array Value} (h:IBox E w1 w gb c):gb<w.heap.size:=(Array.getElem?_eq_some_iff.1 h.2).1
theorem IBox.al {E:TypeId} {w1 w:World} {gb:Nat} {c:Array Value} (h:IBox E w1 w gb c) (o:Obj):IBox E w1 (w.alloc o) gb c:=⟨h.1,by
 have:=h.lt
 show (w.heap.push o)[gb]? = _
 rw [Array.getElem?_push,if_neg (by omega)];exact h.2⟩
theorem IBox.same {E:TypeId} {w1 w w':World} {gb:Nat} {c:Array Value} (h:IBox E w1 w gb c) (e:w'.heap[gb]? = w.heap[gb]?):IBox E w1 w' gb c:=⟨h.1,e.trans h.2⟩
theorem IBox.news {E:TypeId} {w1 w:World} {gb:Nat} {c:Array Value} (h:IBox E w1 w gb c):∀i u,c.toList[i]? = some u→w.cell? (Addr.add ⟨gb,0,none⟩ i)=some u:=fun i u hu=>by
 rw [Lib.add_plain,Nat.zero_add]
 rw [Array.getElem?_toList] at hu
 simp [World.cell?,h.2,hu]
theorem ins_app {P:Program} {w1 w:World} {ops:Array Oper} {o:Oper} {a:Act} {K:Act→World→Prop} {Q:Exit→Act→World→Prop} {Ex:Prop} (hgd:o.guard=none) (s x:Operand) (t:TypeId)
  (ho:o.op=.call { callee:=.builtin .append,args:=#[s,x],argTypes:=#[t,t] })
  (E:TypeId) (i:TypeInfo) (z:Value) (size bytes:Nat) (ht:P.underlying t=some (.slice E)) (hi:P.info? E=some i) (hz:i.zero=some z)
  (hsize:i.size=size) (hby:i.bytes=bytes) (hzs:z.cells.size=size) (hsz:0<size)
  (v:Value) (n:Nat) (xs:List Value) (hs:a.eval s=v) (hr:IRow E size w1.heap.size w v n xs) (kp:Below w1.heap.size w1 w)
  (ad:Addr) (m c:Nat) (news:List Value) (hx:a.eval x=.slice (some ad) m c) (hl:news.length=m*size) (hnews:∀j u,news[j]? = some u→w.cell? (ad.add j)=some u) (h1:∀u ∈ news,u.oneCell'=true)
  (h63:n+m≤maxLen) (hbytes:(n+m)*bytes≤140737488355328)
  (h:∀v' w',IRow E size w1.heap.size w' v' (n+m) (xs++news)→Below w1.heap.size w1 w'→(∀k,k<w.heap.size→some k≠v.ownBlock→w'.heap[k]? = w.heap[k]?)→K (a.put o.dst v') w') :
  if Region.wanted o (yielded ops a.tmps)=true then Oper.wp P o a w K Q else Ex:=by
 have hw:Region.wanted o (yielded ops a.tmps)=true:=by simp [Region.wanted,hgd]
 rw [if_pos hw]
 refine wp_append_own w s x t ho w1.heap.size E i z size bytes ht hi hz hsize hby hzs hsz v n xs hs hr.1 ad m c news hx hl hnews h1 h63 hbytes kp.size ?_
 intro v' w' hown hg hn
 refine h v' w' ⟨hown,fun e=>hr.2 (hn.1 e).1⟩ (kp.grown hg kp.size ?_) (fun k hk hne=>hg.block k hk hne)
 intro k hk
 rcases hr.1.2 with ⟨rfl,_⟩ | ⟨g,cap,cur,rfl,hg',_⟩
 ·simp [Value.ownBlock] at hk
 ·simp [Value.ownBlock] at hk;omega
theorem owns_re {E:TypeId} {sz B n n':Nat} {w:World} {v:Value} {xs xs':List Value} (h:IRow E sz B w v n xs) (hn:n=n') (hx:xs=xs'):IRow E sz B w v n' xs':=by subst hn hx;exact h
def hiA (g cap k sz:Nat):Addr:=if cap=k then ⟨g,0,none⟩ else ⟨g,k*sz,none⟩
theorem hiA_at {g cap k sz:Nat} (h:k<cap) (i:Nat):(hiA g cap k sz).add i=⟨g,k*sz+i,none⟩:=by
 rw [hiA,if_neg (by omega),Lib.add_plain]
theorem SS.hi {w w':World} {g cap:Nat} {xs:List ByteArray} (h:SS w g cap xs) (hb:Below w.heap.size w w') (k:Nat):∀i u,((xs.drop k).map Value.string)[i]? = some u→w'.cell? (Addr.add (hiA g cap k 1) i)=some u:=fun i u hu=>by
 have hlt:=(List.getElem?_eq_some_iff.1 hu).1
 rw [List.length_map,List.length_drop] at hlt
 obtain ⟨_,_,hc,_⟩:=h.block
 have:=(h.below hb h.lt).cell (k+i) (by omega)
 rw [hiA_at (by omega),Nat.mul_one,this,←hu]
 simp [show k+i<xs.length by omega]
theorem takeD {P:Program} {ops:Array Oper} {Q:Exit→Act→World→Prop} {md:Region.Mode} {S:World→Prop} {i:Nat} {oi:Oper} {v:Value} {d:Option Tmp} {fuel:Nat} {listed:Array Bool} {a:Act} {w:World} (hi:ops[i]? = some oi) (hd:oi.dst=d)
  (hs:Region.noSelect ops=true) (hf:Region.free md ops listed i=true) (hr:(Region.ready md ops listed).contains i=true)
  (hQ:∀c a w,Q (.panic c) (a.put d v) w→Q (.panic c) a w) (hy:YieldsIf P ops S oi v a) (hS:S w)
  (h:wpAnyH P md ops Q S fuel (listed.setIfInBounds i true) (a.put d v) w):wpAnyH P md ops Q S (fuel+1) listed a w:=by
 subst hd
 exact wpAnyH_take hi hs hf hr hQ hy hS h
theorem takeU {P:Program} {ops:Array Oper} {Q:Exit→Act→World→Prop} {md:Region.Mode} {S:World→Prop} {oi:Oper} {fuel:Nat} {listed:Array Bool} {a:Act} {w:World} (i d:Nat) (hi:ops[i]? = some oi) (hd:oi.dst=some d) (hS:S w)
  (h:wpAnyH P md ops Q S fuel (listed.setIfInBounds i true) (a.put (some d) undef) w)
  (hs:Region.noSelect ops=true:=by kernel_rfl) (hf:Region.free md ops listed i=true:=by kernel_rfl) (hr:(Region.ready md ops listed).contains i=true:=by kernel_rfl)
  (hQ:∀c a w,Q (.panic c) (a.put (some d) undef) w→Q (.panic c) a w:=by exact fun _ _ _ h=>h) (hw:Region.wanted oi (yielded ops a.tmps)=false:=by kernel_rfl):wpAnyH P md ops Q S (fuel+1) listed a w:=
 takeD hi hd hs hf hr hQ (Or.inr ⟨hw,rfl⟩) hS h
theorem takeW {P:Program} {ops:Array Oper} {Q:Exit→Act→World→Prop} {md:Region.Mode} {S:World→Prop} {oi:Oper} {fuel:Nat} {listed:Array Bool} {a:Act} {w:World} (i d:Nat) (v:Value) (hi:ops[i]? = some oi) (hd:oi.dst=some d) (hS:S w)
  (h:wpAnyH P md ops Q S fuel (listed.setIfInBounds i true) (a.put (some d) v) w)
  (hs:Region.noSelect ops=true:=by kernel_rfl) (hf:Region.free md ops listed i=true:=by kernel_rfl) (hr:(Region.ready md ops listed).contains i=true:=by kernel_rfl)
  (hQ:∀c a w,Q (.panic c) (a.put (some d) v) w→Q (.panic c) a w:=by exact fun _ _ _ h=>h) (hy:YieldsIf P ops S oi v a:=by exact Or.inl ⟨by rfl,fun wz hz=>by (go_simp;try with_reducible rfl)⟩):wpAnyH P md ops Q S (fuel+1) listed a w:=
 takeD hi hd hs hf hr hQ hy hS h
theorem tW {P:Program} {ops:Array Oper} {Q:Exit→Act→World→Prop} {md:Region.Mode} {S:World→Prop} {oi:Oper} {fuel:Nat} {listed:Array Bool} {a:Act} {w:World} (i d:Nat) (v:Value) (hS:S w) (h:wpAnyH P md ops Q S fuel (listed.setIfInBounds i true) (a.put (some d) v) w) (hi:ops[i]? = some oi:=by rfl) (hd:oi.dst=some d:=by rfl) (hs:Region.noSelect ops=true:=by kernel_rfl) (hf:Region.free md ops listed i=true:=by kernel_rfl) (hr:(Region.ready md ops listed).contains i=true:=by kernel_rfl) (hQ:∀c a w,Q (.panic c) (a.put (some d) v) w→Q (.panic c) a w:=by exact fun _ _ _ h=>h) (hy:YieldsIf P ops S oi v a:=by exact Or.inl ⟨by rfl,fun wz hz=>by (go_simp;try with_reducible rfl)⟩):wpAnyH P md ops Q S (fuel+1) listed a w:=takeW i d v hi hd hS h hs hf hr hQ hy
theorem tU {P:Program} {ops:Array Oper} {Q:Exit→Act→World→Prop} {md:Region.Mode} {S:World→Prop} {oi:Oper} {fuel:Nat} {listed:Array Bool} {a:Act} {w:World} (i d:Nat) (hS:S w) (h:wpAnyH P md ops Q S fuel (listed.setIfInBounds i true) (a.put (some d) undef) w) (hi:ops[i]? = some oi:=by rfl) (hd:oi.dst=some d:=by rfl) (hs:Region.noSelect ops=true:=by kernel_rfl) (hf:Region.free md ops listed i=true:=by kernel_rfl) (hr:(Region.ready md ops listed).contains i=true:=by kernel_rfl) (hQ:∀c a w,Q (.panic c) (a.put (some d) undef) w→Q (.panic c) a w:=by exact fun _ _ _ h=>h) (hw:Region.wanted oi (yielded ops a.tmps)=false:=by kernel_rfl):wpAnyH P md ops Q S (fuel+1) listed a w:=takeU i d hi hd hS h hs hf hr hQ hw
def AllReadyI (P:Program) (md:Region.Mode) (ops:Array Oper) (Q:Exit→Act→World→Prop) (S:World→Prop) (I:Nat→Array Bool→Act→World→Prop) (n:Nat) (listed:Array Bool) (a:Act) (w:World) (rs:List Nat):Prop:=
 ∀i ∈ rs,wpOp P ops Q i (fun a' w'=>S w'∧I n (listed.setIfInBounds i true) a' w') a w
theorem AllReadyI.nil {P:Program} {md:Region.Mode} {ops:Array Oper} {Q:Exit→Act→World→Prop} {S:World→Prop} {I:Nat→Array Bool→Act→World→Prop} {n:Nat} {listed:Array Bool} {a:Act} {w:World}:AllReadyI P md ops Q S I n listed a w []:=fun _ h=>by cases h
theorem AllReadyI.cons {P:Program} {md:Region.Mode} {ops:Array Oper} {Q:Exit→Act→World→Prop} {S:World→Prop} {I:Nat→Array Bool→Act→World→Prop} {n:Nat} {listed:Array Bool} {a:Act} {w:World} {i:Nat} {o:Oper} {rs:List Nat} (ho:ops[i]? = some o)
  (h:∀K':Act→World→Prop,Shut (∀a w,S w→I n (listed.setIfInBounds i true) a w→K' a w)→if Region.wanted o (yielded ops a.tmps)=true then Oper.wp P o a w K' Q else K' (a.put o.dst undef) w)
  (hs:AllReadyI P md ops Q S I n listed a w rs):AllReadyI P md ops Q S I n listed a w (i::rs):=fun j hj=>by
 rcases List.mem_cons.1 hj with rfl | hj
 ·exact wpOp_step ho (fun K' hK=>h K' (fun a w hS hW=>hK a w ⟨hS,hW⟩))
 ·exact hs j hj
theorem wpAnyH_inv {P:Program} {ops:Array Oper} {Q:Exit→Act→World→Prop} {md:Region.Mode} {S:World→Prop} (I:Nat→Array Bool→Act→World→Prop)
  (step:∀n listed a w,I (n+1) listed a w→Region.ready md ops listed≠[]∧AllReadyI P md ops Q S I n listed a w (Region.ready md ops listed))
  (fin:∀listed a w,I 0 listed a w→Region.ready md ops listed=[]∧Q .normal a w) :
  ∀n listed a w,I n listed a w→wpAnyH P md ops Q S n listed a w
 | 0,listed,a,w,h=>fin listed a w h
 | n+1,listed,a,w,h=>⟨fun e=>absurd e (step n listed a w h).1,fun i hi=>wpOp_mono (fun a' w' k=>⟨k.1,wpAnyH_inv I step fin n _ a' w' k.2⟩) ((step n listed a w h).2 i hi)⟩
theorem ready_step {P:Program} {ops:Array Oper} {Q:Exit→Act→World→Prop} {md:Region.Mode} {S:World→Prop} {I:Nat→Array Bool→Act→World→Prop} {n:Nat} {listed:Array Bool} {a:Act} {w:World} {rs:List Nat} (hr:Region.ready md ops listed=rs) (hne:rs≠[])
  (h:AllReadyI P md ops Q S I n listed a w rs):Region.ready md ops listed≠[]∧AllReadyI P md ops Q S I n listed a w (Region.ready md ops listed):=by
 subst hr
 exact ⟨hne,h⟩
structure Holds (S:World→Prop) (w0:World) (n:Nat):Prop where
 call:∀{wx wy:World},S wx→Below wx.heap.size wx wy→S wy
 set:∀{wx:World} (k j:Nat) (v:Value),S wx→n≤k→S (wx.setCell ⟨k,j,none⟩ v)
 size:∀{wx:World},S wx→n≤wx.heap.size
 below:∀{wx:World},S wx→Below w0.heap.size w0 wx
theorem Holds.drew {S:World→Prop} {w0:World} {n:Nat} (h:Holds S w0 n) {wx:World} (hs:S wx):S wx.drew:=h.call hs (yH _ _).drew
theorem Holds.al {S:World→Prop} {w0:World} {n:Nat} (h:Holds S w0 n) {wx:World} (hs:S wx) (o:Obj):S (wx.alloc o):=h.call hs (yA (yH _ _) o)
def Kp (w1 wx:World):Prop:=Below w1.heap.size w1 wx
theorem kp_holds (w1:World):Holds (Kp w1) w1 w1.heap.size where
 call:=fun h hb=>yB h hb
 set:=fun k j v h hk=>yC h _ _ _ hk
 size:=fun h=>h.size
 below:=fun h=>h
theorem Kp.cell {w1 wx:World} (h:Kp w1 wx) {b j:Nat} {v:Value} (hc:w1.cell? ⟨b,j,none⟩=some v):wx.cell? ⟨b,j,none⟩=some v:=(Below.cell h (p:=⟨b,j,none⟩) (yG hc)).trans hc
theorem Kp.new (w1:World):Kp w1 w1:=yH _ _
section
variable {P:Program} {ops:Array Oper} {Q:Exit→Act→World→Prop} {a:Act} {w w':World} {rest:List Oper} {o:Oper} {v:Value} {d:Option Tmp}
theorem wpList_val (hg:o.guard=none) (hd:o.dst=d) (hr:(execOp a.eval o).run P w=.ok (.value v) w') (h:wpList P ops Q rest (a.put d v) w'):wpList P ops Q (o::rest) a w:=
 wpList_plain hg fun K hK=>by
  subst hd
  unfold Oper.wp
  rw [hr]
  exact hK _ _ h
theorem wpList_same (hg:o.guard=none) (hd:o.dst=d) (hr:(execOp a.eval o).run P w=.ok (.value v) w) (h:wpList P ops Q rest (a.put d v) w):wpList P ops Q (o::rest) a w:=wpList_val hg hd hr h
theorem wpList_none (hg:o.guard=none) (hd:o.dst=d) (hr:(execOp a.eval o).run P w=.ok .skip w') (h:wpList P ops Q rest (a.put d undef) w'):wpList P ops Q (o::rest) a w:=
 wpList_plain hg fun K hK=>by
  subst hd
  unfold Oper.wp
  rw [hr]
  exact hK _ _ h
theorem run_v {s:Sem Value} (h:s.run P w=.ok v w'):(do pure (Next.value (←s)):Sem Next).run P w=.ok (.value v) w':=by rw [Sem.run_bind,h];rfl
theorem run_u {s:Sem Unit} (h:s.run P w=.ok () w'):(do s;pure Next.skip:Sem Next).run P w=.ok .skip w':=by rw [Sem.run_bind,h];rfl
end
theorem wpList_append_opt {P:Program} (w:World) {ops:Array Oper} {rest:List Oper} {o:Oper} {a:Act} {Q:Exit→Act→World→Prop} (hgd:o.guard=none) (s x:Operand) (t:TypeId)
  (ho:o.op=.call { callee:=.builtin .append,args:=#[s,x],argTypes:=#[t,t] })
  (base:Nat) (e:TypeId) (i:TypeInfo) (z:Value) (size bytes:Nat) (ht:P.underlying t=some (.slice e)) (hi:P.info? e=some i) (hz:i.zero=some z)
  (hsize:i.size=size) (hby:i.bytes=bytes) (hzs:z.cells.size=size) (hsz:0<size)
  (v:Value) (n:Nat) (xs:List Value) (hs:a.eval s=v) (hown:w.ownsRow base e size v n xs)
  (ao:Option Addr) (m c:Nat) (news:List Value) (hx:a.eval x=.slice ao m c) (hn:ao=none→m=0∧c=0) (hl:news.length=m*size) (hnews:∀ad,ao=some ad→∀j u,news[j]? = some u→w.cell? (ad.add j)=some u) (h1:∀u ∈ news,u.oneCell'=true)
  (h63:n+m≤maxLen) (hbytes:(n+m)*bytes≤140737488355328) (hbase:base≤w.heap.size)
  (h:∀v' w',w'.ownsRow base e size v' (n+m) (xs++news)→w.grownBy w' v.ownBlock→(v'=.slice none 0 0↔v=.slice none 0 0∧m=0)→wpList P ops Q rest (a.put o.dst v') w'):wpList P ops Q (o::rest) a w:=by
 cases ao with
 | some ad=>exact wpList_append_own w hgd s x t ho base e i z size bytes ht hi hz hsize hby hzs hsz v n xs hs hown ad m c news hx hl (hnews ad rfl) h1 h63 hbytes hbase h
 | none=>
  obtain ⟨rfl,rfl⟩:=hn rfl
  obtain rfl:news=[]:=List.eq_nil_of_length_eq_zero (by omega)
  refine wpList_append_own_none hgd s x t ho base e i size ht hi v n xs hs hown hx (h v w (by simpa using hown) ⟨rfl,rfl,rfl,yJ _,fun _ _ _=>rfl⟩ (by simp))
def setsW (w:World) (g:Nat):Nat→List Value→World
 | _,[]=>w
 | i,v::vs=>setsW (w.setCell ⟨g,i,none⟩ v) g (i+1) vs
theorem sets_keep {P:World→Prop} {g:Nat} (h:∀w j v,P w→P (w.setCell ⟨g,j,none⟩ v)):∀(vs:List Value) (i:Nat) (w:World),P w→P (setsW w g i vs)
 | [],_,_,hp=>hp
 | v::vs,i,w,hp=>sets_keep h vs (i+1) _ (h w i v hp)
theorem below_sets {B g:Nat} {w0 w:World} (h:Below B w0 w) (hg:B≤g) (i:Nat) (vs:List Value):Below B w0 (setsW w g i vs):=
 sets_keep (P:=fun wx=>Below B w0 wx) (fun wx j v hx=>hx.setCell (p:=⟨g,j,none⟩) hg v) vs i w h
theorem Blk.other_sets {w:World} {k g t:Nat} {arr:Array Value} (h:Blk w k arr t) (hk:k≠g) (i:Nat) (vs:List Value):Blk (setsW w g i vs) k arr t:=
 sets_keep (P:=fun wx=>Blk wx k arr t) (fun wx j v hx=>hx.other g j v hk) vs i w h
end
end Go.Proofs.YtmkedfdnokmglaaGreat
