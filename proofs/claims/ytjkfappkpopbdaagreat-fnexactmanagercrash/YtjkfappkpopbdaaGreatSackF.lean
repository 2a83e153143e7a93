/-
  Texts in one: StAll, Cel, MarkFM, MarkAM, OwnI, OwnM, OwnC, CloneQ, CopyC, ROwn, SumI4, Caps, CapI, KpAB, BackM, MarkN, Held, MarkS, MarkX, MarkK.
-/
import Derived.Test.YtjkfappkpopbdaaGreatSackA
import Derived.Deep.CutBlock
import Derived.Deep.CutRange
import Derived.Lib.SliceRun
import Derived.Test.YtjkfappkpopbdaaGreatSackB
import Derived.RangeFuncNested
import Derived.RangeFuncBound
import Derived.RangeFuncCalls
import Derived.RangeFuncLeaves
import Derived.Shelf.AbstractIn
import Derived.Shelf.RegionOpen
import Derived.OwnWalkIn
import Derived.TacticsInMore
import Derived.LoopNIn
import Derived.LoopIn
set_option maxRecDepth 100000
set_option maxHeartbeats 16000000
set_option linter.unusedVariables false
set_option linter.unusedSimpArgs false
/-
 The laws' own toRes and eqRes,with the world behind them;walks over the dump.
-/
namespace Go.Proofs.YtjkfappkpopbdaaGreat
open Go.RowKit
set_option linter.unusedVariables false
set_option maxRecDepth 100000 in
set_option maxHeartbeats 1000000 in
theorem toRes_ex (a b:Int) (w:World) :
  Calls Tryz.prog 124 #[rv a b] w fun e w'=>e=.returned (rv a b)∧∃o1 o2 o3,w'=((w.alloc o1).alloc o2).alloc o3:=by
 go_enter Tryz.func124,Tryz.ntmps124
 go_wp2
 exact bodyPost_ret (v:=rv a b) (by simp [results,Tryz.results124,go_sem]) rfl ⟨rfl,_,_,_,rfl⟩
set_option maxRecDepth 100000 in
set_option maxHeartbeats 1000000 in
theorem eqRes_ex (a b:Int) (w:World) :
  Calls Tryz.prog 148 #[rv a b,rv a b] w fun e w'=>e=.returned (.bool true)∧∃o1 o2 n,w'=((w.alloc o1).alloc o2).drewN n:=by
 go_enter Tryz.func148,Tryz.ntmps148
 go_wp2
 go_ret
 refine ⟨rfl,?_⟩
 first | exact ⟨_,_,0,rfl⟩ | exact ⟨_,_,1,rfl⟩ | exact ⟨_,_,2,rfl⟩ | exact ⟨_,_,3,rfl⟩ | exact ⟨_,_,4,rfl⟩
end Go.Proofs.YtjkfappkpopbdaaGreat
/-
 Rows of Ask values: in memory,and rows that a call makes and fills one by one (mkrow.py wrote this).
-/
namespace Go.Proofs.YtjkfappkpopbdaaGreat
open Go.RowKit
set_option linter.unusedVariables false
structure Ask where
 mem:Int
 cpu:Int
 count:Int
 node:List UInt8
 missed:Int
abbrev askv (q:Ask):Value:=.agg #[.int .i64 q.mem,.int .i64 q.cpu,.int .i64 q.count,.string (bs q.node),.int .i64 q.missed]
def AskAt (w:World) (b p:Nat) (q:Ask):Prop:=
 w.cell? ⟨b,p,none⟩=some (.int .i64 q.mem)∧w.cell? ⟨b,p+1,none⟩=some (.int .i64 q.cpu)∧w.cell? ⟨b,p+2,none⟩=some (.int .i64 q.count)∧w.cell? ⟨b,p+3,none⟩=some (.string (bs q.node))∧w.cell? ⟨b,p+4,none⟩=some (.int .i64 q.missed)
def AskRow (w:World) (ao:Option Addr) (len:Nat) (l:List Ask):Prop:=
 len=l.length∧(len=0∨∃b off,ao=some ⟨b,off,none⟩∧∀i (h:i<l.length),AskAt w b (off+i*5) l[i])
theorem AskAt.lt {w:World} {b p:Nat} {q:Ask} (h:AskAt w b p q):b<w.heap.size:=yG h.1
theorem AskAt.below {w w':World} {b p:Nat} {q:Ask} (h:AskAt w b p q) (hb:Below w.heap.size w w'):AskAt w' b p q:=
 ⟨(hb.cell h.lt).trans h.1,(hb.cell h.lt).trans h.2.1,(hb.cell h.lt).trans h.2.2.1,(hb.cell h.lt).trans h.2.2.2.1,(hb.cell h.lt).trans h.2.2.2.2⟩
theorem AskRow.below {w w':World} {ao:Option Addr} {len:Nat} {l:List Ask} (h:AskRow w ao len l) (hb:Below w.heap.size w w'):AskRow w' ao len l:=by
 obtain ⟨h1,h2⟩:=h
 refine ⟨h1,?_⟩
 rcases h2 with h2 | ⟨b,off,h3,h4⟩
 ·exact .inl h2
 ·exact .inr ⟨b,off,h3,fun i h=>(h4 i h).below hb⟩
theorem AskRow.nil (w:World) (ao:Option Addr):AskRow w ao 0 []:=⟨rfl,.inl rfl⟩
theorem AskRow.at {w:World} {ao:Option Addr} {len:Nat} {l:List Ask} (h:AskRow w ao len l) {i:Nat} (hi:i<len):∃b off,ao=some ⟨b,off,none⟩∧∀(h:i<l.length),AskAt w b (off+i*5) l[i]:=by
 obtain ⟨h1,h2⟩:=h
 rcases h2 with h2 | ⟨b,off,h3,h4⟩
 ·omega
 ·exact ⟨b,off,h3,fun hi=>h4 i hi⟩
def AskBlk (w:World) (t:TypeId) (g n k:Nat) (l:List Ask):Prop:=
 ∃arr:Array Value,w.heap[g]? = some (.cells arr t (0,0))∧arr.size=n*5∧∀i (h:i<l.length),i<k→arr[i*5]? = some (.int .i64 l[i].mem)∧arr[i*5+1]? = some (.int .i64 l[i].cpu)∧arr[i*5+2]? = some (.int .i64 l[i].count)∧arr[i*5+3]? = some (.string (bs l[i].node))∧arr[i*5+4]? = some (.int .i64 l[i].missed)
theorem AskBlk.lt {w:World} {t:TypeId} {g n k:Nat} {l:List Ask} (h:AskBlk w t g n k l):g<w.heap.size:=let ⟨_,h,_⟩:=h;lt_of_block h
theorem AskBlk.below {w w':World} {t:TypeId} {g n k:Nat} {l:List Ask} (h:AskBlk w t g n k l) (hb:Below w.heap.size w w'):AskBlk w' t g n k l:=by
 have hlt:=h.lt
 obtain ⟨arr,h1,h2⟩:=h
 exact ⟨arr,(hb.block g hlt).trans h1,h2⟩
theorem AskBlk.cell {w:World} {t:TypeId} {g n k:Nat} {l:List Ask} (h:AskBlk w t g n k l) {j:Nat} (hj:j<n*5):∃v,w.cell? ⟨g,j,none⟩=some v:=by
 obtain ⟨arr,h1,h2,_⟩:=h
 exact ⟨arr[j]'(by omega),by simp [World.cell?,h1,Array.getElem?_eq_getElem (show j<arr.size by omega)]⟩
theorem AskBlk.frozen {w:World} {t:TypeId} {g n k:Nat} {l:List Ask} (h:AskBlk w t g n k l) (j:Nat):w.frozen? ⟨g,j,none⟩=false:=by
 obtain ⟨arr,h1,h2,_⟩:=h
 simp [World.frozen?,h1]
theorem AskBlk.row {w:World} {t:TypeId} {g n:Nat} {l:List Ask} (h:AskBlk w t g n n l) (hl:n=l.length):AskRow w (some ⟨g,0,none⟩) n l:=by
 obtain ⟨arr,h1,h2,h3⟩:=h
 refine ⟨hl,.inr ⟨g,0,rfl,fun i hi=>?_⟩⟩
 obtain ⟨a,b,c,d,e⟩:=h3 i hi (by omega)
 unfold AskAt
 simp only [Nat.zero_add]
 exact ⟨by simp [World.cell?,h1,a],by simp [World.cell?,h1,b],by simp [World.cell?,h1,c],by simp [World.cell?,h1,d],by simp [World.cell?,h1,e]⟩
theorem askblk_made (w:World) (t:TypeId) (z:Array Value) (n:Nat) (l:List Ask):AskBlk (w.alloc (.cells (madeCells z (n*5)) t)) t w.heap.size n 0 l:=
 ⟨madeCells z (n*5),by show (w.heap.push _)[w.heap.size]? = _;simp,size_madeCells _ _,fun i _ h=>absurd h (by omega)⟩
def putAsk (w:World) (g p:Nat) (q:Ask):World:=(((((w.setCell ⟨g,p,none⟩ (.int .i64 q.mem)).setCell ⟨g,p+1,none⟩ (.int .i64 q.cpu)).setCell ⟨g,p+2,none⟩ (.int .i64 q.count)).setCell ⟨g,p+3,none⟩ (.string (bs q.node))).setCell ⟨g,p+4,none⟩ (.int .i64 q.missed))
theorem AskBlk.step {w:World} {t:TypeId} {g n k:Nat} {l:List Ask} (h:AskBlk w t g n k l) (hk:k<n) (hl:k<l.length):AskBlk (putAsk w g (k*5) l[k]) t g n (k+1) l:=by
 obtain ⟨arr,h1,h2,h3⟩:=h
 have e1:=heap_setCell_same w g (k*5) _ _ (.int .i64 l[k].mem) h1
 have e2:=heap_setCell_same _ g (k*5+1) _ _ (.int .i64 l[k].cpu) e1
 have e3:=heap_setCell_same _ g (k*5+2) _ _ (.int .i64 l[k].count) e2
 have e4:=heap_setCell_same _ g (k*5+3) _ _ (.string (bs l[k].node)) e3
 have e5:=heap_setCell_same _ g (k*5+4) _ _ (.int .i64 l[k].missed) e4
 refine ⟨_,e5,by simp [h2],fun i hi hik=>?_⟩
 by_cases e:i=k
 ·subst e
  have q1:i*5+4<arr.size:=by omega
  refine ⟨?_,?_,?_,?_,?_⟩<;>simp [Array.getElem?_setIfInBounds,h2]<;>omega
 ·obtain ⟨a,b,c,d,e⟩:=h3 i hi (by omega)
  refine ⟨?_,?_,?_,?_,?_⟩
  ·rw [←a];simp only [Array.getElem?_setIfInBounds];repeat rw [if_neg (by omega)]
  ·rw [←b];simp only [Array.getElem?_setIfInBounds];repeat rw [if_neg (by omega)]
  ·rw [←c];simp only [Array.getElem?_setIfInBounds];repeat rw [if_neg (by omega)]
  ·rw [←d];simp only [Array.getElem?_setIfInBounds];repeat rw [if_neg (by omega)]
  ·rw [←e];simp only [Array.getElem?_setIfInBounds];repeat rw [if_neg (by omega)]
end Go.Proofs.YtjkfappkpopbdaaGreat
/-
 Rows of Machine values: in memory,and rows that a call makes and fills one by one (mkrow.py wrote this).
-/
namespace Go.Proofs.YtjkfappkpopbdaaGreat
open Go.RowKit
set_option linter.unusedVariables false
structure Mac where
 name:List UInt8
 mem:Int
 cpu:Int
 seen:Int
abbrev macv (q:Mac):Value:=.agg #[.string (bs q.name),.int .i64 q.mem,.int .i64 q.cpu,.int .i64 q.seen]
def MacAt (w:World) (b p:Nat) (q:Mac):Prop:=
 w.cell? ⟨b,p,none⟩=some (.string (bs q.name))∧w.cell? ⟨b,p+1,none⟩=some (.int .i64 q.mem)∧w.cell? ⟨b,p+2,none⟩=some (.int .i64 q.cpu)∧w.cell? ⟨b,p+3,none⟩=some (.int .i64 q.seen)
def MacRow (w:World) (ao:Option Addr) (len:Nat) (l:List Mac):Prop:=
 len=l.length∧(len=0∨∃b off,ao=some ⟨b,off,none⟩∧∀i (h:i<l.length),MacAt w b (off+i*4) l[i])
theorem MacAt.lt {w:World} {b p:Nat} {q:Mac} (h:MacAt w b p q):b<w.heap.size:=yG h.1
theorem MacAt.below {w w':World} {b p:Nat} {q:Mac} (h:MacAt w b p q) (hb:Below w.heap.size w w'):MacAt w' b p q:=
 ⟨(hb.cell h.lt).trans h.1,(hb.cell h.lt).trans h.2.1,(hb.cell h.lt).trans h.2.2.1,(hb.cell h.lt).trans h.2.2.2⟩
theorem MacRow.below {w w':World} {ao:Option Addr} {len:Nat} {l:List Mac} (h:MacRow w ao len l) (hb:Below w.heap.size w w'):MacRow w' ao len l:=by
 obtain ⟨h1,h2⟩:=h
 refine ⟨h1,?_⟩
 rcases h2 with h2 | ⟨b,off,h3,h4⟩
 ·exact .inl h2
 ·exact .inr ⟨b,off,h3,fun i h=>(h4 i h).below hb⟩
theorem MacRow.nil (w:World) (ao:Option Addr):MacRow w ao 0 []:=⟨rfl,.inl rfl⟩
theorem MacRow.at {w:World} {ao:Option Addr} {len:Nat} {l:List Mac} (h:MacRow w ao len l) {i:Nat} (hi:i<len):∃b off,ao=some ⟨b,off,none⟩∧∀(h:i<l.length),MacAt w b (off+i*4) l[i]:=by
 obtain ⟨h1,h2⟩:=h
 rcases h2 with h2 | ⟨b,off,h3,h4⟩
 ·omega
 ·exact ⟨b,off,h3,fun hi=>h4 i hi⟩
def MacBlk (w:World) (t:TypeId) (g n k:Nat) (l:List Mac):Prop:=
 ∃arr:Array Value,w.heap[g]? = some (.cells arr t (0,0))∧arr.size=n*4∧∀i (h:i<l.length),i<k→arr[i*4]? = some (.string (bs l[i].name))∧arr[i*4+1]? = some (.int .i64 l[i].mem)∧arr[i*4+2]? = some (.int .i64 l[i].cpu)∧arr[i*4+3]? = some (.int .i64 l[i].seen)
theorem MacBlk.lt {w:World} {t:TypeId} {g n k:Nat} {l:List Mac} (h:MacBlk w t g n k l):g<w.heap.size:=let ⟨_,h,_⟩:=h;lt_of_block h
theorem MacBlk.below {w w':World} {t:TypeId} {g n k:Nat} {l:List Mac} (h:MacBlk w t g n k l) (hb:Below w.heap.size w w'):MacBlk w' t g n k l:=by
 have hlt:=h.lt
 obtain ⟨arr,h1,h2⟩:=h
 exact ⟨arr,(hb.block g hlt).trans h1,h2⟩
theorem MacBlk.cell {w:World} {t:TypeId} {g n k:Nat} {l:List Mac} (h:MacBlk w t g n k l) {j:Nat} (hj:j<n*4):∃v,w.cell? ⟨g,j,none⟩=some v:=by
 obtain ⟨arr,h1,h2,_⟩:=h
 exact ⟨arr[j]'(by omega),by simp [World.cell?,h1,Array.getElem?_eq_getElem (show j<arr.size by omega)]⟩
theorem MacBlk.frozen {w:World} {t:TypeId} {g n k:Nat} {l:List Mac} (h:MacBlk w t g n k l) (j:Nat):w.frozen? ⟨g,j,none⟩=false:=by
 obtain ⟨arr,h1,h2,_⟩:=h
 simp [World.frozen?,h1]
theorem MacBlk.row {w:World} {t:TypeId} {g n:Nat} {l:List Mac} (h:MacBlk w t g n n l) (hl:n=l.length):MacRow w (some ⟨g,0,none⟩) n l:=by
 obtain ⟨arr,h1,h2,h3⟩:=h
 refine ⟨hl,.inr ⟨g,0,rfl,fun i hi=>?_⟩⟩
 obtain ⟨a,b,c,d⟩:=h3 i hi (by omega)
 unfold MacAt
 simp only [Nat.zero_add]
 exact ⟨by simp [World.cell?,h1,a],by simp [World.cell?,h1,b],by simp [World.cell?,h1,c],by simp [World.cell?,h1,d]⟩
theorem macblk_made (w:World) (t:TypeId) (z:Array Value) (n:Nat) (l:List Mac):MacBlk (w.alloc (.cells (madeCells z (n*4)) t)) t w.heap.size n 0 l:=
 ⟨madeCells z (n*4),by show (w.heap.push _)[w.heap.size]? = _;simp,size_madeCells _ _,fun i _ h=>absurd h (by omega)⟩
def putMac (w:World) (g p:Nat) (q:Mac):World:=((((w.setCell ⟨g,p,none⟩ (.string (bs q.name))).setCell ⟨g,p+1,none⟩ (.int .i64 q.mem)).setCell ⟨g,p+2,none⟩ (.int .i64 q.cpu)).setCell ⟨g,p+3,none⟩ (.int .i64 q.seen))
theorem MacBlk.step {w:World} {t:TypeId} {g n k:Nat} {l:List Mac} (h:MacBlk w t g n k l) (hk:k<n) (hl:k<l.length):MacBlk (putMac w g (k*4) l[k]) t g n (k+1) l:=by
 obtain ⟨arr,h1,h2,h3⟩:=h
 have e1:=heap_setCell_same w g (k*4) _ _ (.string (bs l[k].name)) h1
 have e2:=heap_setCell_same _ g (k*4+1) _ _ (.int .i64 l[k].mem) e1
 have e3:=heap_setCell_same _ g (k*4+2) _ _ (.int .i64 l[k].cpu) e2
 have e4:=heap_setCell_same _ g (k*4+3) _ _ (.int .i64 l[k].seen) e3
 refine ⟨_,e4,by simp [h2],fun i hi hik=>?_⟩
 by_cases e:i=k
 ·subst e
  have q1:i*4+3<arr.size:=by omega
  refine ⟨?_,?_,?_,?_⟩<;>simp [Array.getElem?_setIfInBounds,h2]<;>omega
 ·obtain ⟨a,b,c,d⟩:=h3 i hi (by omega)
  refine ⟨?_,?_,?_,?_⟩
  ·rw [←a];simp only [Array.getElem?_setIfInBounds];repeat rw [if_neg (by omega)]
  ·rw [←b];simp only [Array.getElem?_setIfInBounds];repeat rw [if_neg (by omega)]
  ·rw [←c];simp only [Array.getElem?_setIfInBounds];repeat rw [if_neg (by omega)]
  ·rw [←d];simp only [Array.getElem?_setIfInBounds];repeat rw [if_neg (by omega)]
end Go.Proofs.YtjkfappkpopbdaaGreat
/-
 Rows of Cont values: in memory,and rows that a call makes and fills one by one (mkrow.py wrote this).
-/
namespace Go.Proofs.YtjkfappkpopbdaaGreat
open Go.RowKit
set_option linter.unusedVariables false
structure Con where
 id:Int
 app:Int
 node:List UInt8
 mem:Int
 cpu:Int
abbrev conv (q:Con):Value:=.agg #[.int .i64 q.id,.int .i64 q.app,.string (bs q.node),.int .i64 q.mem,.int .i64 q.cpu]
def ConAt (w:World) (b p:Nat) (q:Con):Prop:=
 w.cell? ⟨b,p,none⟩=some (.int .i64 q.id)∧w.cell? ⟨b,p+1,none⟩=some (.int .i64 q.app)∧w.cell? ⟨b,p+2,none⟩=some (.string (bs q.node))∧w.cell? ⟨b,p+3,none⟩=some (.int .i64 q.mem)∧w.cell? ⟨b,p+4,none⟩=some (.int .i64 q.cpu)
def ConRow (w:World) (ao:Option Addr) (len:Nat) (l:List Con):Prop:=
 len=l.length∧(len=0∨∃b off,ao=some ⟨b,off,none⟩∧∀i (h:i<l.length),ConAt w b (off+i*5) l[i])
theorem ConAt.lt {w:World} {b p:Nat} {q:Con} (h:ConAt w b p q):b<w.heap.size:=yG h.1
theorem ConAt.below {w w':World} {b p:Nat} {q:Con} (h:ConAt w b p q) (hb:Below w.heap.size w w'):ConAt w' b p q:=
 ⟨(hb.cell h.lt).trans h.1,(hb.cell h.lt).trans h.2.1,(hb.cell h.lt).trans h.2.2.1,(hb.cell h.lt).trans h.2.2.2.1,(hb.cell h.lt).trans h.2.2.2.2⟩
theorem ConRow.below {w w':World} {ao:Option Addr} {len:Nat} {l:List Con} (h:ConRow w ao len l) (hb:Below w.heap.size w w'):ConRow w' ao len l:=by
 obtain ⟨h1,h2⟩:=h
 refine ⟨h1,?_⟩
 rcases h2 with h2 | ⟨b,off,h3,h4⟩
 ·exact .inl h2
 ·exact .inr ⟨b,off,h3,fun i h=>(h4 i h).below hb⟩
theorem ConRow.nil (w:World) (ao:Option Addr):ConRow w ao 0 []:=⟨rfl,.inl rfl⟩
theorem ConRow.at {w:World} {ao:Option Addr} {len:Nat} {l:List Con} (h:ConRow w ao len l) {i:Nat} (hi:i<len):∃b off,ao=some ⟨b,off,none⟩∧∀(h:i<l.length),ConAt w b (off+i*5) l[i]:=by
 obtain ⟨h1,h2⟩:=h
 rcases h2 with h2 | ⟨b,off,h3,h4⟩
 ·omega
 ·exact ⟨b,off,h3,fun hi=>h4 i hi⟩
def ConBlk (w:World) (t:TypeId) (g n k:Nat) (l:List Con):Prop:=
 ∃arr:Array Value,w.heap[g]? = some (.cells arr t (0,0))∧arr.size=n*5∧∀i (h:i<l.length),i<k→arr[i*5]? = some (.int .i64 l[i].id)∧arr[i*5+1]? = some (.int .i64 l[i].app)∧arr[i*5+2]? = some (.string (bs l[i].node))∧arr[i*5+3]? = some (.int .i64 l[i].mem)∧arr[i*5+4]? = some (.int .i64 l[i].cpu)
theorem ConBlk.lt {w:World} {t:TypeId} {g n k:Nat} {l:List Con} (h:ConBlk w t g n k l):g<w.heap.size:=let ⟨_,h,_⟩:=h;lt_of_block h
theorem ConBlk.below {w w':World} {t:TypeId} {g n k:Nat} {l:List Con} (h:ConBlk w t g n k l) (hb:Below w.heap.size w w'):ConBlk w' t g n k l:=by
 have hlt:=h.lt
 obtain ⟨arr,h1,h2⟩:=h
 exact ⟨arr,(hb.block g hlt).trans h1,h2⟩
theorem ConBlk.cell {w:World} {t:TypeId} {g n k:Nat} {l:List Con} (h:ConBlk w t g n k l) {j:Nat} (hj:j<n*5):∃v,w.cell? ⟨g,j,none⟩=some v:=by
 obtain ⟨arr,h1,h2,_⟩:=h
 exact ⟨arr[j]'(by omega),by simp [World.cell?,h1,Array.getElem?_eq_getElem (show j<arr.size by omega)]⟩
theorem ConBlk.frozen {w:World} {t:TypeId} {g n k:Nat} {l:List Con} (h:ConBlk w t g n k l) (j:Nat):w.frozen? ⟨g,j,none⟩=false:=by
 obtain ⟨arr,h1,h2,_⟩:=h
 simp [World.frozen?,h1]
theorem ConBlk.row {w:World} {t:TypeId} {g n:Nat} {l:List Con} (h:ConBlk w t g n n l) (hl:n=l.length):ConRow w (some ⟨g,0,none⟩) n l:=by
 obtain ⟨arr,h1,h2,h3⟩:=h
 refine ⟨hl,.inr ⟨g,0,rfl,fun i hi=>?_⟩⟩
 obtain ⟨a,b,c,d,e⟩:=h3 i hi (by omega)
 unfold ConAt
 simp only [Nat.zero_add]
 exact ⟨by simp [World.cell?,h1,a],by simp [World.cell?,h1,b],by simp [World.cell?,h1,c],by simp [World.cell?,h1,d],by simp [World.cell?,h1,e]⟩
theorem conblk_made (w:World) (t:TypeId) (z:Array Value) (n:Nat) (l:List Con):ConBlk (w.alloc (.cells (madeCells z (n*5)) t)) t w.heap.size n 0 l:=
 ⟨madeCells z (n*5),by show (w.heap.push _)[w.heap.size]? = _;simp,size_madeCells _ _,fun i _ h=>absurd h (by omega)⟩
def putCon (w:World) (g p:Nat) (q:Con):World:=(((((w.setCell ⟨g,p,none⟩ (.int .i64 q.id)).setCell ⟨g,p+1,none⟩ (.int .i64 q.app)).setCell ⟨g,p+2,none⟩ (.string (bs q.node))).setCell ⟨g,p+3,none⟩ (.int .i64 q.mem)).setCell ⟨g,p+4,none⟩ (.int .i64 q.cpu))
theorem ConBlk.step {w:World} {t:TypeId} {g n k:Nat} {l:List Con} (h:ConBlk w t g n k l) (hk:k<n) (hl:k<l.length):ConBlk (putCon w g (k*5) l[k]) t g n (k+1) l:=by
 obtain ⟨arr,h1,h2,h3⟩:=h
 have e1:=heap_setCell_same w g (k*5) _ _ (.int .i64 l[k].id) h1
 have e2:=heap_setCell_same _ g (k*5+1) _ _ (.int .i64 l[k].app) e1
 have e3:=heap_setCell_same _ g (k*5+2) _ _ (.string (bs l[k].node)) e2
 have e4:=heap_setCell_same _ g (k*5+3) _ _ (.int .i64 l[k].mem) e3
 have e5:=heap_setCell_same _ g (k*5+4) _ _ (.int .i64 l[k].cpu) e4
 refine ⟨_,e5,by simp [h2],fun i hi hik=>?_⟩
 by_cases e:i=k
 ·subst e
  have q1:i*5+4<arr.size:=by omega
  refine ⟨?_,?_,?_,?_,?_⟩<;>simp [Array.getElem?_setIfInBounds,h2]<;>omega
 ·obtain ⟨a,b,c,d,e⟩:=h3 i hi (by omega)
  refine ⟨?_,?_,?_,?_,?_⟩
  ·rw [←a];simp only [Array.getElem?_setIfInBounds];repeat rw [if_neg (by omega)]
  ·rw [←b];simp only [Array.getElem?_setIfInBounds];repeat rw [if_neg (by omega)]
  ·rw [←c];simp only [Array.getElem?_setIfInBounds];repeat rw [if_neg (by omega)]
  ·rw [←d];simp only [Array.getElem?_setIfInBounds];repeat rw [if_neg (by omega)]
  ·rw [←e];simp only [Array.getElem?_setIfInBounds];repeat rw [if_neg (by omega)]
end Go.Proofs.YtjkfappkpopbdaaGreat
/-
 Rows of App values: in memory,each with its asks,and rows that a call makes and fills one by one.
-/
namespace Go.Proofs.YtjkfappkpopbdaaGreat
open Go.RowKit
set_option linter.unusedVariables false
structure Appl where
 id:Int
 queue:List UInt8
 asks:List Ask
abbrev applv (id:Int) (queue:List UInt8) (ao:Option Addr) (len cap:Nat):Value:=.agg #[.int .i64 id,.string (bs queue),.slice ao len cap]
theorem AskRow.other {w:World} {ao:Option Addr} {len:Nat} {l:List Ask} (h:AskRow w ao len l) (g j:Nat) (v:Value) (hg:∀b off,ao=some ⟨b,off,none⟩→b≠g):AskRow (w.setCell ⟨g,j,none⟩ v) ao len l:=by
 obtain ⟨h1,h2⟩:=h
 refine ⟨h1,?_⟩
 rcases h2 with h2 | ⟨b,off,h3,h4⟩
 ·exact .inl h2
 ·have hn:=hg b off h3
  have hc:∀p,(w.setCell ⟨g,j,none⟩ v).cell? ⟨b,p,none⟩=w.cell? ⟨b,p,none⟩:=fun p=>by
   unfold World.cell?;rw [heap_setCell_other w ⟨g,j,none⟩ b v hn]
  refine .inr ⟨b,off,h3,fun i h=>?_⟩
  obtain ⟨a,b,c,d,e⟩:=h4 i h
  exact ⟨by rw [hc];exact a,by rw [hc];exact b,by rw [hc];exact c,by rw [hc];exact d,by rw [hc];exact e⟩
def ApplAt (w:World) (b p:Nat) (q:Appl) (ao:Option Addr) (len cap:Nat):Prop:=
 w.cell? ⟨b,p,none⟩=some (.int .i64 q.id)∧w.cell? ⟨b,p+1,none⟩=some (.string (bs q.queue))∧w.cell? ⟨b,p+2,none⟩=some (.slice ao len cap)∧AskRow w ao len q.asks∧len≤cap
def ApplRow (w:World) (ao:Option Addr) (len:Nat) (l:List Appl):Prop:=
 len=l.length∧(len=0∨∃b off,ao=some ⟨b,off,none⟩∧∀i (h:i<l.length),∃ao len cap,ApplAt w b (off+i*3) l[i] ao len cap)
theorem ApplAt.lt {w:World} {b p:Nat} {q:Appl} {ao:Option Addr} {len cap:Nat} (h:ApplAt w b p q ao len cap):b<w.heap.size:=yG h.1
theorem ApplAt.below {w w':World} {b p:Nat} {q:Appl} {ao:Option Addr} {len cap:Nat} (h:ApplAt w b p q ao len cap) (hb:Below w.heap.size w w'):ApplAt w' b p q ao len cap:=
 ⟨(hb.cell h.lt).trans h.1,(hb.cell h.lt).trans h.2.1,(hb.cell h.lt).trans h.2.2.1,h.2.2.2.1.below hb,h.2.2.2.2⟩
theorem ApplRow.below {w w':World} {ao:Option Addr} {len:Nat} {l:List Appl} (h:ApplRow w ao len l) (hb:Below w.heap.size w w'):ApplRow w' ao len l:=by
 obtain ⟨h1,h2⟩:=h
 refine ⟨h1,?_⟩
 rcases h2 with h2 | ⟨b,off,h3,h4⟩
 ·exact .inl h2
 ·exact .inr ⟨b,off,h3,fun i h=>let ⟨x,y,z,hh⟩:=h4 i h;⟨x,y,z,hh.below hb⟩⟩
theorem ApplRow.nil (w:World) (ao:Option Addr):ApplRow w ao 0 []:=⟨rfl,.inl rfl⟩
theorem ApplRow.at {w:World} {ao:Option Addr} {len:Nat} {l:List Appl} (h:ApplRow w ao len l) {i:Nat} (hi:i<len):∃b off,ao=some ⟨b,off,none⟩∧∀(h:i<l.length),∃ao len cap,ApplAt w b (off+i*3) l[i] ao len cap:=by
 obtain ⟨h1,h2⟩:=h
 rcases h2 with h2 | ⟨b,off,h3,h4⟩
 ·omega
 ·exact ⟨b,off,h3,fun hi=>h4 i hi⟩
def AskOwn (w:World) (g:Nat) (ao:Option Addr) (len cap:Nat) (l:List Ask):Prop:=AskRow w ao len l∧len≤cap∧(∀b off,ao=some ⟨b,off,none⟩→g<b)∧∃b,ao=some ⟨b,0,none⟩∧cap=len∧AskBlk w 193 b len 0 []
theorem AskBlk.other {w:World} {t:TypeId} {g n k:Nat} {l:List Ask} (h:AskBlk w t g n k l) (b j:Nat) (v:Value) (hn:g≠b):AskBlk (w.setCell ⟨b,j,none⟩ v) t g n k l:=by
 obtain ⟨arr,h1,h2⟩:=h
 exact ⟨arr,(heap_setCell_other w ⟨b,j,none⟩ g v hn).trans h1,h2⟩
theorem AskBlk.any {w:World} {t:TypeId} {g n k:Nat} {l:List Ask} (h:AskBlk w t g n k l):AskBlk w t g n 0 []:=by
 obtain ⟨arr,h1,h2,_⟩:=h
 exact ⟨arr,h1,h2,fun i hi=>absurd hi (by simp)⟩
theorem AskOwn.below {w w':World} {g:Nat} {ao:Option Addr} {len cap:Nat} {l:List Ask} (h:AskOwn w g ao len cap l) (hb:Below w.heap.size w w'):AskOwn w' g ao len cap l:=⟨h.1.below hb,h.2.1,h.2.2.1,let ⟨b,e,c,d⟩:=h.2.2.2;⟨b,e,c,d.below hb⟩⟩
def ApplBlk (w:World) (t:TypeId) (g n k:Nat) (l:List Appl):Prop:=
 ∃arr:Array Value,w.heap[g]? = some (.cells arr t (0,0))∧arr.size=n*3∧∀i (h:i<l.length),i<k→arr[i*3]? = some (.int .i64 l[i].id)∧arr[i*3+1]? = some (.string (bs l[i].queue))∧∃ao len cap,arr[i*3+2]? = some (.slice ao len cap)∧AskOwn w g ao len cap l[i].asks
theorem ApplBlk.lt {w:World} {t:TypeId} {g n k:Nat} {l:List Appl} (h:ApplBlk w t g n k l):g<w.heap.size:=let ⟨_,h,_⟩:=h;lt_of_block h
theorem ApplBlk.below {w w':World} {t:TypeId} {g n k:Nat} {l:List Appl} (h:ApplBlk w t g n k l) (hb:Below w.heap.size w w'):ApplBlk w' t g n k l:=by
 have hlt:=h.lt
 obtain ⟨arr,h1,h2,h3⟩:=h
 exact ⟨arr,(hb.block g hlt).trans h1,h2,fun i h hk=>let ⟨a,b,x,y,z,c,d⟩:=h3 i h hk;⟨a,b,x,y,z,c,d.below hb⟩⟩
theorem ApplBlk.cell {w:World} {t:TypeId} {g n k:Nat} {l:List Appl} (h:ApplBlk w t g n k l) {j:Nat} (hj:j<n*3):∃v,w.cell? ⟨g,j,none⟩=some v:=by
 obtain ⟨arr,h1,h2,_⟩:=h
 exact ⟨arr[j]'(by omega),by simp [World.cell?,h1,Array.getElem?_eq_getElem (show j<arr.size by omega)]⟩
theorem ApplBlk.frozen {w:World} {t:TypeId} {g n k:Nat} {l:List Appl} (h:ApplBlk w t g n k l) (j:Nat):w.frozen? ⟨g,j,none⟩=false:=by
 obtain ⟨arr,h1,h2,_⟩:=h
 simp [World.frozen?,h1]
theorem ApplBlk.row {w:World} {t:TypeId} {g n:Nat} {l:List Appl} (h:ApplBlk w t g n n l) (hl:n=l.length):ApplRow w (some ⟨g,0,none⟩) n l:=by
 obtain ⟨arr,h1,h2,h3⟩:=h
 refine ⟨hl,.inr ⟨g,0,rfl,fun i hi=>?_⟩⟩
 obtain ⟨a,b,x,y,z,c,d⟩:=h3 i hi (by omega)
 refine ⟨x,y,z,?_⟩
 unfold ApplAt
 simp only [Nat.zero_add]
 exact ⟨by simp [World.cell?,h1,a],by simp [World.cell?,h1,b],by simp [World.cell?,h1,c],d.1,d.2.1⟩
theorem applblk_made (w:World) (t:TypeId) (z:Array Value) (n:Nat) (l:List Appl):ApplBlk (w.alloc (.cells (madeCells z (n*3)) t)) t w.heap.size n 0 l:=
 ⟨madeCells z (n*3),by show (w.heap.push _)[w.heap.size]? = _;simp,size_madeCells _ _,fun i _ h=>absurd h (by omega)⟩
def putAppl (w:World) (g p:Nat) (id:Int) (qu:List UInt8) (ao:Option Addr) (len cap:Nat):World:=((w.setCell ⟨g,p,none⟩ (.int .i64 id)).setCell ⟨g,p+1,none⟩ (.string (bs qu))).setCell ⟨g,p+2,none⟩ (.slice ao len cap)
theorem AskOwn.put {w:World} {g:Nat} {ao:Option Addr} {len cap:Nat} {l:List Ask} (h:AskOwn w g ao len cap l) (j:Nat) (v:Value):AskOwn (w.setCell ⟨g,j,none⟩ v) g ao len cap l:=
 ⟨h.1.other g j v (fun b off e=>by have:=h.2.2.1 b off e;omega),h.2.1,h.2.2.1,let ⟨b,e,c,d⟩:=h.2.2.2;⟨b,e,c,d.other g j v (by have:=h.2.2.1 b 0 e;omega)⟩⟩
theorem AskOwn.other {w:World} {g:Nat} {ao:Option Addr} {len cap:Nat} {l:List Ask} (h:AskOwn w g ao len cap l) (k j:Nat) (v:Value) (hk:k<g):AskOwn (w.setCell ⟨k,j,none⟩ v) g ao len cap l:=
 ⟨h.1.other k j v (fun b off e=>by have:=h.2.2.1 b off e;omega),h.2.1,h.2.2.1,let ⟨b,e,c,d⟩:=h.2.2.2;⟨b,e,c,d.other k j v (by have:=h.2.2.1 b 0 e;omega)⟩⟩
theorem ApplBlk.step {w:World} {t:TypeId} {g n k:Nat} {l:List Appl} (h:ApplBlk w t g n k l) (hk:k<n) (hl:k<l.length) (AO:Option Addr) (LEN CAP:Nat) (ho:AskOwn w g AO LEN CAP l[k].asks):ApplBlk (putAppl w g (k*3) l[k].id l[k].queue AO LEN CAP) t g n (k+1) l:=by
 obtain ⟨arr,h1,h2,h3⟩:=h
 have e1:=heap_setCell_same w g (k*3) _ _ (.int .i64 l[k].id) h1
 have e2:=heap_setCell_same _ g (k*3+1) _ _ (.string (bs l[k].queue)) e1
 have e3:=heap_setCell_same _ g (k*3+2) _ _ (.slice AO LEN CAP) e2
 have hput:∀{ao len cap l'},AskOwn w g ao len cap l'→AskOwn (putAppl w g (k*3) l[k].id l[k].queue AO LEN CAP) g ao len cap l':=fun h=>((h.put _ _).put _ _).put _ _
 refine ⟨_,e3,by simp [h2],fun i hi hik=>?_⟩
 by_cases e:i=k
 ·subst e
  have q1:i*3+2<arr.size:=by omega
  refine ⟨?_,?_,AO,LEN,CAP,?_,hput ho⟩<;>simp [Array.getElem?_setIfInBounds,h2]<;>omega
 ·obtain ⟨a,b,x,y,z,c,d⟩:=h3 i hi (by omega)
  refine ⟨?_,?_,x,y,z,?_,hput d⟩
  ·rw [←a];simp only [Array.getElem?_setIfInBounds];repeat rw [if_neg (by omega)]
  ·rw [←b];simp only [Array.getElem?_setIfInBounds];repeat rw [if_neg (by omega)]
  ·rw [←c];simp only [Array.getElem?_setIfInBounds];repeat rw [if_neg (by omega)]
end Go.Proofs.YtjkfappkpopbdaaGreat
/-
 The laws' own toAsk;a walk over the dump.
-/
namespace Go.Proofs.YtjkfappkpopbdaaGreat
open Go.RowKit
set_option linter.unusedVariables false
set_option maxRecDepth 100000 in
set_option maxHeartbeats 1000000 in
theorem toAsk_any (q:Ask) (w:World) :
  Calls Tryz.prog 158 #[askv q] w fun e w'=>e=.returned (askv q)∧Below w.heap.size w w':=by
 obtain ⟨x0,x1,x2,x3,x4⟩:=q
 go_enter Tryz.func158,Tryz.ntmps158
 go_wp2_with fail
 refine (toRes_ex _ _ _).mono ?_
 rintro e w1 ⟨rfl,o1,o2,o3,rfl⟩
 go_wp2
 refine bodyPost_ret (v:=askv ⟨x0,x1,x2,x3,x4⟩) (by simp [results,Tryz.results158,go_sem]) rfl ⟨rfl,?_⟩
 repeat (first | exact yH _ _ | refine yA ?_ _ | refine Below.drew ?_ | refine yC ?_ _ _ _ (by omega))
end Go.Proofs.YtjkfappkpopbdaaGreat
/-
 The laws' own toMachine;a walk over the dump.
-/
namespace Go.Proofs.YtjkfappkpopbdaaGreat
open Go.RowKit
set_option linter.unusedVariables false
set_option maxRecDepth 100000 in
set_option maxHeartbeats 1000000 in
theorem toMachine_any (q:Mac) (w:World) :
  Calls Tryz.prog 83 #[macv q] w fun e w'=>e=.returned (macv q)∧Below w.heap.size w w':=by
 obtain ⟨x0,x1,x2,x3⟩:=q
 go_enter Tryz.func83,Tryz.ntmps83
 go_wp2_with fail
 refine (toRes_ex _ _ _).mono ?_
 rintro e w1 ⟨rfl,o1,o2,o3,rfl⟩
 go_wp2
 refine bodyPost_ret (v:=macv ⟨x0,x1,x2,x3⟩) (by simp [results,Tryz.results83,go_sem]) rfl ⟨rfl,?_⟩
 repeat (first | exact yH _ _ | refine yA ?_ _ | refine Below.drew ?_ | refine yC ?_ _ _ _ (by omega))
end Go.Proofs.YtjkfappkpopbdaaGreat
/-
 The laws' own toCont;a walk over the dump.
-/
namespace Go.Proofs.YtjkfappkpopbdaaGreat
open Go.RowKit
set_option linter.unusedVariables false
set_option maxRecDepth 100000 in
set_option maxHeartbeats 1000000 in
theorem toCont_any (q:Con) (w:World) :
  Calls Tryz.prog 84 #[conv q] w fun e w'=>e=.returned (conv q)∧Below w.heap.size w w':=by
 obtain ⟨x0,x1,x2,x3,x4⟩:=q
 go_enter Tryz.func84,Tryz.ntmps84
 go_wp2_with fail
 refine (toRes_ex _ _ _).mono ?_
 rintro e w1 ⟨rfl,o1,o2,o3,rfl⟩
 go_wp2
 refine bodyPost_ret (v:=conv ⟨x0,x1,x2,x3,x4⟩) (by simp [results,Tryz.results84,go_sem]) rfl ⟨rfl,?_⟩
 repeat (first | exact yH _ _ | refine yA ?_ _ | refine Below.drew ?_ | refine yC ?_ _ _ _ (by omega))
end Go.Proofs.YtjkfappkpopbdaaGreat
/-
 The laws' own eqAsk,at the same;a walk over the dump.
-/
namespace Go.Proofs.YtjkfappkpopbdaaGreat
open Go.RowKit
set_option linter.unusedVariables false
set_option maxRecDepth 100000 in
set_option maxHeartbeats 1000000 in
theorem eqAsk_same (q:Ask) (w:World) :
  Calls Tryz.prog 178 #[askv q,askv q] w fun e w'=>e=.returned (.bool true)∧Below w.heap.size w w':=by
 obtain ⟨x0,x1,x2,x3,x4⟩:=q
 go_enter Tryz.func178,Tryz.ntmps178
 go_wp2_with fail
 refine (eqRes_ex _ _ _).mono ?_
 rintro e w1 ⟨rfl,o1,o2,n,rfl⟩
 go_wp2
 go_ret
 refine ⟨rfl,?_⟩
 repeat (first | exact yH _ _ | refine yA ?_ _ | refine Below.drew ?_ | refine below_dn ?_ _ | refine yC ?_ _ _ _ (by omega))
end Go.Proofs.YtjkfappkpopbdaaGreat
/-
 The laws' own eqMachine,at the same;a walk over the dump.
-/
namespace Go.Proofs.YtjkfappkpopbdaaGreat
open Go.RowKit
set_option linter.unusedVariables false
set_option maxRecDepth 100000 in
set_option maxHeartbeats 1000000 in
theorem eqMachine_same (q:Mac) (w:World) :
  Calls Tryz.prog 106 #[macv q,macv q] w fun e w'=>e=.returned (.bool true)∧Below w.heap.size w w':=by
 obtain ⟨x0,x1,x2,x3⟩:=q
 go_enter Tryz.func106,Tryz.ntmps106
 go_wp2_with fail
 refine (eqRes_ex _ _ _).mono ?_
 rintro e w1 ⟨rfl,o1,o2,n,rfl⟩
 go_wp2
 go_ret
 refine ⟨rfl,?_⟩
 repeat (first | exact yH _ _ | refine yA ?_ _ | refine Below.drew ?_ | refine below_dn ?_ _ | refine yC ?_ _ _ _ (by omega))
end Go.Proofs.YtjkfappkpopbdaaGreat
/-
 The laws' own eqCont,at the same;a walk over the dump.
-/
namespace Go.Proofs.YtjkfappkpopbdaaGreat
open Go.RowKit
set_option linter.unusedVariables false
set_option maxRecDepth 100000 in
set_option maxHeartbeats 1000000 in
theorem eqCont_same (q:Con) (w:World) :
  Calls Tryz.prog 107 #[conv q,conv q] w fun e w'=>e=.returned (.bool true)∧Below w.heap.size w w':=by
 obtain ⟨x0,x1,x2,x3,x4⟩:=q
 go_enter Tryz.func107,Tryz.ntmps107
 go_wp2_with fail
 refine (eqRes_ex _ _ _).mono ?_
 rintro e w1 ⟨rfl,o1,o2,n,rfl⟩
 go_wp2
 go_ret
 refine ⟨rfl,?_⟩
 repeat (first | exact yH _ _ | refine yA ?_ _ | refine Below.drew ?_ | refine below_dn ?_ _ | refine yC ?_ _ _ _ (by omega))
end Go.Proofs.YtjkfappkpopbdaaGreat
/-
 The laws' own toAskS: rows of Ask values made anew;walks over the dump (mkrow.py wrote this).
-/
namespace Go.Proofs.YtjkfappkpopbdaaGreat
open Go.RowKit
set_option linter.unusedVariables false
theorem askInfo:(Tryz.prog.info? 193).map (fun i=>(i.zero,i.size,i.bytes))=some (some (askv ⟨0,0,0,[],0⟩),5,48):=by kernel_rfl
theorem make_asks (n:Nat) (hn:n≤1048576) (w:World) :
  (Instr.makeSlice 137 (.int .i64 (n:Int)) (.int .i64 (n:Int))).run Tryz.prog w=.ok (.slice (some ⟨w.heap.size,0,none⟩) n n) (w.alloc (.cells (madeCells (askv ⟨0,0,0,[],0⟩).cells (n*5)) 193)):=by
 obtain ⟨i,hi,hz⟩:=Option.map_eq_some_iff.1 askInfo
 simp only [Prod.mk.injEq] at hz
 obtain ⟨hz,hs,hb⟩:=hz
 have hr:=run_make (P:=Tryz.prog) w 137 193 i _ Tryz.underlying137 hi hz .i64 .i64 n n (by omega) (Int.le_refl _) (by rw [hb];omega) (by omega)
 simp only [Int.toNat_natCast,hs] at hr
 exact hr
set_option maxRecDepth 100000 in
set_option maxHeartbeats 1000000 in
theorem toAskS_any (ao:Option Addr) (len cap:Nat) (l:List Ask) (w:World) (h:AskRow w ao len l) (hl:len≤1048576) :
  Calls Tryz.prog 123 #[.slice ao len cap] w fun e w'=>e=.returned (.slice (some ⟨w.heap.size,0,none⟩) len len)∧AskBlk w' 193 w.heap.size len len l∧Below w.heap.size w w':=by
 have HR:=hide h
 have HL:=hide h.1
 have hmk:=make_asks len hl w
 obtain ⟨zs,hzs⟩:∃z,z=(askv ⟨0,0,0,[],0⟩).cells:=⟨_,rfl⟩
 rw [←hzs] at hmk
 clear h hzs
 go_enter Tryz.func123,Tryz.ntmps123
 go_wp2
 clear hmk
 go_loopw [4] (fun i wr=>∃k:Nat,k≤len∧i=.int .i64 k∧Hid (AskBlk wr 193 w.heap.size len k l)∧Hid (Below w.heap.size w wr)) (fun i _=>len - (intOf i).toNat)
 case atStart=>exact ⟨0,Nat.zero_le _,rfl,hide (askblk_made w _ _ _ _),hide (yA (yH _ _) _)⟩
 case round=>
  obtain ⟨k,hk,rfl,HQ,HB⟩:=hrel
  by_cases hlt:k<len
  ·obtain ⟨b,off,rfl,hq⟩:=((uH HR).below (uH HB)).at hlt
   have hkl:k<l.length:=by have:=uH HL;omega
   obtain ⟨c0,c1,c2,c3,c4⟩:=hq hkl
   obtain ⟨q,hs⟩:∃q,l[k]=q:=⟨_,rfl⟩
   rw [hs] at c0 c1 c2 c3 c4
   have hst:∀wx,AskBlk wx 193 w.heap.size len k l→AskBlk (putAsk wx w.heap.size (k*5) q) 193 w.heap.size len (k+1) l:=fun wx hx=>by have:=hx.step hlt hkl;rw [hs] at this;exact this
   have HST:=hide hst
   clear hst hq hs hkl
   go_wp2_with fail
   refine (toAsk_any q _).mono ?_
   rintro e w1 ⟨rfl,hb⟩
   have HQ1:=hide ((uH HQ).below hb)
   have HB1:=hide (yB (uH HB) hb)
   clear hb c0 c1 c2 c3 c4
   obtain ⟨v0,d0⟩:=(uH HQ1).cell (j:=k*5) (by omega)
   obtain ⟨v1,d1⟩:=(uH HQ1).cell (j:=k*5+1) (by omega)
   obtain ⟨v2,d2⟩:=(uH HQ1).cell (j:=k*5+2) (by omega)
   obtain ⟨v3,d3⟩:=(uH HQ1).cell (j:=k*5+3) (by omega)
   obtain ⟨v4,d4⟩:=(uH HQ1).cell (j:=k*5+4) (by omega)
   have f0:=(uH HQ1).frozen (k*5)
   have f1:=(uH HQ1).frozen (k*5+1)
   have f2:=(uH HQ1).frozen (k*5+2)
   have f3:=(uH HQ1).frozen (k*5+3)
   have f4:=(uH HQ1).frozen (k*5+4)
   go_wp2
   go_roundw
   case rel=>exact ⟨k+1,by omega,by go_num,hide (uH HST _ (uH HQ1)),hide (yC (yC (yC (yC (yC (uH HB1) _ _ _ (by omega)) _ _ _ (by omega)) _ _ _ (by omega)) _ _ _ (by omega)) _ _ _ (by omega))⟩
   case measure=>simp [intOf];omega
  ·have hkk:k=len:=by omega
   subst hkk
   go_wp2
   go_ret
   exact ⟨rfl,uH HQ,uH HB⟩
end Go.Proofs.YtjkfappkpopbdaaGreat
/-
 The laws' own toMachineS: rows of Machine values made anew;walks over the dump (mkrow.py wrote this).
-/
namespace Go.Proofs.YtjkfappkpopbdaaGreat
open Go.RowKit
set_option linter.unusedVariables false
theorem macInfo:(Tryz.prog.info? 147).map (fun i=>(i.zero,i.size,i.bytes))=some (some (macv ⟨[],0,0,0⟩),4,40):=by kernel_rfl
theorem make_macs (n:Nat) (hn:n≤1048576) (w:World) :
  (Instr.makeSlice 34 (.int .i64 (n:Int)) (.int .i64 (n:Int))).run Tryz.prog w=.ok (.slice (some ⟨w.heap.size,0,none⟩) n n) (w.alloc (.cells (madeCells (macv ⟨[],0,0,0⟩).cells (n*4)) 147)):=by
 obtain ⟨i,hi,hz⟩:=Option.map_eq_some_iff.1 macInfo
 simp only [Prod.mk.injEq] at hz
 obtain ⟨hz,hs,hb⟩:=hz
 have hr:=run_make (P:=Tryz.prog) w 34 147 i _ Tryz.underlying34 hi hz .i64 .i64 n n (by omega) (Int.le_refl _) (by rw [hb];omega) (by omega)
 simp only [Int.toNat_natCast,hs] at hr
 exact hr
set_option maxRecDepth 100000 in
set_option maxHeartbeats 1000000 in
theorem toMachineS_any (ao:Option Addr) (len cap:Nat) (l:List Mac) (w:World) (h:MacRow w ao len l) (hl:len≤1048576) :
  Calls Tryz.prog 42 #[.slice ao len cap] w fun e w'=>e=.returned (.slice (some ⟨w.heap.size,0,none⟩) len len)∧MacBlk w' 147 w.heap.size len len l∧Below w.heap.size w w':=by
 have HR:=hide h
 have HL:=hide h.1
 have hmk:=make_macs len hl w
 obtain ⟨zs,hzs⟩:∃z,z=(macv ⟨[],0,0,0⟩).cells:=⟨_,rfl⟩
 rw [←hzs] at hmk
 clear h hzs
 go_enter Tryz.func42,Tryz.ntmps42
 go_wp2
 clear hmk
 go_loopw [4] (fun i wr=>∃k:Nat,k≤len∧i=.int .i64 k∧Hid (MacBlk wr 147 w.heap.size len k l)∧Hid (Below w.heap.size w wr)) (fun i _=>len - (intOf i).toNat)
 case atStart=>exact ⟨0,Nat.zero_le _,rfl,hide (macblk_made w _ _ _ _),hide (yA (yH _ _) _)⟩
 case round=>
  obtain ⟨k,hk,rfl,HQ,HB⟩:=hrel
  by_cases hlt:k<len
  ·obtain ⟨b,off,rfl,hq⟩:=((uH HR).below (uH HB)).at hlt
   have hkl:k<l.length:=by have:=uH HL;omega
   obtain ⟨c0,c1,c2,c3⟩:=hq hkl
   obtain ⟨q,hs⟩:∃q,l[k]=q:=⟨_,rfl⟩
   rw [hs] at c0 c1 c2 c3
   have hst:∀wx,MacBlk wx 147 w.heap.size len k l→MacBlk (putMac wx w.heap.size (k*4) q) 147 w.heap.size len (k+1) l:=fun wx hx=>by have:=hx.step hlt hkl;rw [hs] at this;exact this
   have HST:=hide hst
   clear hst hq hs hkl
   go_wp2_with fail
   refine (toMachine_any q _).mono ?_
   rintro e w1 ⟨rfl,hb⟩
   have HQ1:=hide ((uH HQ).below hb)
   have HB1:=hide (yB (uH HB) hb)
   clear hb c0 c1 c2 c3
   obtain ⟨v0,d0⟩:=(uH HQ1).cell (j:=k*4) (by omega)
   obtain ⟨v1,d1⟩:=(uH HQ1).cell (j:=k*4+1) (by omega)
   obtain ⟨v2,d2⟩:=(uH HQ1).cell (j:=k*4+2) (by omega)
   obtain ⟨v3,d3⟩:=(uH HQ1).cell (j:=k*4+3) (by omega)
   have f0:=(uH HQ1).frozen (k*4)
   have f1:=(uH HQ1).frozen (k*4+1)
   have f2:=(uH HQ1).frozen (k*4+2)
   have f3:=(uH HQ1).frozen (k*4+3)
   go_wp2
   go_roundw
   case rel=>exact ⟨k+1,by omega,by go_num,hide (uH HST _ (uH HQ1)),hide (yC (yC (yC (yC (uH HB1) _ _ _ (by omega)) _ _ _ (by omega)) _ _ _ (by omega)) _ _ _ (by omega))⟩
   case measure=>simp [intOf];omega
  ·have hkk:k=len:=by omega
   subst hkk
   go_wp2
   go_ret
   exact ⟨rfl,uH HQ,uH HB⟩
end Go.Proofs.YtjkfappkpopbdaaGreat
/-
 The laws' own toContS: rows of Cont values made anew;walks over the dump (mkrow.py wrote this).
-/
namespace Go.Proofs.YtjkfappkpopbdaaGreat
open Go.RowKit
set_option linter.unusedVariables false
theorem conInfo:(Tryz.prog.info? 150).map (fun i=>(i.zero,i.size,i.bytes))=some (some (conv ⟨0,0,[],0,0⟩),5,48):=by kernel_rfl
theorem make_cons (n:Nat) (hn:n≤1048576) (w:World) :
  (Instr.makeSlice 35 (.int .i64 (n:Int)) (.int .i64 (n:Int))).run Tryz.prog w=.ok (.slice (some ⟨w.heap.size,0,none⟩) n n) (w.alloc (.cells (madeCells (conv ⟨0,0,[],0,0⟩).cells (n*5)) 150)):=by
 obtain ⟨i,hi,hz⟩:=Option.map_eq_some_iff.1 conInfo
 simp only [Prod.mk.injEq] at hz
 obtain ⟨hz,hs,hb⟩:=hz
 have hr:=run_make (P:=Tryz.prog) w 35 150 i _ Tryz.underlying35 hi hz .i64 .i64 n n (by omega) (Int.le_refl _) (by rw [hb];omega) (by omega)
 simp only [Int.toNat_natCast,hs] at hr
 exact hr
set_option maxRecDepth 100000 in
set_option maxHeartbeats 1000000 in
theorem toContS_any (ao:Option Addr) (len cap:Nat) (l:List Con) (w:World) (h:ConRow w ao len l) (hl:len≤1048576) :
  Calls Tryz.prog 43 #[.slice ao len cap] w fun e w'=>e=.returned (.slice (some ⟨w.heap.size,0,none⟩) len len)∧ConBlk w' 150 w.heap.size len len l∧Below w.heap.size w w':=by
 have HR:=hide h
 have HL:=hide h.1
 have hmk:=make_cons len hl w
 obtain ⟨zs,hzs⟩:∃z,z=(conv ⟨0,0,[],0,0⟩).cells:=⟨_,rfl⟩
 rw [←hzs] at hmk
 clear h hzs
 go_enter Tryz.func43,Tryz.ntmps43
 go_wp2
 clear hmk
 go_loopw [4] (fun i wr=>∃k:Nat,k≤len∧i=.int .i64 k∧Hid (ConBlk wr 150 w.heap.size len k l)∧Hid (Below w.heap.size w wr)) (fun i _=>len - (intOf i).toNat)
 case atStart=>exact ⟨0,Nat.zero_le _,rfl,hide (conblk_made w _ _ _ _),hide (yA (yH _ _) _)⟩
 case round=>
  obtain ⟨k,hk,rfl,HQ,HB⟩:=hrel
  by_cases hlt:k<len
  ·obtain ⟨b,off,rfl,hq⟩:=((uH HR).below (uH HB)).at hlt
   have hkl:k<l.length:=by have:=uH HL;omega
   obtain ⟨c0,c1,c2,c3,c4⟩:=hq hkl
   obtain ⟨q,hs⟩:∃q,l[k]=q:=⟨_,rfl⟩
   rw [hs] at c0 c1 c2 c3 c4
   have hst:∀wx,ConBlk wx 150 w.heap.size len k l→ConBlk (putCon wx w.heap.size (k*5) q) 150 w.heap.size len (k+1) l:=fun wx hx=>by have:=hx.step hlt hkl;rw [hs] at this;exact this
   have HST:=hide hst
   clear hst hq hs hkl
   go_wp2_with fail
   refine (toCont_any q _).mono ?_
   rintro e w1 ⟨rfl,hb⟩
   have HQ1:=hide ((uH HQ).below hb)
   have HB1:=hide (yB (uH HB) hb)
   clear hb c0 c1 c2 c3 c4
   obtain ⟨v0,d0⟩:=(uH HQ1).cell (j:=k*5) (by omega)
   obtain ⟨v1,d1⟩:=(uH HQ1).cell (j:=k*5+1) (by omega)
   obtain ⟨v2,d2⟩:=(uH HQ1).cell (j:=k*5+2) (by omega)
   obtain ⟨v3,d3⟩:=(uH HQ1).cell (j:=k*5+3) (by omega)
   obtain ⟨v4,d4⟩:=(uH HQ1).cell (j:=k*5+4) (by omega)
   have f0:=(uH HQ1).frozen (k*5)
   have f1:=(uH HQ1).frozen (k*5+1)
   have f2:=(uH HQ1).frozen (k*5+2)
   have f3:=(uH HQ1).frozen (k*5+3)
   have f4:=(uH HQ1).frozen (k*5+4)
   go_wp2
   go_roundw
   case rel=>exact ⟨k+1,by omega,by go_num,hide (uH HST _ (uH HQ1)),hide (yC (yC (yC (yC (yC (uH HB1) _ _ _ (by omega)) _ _ _ (by omega)) _ _ _ (by omega)) _ _ _ (by omega)) _ _ _ (by omega))⟩
   case measure=>simp [intOf];omega
  ·have hkk:k=len:=by omega
   subst hkk
   go_wp2
   go_ret
   exact ⟨rfl,uH HQ,uH HB⟩
end Go.Proofs.YtjkfappkpopbdaaGreat
/-
 The laws' own szAsk and szAskS: how much is handed in;walks over the dump (mkrow.py wrote this).
-/
namespace Go.Proofs.YtjkfappkpopbdaaGreat
open Go.RowKit
set_option linter.unusedVariables false
def szAsk (q:Ask) (a:Int):Int:=if a - q.node.length<0 then -1 else a - q.node.length
def FitAsk (l:List Ask):Prop:=l.length≤1048576∧∀q ∈ l,q.node.length≤1048576
set_option maxRecDepth 100000 in
set_option maxHeartbeats 1000000 in
theorem szAsk_any (q:Ask) (a:Int) (w:World) (ha0:0≤a) (ha1:a≤1048576) (hn:q.node.length≤9223372036854775807) :
  Calls Tryz.prog 149 #[askv q,.int .i64 a] w fun e w'=>e=.returned (.int .i64 (szAsk q a))∧Below w.heap.size w w':=by
 obtain ⟨x0,x1,x2,x3,x4⟩:=q
 have z1:=bs_size x3
 simp only at hn
 unfold szAsk
 simp only
 by_cases h1:a - x3.length<0
 ·rw [if_pos h1]
  go_enter Tryz.func149,Tryz.ntmps149
  go_wp2
  go_ret
  refine ⟨rfl,?_⟩
  repeat (first | exact yH _ _ | refine yA ?_ _ | refine Below.drew ?_ | refine yC ?_ _ _ _ (by omega))
 ·rw [if_neg h1]
  go_enter Tryz.func149,Tryz.ntmps149
  go_wp2
  go_ret
  refine ⟨rfl,?_⟩
  repeat (first | exact yH _ _ | refine yA ?_ _ | refine Below.drew ?_ | refine yC ?_ _ _ _ (by omega))
theorem szAsk_cases (q:Ask) (a:Int) (ha0:0≤a) (ha1:a≤1048576):szAsk q a = -1∨(0≤szAsk q a∧szAsk q a≤a∧q.node.length≤1048576):=by
 unfold szAsk
 split
 ·exact .inl rfl
 ·right;omega
set_option maxRecDepth 100000 in
set_option maxHeartbeats 1000000 in
theorem szAskS_any (ao:Option Addr) (len cap:Nat) (l:List Ask) (a0:Int) (w:World) (h:AskRow w ao len l) (hlen:len≤9223372036854775807) (hm:∀q ∈ l,q.node.length≤9223372036854775807) (hA0:0≤a0) (hA1:a0≤1048576) :
  Calls Tryz.prog 112 #[.slice ao len cap,.int .i64 a0] w fun e w'=>∃r:Int,e=.returned (.int .i64 r)∧(r = -1∨(0≤r∧r≤a0∧FitAsk l))∧Below w.heap.size w w':=by
 have HR:=hide h
 have HL:=hide h.1
 have HM:=hide hm
 clear h hm
 by_cases hbig:(len:Int)≤a0
 ·have hb1:¬(a0:Int) - len<0:=by omega
  go_enter Tryz.func112,Tryz.ntmps112
  go_wp2
  go_loopw [1,5] (fun s i wr=>∃(k:Nat) (a:Int),k≤len∧i=.int .i64 k∧s=.int .i64 a∧0≤a∧a≤a0∧Hid (∀q ∈ l.take k,q.node.length≤1048576)∧Hid (Below w.heap.size w wr)) (fun _ i _=>len - (intOf i).toNat)
  case atStart=>exact ⟨0,a0 - len,Nat.zero_le _,rfl,rfl,by omega,by omega,hide (by simp),hide (yH _ _)⟩
  case round=>
   obtain ⟨k,a,hk,rfl,rfl,ha0,ha1,HP,HB⟩:=hrel
   by_cases hlt:k<len
   ·obtain ⟨b,off,rfl,hq⟩:=((uH HR).below (uH HB)).at hlt
    have hkl:k<l.length:=by have:=uH HL;omega
    obtain ⟨c0,c1,c2,c3,c4⟩:=hq hkl
    have n1:=uH HM l[k] (yM _)
    have htk:=List.take_succ_eq_append_getElem hkl
    obtain ⟨q,hs⟩:∃q,l[k]=q:=⟨_,rfl⟩
    rw [hs] at c0 c1 c2 c3 c4 n1 htk
    have HTK:=hide htk
    have C:=hide (fun wx=>szAsk_any q a wx ha0 (by omega) n1)
    obtain ⟨r,hr⟩:∃r,szAsk q a=r:=⟨_,rfl⟩
    have hcs:=szAsk_cases q a ha0 (by omega)
    rw [hr] at C hcs
    have HC:=hide hcs
    clear hq hs hkl hr hcs htk n1
    go_wp2_with fail
    refine (uH C _).mono ?_
    rintro e w1 ⟨rfl,hb⟩
    have HB1:=hide (yB (uH HB) hb)
    clear hb C c0 c1 c2 c3 c4
    rcases uH HC with hr | ⟨r0,r1,r2⟩
    ·subst hr
     go_wp2
     go_ret
     exact ⟨-1,rfl,.inl rfl,uH HB1⟩
    ·have HN:=hide (show ∀q ∈ l.take (k+1),q.node.length≤1048576 by
      rw [uH HTK]
      intro x hx
      rcases List.mem_append.1 hx with hx | hx
      ·exact uH HP x hx
      ·rw [List.mem_singleton.1 hx];exact r2)
     clear r2 HP HTK HC
     go_wp2
     go_roundw
     case rel=>exact ⟨k+1,r,by omega,by go_num,rfl,by omega,by omega,HN,HB1⟩
     case measure=>simp [intOf];omega
   ·have HF:=hide (show FitAsk l from ⟨by have:=uH HL;omega,fun q hq=>uH HP q (by rw [List.take_of_length_le (by have:=uH HL;omega)];exact hq)⟩)
    go_wp2
    go_ret
    exact ⟨a,rfl,.inr ⟨ha0,ha1,uH HF⟩,uH HB⟩
 ·have hb1:(a0:Int) - len<0:=by omega
  go_enter Tryz.func112,Tryz.ntmps112
  go_wp2
  go_ret
  exact ⟨-1,rfl,.inl rfl,yH _ _⟩
end Go.Proofs.YtjkfappkpopbdaaGreat
/-
 The laws' own szMachine and szMachineS: how much is handed in;walks over the dump (mkrow.py wrote this).
-/
namespace Go.Proofs.YtjkfappkpopbdaaGreat
open Go.RowKit
set_option linter.unusedVariables false
def szMac (q:Mac) (a:Int):Int:=if a - q.name.length<0 then -1 else a - q.name.length
def FitMac (l:List Mac):Prop:=l.length≤1048576∧∀q ∈ l,q.name.length≤1048576
set_option maxRecDepth 100000 in
set_option maxHeartbeats 1000000 in
theorem szMachine_any (q:Mac) (a:Int) (w:World) (ha0:0≤a) (ha1:a≤1048576) (hn:q.name.length≤9223372036854775807) :
  Calls Tryz.prog 71 #[macv q,.int .i64 a] w fun e w'=>e=.returned (.int .i64 (szMac q a))∧Below w.heap.size w w':=by
 obtain ⟨x0,x1,x2,x3⟩:=q
 have z1:=bs_size x0
 simp only at hn
 unfold szMac
 simp only
 by_cases h1:a - x0.length<0
 ·rw [if_pos h1]
  go_enter Tryz.func71,Tryz.ntmps71
  go_wp2
  go_ret
  refine ⟨rfl,?_⟩
  repeat (first | exact yH _ _ | refine yA ?_ _ | refine Below.drew ?_ | refine yC ?_ _ _ _ (by omega))
 ·rw [if_neg h1]
  go_enter Tryz.func71,Tryz.ntmps71
  go_wp2
  go_ret
  refine ⟨rfl,?_⟩
  repeat (first | exact yH _ _ | refine yA ?_ _ | refine Below.drew ?_ | refine yC ?_ _ _ _ (by omega))
theorem szMac_cases (q:Mac) (a:Int) (ha0:0≤a) (ha1:a≤1048576):szMac q a = -1∨(0≤szMac q a∧szMac q a≤a∧q.name.length≤1048576):=by
 unfold szMac
 split
 ·exact .inl rfl
 ·right;omega
set_option maxRecDepth 100000 in
set_option maxHeartbeats 1000000 in
theorem szMachineS_any (ao:Option Addr) (len cap:Nat) (l:List Mac) (a0:Int) (w:World) (h:MacRow w ao len l) (hlen:len≤9223372036854775807) (hm:∀q ∈ l,q.name.length≤9223372036854775807) (hA0:0≤a0) (hA1:a0≤1048576) :
  Calls Tryz.prog 29 #[.slice ao len cap,.int .i64 a0] w fun e w'=>∃r:Int,e=.returned (.int .i64 r)∧(r = -1∨(0≤r∧r≤a0∧FitMac l))∧Below w.heap.size w w':=by
 have HR:=hide h
 have HL:=hide h.1
 have HM:=hide hm
 clear h hm
 by_cases hbig:(len:Int)≤a0
 ·have hb1:¬(a0:Int) - len<0:=by omega
  go_enter Tryz.func29,Tryz.ntmps29
  go_wp2
  go_loopw [1,5] (fun s i wr=>∃(k:Nat) (a:Int),k≤len∧i=.int .i64 k∧s=.int .i64 a∧0≤a∧a≤a0∧Hid (∀q ∈ l.take k,q.name.length≤1048576)∧Hid (Below w.heap.size w wr)) (fun _ i _=>len - (intOf i).toNat)
  case atStart=>exact ⟨0,a0 - len,Nat.zero_le _,rfl,rfl,by omega,by omega,hide (by simp),hide (yH _ _)⟩
  case round=>
   obtain ⟨k,a,hk,rfl,rfl,ha0,ha1,HP,HB⟩:=hrel
   by_cases hlt:k<len
   ·obtain ⟨b,off,rfl,hq⟩:=((uH HR).below (uH HB)).at hlt
    have hkl:k<l.length:=by have:=uH HL;omega
    obtain ⟨c0,c1,c2,c3⟩:=hq hkl
    have n1:=uH HM l[k] (yM _)
    have htk:=List.take_succ_eq_append_getElem hkl
    obtain ⟨q,hs⟩:∃q,l[k]=q:=⟨_,rfl⟩
    rw [hs] at c0 c1 c2 c3 n1 htk
    have HTK:=hide htk
    have C:=hide (fun wx=>szMachine_any q a wx ha0 (by omega) n1)
    obtain ⟨r,hr⟩:∃r,szMac q a=r:=⟨_,rfl⟩
    have hcs:=szMac_cases q a ha0 (by omega)
    rw [hr] at C hcs
    have HC:=hide hcs
    clear hq hs hkl hr hcs htk n1
    go_wp2_with fail
    refine (uH C _).mono ?_
    rintro e w1 ⟨rfl,hb⟩
    have HB1:=hide (yB (uH HB) hb)
    clear hb C c0 c1 c2 c3
    rcases uH HC with hr | ⟨r0,r1,r2⟩
    ·subst hr
     go_wp2
     go_ret
     exact ⟨-1,rfl,.inl rfl,uH HB1⟩
    ·have HN:=hide (show ∀q ∈ l.take (k+1),q.name.length≤1048576 by
      rw [uH HTK]
      intro x hx
      rcases List.mem_append.1 hx with hx | hx
      ·exact uH HP x hx
      ·rw [List.mem_singleton.1 hx];exact r2)
     clear r2 HP HTK HC
     go_wp2
     go_roundw
     case rel=>exact ⟨k+1,r,by omega,by go_num,rfl,by omega,by omega,HN,HB1⟩
     case measure=>simp [intOf];omega
   ·have HF:=hide (show FitMac l from ⟨by have:=uH HL;omega,fun q hq=>uH HP q (by rw [List.take_of_length_le (by have:=uH HL;omega)];exact hq)⟩)
    go_wp2
    go_ret
    exact ⟨a,rfl,.inr ⟨ha0,ha1,uH HF⟩,uH HB⟩
 ·have hb1:(a0:Int) - len<0:=by omega
  go_enter Tryz.func29,Tryz.ntmps29
  go_wp2
  go_ret
  exact ⟨-1,rfl,.inl rfl,yH _ _⟩
end Go.Proofs.YtjkfappkpopbdaaGreat
/-
 The laws' own szCont and szContS: how much is handed in;walks over the dump (mkrow.py wrote this).
-/
namespace Go.Proofs.YtjkfappkpopbdaaGreat
open Go.RowKit
set_option linter.unusedVariables false
def szCon (q:Con) (a:Int):Int:=if a - q.node.length<0 then -1 else a - q.node.length
def FitCon (l:List Con):Prop:=l.length≤1048576∧∀q ∈ l,q.node.length≤1048576
set_option maxRecDepth 100000 in
set_option maxHeartbeats 1000000 in
theorem szCont_any (q:Con) (a:Int) (w:World) (ha0:0≤a) (ha1:a≤1048576) (hn:q.node.length≤9223372036854775807) :
  Calls Tryz.prog 72 #[conv q,.int .i64 a] w fun e w'=>e=.returned (.int .i64 (szCon q a))∧Below w.heap.size w w':=by
 obtain ⟨x0,x1,x2,x3,x4⟩:=q
 have z1:=bs_size x2
 simp only at hn
 unfold szCon
 simp only
 by_cases h1:a - x2.length<0
 ·rw [if_pos h1]
  go_enter Tryz.func72,Tryz.ntmps72
  go_wp2
  go_ret
  refine ⟨rfl,?_⟩
  repeat (first | exact yH _ _ | refine yA ?_ _ | refine Below.drew ?_ | refine yC ?_ _ _ _ (by omega))
 ·rw [if_neg h1]
  go_enter Tryz.func72,Tryz.ntmps72
  go_wp2
  go_ret
  refine ⟨rfl,?_⟩
  repeat (first | exact yH _ _ | refine yA ?_ _ | refine Below.drew ?_ | refine yC ?_ _ _ _ (by omega))
theorem szCon_cases (q:Con) (a:Int) (ha0:0≤a) (ha1:a≤1048576):szCon q a = -1∨(0≤szCon q a∧szCon q a≤a∧q.node.length≤1048576):=by
 unfold szCon
 split
 ·exact .inl rfl
 ·right;omega
set_option maxRecDepth 100000 in
set_option maxHeartbeats 1000000 in
theorem szContS_any (ao:Option Addr) (len cap:Nat) (l:List Con) (a0:Int) (w:World) (h:ConRow w ao len l) (hlen:len≤9223372036854775807) (hm:∀q ∈ l,q.node.length≤9223372036854775807) (hA0:0≤a0) (hA1:a0≤1048576) :
  Calls Tryz.prog 30 #[.slice ao len cap,.int .i64 a0] w fun e w'=>∃r:Int,e=.returned (.int .i64 r)∧(r = -1∨(0≤r∧r≤a0∧FitCon l))∧Below w.heap.size w w':=by
 have HR:=hide h
 have HL:=hide h.1
 have HM:=hide hm
 clear h hm
 by_cases hbig:(len:Int)≤a0
 ·have hb1:¬(a0:Int) - len<0:=by omega
  go_enter Tryz.func30,Tryz.ntmps30
  go_wp2
  go_loopw [1,5] (fun s i wr=>∃(k:Nat) (a:Int),k≤len∧i=.int .i64 k∧s=.int .i64 a∧0≤a∧a≤a0∧Hid (∀q ∈ l.take k,q.node.length≤1048576)∧Hid (Below w.heap.size w wr)) (fun _ i _=>len - (intOf i).toNat)
  case atStart=>exact ⟨0,a0 - len,Nat.zero_le _,rfl,rfl,by omega,by omega,hide (by simp),hide (yH _ _)⟩
  case round=>
   obtain ⟨k,a,hk,rfl,rfl,ha0,ha1,HP,HB⟩:=hrel
   by_cases hlt:k<len
   ·obtain ⟨b,off,rfl,hq⟩:=((uH HR).below (uH HB)).at hlt
    have hkl:k<l.length:=by have:=uH HL;omega
    obtain ⟨c0,c1,c2,c3,c4⟩:=hq hkl
    have n1:=uH HM l[k] (yM _)
    have htk:=List.take_succ_eq_append_getElem hkl
    obtain ⟨q,hs⟩:∃q,l[k]=q:=⟨_,rfl⟩
    rw [hs] at c0 c1 c2 c3 c4 n1 htk
    have HTK:=hide htk
    have C:=hide (fun wx=>szCont_any q a wx ha0 (by omega) n1)
    obtain ⟨r,hr⟩:∃r,szCon q a=r:=⟨_,rfl⟩
    have hcs:=szCon_cases q a ha0 (by omega)
    rw [hr] at C hcs
    have HC:=hide hcs
    clear hq hs hkl hr hcs htk n1
    go_wp2_with fail
    refine (uH C _).mono ?_
    rintro e w1 ⟨rfl,hb⟩
    have HB1:=hide (yB (uH HB) hb)
    clear hb C c0 c1 c2 c3 c4
    rcases uH HC with hr | ⟨r0,r1,r2⟩
    ·subst hr
     go_wp2
     go_ret
     exact ⟨-1,rfl,.inl rfl,uH HB1⟩
    ·have HN:=hide (show ∀q ∈ l.take (k+1),q.node.length≤1048576 by
      rw [uH HTK]
      intro x hx
      rcases List.mem_append.1 hx with hx | hx
      ·exact uH HP x hx
      ·rw [List.mem_singleton.1 hx];exact r2)
     clear r2 HP HTK HC
     go_wp2
     go_roundw
     case rel=>exact ⟨k+1,r,by omega,by go_num,rfl,by omega,by omega,HN,HB1⟩
     case measure=>simp [intOf];omega
   ·have HF:=hide (show FitCon l from ⟨by have:=uH HL;omega,fun q hq=>uH HP q (by rw [List.take_of_length_le (by have:=uH HL;omega)];exact hq)⟩)
    go_wp2
    go_ret
    exact ⟨a,rfl,.inr ⟨ha0,ha1,uH HF⟩,uH HB⟩
 ·have hb1:(a0:Int) - len<0:=by omega
  go_enter Tryz.func30,Tryz.ntmps30
  go_wp2
  go_ret
  exact ⟨-1,rfl,.inl rfl,yH _ _⟩
end Go.Proofs.YtjkfappkpopbdaaGreat
/-
 The laws' own eqAskS,at rows that hold the same;walks over the dump (mkrow.py wrote this).
-/
namespace Go.Proofs.YtjkfappkpopbdaaGreat
open Go.RowKit
set_option linter.unusedVariables false
def AskTwo (w0:World) (b p c r:Nat) (q:Ask) (w:World):Prop:=AskAt w b p q∧AskAt w c r q∧Below w0.heap.size w0 w
theorem AskTwo.call {w0 w w':World} {b p c r:Nat} {q:Ask} (h:AskTwo w0 b p c r q w) (hb:Below w.heap.size w w'):AskTwo w0 b p c r q w':=⟨h.1.below hb,h.2.1.below hb,yB h.2.2 hb⟩
theorem AskTwo.drew {w0 w:World} {b p c r:Nat} {q:Ask} (h:AskTwo w0 b p c r q w):AskTwo w0 b p c r q w.drew:=h.call (yH _ _).drew
theorem AskTwo.read (w0:World) (b p c r:Nat) (q:Ask):∀wx,AskTwo w0 b p c r q wx→wx.cell? ⟨b,p,none⟩=some (.int .i64 q.mem)∧wx.cell? ⟨b,p+1,none⟩=some (.int .i64 q.cpu)∧wx.cell? ⟨b,p+2,none⟩=some (.int .i64 q.count)∧wx.cell? ⟨b,p+3,none⟩=some (.string (bs q.node))∧wx.cell? ⟨b,p+4,none⟩=some (.int .i64 q.missed)
  ∧wx.cell? ⟨c,r,none⟩=some (.int .i64 q.mem)∧wx.cell? ⟨c,r+1,none⟩=some (.int .i64 q.cpu)∧wx.cell? ⟨c,r+2,none⟩=some (.int .i64 q.count)∧wx.cell? ⟨c,r+3,none⟩=some (.string (bs q.node))∧wx.cell? ⟨c,r+4,none⟩=some (.int .i64 q.missed):=
 fun wx h=>⟨h.1.1,h.1.2.1,h.1.2.2.1,h.1.2.2.2.1,h.1.2.2.2.2,h.2.1.1,h.2.1.2.1,h.2.1.2.2.1,h.2.1.2.2.2.1,h.2.1.2.2.2.2⟩
set_option maxRecDepth 100000 in
set_option maxHeartbeats 2000000 in
theorem eqAskS_same (ao bo:Option Addr) (len cap ccap:Nat) (l:List Ask) (w:World) (h:AskRow w ao len l) (h':AskRow w bo len l) (hl:len≤1048576) :
  Calls Tryz.prog 147 #[.slice ao len cap,.slice bo len ccap] w fun e w'=>e=.returned (.bool true)∧Below w.heap.size w w':=by
 have HR:=hide h
 have HR':=hide h'
 have HL:=hide h.1
 clear h h'
 go_enter Tryz.func147,Tryz.ntmps147
 go_wp2
 go_loopw [5] (fun i wr=>∃k:Nat,k≤len∧i=.int .i64 k∧Hid (Below w.heap.size w wr)) (fun i _=>len - (intOf i).toNat)
 case atStart=>exact ⟨0,Nat.zero_le _,rfl,hide (yH _ _)⟩
 case round=>
  obtain ⟨k,hk,rfl,HB⟩:=hrel
  by_cases hlt:k<len
  ·obtain ⟨b,off,rfl,hq⟩:=((uH HR).below (uH HB)).at hlt
   obtain ⟨c,coff,rfl,hq'⟩:=((uH HR').below (uH HB)).at hlt
   have hkl:k<l.length:=by have:=uH HL;omega
   have A0:=hide (show AskTwo w b (off+k*5) c (coff+k*5) l[k] wr from ⟨hq hkl,hq' hkl,uH HB⟩)
   obtain ⟨q,hs⟩:∃q,l[k]=q:=⟨_,rfl⟩
   rw [hs] at A0
   have R:=AskTwo.read w b (off+k*5) c (coff+k*5) q
   have k0:(0:Int)≤k:=by omega
   have k1:(k:Int)<len:=by omega
   clear hq hq' hs hkl
   go_wp2_with fail
   go_region_held3 (fun wx=>AskTwo w b (off+k*5) c (coff+k*5) q wx)
    (first | (with_reducible assumption) | exact (uH A0).drew | exact AskTwo.call (by assumption) (by assumption))
    (first
    | (go_at_call 178;refine (eqAsk_same _ _).mono ?_;rintro e wt ⟨rfl,hb⟩;have SA:=AskTwo.call (w0:=w) (b:=b) (p:=off+k*5) (c:=c) (r:=coff+k*5) (q:=q) (by assumption) hb))
   have HB2:=hide SA.2.2
   clear SA R A0
   go_wp2
   go_roundw
   case rel=>exact ⟨k+1,by omega,by go_num,HB2⟩
   case measure=>simp [intOf];omega
  ·go_wp2
   go_ret
   exact ⟨rfl,uH HB⟩
end Go.Proofs.YtjkfappkpopbdaaGreat
/-
 The laws' own eqMachineS,at rows that hold the same;walks over the dump (mkrow.py wrote this).
-/
namespace Go.Proofs.YtjkfappkpopbdaaGreat
open Go.RowKit
set_option linter.unusedVariables false
def MacTwo (w0:World) (b p c r:Nat) (q:Mac) (w:World):Prop:=MacAt w b p q∧MacAt w c r q∧Below w0.heap.size w0 w
theorem MacTwo.call {w0 w w':World} {b p c r:Nat} {q:Mac} (h:MacTwo w0 b p c r q w) (hb:Below w.heap.size w w'):MacTwo w0 b p c r q w':=⟨h.1.below hb,h.2.1.below hb,yB h.2.2 hb⟩
theorem MacTwo.drew {w0 w:World} {b p c r:Nat} {q:Mac} (h:MacTwo w0 b p c r q w):MacTwo w0 b p c r q w.drew:=h.call (yH _ _).drew
theorem MacTwo.read (w0:World) (b p c r:Nat) (q:Mac):∀wx,MacTwo w0 b p c r q wx→wx.cell? ⟨b,p,none⟩=some (.string (bs q.name))∧wx.cell? ⟨b,p+1,none⟩=some (.int .i64 q.mem)∧wx.cell? ⟨b,p+2,none⟩=some (.int .i64 q.cpu)∧wx.cell? ⟨b,p+3,none⟩=some (.int .i64 q.seen)
  ∧wx.cell? ⟨c,r,none⟩=some (.string (bs q.name))∧wx.cell? ⟨c,r+1,none⟩=some (.int .i64 q.mem)∧wx.cell? ⟨c,r+2,none⟩=some (.int .i64 q.cpu)∧wx.cell? ⟨c,r+3,none⟩=some (.int .i64 q.seen):=
 fun wx h=>⟨h.1.1,h.1.2.1,h.1.2.2.1,h.1.2.2.2,h.2.1.1,h.2.1.2.1,h.2.1.2.2.1,h.2.1.2.2.2⟩
set_option maxRecDepth 100000 in
set_option maxHeartbeats 2000000 in
theorem eqMachineS_same (ao bo:Option Addr) (len cap ccap:Nat) (l:List Mac) (w:World) (h:MacRow w ao len l) (h':MacRow w bo len l) (hl:len≤1048576) :
  Calls Tryz.prog 56 #[.slice ao len cap,.slice bo len ccap] w fun e w'=>e=.returned (.bool true)∧Below w.heap.size w w':=by
 have HR:=hide h
 have HR':=hide h'
 have HL:=hide h.1
 clear h h'
 go_enter Tryz.func56,Tryz.ntmps56
 go_wp2
 go_loopw [5] (fun i wr=>∃k:Nat,k≤len∧i=.int .i64 k∧Hid (Below w.heap.size w wr)) (fun i _=>len - (intOf i).toNat)
 case atStart=>exact ⟨0,Nat.zero_le _,rfl,hide (yH _ _)⟩
 case round=>
  obtain ⟨k,hk,rfl,HB⟩:=hrel
  by_cases hlt:k<len
  ·obtain ⟨b,off,rfl,hq⟩:=((uH HR).below (uH HB)).at hlt
   obtain ⟨c,coff,rfl,hq'⟩:=((uH HR').below (uH HB)).at hlt
   have hkl:k<l.length:=by have:=uH HL;omega
   have A0:=hide (show MacTwo w b (off+k*4) c (coff+k*4) l[k] wr from ⟨hq hkl,hq' hkl,uH HB⟩)
   obtain ⟨q,hs⟩:∃q,l[k]=q:=⟨_,rfl⟩
   rw [hs] at A0
   have R:=MacTwo.read w b (off+k*4) c (coff+k*4) q
   have k0:(0:Int)≤k:=by omega
   have k1:(k:Int)<len:=by omega
   clear hq hq' hs hkl
   go_wp2_with fail
   go_region_held3 (fun wx=>MacTwo w b (off+k*4) c (coff+k*4) q wx)
    (first | (with_reducible assumption) | exact (uH A0).drew | exact MacTwo.call (by assumption) (by assumption))
    (first
    | (go_at_call 106;refine (eqMachine_same _ _).mono ?_;rintro e wt ⟨rfl,hb⟩;have SA:=MacTwo.call (w0:=w) (b:=b) (p:=off+k*4) (c:=c) (r:=coff+k*4) (q:=q) (by assumption) hb))
   have HB2:=hide SA.2.2
   clear SA R A0
   go_wp2
   go_roundw
   case rel=>exact ⟨k+1,by omega,by go_num,HB2⟩
   case measure=>simp [intOf];omega
  ·go_wp2
   go_ret
   exact ⟨rfl,uH HB⟩
end Go.Proofs.YtjkfappkpopbdaaGreat
/-
 The laws' own eqContS,at rows that hold the same;walks over the dump (mkrow.py wrote this).
-/
namespace Go.Proofs.YtjkfappkpopbdaaGreat
open Go.RowKit
set_option linter.unusedVariables false
def ConTwo (w0:World) (b p c r:Nat) (q:Con) (w:World):Prop:=ConAt w b p q∧ConAt w c r q∧Below w0.heap.size w0 w
theorem ConTwo.call {w0 w w':World} {b p c r:Nat} {q:Con} (h:ConTwo w0 b p c r q w) (hb:Below w.heap.size w w'):ConTwo w0 b p c r q w':=⟨h.1.below hb,h.2.1.below hb,yB h.2.2 hb⟩
theorem ConTwo.drew {w0 w:World} {b p c r:Nat} {q:Con} (h:ConTwo w0 b p c r q w):ConTwo w0 b p c r q w.drew:=h.call (yH _ _).drew
theorem ConTwo.read (w0:World) (b p c r:Nat) (q:Con):∀wx,ConTwo w0 b p c r q wx→wx.cell? ⟨b,p,none⟩=some (.int .i64 q.id)∧wx.cell? ⟨b,p+1,none⟩=some (.int .i64 q.app)∧wx.cell? ⟨b,p+2,none⟩=some (.string (bs q.node))∧wx.cell? ⟨b,p+3,none⟩=some (.int .i64 q.mem)∧wx.cell? ⟨b,p+4,none⟩=some (.int .i64 q.cpu)
  ∧wx.cell? ⟨c,r,none⟩=some (.int .i64 q.id)∧wx.cell? ⟨c,r+1,none⟩=some (.int .i64 q.app)∧wx.cell? ⟨c,r+2,none⟩=some (.string (bs q.node))∧wx.cell? ⟨c,r+3,none⟩=some (.int .i64 q.mem)∧wx.cell? ⟨c,r+4,none⟩=some (.int .i64 q.cpu):=
 fun wx h=>⟨h.1.1,h.1.2.1,h.1.2.2.1,h.1.2.2.2.1,h.1.2.2.2.2,h.2.1.1,h.2.1.2.1,h.2.1.2.2.1,h.2.1.2.2.2.1,h.2.1.2.2.2.2⟩
set_option maxRecDepth 100000 in
set_option maxHeartbeats 2000000 in
theorem eqContS_same (ao bo:Option Addr) (len cap ccap:Nat) (l:List Con) (w:World) (h:ConRow w ao len l) (h':ConRow w bo len l) (hl:len≤1048576) :
  Calls Tryz.prog 57 #[.slice ao len cap,.slice bo len ccap] w fun e w'=>e=.returned (.bool true)∧Below w.heap.size w w':=by
 have HR:=hide h
 have HR':=hide h'
 have HL:=hide h.1
 clear h h'
 go_enter Tryz.func57,Tryz.ntmps57
 go_wp2
 go_loopw [5] (fun i wr=>∃k:Nat,k≤len∧i=.int .i64 k∧Hid (Below w.heap.size w wr)) (fun i _=>len - (intOf i).toNat)
 case atStart=>exact ⟨0,Nat.zero_le _,rfl,hide (yH _ _)⟩
 case round=>
  obtain ⟨k,hk,rfl,HB⟩:=hrel
  by_cases hlt:k<len
  ·obtain ⟨b,off,rfl,hq⟩:=((uH HR).below (uH HB)).at hlt
   obtain ⟨c,coff,rfl,hq'⟩:=((uH HR').below (uH HB)).at hlt
   have hkl:k<l.length:=by have:=uH HL;omega
   have A0:=hide (show ConTwo w b (off+k*5) c (coff+k*5) l[k] wr from ⟨hq hkl,hq' hkl,uH HB⟩)
   obtain ⟨q,hs⟩:∃q,l[k]=q:=⟨_,rfl⟩
   rw [hs] at A0
   have R:=ConTwo.read w b (off+k*5) c (coff+k*5) q
   have k0:(0:Int)≤k:=by omega
   have k1:(k:Int)<len:=by omega
   clear hq hq' hs hkl
   go_wp2_with fail
   go_region_held3 (fun wx=>ConTwo w b (off+k*5) c (coff+k*5) q wx)
    (first | (with_reducible assumption) | exact (uH A0).drew | exact ConTwo.call (by assumption) (by assumption))
    (first
    | (go_at_call 107;refine (eqCont_same _ _).mono ?_;rintro e wt ⟨rfl,hb⟩;have SA:=ConTwo.call (w0:=w) (b:=b) (p:=off+k*5) (c:=c) (r:=coff+k*5) (q:=q) (by assumption) hb))
   have HB2:=hide SA.2.2
   clear SA R A0
   go_wp2
   go_roundw
   case rel=>exact ⟨k+1,by omega,by go_num,HB2⟩
   case measure=>simp [intOf];omega
  ·go_wp2
   go_ret
   exact ⟨rfl,uH HB⟩
end Go.Proofs.YtjkfappkpopbdaaGreat
/-
 The laws' own toApp and toAppS: rows made anew;walks over the dump.
-/
namespace Go.Proofs.YtjkfappkpopbdaaGreat
open Go.RowKit
set_option linter.unusedVariables false
set_option maxRecDepth 100000 in
set_option maxHeartbeats 1000000 in
theorem toApp_any (id:Int) (qu:List UInt8) (ao:Option Addr) (len cap:Nat) (l:List Ask) (w:World) (h:AskRow w ao len l) (hl:len≤1048576) :
  Calls Tryz.prog 82 #[applv id qu ao len cap] w fun e w'=>∃g,e=.returned (applv id qu (some ⟨g,0,none⟩) len len)∧w.heap.size<g∧AskBlk w' 193 g len len l∧Below w.heap.size w w':=by
 have HR:=hide h
 clear h
 have HB0:=hide (yA (yA (yA (yH _ w) (.cells #[.int .i64 id,.string (bs qu),.slice ao len cap] 120)) (.cells #[.int .i64 0,.string (bs []),.slice none 0 0] 139)) (.cells #[.int .i64 id,.string (bs qu),.slice none 0 0] 139))
 have K1:=hide ((yD (w.alloc (.cells #[.int .i64 id,.string (bs qu),.slice ao len cap] 120)) #[.int .i64 0,.string (bs []),.slice none 0 0] 139).al (.cells #[.int .i64 id,.string (bs qu),.slice none 0 0] 139))
 have K2:=hide (yD ((w.alloc (.cells #[.int .i64 id,.string (bs qu),.slice ao len cap] 120)).alloc (.cells #[.int .i64 0,.string (bs []),.slice none 0 0] 139)) #[.int .i64 id,.string (bs qu),.slice none 0 0] 139)
 go_enter Tryz.func82,Tryz.ntmps82
 go_wp2_with fail
 refine (toAskS_any ao len cap l _ ((uH HR).below (uH HB0)) hl).mono ?_
 rintro e w1 ⟨rfl,hq,hb⟩
 have b1:=(uH K1).below hb
 have b2:=(uH K2).below hb
 simp only [yE] at b1 b2 hq
 have HB1:=hide (yB (uH HB0) hb)
 have HQ:=hide hq
 clear hb K1 K2 HB0 HR hq
 have r0:=b1.at 0;have r1:=b1.at 1;have r2:=b1.at 2
 have o0:=b2.at 0;have o1:=b2.at 1;have o2:=b2.at 2
 have rf0:=b1.f 0;have rf1:=b1.f 1;have rf2:=b1.f 2
 have of2:=b2.f 2
 simp at r0 r1 r2 o0 o1 o2
 clear b1 b2
 go_wp2
 refine bodyPost_ret (v:=applv id qu (some ⟨w.heap.size+1+1+1,0,none⟩) len len) (by simp [results,Tryz.results82,go_sem, *]) rfl ⟨_,rfl,by omega,?_,?_⟩
 ·repeat (first | exact uH HQ | refine AskBlk.other ?_ _ _ _ (by omega))
 ·repeat (first | exact uH HB1 | refine yC ?_ _ _ _ (by omega))
theorem applInfo:(Tryz.prog.info? 139).map (fun i=>(i.zero,i.size,i.bytes))=some (some (applv 0 [] none 0 0),3,48):=by kernel_rfl
theorem make_appls (n:Nat) (hn:n≤1048576) (w:World) :
  (Instr.makeSlice 33 (.int .i64 (n:Int)) (.int .i64 (n:Int))).run Tryz.prog w=.ok (.slice (some ⟨w.heap.size,0,none⟩) n n) (w.alloc (.cells (madeCells (applv 0 [] none 0 0).cells (n*3)) 139)):=by
 obtain ⟨i,hi,hz⟩:=Option.map_eq_some_iff.1 applInfo
 simp only [Prod.mk.injEq] at hz
 obtain ⟨hz,hs,hb⟩:=hz
 have hr:=run_make (P:=Tryz.prog) w 33 139 i _ Tryz.underlying33 hi hz .i64 .i64 n n (by omega) (Int.le_refl _) (by rw [hb];omega) (by omega)
 simp only [Int.toNat_natCast,hs] at hr
 exact hr
set_option maxRecDepth 100000 in
set_option maxHeartbeats 1000000 in
theorem toAppS_any (ao:Option Addr) (len cap:Nat) (l:List Appl) (w:World) (h:ApplRow w ao len l) (hl:len≤1048576) (hk:∀q ∈ l,q.asks.length≤1048576) :
  Calls Tryz.prog 41 #[.slice ao len cap] w fun e w'=>e=.returned (.slice (some ⟨w.heap.size,0,none⟩) len len)∧ApplBlk w' 139 w.heap.size len len l∧Below w.heap.size w w':=by
 have HR:=hide h
 have HL:=hide h.1
 have HK:=hide hk
 have hmk:=make_appls len hl w
 obtain ⟨zs,hzs⟩:∃z,z=(applv 0 [] none 0 0).cells:=⟨_,rfl⟩
 rw [←hzs] at hmk
 clear h hzs hk
 go_enter Tryz.func41,Tryz.ntmps41
 go_wp2
 clear hmk
 go_loopw [4] (fun i wr=>∃k:Nat,k≤len∧i=.int .i64 k∧Hid (ApplBlk wr 139 w.heap.size len k l)∧Hid (Below w.heap.size w wr)) (fun i _=>len - (intOf i).toNat)
 case atStart=>exact ⟨0,Nat.zero_le _,rfl,hide (applblk_made w _ _ _ _),hide (yA (yH _ _) _)⟩
 case round=>
  obtain ⟨k,hk,rfl,HQ,HB⟩:=hrel
  by_cases hlt:k<len
  ·obtain ⟨b,off,rfl,hq⟩:=((uH HR).below (uH HB)).at hlt
   have hkl:k<l.length:=by have:=uH HL;omega
   have hkn:=uH HK l[k] (yM _)
   obtain ⟨xo,xl,xc,c0,c1,c2,hrow,hxc⟩:=hq hkl
   have hst:∀wx,ApplBlk wx 139 w.heap.size len k l→∀AO LEN CAP,AskOwn wx w.heap.size AO LEN CAP l[k].asks→ApplBlk (putAppl wx w.heap.size (k*3) l[k].id l[k].queue AO LEN CAP) 139 w.heap.size len (k+1) l:=fun wx hx AO LEN CAP ho=>hx.step hlt hkl AO LEN CAP ho
   obtain ⟨q,hs⟩:∃q,l[k]=q:=⟨_,rfl⟩
   rw [hs] at c0 c1 hst hrow hkn
   obtain ⟨id,qu,asks⟩:=q
   simp only at c0 c1 hst hrow hkn
   have HXL:=hide hrow.1
   have hxl:xl≤1048576:=by have:=hrow.1;omega
   have HST:=hide hst
   have HROW:=hide hrow
   have hsz:=(uH HQ).lt
   clear hst hq hs hkl hrow hxc hkn
   go_wp2_with fail
   refine (toApp_any id qu xo xl xc asks _ (uH HROW) hxl).mono ?_
   rintro e w1 ⟨g,rfl,hg,hab,hb⟩
   have HQ1:=hide ((uH HQ).below hb)
   have HB1:=hide (yB (uH HB) hb)
   have HO:=hide (show AskOwn w1 w.heap.size (some ⟨g,0,none⟩) xl xl asks from ⟨hab.row (uH HXL),yJ _,fun b off e=>by simp at e;omega,g,rfl,rfl,hab.any⟩)
   clear hb c0 c1 c2 hab
   obtain ⟨v0,d0⟩:=(uH HQ1).cell (j:=k*3) (by omega)
   obtain ⟨v1,d1⟩:=(uH HQ1).cell (j:=k*3+1) (by omega)
   obtain ⟨v2,d2⟩:=(uH HQ1).cell (j:=k*3+2) (by omega)
   have f0:=(uH HQ1).frozen (k*3)
   have f1:=(uH HQ1).frozen (k*3+1)
   have f2:=(uH HQ1).frozen (k*3+2)
   go_wp2
   go_roundw
   case rel=>exact ⟨k+1,by omega,by go_num,hide (uH HST _ (uH HQ1) _ _ _ (uH HO)),hide (yC (yC (yC (uH HB1) _ _ _ (by omega)) _ _ _ (by omega)) _ _ _ (by omega))⟩
   case measure=>simp [intOf];omega
  ·have hkk:k=len:=by omega
   subst hkk
   go_wp2
   go_ret
   exact ⟨rfl,uH HQ,uH HB⟩
end Go.Proofs.YtjkfappkpopbdaaGreat
/-
 The laws' own szApp and szAppS: how much is handed in;walks over the dump.
-/
namespace Go.Proofs.YtjkfappkpopbdaaGreat
open Go.RowKit
set_option linter.unusedVariables false
def ApplBig (q:Appl):Prop:=q.queue.length≤9223372036854775807∧q.asks.length≤9223372036854775807∧∀a ∈ q.asks,a.node.length≤9223372036854775807
def FitAppl1 (q:Appl):Prop:=q.queue.length≤1048576∧FitAsk q.asks
def FitAppl (l:List Appl):Prop:=l.length≤1048576∧∀q ∈ l,FitAppl1 q
set_option maxRecDepth 100000 in
set_option maxHeartbeats 1000000 in
theorem szApp_any (id:Int) (qu:List UInt8) (ao:Option Addr) (len cap:Nat) (l:List Ask) (a:Int) (w:World) (h:AskRow w ao len l) (ha0:0≤a) (ha1:a≤1048576) (hn:ApplBig ⟨id,qu,l⟩) :
  Calls Tryz.prog 70 #[applv id qu ao len cap,.int .i64 a] w fun e w'=>∃r:Int,e=.returned (.int .i64 r)∧(r = -1∨(0≤r∧r≤a∧FitAppl1 ⟨id,qu,l⟩))∧Below w.heap.size w w':=by
 have z1:=bs_size qu
 obtain ⟨hn1,hn2,hn3⟩:=hn
 simp only at hn1 hn2 hn3
 have hlen:len≤9223372036854775807:=by have:=h.1;omega
 have HB0:=hide (yA (yH _ w) (.cells #[.int .i64 id,.string (bs qu),.slice ao len cap] 120))
 have HR:=hide h
 have H3:=hide hn3
 clear h hn3 hn2
 by_cases h1:a - qu.length<0
 ·go_enter Tryz.func70,Tryz.ntmps70
  go_wp2
  go_ret
  exact ⟨-1,rfl,.inl rfl,uH HB0⟩
 ·have C:=hide (szAskS_any ao len cap l (a - qu.length) _ ((uH HR).below (uH HB0)) hlen (uH H3) (by omega) (by omega))
  go_enter Tryz.func70,Tryz.ntmps70
  go_wp2_with fail
  refine (uH C).mono ?_
  rintro e w1 ⟨r,rfl,hr,hb⟩
  have HB1:=hide (yB (uH HB0) hb)
  clear hb C
  rcases hr with rfl | ⟨hr0,hr1,hf⟩
  ·go_wp2
   go_ret
   exact ⟨-1,rfl,.inl rfl,uH HB1⟩
  ·have HF:=hide hf
   clear hf
   go_wp2
   go_ret
   exact ⟨r,rfl,.inr ⟨hr0,by omega,by show qu.length≤1048576;omega,uH HF⟩,uH HB1⟩
set_option maxRecDepth 100000 in
set_option maxHeartbeats 1000000 in
theorem szAppS_any (ao:Option Addr) (len cap:Nat) (l:List Appl) (a0:Int) (w:World) (h:ApplRow w ao len l) (hlen:len≤9223372036854775807) (hm:∀q ∈ l,ApplBig q) (hA0:0≤a0) (hA1:a0≤1048576) :
  Calls Tryz.prog 28 #[.slice ao len cap,.int .i64 a0] w fun e w'=>∃r:Int,e=.returned (.int .i64 r)∧(r = -1∨(0≤r∧r≤a0∧FitAppl l))∧Below w.heap.size w w':=by
 have HR:=hide h
 have HL:=hide h.1
 have HM:=hide hm
 clear h hm
 by_cases hbig:(len:Int)≤a0
 ·have hb1:¬(a0:Int) - len<0:=by omega
  go_enter Tryz.func28,Tryz.ntmps28
  go_wp2
  go_loopw [1,5] (fun s i wr=>∃(k:Nat) (a:Int),k≤len∧i=.int .i64 k∧s=.int .i64 a∧0≤a∧a≤a0∧Hid (∀q ∈ l.take k,FitAppl1 q)∧Hid (Below w.heap.size w wr)) (fun _ i _=>len - (intOf i).toNat)
  case atStart=>exact ⟨0,a0 - len,Nat.zero_le _,rfl,rfl,by omega,by omega,hide (by simp),hide (yH _ _)⟩
  case round=>
   obtain ⟨k,a,hk,rfl,rfl,ha0,ha1,HP,HB⟩:=hrel
   by_cases hlt:k<len
   ·obtain ⟨b,off,rfl,hq⟩:=((uH HR).below (uH HB)).at hlt
    have hkl:k<l.length:=by have:=uH HL;omega
    obtain ⟨xo,xl,xc,c0,c1,c2,hrow,hxc⟩:=hq hkl
    have n1:=uH HM l[k] (yM _)
    have htk:=List.take_succ_eq_append_getElem hkl
    obtain ⟨q,hs⟩:∃q,l[k]=q:=⟨_,rfl⟩
    rw [hs] at c0 c1 n1 htk hrow
    obtain ⟨id,qu,asks⟩:=q
    simp only at c0 c1 hrow
    have HTK:=hide htk
    have C:=hide (szApp_any id qu xo xl xc asks a wr hrow ha0 (by omega) n1)
    clear hq hs hkl htk n1 hrow
    go_wp2_with fail
    refine (uH C).mono ?_
    rintro e w1 ⟨r,rfl,hr,hb⟩
    have HB1:=hide (yB (uH HB) hb)
    clear hb C c0 c1 c2
    rcases hr with rfl | ⟨r0,r1,r2⟩
    ·go_wp2
     go_ret
     exact ⟨-1,rfl,.inl rfl,uH HB1⟩
    ·have HN:=hide (show ∀q ∈ l.take (k+1),FitAppl1 q by
      rw [uH HTK]
      intro x hx
      rcases List.mem_append.1 hx with hx | hx
      ·exact uH HP x hx
      ·rw [List.mem_singleton.1 hx];exact r2)
     clear r2 HP HTK
     go_wp2
     go_roundw
     case rel=>exact ⟨k+1,r,by omega,by go_num,rfl,by omega,by omega,HN,HB1⟩
     case measure=>simp [intOf];omega
   ·have HF:=hide (show FitAppl l from ⟨by have:=uH HL;omega,fun q hq=>uH HP q (by rw [List.take_of_length_le (by have:=uH HL;omega)];exact hq)⟩)
    go_wp2
    go_ret
    exact ⟨a,rfl,.inr ⟨ha0,ha1,uH HF⟩,uH HB⟩
 ·have hb1:(a0:Int) - len<0:=by omega
  go_enter Tryz.func28,Tryz.ntmps28
  go_wp2
  go_ret
  exact ⟨-1,rfl,.inl rfl,yH _ _⟩
end Go.Proofs.YtjkfappkpopbdaaGreat
/-
 The laws' own eqApp and eqAppS,at rows that hold the same;walks over the dump.
-/
namespace Go.Proofs.YtjkfappkpopbdaaGreat
open Go.RowKit
set_option linter.unusedVariables false
set_option maxRecDepth 100000 in
set_option maxHeartbeats 1000000 in
theorem eqApp_same (id:Int) (qu:List UInt8) (ao bo:Option Addr) (len cap ccap:Nat) (l:List Ask) (w:World) (h:AskRow w ao len l) (h':AskRow w bo len l) (hl:len≤1048576) :
  Calls Tryz.prog 105 #[applv id qu ao len cap,applv id qu bo len ccap] w fun e w'=>e=.returned (.bool true)∧Below w.heap.size w w':=by
 have HB0:=hide (yA (yA (yH _ w) (.cells #[.int .i64 id,.string (bs qu),.slice ao len cap] 139)) (.cells #[.int .i64 id,.string (bs qu),.slice bo len ccap] 139))
 have C:=hide (fun wx (hb:Below w.heap.size w wx)=>eqAskS_same ao bo len cap ccap l wx (h.below hb) (h'.below hb) hl)
 clear h h'
 go_enter Tryz.func105,Tryz.ntmps105
 go_wp2_with fail
 refine (uH C _ ?_).mono ?_
 ·first | exact uH HB0 | exact (uH HB0).drew | exact (uH HB0).drew.drew | exact below_dn (uH HB0) _
 rintro e w1 ⟨rfl,hb⟩
 have HB1:=hide (show Below w.heap.size w w1 by first | exact yB (uH HB0) hb | exact yB (uH HB0).drew hb | exact yB (uH HB0).drew.drew hb | exact yB (below_dn (uH HB0) _) hb)
 clear hb C HB0
 go_wp2
 go_ret
 exact ⟨rfl,uH HB1⟩
def ApplTwo (w0:World) (b p c r:Nat) (q:Appl) (ao bo:Option Addr) (len cap ccap:Nat) (w:World):Prop:=ApplAt w b p q ao len cap∧ApplAt w c r q bo len ccap∧Below w0.heap.size w0 w
theorem ApplTwo.call {w0 w w':World} {b p c r:Nat} {q:Appl} {ao bo:Option Addr} {len cap ccap:Nat} (h:ApplTwo w0 b p c r q ao bo len cap ccap w) (hb:Below w.heap.size w w'):ApplTwo w0 b p c r q ao bo len cap ccap w':=⟨h.1.below hb,h.2.1.below hb,yB h.2.2 hb⟩
theorem ApplTwo.drew {w0 w:World} {b p c r:Nat} {q:Appl} {ao bo:Option Addr} {len cap ccap:Nat} (h:ApplTwo w0 b p c r q ao bo len cap ccap w):ApplTwo w0 b p c r q ao bo len cap ccap w.drew:=h.call (yH _ _).drew
theorem ApplTwo.read (w0:World) (b p c r:Nat) (q:Appl) (ao bo:Option Addr) (len cap ccap:Nat):∀wx,ApplTwo w0 b p c r q ao bo len cap ccap wx→wx.cell? ⟨b,p,none⟩=some (.int .i64 q.id)∧wx.cell? ⟨b,p+1,none⟩=some (.string (bs q.queue))∧wx.cell? ⟨b,p+2,none⟩=some (.slice ao len cap)
  ∧wx.cell? ⟨c,r,none⟩=some (.int .i64 q.id)∧wx.cell? ⟨c,r+1,none⟩=some (.string (bs q.queue))∧wx.cell? ⟨c,r+2,none⟩=some (.slice bo len ccap):=
 fun wx h=>⟨h.1.1,h.1.2.1,h.1.2.2.1,h.2.1.1,h.2.1.2.1,h.2.1.2.2.1⟩
set_option maxRecDepth 100000 in
set_option maxHeartbeats 2000000 in
theorem eqAppS_same (ao bo:Option Addr) (len cap ccap:Nat) (l:List Appl) (w:World) (h:ApplRow w ao len l) (h':ApplRow w bo len l) (hl:len≤1048576) (hk:∀q ∈ l,q.asks.length≤1048576) :
  Calls Tryz.prog 55 #[.slice ao len cap,.slice bo len ccap] w fun e w'=>e=.returned (.bool true)∧Below w.heap.size w w':=by
 have HR:=hide h
 have HR':=hide h'
 have HL:=hide h.1
 have HK:=hide hk
 clear h h' hk
 go_enter Tryz.func55,Tryz.ntmps55
 go_wp2
 go_loopw [5] (fun i wr=>∃k:Nat,k≤len∧i=.int .i64 k∧Hid (Below w.heap.size w wr)) (fun i _=>len - (intOf i).toNat)
 case atStart=>exact ⟨0,Nat.zero_le _,rfl,hide (yH _ _)⟩
 case round=>
  obtain ⟨k,hk,rfl,HB⟩:=hrel
  by_cases hlt:k<len
  ·obtain ⟨b,off,rfl,hq⟩:=((uH HR).below (uH HB)).at hlt
   obtain ⟨c,coff,rfl,hq'⟩:=((uH HR').below (uH HB)).at hlt
   have hkl:k<l.length:=by have:=uH HL;omega
   obtain ⟨xo,xl,xc,hx⟩:=hq hkl
   obtain ⟨yo,yl,yc,hy⟩:=hq' hkl
   obtain rfl:xl=yl:=hx.2.2.2.1.1.trans hy.2.2.2.1.1.symm
   have hxl:xl≤1048576:=by have:=uH HK l[k] (yM _);have:=hx.2.2.2.1.1;omega
   have A0:=hide (show ApplTwo w b (off+k*3) c (coff+k*3) l[k] xo yo xl xc yc wr from ⟨hx,hy,uH HB⟩)
   obtain ⟨q,hs⟩:∃q,l[k]=q:=⟨_,rfl⟩
   rw [hs] at A0
   have R:=ApplTwo.read w b (off+k*3) c (coff+k*3) q xo yo xl xc yc
   have k0:(0:Int)≤k:=by omega
   have k1:(k:Int)<len:=by omega
   clear hq hq' hs hkl hx hy
   go_wp2_with fail
   go_region_held3 (fun wx=>ApplTwo w b (off+k*3) c (coff+k*3) q xo yo xl xc yc wx)
    (first | (with_reducible assumption) | exact (uH A0).drew | exact ApplTwo.call (by assumption) (by assumption))
    (first
    | (go_at_call 105;refine (eqApp_same _ _ xo yo xl xc yc q.asks _ ?_ ?_ hxl).mono ?_;(exact (show ApplTwo w b (off+k*3) c (coff+k*3) q xo yo xl xc yc _ by assumption).1.2.2.2.1);(exact (show ApplTwo w b (off+k*3) c (coff+k*3) q xo yo xl xc yc _ by assumption).2.1.2.2.2.1);rintro e wt ⟨rfl,hb⟩;have SA:=ApplTwo.call (w0:=w) (b:=b) (p:=off+k*3) (c:=c) (r:=coff+k*3) (q:=q) (ao:=xo) (bo:=yo) (len:=xl) (cap:=xc) (ccap:=yc) (by assumption) hb))
   have HB2:=hide SA.2.2
   clear SA R A0
   go_wp2
   go_roundw
   case rel=>exact ⟨k+1,by omega,by go_num,HB2⟩
   case measure=>simp [intOf];omega
  ·go_wp2
   go_ret
   exact ⟨rfl,uH HB⟩
end Go.Proofs.YtjkfappkpopbdaaGreat
/-
 States: values,and what stands behind their slices.
-/
namespace Go.Proofs.YtjkfappkpopbdaaGreat
open Go.RowKit
set_option linter.unusedVariables false
structure St where
 qs:List Q
 clock:Int
 epoch:Int
 next:Int
 serial:Int
 apps:List Appl
 ms:List Mac
 cs:List Con
structure Sls where
 qa:Option Addr
 ql:Nat
 qc:Nat
 aa:Option Addr
 al:Nat
 ac:Nat
 ma:Option Addr
 ml:Nat
 mc:Nat
 ca:Option Addr
 cl:Nat
 cc:Nat
abbrev svc (x:Sls) (s:St):Array Value:=#[.slice x.qa x.ql x.qc,.int .i64 s.clock,.int .i64 s.epoch,.int .i64 s.next,.int .i64 s.serial,.slice x.aa x.al x.ac,.slice x.ma x.ml x.mc,.slice x.ca x.cl x.cc]
abbrev sv (x:Sls) (s:St):Value:=.agg (svc x s)
def SRow (w:World) (x:Sls) (s:St):Prop:=QRow w x.qa x.ql s.qs∧ApplRow w x.aa x.al s.apps∧MacRow w x.ma x.ml s.ms∧ConRow w x.ca x.cl s.cs
theorem SRow.below {w w':World} {x:Sls} {s:St} (h:SRow w x s) (hb:Below w.heap.size w w'):SRow w' x s:=⟨h.1.below hb,h.2.1.below hb,h.2.2.1.below hb,h.2.2.2.below hb⟩
def SOwn4 (w:World) (g1 g2 g3 g4 ql al ml cl:Nat) (s:St):Prop:=
 QBlk w 142 g1 ql ql s.qs∧ApplBlk w 139 g2 al al s.apps∧MacBlk w 147 g3 ml ml s.ms∧ConBlk w 150 g4 cl cl s.cs
abbrev own4 (g1 g2 g3 g4 ql al ml cl:Nat):Sls:=⟨some ⟨g1,0,none⟩,ql,ql,some ⟨g2,0,none⟩,al,al,some ⟨g3,0,none⟩,ml,ml,some ⟨g4,0,none⟩,cl,cl⟩
def SLen (x:Sls) (s:St):Prop:=x.ql=s.qs.length∧x.al=s.apps.length∧x.ml=s.ms.length∧x.cl=s.cs.length
theorem SRow.len {w:World} {x:Sls} {s:St} (h:SRow w x s):SLen x s:=⟨h.1.1,h.2.1.1,h.2.2.1.1,h.2.2.2.1⟩
theorem SOwn4.below {w w':World} {g1 g2 g3 g4 ql al ml cl:Nat} {s:St} (h:SOwn4 w g1 g2 g3 g4 ql al ml cl s) (hb:Below w.heap.size w w'):SOwn4 w' g1 g2 g3 g4 ql al ml cl s:=⟨h.1.below hb,h.2.1.below hb,h.2.2.1.below hb,h.2.2.2.below hb⟩
theorem SOwn4.row {w:World} {g1 g2 g3 g4:Nat} {x:Sls} {s:St} (h:SOwn4 w g1 g2 g3 g4 x.ql x.al x.ml x.cl s) (hl:SLen x s):SRow w (own4 g1 g2 g3 g4 x.ql x.al x.ml x.cl) s:=⟨h.1.row hl.1,h.2.1.row hl.2.1,h.2.2.1.row hl.2.2.1,h.2.2.2.row hl.2.2.2⟩
theorem QBlk.other {w:World} {t:TypeId} {g n k:Nat} {l:List Q} (h:QBlk w t g n k l) (b j:Nat) (v:Value) (hn:g≠b):QBlk (w.setCell ⟨b,j,none⟩ v) t g n k l:=by
 obtain ⟨arr,h1,h2⟩:=h
 exact ⟨arr,(heap_setCell_other w ⟨b,j,none⟩ g v hn).trans h1,h2⟩
theorem MacBlk.other {w:World} {t:TypeId} {g n k:Nat} {l:List Mac} (h:MacBlk w t g n k l) (b j:Nat) (v:Value) (hn:g≠b):MacBlk (w.setCell ⟨b,j,none⟩ v) t g n k l:=by
 obtain ⟨arr,h1,h2⟩:=h
 exact ⟨arr,(heap_setCell_other w ⟨b,j,none⟩ g v hn).trans h1,h2⟩
theorem ConBlk.other {w:World} {t:TypeId} {g n k:Nat} {l:List Con} (h:ConBlk w t g n k l) (b j:Nat) (v:Value) (hn:g≠b):ConBlk (w.setCell ⟨b,j,none⟩ v) t g n k l:=by
 obtain ⟨arr,h1,h2⟩:=h
 exact ⟨arr,(heap_setCell_other w ⟨b,j,none⟩ g v hn).trans h1,h2⟩
theorem ApplBlk.other {w:World} {t:TypeId} {g n k:Nat} {l:List Appl} (h:ApplBlk w t g n k l) (b j:Nat) (v:Value) (hn:b<g):ApplBlk (w.setCell ⟨b,j,none⟩ v) t g n k l:=by
 obtain ⟨arr,h1,h2,h3⟩:=h
 refine ⟨arr,(heap_setCell_other w ⟨b,j,none⟩ g v (show g≠b by omega)).trans h1,h2,fun i hi hk=>?_⟩
 obtain ⟨a,c,x,y,z,d,e⟩:=h3 i hi hk
 exact ⟨a,c,x,y,z,d,e.other b j v hn⟩
theorem SOwn4.other {w:World} {g1 g2 g3 g4 ql al ml cl:Nat} {s:St} (h:SOwn4 w g1 g2 g3 g4 ql al ml cl s) (b j:Nat) (v:Value) (h1:b<g1) (h2:b<g2) (h3:b<g3) (h4:b<g4):SOwn4 (w.setCell ⟨b,j,none⟩ v) g1 g2 g3 g4 ql al ml cl s:=
 ⟨h.1.other _ _ _ (by omega),h.2.1.other _ _ _ h2,h.2.2.1.other _ _ _ (by omega),h.2.2.2.other _ _ _ (by omega)⟩
end Go.Proofs.YtjkfappkpopbdaaGreat
/-
 The laws' own szState: how much is handed in;walks over the dump.
-/
namespace Go.Proofs.YtjkfappkpopbdaaGreat
open Go.RowKit
set_option linter.unusedVariables false
def FitSt (s:St):Prop:=FitQ s.qs∧FitAppl s.apps∧FitMac s.ms∧FitCon s.cs
def StBig (x:Sls) (s:St):Prop:=(x.ql≤9223372036854775807∧∀q ∈ s.qs,q.name.length≤9223372036854775807∧q.parent.length≤9223372036854775807)∧(x.al≤9223372036854775807∧∀q ∈ s.apps,ApplBig q)∧(x.ml≤9223372036854775807∧∀q ∈ s.ms,q.name.length≤9223372036854775807)∧(x.cl≤9223372036854775807∧∀q ∈ s.cs,q.node.length≤9223372036854775807)
end Go.Proofs.YtjkfappkpopbdaaGreat
/-
 The laws' own toState: a state made anew;a walk over the dump.
-/
namespace Go.Proofs.YtjkfappkpopbdaaGreat
open Go.RowKit
set_option linter.unusedVariables false
set_option maxRecDepth 100000 in
set_option maxHeartbeats 8000000 in
theorem toState_any (x:Sls) (s:St) (w:World) (h:SRow w x s) (hf:FitSt s) :
  Calls Tryz.prog 16 #[sv x s] w fun e w'=>∃g1 g2 g3 g4,e=.returned (sv (own4 g1 g2 g3 g4 x.ql x.al x.ml x.cl) s)∧SOwn4 w' g1 g2 g3 g4 x.ql x.al x.ml x.cl s∧(w.heap.size<g1∧g1<g2∧g2<g3∧g3<g4)∧Below w.heap.size w w':=by
 have hql:x.ql≤1048576:=by have:=h.1.1;have:=hf.1.1;omega
 have hal:x.al≤1048576:=by have:=h.2.1.1;have:=hf.2.1.1;omega
 have hml:x.ml≤1048576:=by have:=h.2.2.1.1;have:=hf.2.2.1.1;omega
 have hcl:x.cl≤1048576:=by have:=h.2.2.2.1;have:=hf.2.2.2.1;omega
 have hask:∀q ∈ s.apps,q.asks.length≤1048576:=fun q hq=>(hf.2.1.2 q hq).2.1
 obtain ⟨qa,ql,qc,aa,al,ac,ma,ml,mc,ca,cl,cc⟩:=x
 obtain ⟨qs,clock,epoch,next,serial,apps,ms,cs⟩:=s
 obtain ⟨hq,ha,hm,hc⟩:=h
 simp only at hql hal hml hcl hq ha hm hc hask
 have HQ:=hide hq
 have HA:=hide ha
 have HM:=hide hm
 have HC:=hide hc
 have HK:=hide hask
 clear hq ha hm hc hf hask
 have HB0:=hide (yA (yA (yA (yH _ w) (.cells #[.slice qa ql qc,.int .i64 clock,.int .i64 epoch,.int .i64 next,.int .i64 serial,.slice aa al ac,.slice ma ml mc,.slice ca cl cc] 27)) (.cells #[.slice none 0 0,.int .i64 0,.int .i64 0,.int .i64 0,.int .i64 0,.slice none 0 0,.slice none 0 0,.slice none 0 0] 37)) (.cells #[.slice none 0 0,.int .i64 0,.int .i64 0,.int .i64 0,.int .i64 0,.slice none 0 0,.slice none 0 0,.slice none 0 0] 37))
 have P0:=hide (((yD w #[.slice qa ql qc,.int .i64 clock,.int .i64 epoch,.int .i64 next,.int .i64 serial,.slice aa al ac,.slice ma ml mc,.slice ca cl cc] 27).al (.cells #[.slice none 0 0,.int .i64 0,.int .i64 0,.int .i64 0,.int .i64 0,.slice none 0 0,.slice none 0 0,.slice none 0 0] 37)).al (.cells #[.slice none 0 0,.int .i64 0,.int .i64 0,.int .i64 0,.int .i64 0,.slice none 0 0,.slice none 0 0,.slice none 0 0] 37))
 have R0:=hide ((yD (w.alloc (.cells #[.slice qa ql qc,.int .i64 clock,.int .i64 epoch,.int .i64 next,.int .i64 serial,.slice aa al ac,.slice ma ml mc,.slice ca cl cc] 27)) #[.slice none 0 0,.int .i64 0,.int .i64 0,.int .i64 0,.int .i64 0,.slice none 0 0,.slice none 0 0,.slice none 0 0] 37).al (.cells #[.slice none 0 0,.int .i64 0,.int .i64 0,.int .i64 0,.int .i64 0,.slice none 0 0,.slice none 0 0,.slice none 0 0] 37))
 have O0:=hide (yD ((w.alloc (.cells #[.slice qa ql qc,.int .i64 clock,.int .i64 epoch,.int .i64 next,.int .i64 serial,.slice aa al ac,.slice ma ml mc,.slice ca cl cc] 27)).alloc (.cells #[.slice none 0 0,.int .i64 0,.int .i64 0,.int .i64 0,.int .i64 0,.slice none 0 0,.slice none 0 0,.slice none 0 0] 37)) #[.slice none 0 0,.int .i64 0,.int .i64 0,.int .i64 0,.int .i64 0,.slice none 0 0,.slice none 0 0,.slice none 0 0] 37)
 have s3:(((w.alloc (.cells #[.slice qa ql qc,.int .i64 clock,.int .i64 epoch,.int .i64 next,.int .i64 serial,.slice aa al ac,.slice ma ml mc,.slice ca cl cc] 27)).alloc (.cells #[.slice none 0 0,.int .i64 0,.int .i64 0,.int .i64 0,.int .i64 0,.slice none 0 0,.slice none 0 0,.slice none 0 0] 37)).alloc (.cells #[.slice none 0 0,.int .i64 0,.int .i64 0,.int .i64 0,.int .i64 0,.slice none 0 0,.slice none 0 0,.slice none 0 0] 37)).heap.size=w.heap.size+1+1+1:=by simp only [yE]
 have S3:=hide s3
 clear s3
 go_enter Tryz.func16,Tryz.ntmps16
 go_wp2_with fail
 refine (toQueueS_any qa ql qc qs _ ((uH HQ).below (uH HB0)) hql).mono ?_
 rintro e w1 ⟨rfl,hq,hb⟩
 have P1:=hide ((uH P0).below hb)
 have R1:=(uH R0).below hb
 have O1:=(uH O0).below hb
 rw [uH S3] at hq
 simp only [yE] at R1 O1
 have HB1:=hide (yB (uH HB0) hb)
 have Q1:=hide hq
 have z1:=hq.lt
 have R1:=hide R1
 have O1:=hide O1
 clear hb P0 R0 O0 HB0 HQ hq
 have p1:=(uH P1).at 1;have p2:=(uH P1).at 2;have p3:=(uH P1).at 3;have p4:=(uH P1).at 4;have p5:=(uH P1).at 5
 have o0:=(uH O1).at 0;have o1:=(uH O1).at 1;have o2:=(uH O1).at 2;have o3:=(uH O1).at 3;have o4:=(uH O1).at 4
 have of0:=(uH O1).f 0;have of1:=(uH O1).f 1;have of2:=(uH O1).f 2;have of3:=(uH O1).f 3;have of4:=(uH O1).f 4
 simp at p1 p2 p3 p4 p5 o0 o1 o2 o3 o4
 go_wp2_with fail
 refine (toAppS_any aa al ac apps _ ((uH HA).below ?_) hal (uH HK)).mono ?_
 ·repeat (first | exact uH HB1 | refine yC ?_ _ _ _ (by omega))
 clear p1 p2 p3 p4 p5 o0 o1 o2 o3 o4 of0 of1 of2 of3 of4
 rintro e w2 ⟨rfl,hq,hb⟩
 simp only [set_size] at hq
 have HB2:=hide (yB (yC (yC (yC (yC (yC (uH HB1) _ _ _ (show w.heap.size≤w.heap.size+1+1 by omega)) _ _ _ (show w.heap.size≤w.heap.size+1+1 by omega)) _ _ _ (show w.heap.size≤w.heap.size+1+1 by omega)) _ _ _ (show w.heap.size≤w.heap.size+1+1 by omega)) _ _ _ (show w.heap.size≤w.heap.size+1+1 by omega)) hb)
 have P2:=hide ((((((uH P1).other _ _ _ (show w.heap.size≠w.heap.size+1+1 by omega)).other _ _ _ (show w.heap.size≠w.heap.size+1+1 by omega)).other _ _ _ (show w.heap.size≠w.heap.size+1+1 by omega)).other _ _ _ (show w.heap.size≠w.heap.size+1+1 by omega)).other _ _ _ (show w.heap.size≠w.heap.size+1+1 by omega) |>.below hb)
 have R2:=hide ((((((uH R1).other _ _ _ (show w.heap.size+1≠w.heap.size+1+1 by omega)).other _ _ _ (show w.heap.size+1≠w.heap.size+1+1 by omega)).other _ _ _ (show w.heap.size+1≠w.heap.size+1+1 by omega)).other _ _ _ (show w.heap.size+1≠w.heap.size+1+1 by omega)).other _ _ _ (show w.heap.size+1≠w.heap.size+1+1 by omega) |>.below hb)
 have O2:=hide (show Blk w2 (w.heap.size+1+1) #[.slice (some ⟨w.heap.size+1+1+1,0,none⟩) ql ql,.int .i64 clock,.int .i64 epoch,.int .i64 next,.int .i64 serial,.slice none 0 0,.slice none 0 0,.slice none 0 0] 37 from ((((((uH O1).set 0 _).set 1 _).set 2 _).set 3 _).set 4 _).below hb)
 have Q2:=hide (((((((uH Q1).other _ _ _ (show w.heap.size+1+1+1≠w.heap.size+1+1 by omega)).other _ _ _ (show w.heap.size+1+1+1≠w.heap.size+1+1 by omega)).other _ _ _ (show w.heap.size+1+1+1≠w.heap.size+1+1 by omega)).other _ _ _ (show w.heap.size+1+1+1≠w.heap.size+1+1 by omega)).other _ _ _ (show w.heap.size+1+1+1≠w.heap.size+1+1 by omega)).below hb)
 have A2:=hide hq
 have z2:=hq.lt
 have g2z:w.heap.size+1+1+1<w1.heap.size:=z1
 obtain ⟨g2,hg2⟩:∃g,w1.heap.size=g:=⟨_,rfl⟩
 simp only [set_size]
 rw [hg2] at A2 z2 g2z
 rw [hg2]
 clear hb P1 R1 O1 HB1 HA hq z1 hg2 Q1
 have p6:=(uH P2).at 6
 have o5:=(uH O2).at 5
 have of5:=(uH O2).f 5
 simp at p6 o5
 go_wp2_with fail
 refine (toMachineS_any ma ml mc ms _ ((uH HM).below (yC (uH HB2) _ _ _ (show w.heap.size≤w.heap.size+1+1 by omega))) hml).mono ?_
 clear p6 o5 of5
 rintro e w3 ⟨rfl,hq,hb⟩
 simp only [set_size] at hq
 have HB3:=hide (yB (yC (uH HB2) _ _ _ (show w.heap.size≤w.heap.size+1+1 by omega)) hb)
 have P3:=hide (((uH P2).other _ _ _ (show w.heap.size≠w.heap.size+1+1 by omega)).below hb)
 have R3:=hide (((uH R2).other _ _ _ (show w.heap.size+1≠w.heap.size+1+1 by omega)).below hb)
 have O3:=hide (show Blk w3 (w.heap.size+1+1) #[.slice (some ⟨w.heap.size+1+1+1,0,none⟩) ql ql,.int .i64 clock,.int .i64 epoch,.int .i64 next,.int .i64 serial,.slice (some ⟨g2,0,none⟩) al al,.slice none 0 0,.slice none 0 0] 37 from ((uH O2).set 5 _).below hb)
 have Q3:=hide (((uH Q2).other _ _ _ (show w.heap.size+1+1+1≠w.heap.size+1+1 by omega)).below hb)
 have A3:=hide (((uH A2).other _ _ _ (show w.heap.size+1+1<g2 by omega)).below hb)
 have M3:=hide hq
 have z3:=hq.lt
 have g3z:g2<w2.heap.size:=z2
 obtain ⟨g3,hg3⟩:∃g,w2.heap.size=g:=⟨_,rfl⟩
 simp only [set_size]
 rw [hg3] at M3 z3 g3z
 rw [hg3]
 clear hb P2 R2 O2 HB2 HM hq z2 hg3 Q2 A2
 have p7:=(uH P3).at 7
 have o6:=(uH O3).at 6
 have of6:=(uH O3).f 6
 simp at p7 o6
 go_wp2_with fail
 refine (toContS_any ca cl cc cs _ ((uH HC).below (yC (uH HB3) _ _ _ (show w.heap.size≤w.heap.size+1+1 by omega))) hcl).mono ?_
 clear p7 o6 of6
 rintro e w4 ⟨rfl,hq,hb⟩
 simp only [set_size] at hq
 have HB4:=hide (yB (yC (uH HB3) _ _ _ (show w.heap.size≤w.heap.size+1+1 by omega)) hb)
 have R4:=hide (((uH R3).other _ _ _ (show w.heap.size+1≠w.heap.size+1+1 by omega)).below hb)
 have O4:=hide (show Blk w4 (w.heap.size+1+1) #[.slice (some ⟨w.heap.size+1+1+1,0,none⟩) ql ql,.int .i64 clock,.int .i64 epoch,.int .i64 next,.int .i64 serial,.slice (some ⟨g2,0,none⟩) al al,.slice (some ⟨g3,0,none⟩) ml ml,.slice none 0 0] 37 from ((uH O3).set 6 _).below hb)
 have Q4:=hide (((uH Q3).other _ _ _ (show w.heap.size+1+1+1≠w.heap.size+1+1 by omega)).below hb)
 have A4:=hide (((uH A3).other _ _ _ (show w.heap.size+1+1<g2 by omega)).below hb)
 have M4:=hide (((uH M3).other _ _ _ (show g3≠w.heap.size+1+1 by omega)).below hb)
 have g4z:g3<w3.heap.size:=z3
 obtain ⟨g4,hg4⟩:∃g,w3.heap.size=g:=⟨_,rfl⟩
 simp only [set_size]
 rw [hg4] at hq g4z
 rw [hg4]
 have SO:=hide (show SOwn4 w4 (w.heap.size+1+1+1) g2 g3 g4 ql al ml cl ⟨qs,clock,epoch,next,serial,apps,ms,cs⟩ from ⟨uH Q4,uH A4,uH M4,hq⟩)
 clear hb P3 R3 O3 HB3 HC hq z3 hg4 Q3 A3 M3 Q4 A4 M4
 have o7:=(uH O4).at 7
 have of7:=(uH O4).f 7
 simp at o7
 go_upto_region 10 with fail
 have HB5:=hide (yC (uH HB4) (w.heap.size+1+1) 7 (.slice (some ⟨g4,0,none⟩) cl cl) (by omega))
 have SO5:=hide ((uH SO).other (w.heap.size+1+1) 7 (.slice (some ⟨g4,0,none⟩) cl cl) (by omega) (by omega) (by omega) (by omega))
 have R5:=hide ((uH R4).other (w.heap.size+1+1) 7 (.slice (some ⟨g4,0,none⟩) cl cl) (show w.heap.size+1≠w.heap.size+1+1 by omega))
 have O5:=hide (show Blk (w4.setCell ⟨w.heap.size+1+1,7,none⟩ (.slice (some ⟨g4,0,none⟩) cl cl)) (w.heap.size+1+1) #[.slice (some ⟨w.heap.size+1+1+1,0,none⟩) ql ql,.int .i64 clock,.int .i64 epoch,.int .i64 next,.int .i64 serial,.slice (some ⟨g2,0,none⟩) al al,.slice (some ⟨g3,0,none⟩) ml ml,.slice (some ⟨g4,0,none⟩) cl cl] 37 from (uH O4).set 7 _)
 generalize w4.setCell ⟨w.heap.size+1+1,7,none⟩ (.slice (some ⟨g4,0,none⟩) cl cl)=w5 at HB5 SO5 R5 O5 ⊢
 clear o7 of7 HB4 SO R4 O4 HK S3
 obtain ⟨o0,o1,o2,o3,o4,o5,o6,o7⟩:=zq (uH O5)
 obtain ⟨r0,r1,r2,r3,r4,r5,r6,r7⟩:=zq (uH R5)
 have rf0:=(uH R5).f 0;have rf1:=(uH R5).f 1;have rf2:=(uH R5).f 2;have rf3:=(uH R5).f 3;have rf4:=(uH R5).f 4;have rf5:=(uH R5).f 5;have rf6:=(uH R5).f 6;have rf7:=(uH R5).f 7
 clear O5
 go_wp2
 have HB6:=hide (yC (yC (yC (yC (yC (yC (yC (yC (uH HB5) _ 0 (.slice (some ⟨w.heap.size+1+1+1,0,none⟩) ql ql) (show w.heap.size≤w.heap.size+1 by omega)) _ 1 (.int .i64 clock) (show w.heap.size≤w.heap.size+1 by omega)) _ 2 (.int .i64 epoch) (show w.heap.size≤w.heap.size+1 by omega)) _ 3 (.int .i64 next) (show w.heap.size≤w.heap.size+1 by omega)) _ 4 (.int .i64 serial) (show w.heap.size≤w.heap.size+1 by omega)) _ 5 (.slice (some ⟨g2,0,none⟩) al al) (show w.heap.size≤w.heap.size+1 by omega)) _ 6 (.slice (some ⟨g3,0,none⟩) ml ml) (show w.heap.size≤w.heap.size+1 by omega)) _ 7 (.slice (some ⟨g4,0,none⟩) cl cl) (show w.heap.size≤w.heap.size+1 by omega))
 have SO6:=hide (SOwn4.other (SOwn4.other (SOwn4.other (SOwn4.other (SOwn4.other (SOwn4.other (SOwn4.other (SOwn4.other (uH SO5) (w.heap.size+1) 0 (.slice (some ⟨w.heap.size+1+1+1,0,none⟩) ql ql) (by omega) (by omega) (by omega) (by omega)) (w.heap.size+1) 1 (.int .i64 clock) (by omega) (by omega) (by omega) (by omega)) (w.heap.size+1) 2 (.int .i64 epoch) (by omega) (by omega) (by omega) (by omega)) (w.heap.size+1) 3 (.int .i64 next) (by omega) (by omega) (by omega) (by omega)) (w.heap.size+1) 4 (.int .i64 serial) (by omega) (by omega) (by omega) (by omega)) (w.heap.size+1) 5 (.slice (some ⟨g2,0,none⟩) al al) (by omega) (by omega) (by omega) (by omega)) (w.heap.size+1) 6 (.slice (some ⟨g3,0,none⟩) ml ml) (by omega) (by omega) (by omega) (by omega)) (w.heap.size+1) 7 (.slice (some ⟨g4,0,none⟩) cl cl) (by omega) (by omega) (by omega) (by omega))
 have R6:=hide (show Blk ((((((((w5.setCell ⟨w.heap.size+1,0,none⟩ (.slice (some ⟨w.heap.size+1+1+1,0,none⟩) ql ql)).setCell ⟨w.heap.size+1,1,none⟩ (.int .i64 clock)).setCell ⟨w.heap.size+1,2,none⟩ (.int .i64 epoch)).setCell ⟨w.heap.size+1,3,none⟩ (.int .i64 next)).setCell ⟨w.heap.size+1,4,none⟩ (.int .i64 serial)).setCell ⟨w.heap.size+1,5,none⟩ (.slice (some ⟨g2,0,none⟩) al al)).setCell ⟨w.heap.size+1,6,none⟩ (.slice (some ⟨g3,0,none⟩) ml ml)).setCell ⟨w.heap.size+1,7,none⟩ (.slice (some ⟨g4,0,none⟩) cl cl)) (w.heap.size+1) #[.slice (some ⟨w.heap.size+1+1+1,0,none⟩) ql ql,.int .i64 clock,.int .i64 epoch,.int .i64 next,.int .i64 serial,.slice (some ⟨g2,0,none⟩) al al,.slice (some ⟨g3,0,none⟩) ml ml,.slice (some ⟨g4,0,none⟩) cl cl] 37 from (Blk.set (Blk.set (Blk.set (Blk.set (Blk.set (Blk.set (Blk.set (Blk.set (uH R5) 0 (.slice (some ⟨w.heap.size+1+1+1,0,none⟩) ql ql)) 1 (.int .i64 clock)) 2 (.int .i64 epoch)) 3 (.int .i64 next)) 4 (.int .i64 serial)) 5 (.slice (some ⟨g2,0,none⟩) al al)) 6 (.slice (some ⟨g3,0,none⟩) ml ml)) 7 (.slice (some ⟨g4,0,none⟩) cl cl)))
 generalize ((((((((w5.setCell ⟨w.heap.size+1,0,none⟩ (.slice (some ⟨w.heap.size+1+1+1,0,none⟩) ql ql)).setCell ⟨w.heap.size+1,1,none⟩ (.int .i64 clock)).setCell ⟨w.heap.size+1,2,none⟩ (.int .i64 epoch)).setCell ⟨w.heap.size+1,3,none⟩ (.int .i64 next)).setCell ⟨w.heap.size+1,4,none⟩ (.int .i64 serial)).setCell ⟨w.heap.size+1,5,none⟩ (.slice (some ⟨g2,0,none⟩) al al)).setCell ⟨w.heap.size+1,6,none⟩ (.slice (some ⟨g3,0,none⟩) ml ml)).setCell ⟨w.heap.size+1,7,none⟩ (.slice (some ⟨g4,0,none⟩) cl cl))=w6 at HB6 SO6 R6 ⊢
 clear o0 o1 o2 o3 o4 o5 o6 o7 r0 r1 r2 r3 r4 r5 r6 r7 rf0 rf1 rf2 rf3 rf4 rf5 rf6 rf7 HB5 SO5 R5
 obtain ⟨r0,r1,r2,r3,r4,r5,r6,r7⟩:=zq (uH R6)
 refine bodyPost_ret (v:=sv (own4 (w.heap.size+1+1+1) g2 g3 g4 ql al ml cl) ⟨qs,clock,epoch,next,serial,apps,ms,cs⟩) (by simp [results,Tryz.results16,go_sem,r0,r1,r2,r3,r4,r5,r6,r7]) rfl ⟨_,_,_,_,rfl,uH SO6,⟨?_,g2z,g3z,g4z⟩,uH HB6⟩
 omega
end Go.Proofs.YtjkfappkpopbdaaGreat
/-
 The laws' own eqState,at states that hold the same;a walk over the dump.
-/
namespace Go.Proofs.YtjkfappkpopbdaaGreat
open Go.RowKit
set_option linter.unusedVariables false
def EqHeld (w:World) (x y:Sls) (s:St) (wx:World):Prop:=Blk wx w.heap.size (svc x s) 37∧Blk wx (w.heap.size+1) (svc y s) 37∧Below w.heap.size w wx
theorem EqHeld.call {w wx wy:World} {x y:Sls} {s:St} (h:EqHeld w x y s wx) (hb:Below wx.heap.size wx wy):EqHeld w x y s wy:=⟨h.1.below hb,h.2.1.below hb,yB h.2.2 hb⟩
theorem EqHeld.drew {w wx:World} {x y:Sls} {s:St} (h:EqHeld w x y s wx):EqHeld w x y s wx.drew:=h.call (yH _ _).drew
theorem EqHeld.new (w:World) (x y:Sls) (s:St):EqHeld w x y s ((w.alloc (.cells (svc x s) 37)).alloc (.cells (svc y s) 37)):=
 ⟨(yD _ _ _).al _,by have:=yD (w.alloc (.cells (svc x s) 37)) (svc y s) 37;rwa [yE] at this,yA (yA (yH _ _) _) _⟩
theorem EqHeld.read (w:World) (x y:Sls) (s:St):∀wx,EqHeld w x y s wx→(wx.cell? ⟨w.heap.size,0,none⟩=some (.slice x.qa x.ql x.qc)∧wx.cell? ⟨w.heap.size,1,none⟩=some (.int .i64 s.clock)∧wx.cell? ⟨w.heap.size,2,none⟩=some (.int .i64 s.epoch)∧wx.cell? ⟨w.heap.size,3,none⟩=some (.int .i64 s.next)∧wx.cell? ⟨w.heap.size,4,none⟩=some (.int .i64 s.serial)∧wx.cell? ⟨w.heap.size,5,none⟩=some (.slice x.aa x.al x.ac)∧wx.cell? ⟨w.heap.size,6,none⟩=some (.slice x.ma x.ml x.mc)∧wx.cell? ⟨w.heap.size,7,none⟩=some (.slice x.ca x.cl x.cc))
  ∧wx.cell? ⟨w.heap.size+1,0,none⟩=some (.slice y.qa y.ql y.qc)∧wx.cell? ⟨w.heap.size+1,1,none⟩=some (.int .i64 s.clock)∧wx.cell? ⟨w.heap.size+1,2,none⟩=some (.int .i64 s.epoch)∧wx.cell? ⟨w.heap.size+1,3,none⟩=some (.int .i64 s.next)∧wx.cell? ⟨w.heap.size+1,4,none⟩=some (.int .i64 s.serial)∧wx.cell? ⟨w.heap.size+1,5,none⟩=some (.slice y.aa y.al y.ac)∧wx.cell? ⟨w.heap.size+1,6,none⟩=some (.slice y.ma y.ml y.mc)∧wx.cell? ⟨w.heap.size+1,7,none⟩=some (.slice y.ca y.cl y.cc):=
 fun wx h=>⟨⟨h.1.at 0,h.1.at 1,h.1.at 2,h.1.at 3,h.1.at 4,h.1.at 5,h.1.at 6,h.1.at 7⟩,h.2.1.at 0,h.2.1.at 1,h.2.1.at 2,h.2.1.at 3,h.2.1.at 4,h.2.1.at 5,h.2.1.at 6,h.2.1.at 7⟩
set_option maxRecDepth 100000 in
set_option maxHeartbeats 4000000 in
theorem eqState_same (x y:Sls) (s:St) (w:World) (h:SRow w x s) (h':SRow w y s) (hf:FitSt s) :
  Calls Tryz.prog 21 #[sv x s,sv y s] w fun e w'=>e=.returned (.bool true)∧Below w.heap.size w w':=by
 have E0:=hide (EqHeld.new w x y s)
 have RD:=hide (EqHeld.read w x y s)
 obtain ⟨k1,k2,k3,k4⟩:=h.len
 obtain ⟨l1,l2,l3,l4⟩:=h'.len
 obtain ⟨qa,ql,qc,aa,al,ac,ma,ml,mc,ca,cl,cc⟩:=x
 obtain ⟨ra,rl,rc,ba,bl,bc,na,nl,nc,da,dl,dc⟩:=y
 simp only at k1 k2 k3 k4 l1 l2 l3 l4
 obtain rfl:ql=rl:=k1.trans l1.symm
 obtain rfl:al=bl:=k2.trans l2.symm
 obtain rfl:ml=nl:=k3.trans l3.symm
 obtain rfl:cl=dl:=k4.trans l4.symm
 obtain ⟨hq,ha,hm,hc⟩:=h
 obtain ⟨hq',ha',hm',hc'⟩:=h'
 simp only at hq ha hm hc hq' ha' hm' hc'
 have CQ:=hide (fun wx (hb:Below w.heap.size w wx)=>eqQueueS_same qa ra ql qc rc s.qs wx (hq.below hb) (hq'.below hb) (by have:=hf.1.1;omega))
 have CA:=hide (fun wx (hb:Below w.heap.size w wx)=>eqAppS_same aa ba al ac bc s.apps wx (ha.below hb) (ha'.below hb) (by have:=hf.2.1.1;omega) (fun q hq=>(hf.2.1.2 q hq).2.1))
 have CM:=hide (fun wx (hb:Below w.heap.size w wx)=>eqMachineS_same ma na ml mc nc s.ms wx (hm.below hb) (hm'.below hb) (by have:=hf.2.2.1.1;omega))
 have CC:=hide (fun wx (hb:Below w.heap.size w wx)=>eqContS_same ca da cl cc dc s.cs wx (hc.below hb) (hc'.below hb) (by have:=hf.2.2.2.1;omega))
 obtain ⟨qs,clock,epoch,next,serial,apps,ms,cs⟩:=s
 clear hq ha hm hc hq' ha' hm' hc' hf k1 k2 k3 k4 l1 l2 l3 l4
 go_enter Tryz.func21,Tryz.ntmps21
 go_wp2_with fail
 have E1:=hide (uH E0).drew
 refine (uH CQ _ ?_).mono ?_
 ·first | exact (uH E0).2.2 | exact (uH E1).2.2 | exact (uH E1).drew.2.2
 rintro e w1 ⟨rfl,hb⟩
 have E2:=hide (show EqHeld w _ _ _ w1 by first | exact (uH E0).call hb | exact (uH E1).call hb | exact (uH E1).drew.call hb)
 clear hb E0 E1 CQ
 obtain ⟨⟨a0,a1,a2,a3,a4,a5,a6,a7⟩,b0,b1,b2,b3,b4,b5,b6,b7⟩:=uH RD _ (uH E2)
 try simp only at a0 a1 a2 a3 a4 a5 a6 a7 b0 b1 b2 b3 b4 b5 b6 b7
 go_wp2_with fail
 refine (uH CA _ (uH E2).2.2).mono ?_
 rintro e w2 ⟨rfl,hb⟩
 have E3:=hide ((uH E2).call hb)
 clear hb E2 CA a0 a1 a2 a3 a4 a5 a6 a7 b0 b1 b2 b3 b4 b5 b6 b7
 obtain ⟨⟨a0,a1,a2,a3,a4,a5,a6,a7⟩,b0,b1,b2,b3,b4,b5,b6,b7⟩:=uH RD _ (uH E3)
 try simp only at a0 a1 a2 a3 a4 a5 a6 a7 b0 b1 b2 b3 b4 b5 b6 b7
 go_wp2_with fail
 refine (uH CM _ (uH E3).2.2).mono ?_
 rintro e w3 ⟨rfl,hb⟩
 have E4:=hide ((uH E3).call hb)
 clear hb E3 CM a0 a1 a2 a3 a4 a5 a6 a7 b0 b1 b2 b3 b4 b5 b6 b7
 obtain ⟨⟨a0,a1,a2,a3,a4,a5,a6,a7⟩,b0,b1,b2,b3,b4,b5,b6,b7⟩:=uH RD _ (uH E4)
 try simp only at a0 a1 a2 a3 a4 a5 a6 a7 b0 b1 b2 b3 b4 b5 b6 b7
 go_wp2_with fail
 refine (uH CC _ (uH E4).2.2).mono ?_
 rintro e w4 ⟨rfl,hb⟩
 have E5:=hide ((uH E4).call hb)
 clear hb E4 CC a0 a1 a2 a3 a4 a5 a6 a7 b0 b1 b2 b3 b4 b5 b6 b7
 go_wp2
 go_ret
 exact ⟨rfl,(uH E5).2.2⟩
end Go.Proofs.YtjkfappkpopbdaaGreat
/-
 What stands while a law over a state is walked.
-/
namespace Go.Proofs.YtjkfappkpopbdaaGreat
open Go.RowKit
set_option linter.unusedVariables false
def InBox (w:World) (x:Sls) (s:St) (wx:World):Prop:=Blk wx w.heap.size (svc x s) 27∧Below w.heap.size w wx
theorem InBox.new (w:World) (x:Sls) (s:St):InBox w x s (w.alloc (.cells (svc x s) 27)):=⟨yD _ _ _,yA (yH _ _) _⟩
theorem InBox.call {w wx wy:World} {x:Sls} {s:St} (h:InBox w x s wx) (hb:Below wx.heap.size wx wy):InBox w x s wy:=⟨h.1.below hb,yB h.2 hb⟩
theorem InBox.drew {w wx:World} {x:Sls} {s:St} (h:InBox w x s wx):InBox w x s wx.drew:=h.call (yH _ _).drew
theorem InBox.al {w wx:World} {x:Sls} {s:St} (h:InBox w x s wx) (o:Obj):InBox w x s (wx.alloc o):=h.call (yA (yH _ _) o)
theorem InBox.read (w:World) (x:Sls) (s:St):∀wx,InBox w x s wx→wx.cell? ⟨w.heap.size,0,none⟩=some (.slice x.qa x.ql x.qc)∧wx.cell? ⟨w.heap.size,1,none⟩=some (.int .i64 s.clock)∧wx.cell? ⟨w.heap.size,2,none⟩=some (.int .i64 s.epoch)∧wx.cell? ⟨w.heap.size,3,none⟩=some (.int .i64 s.next)∧wx.cell? ⟨w.heap.size,4,none⟩=some (.int .i64 s.serial)∧wx.cell? ⟨w.heap.size,5,none⟩=some (.slice x.aa x.al x.ac)∧wx.cell? ⟨w.heap.size,6,none⟩=some (.slice x.ma x.ml x.mc)∧wx.cell? ⟨w.heap.size,7,none⟩=some (.slice x.ca x.cl x.cc):=
 fun wx h=>⟨h.1.at 0,h.1.at 1,h.1.at 2,h.1.at 3,h.1.at 4,h.1.at 5,h.1.at 6,h.1.at 7⟩
def InTwo (w:World) (x:Sls) (s:St) (g g1 g2 g3 g4:Nat) (wx:World):Prop:=InBox w x s wx∧Blk wx g (svc (own4 g1 g2 g3 g4 x.ql x.al x.ml x.cl) s) 37∧SOwn4 wx g1 g2 g3 g4 x.ql x.al x.ml x.cl s
theorem InTwo.call {w wx wy:World} {x:Sls} {s:St} {g g1 g2 g3 g4:Nat} (h:InTwo w x s g g1 g2 g3 g4 wx) (hb:Below wx.heap.size wx wy):InTwo w x s g g1 g2 g3 g4 wy:=⟨h.1.call hb,h.2.1.below hb,h.2.2.below hb⟩
theorem InTwo.drew {w wx:World} {x:Sls} {s:St} {g g1 g2 g3 g4:Nat} (h:InTwo w x s g g1 g2 g3 g4 wx):InTwo w x s g g1 g2 g3 g4 wx.drew:=h.call (yH _ _).drew
theorem InTwo.al {w wx:World} {x:Sls} {s:St} {g g1 g2 g3 g4:Nat} (h:InTwo w x s g g1 g2 g3 g4 wx) (o:Obj):InTwo w x s g g1 g2 g3 g4 (wx.alloc o):=h.call (yA (yH _ _) o)
theorem InTwo.read (w:World) (x:Sls) (s:St) (g g1 g2 g3 g4:Nat):∀wx,InTwo w x s g g1 g2 g3 g4 wx→(wx.cell? ⟨w.heap.size,0,none⟩=some (.slice x.qa x.ql x.qc)∧wx.cell? ⟨w.heap.size,1,none⟩=some (.int .i64 s.clock)∧wx.cell? ⟨w.heap.size,2,none⟩=some (.int .i64 s.epoch)∧wx.cell? ⟨w.heap.size,3,none⟩=some (.int .i64 s.next)∧wx.cell? ⟨w.heap.size,4,none⟩=some (.int .i64 s.serial)∧wx.cell? ⟨w.heap.size,5,none⟩=some (.slice x.aa x.al x.ac)∧wx.cell? ⟨w.heap.size,6,none⟩=some (.slice x.ma x.ml x.mc)∧wx.cell? ⟨w.heap.size,7,none⟩=some (.slice x.ca x.cl x.cc))
  ∧wx.cell? ⟨g,0,none⟩=some (.slice (some ⟨g1,0,none⟩) x.ql x.ql)∧wx.cell? ⟨g,1,none⟩=some (.int .i64 s.clock)∧wx.cell? ⟨g,2,none⟩=some (.int .i64 s.epoch)∧wx.cell? ⟨g,3,none⟩=some (.int .i64 s.next)∧wx.cell? ⟨g,4,none⟩=some (.int .i64 s.serial)∧wx.cell? ⟨g,5,none⟩=some (.slice (some ⟨g2,0,none⟩) x.al x.al)∧wx.cell? ⟨g,6,none⟩=some (.slice (some ⟨g3,0,none⟩) x.ml x.ml)∧wx.cell? ⟨g,7,none⟩=some (.slice (some ⟨g4,0,none⟩) x.cl x.cl):=
 fun wx h=>⟨InBox.read w x s wx h.1,h.2.1.at 0,h.2.1.at 1,h.2.1.at 2,h.2.1.at 3,h.2.1.at 4,h.2.1.at 5,h.2.1.at 6,h.2.1.at 7⟩
end Go.Proofs.YtjkfappkpopbdaaGreat
/-
 An amount among the cells of what came in.
-/
namespace Go.Proofs.YtjkfappkpopbdaaGreat
open Go.ChangeShapes Go.WideShapes Go.ChangeAt Go.RowKit Go.Deep
set_option linter.unusedVariables false
theorem cells_lr1:Tryz.prog.cellsOf 123=2:=by kernel_rfl
set_option maxRecDepth 100000 in
theorem open_rescells {H:Type} {enc:TypeId×Value→H} {W:World} {base:Nat} {sp:Nat→Bool} {held:Bool} {fuel:Nat} {cs:List Value} {x:DataW H×List MemPlace}
  (h:DataW.trod enc Tryz.prog W base sp held fuel 123 cs=some x) :
  ∃a b:Int,cs=[.int .i64 a,.int .i64 b]∧(Lit.int .i64 a).wf=true∧(Lit.int .i64 b).wf=true:=by
 obtain ⟨xs,n,rfl,rfl,hlen,hxs,hf⟩:=DataW.trod_struct Tryz.underlying123 h
 rw [cells_lr1] at hlen
 have hxs:xs.length=2:=hxs
 match cs,hlen,xs,hxs with
 | [c0,c1],_,[x0,x1],_=>
  have h0:=hf 0 _ rfl
  have h1:=hf 1 _ rfl
  obtain ⟨d,e2,_,b2⟩:=DataW.trod_int Tryz.underlying3 h0
  obtain ⟨m,e3,_,b3⟩:=DataW.trod_int Tryz.underlying3 h1
  simp [cells_qi] at e2 e3
  subst e2 e3
  exact ⟨d,m,rfl,b2,b3⟩
end Go.Proofs.YtjkfappkpopbdaaGreat
/-
 A slice of Ask values that came in: what it holds (mkrow.py wrote this).
-/
namespace Go.Proofs.YtjkfappkpopbdaaGreat
open Go.ChangeShapes Go.WideShapes Go.ChangeAt Go.RowKit Go.Deep
set_option linter.unusedVariables false
theorem cells_lAsk:Tryz.prog.cellsOf 212=5:=by kernel_rfl
def AskFit (q:Ask):Prop:=q.node.length≤9223372036854775807∧(Lit.int .i64 q.mem).wf=true∧(Lit.int .i64 q.cpu).wf=true∧(Lit.int .i64 q.count).wf=true∧(Lit.int .i64 q.missed).wf=true
set_option maxRecDepth 100000 in
theorem open_ask1 {H:Type} {enc:TypeId×Value→H} {W:World} {base:Nat} {sp:Nat→Bool} {held:Bool} {fuel:Nat} {cs:List Value} {x:DataW H×List MemPlace}
  (h:DataW.trod enc Tryz.prog W base sp held fuel 212 cs=some x) :
  ∃q:Ask,cs=[.int .i64 q.mem,.int .i64 q.cpu,.int .i64 q.count,.string (bs q.node),.int .i64 q.missed]∧AskFit q:=by
 obtain ⟨xs,n,rfl,rfl,hlen,hxs,hf⟩:=DataW.trod_struct Tryz.underlying212 h
 rw [cells_lAsk] at hlen
 have hxs:xs.length=4:=hxs
 match cs,hlen,xs,hxs with
 | [c0,c1,c2,c3,c4],_,[x0,x1,x2,x3],_=>
  have h0:=hf 0 _ rfl
  have h1:=hf 1 _ rfl
  have h2:=hf 2 _ rfl
  have h3:=hf 3 _ rfl
  obtain ⟨s0,s1,e0,b0,b1⟩:=open_rescells h0
  obtain ⟨s2,e2,_,b2⟩:=DataW.trod_int Tryz.underlying3 h1
  obtain ⟨s3,e3,_,b3⟩:=DataW.trod_string Tryz.underlying9 h2
  obtain ⟨s4,e4,_,b4⟩:=DataW.trod_int Tryz.underlying3 h3
  simp [cells_qs,cells_qi,cells_lr1] at e0 e2 e3 e4
  obtain ⟨q0,q1⟩:=e0
  subst q0 q1 e2 e3 e4
  refine ⟨⟨s0,s1,s2,s3.data.toList,s4⟩,by simp only [bs_back],?_,b0,b1,b2,b4⟩
  simpa [maxLen] using b3
theorem open_asks {H:Type} {enc:TypeId×Value→H} {W:World} {base:Nat} {held:Bool} {ao:Option Addr} {len cap fuel:Nat} {x:DataW H×List MemPlace}
  (hf:DataW.trod enc Tryz.prog W base (fun _=>true) held fuel 118 [.slice ao len cap]=some x) :
  ∃l:List Ask,AskRow W ao len l∧len≤9223372036854775807∧∀q ∈ l,AskFit q:=by
 rcases open_slice Tryz.underlying118 hf with ⟨hcs,_⟩ | ⟨a,len',cap',m,n,D,Pl,hcs,hb,hl,hm,hmm,hx,hel⟩
 ·simp at hcs
  obtain ⟨rfl,rfl,rfl⟩:=hcs
  exact ⟨[],AskRow.nil _ _,by omega,by simp⟩
 ·simp at hcs
  obtain ⟨rfl,rfl,rfl⟩:=hcs
  simp only [if_true] at hmm
  subst hmm
  rw [cells_lAsk] at hel
  have inh:Inhabited Ask:=⟨⟨0,0,0,[],0⟩⟩
  obtain ⟨F,hF⟩:=choose_lt (α:=Ask) (n:=len) (p:=fun i q=>W.cells? base (a.add (i*5)) 5=some [.int .i64 q.mem,.int .i64 q.cpu,.int .i64 q.count,.string (bs q.node),.int .i64 q.missed]∧AskFit q) (fun i hi=>by
   obtain ⟨cs',h1,h2⟩:=hel i (by omega)
   obtain ⟨q,rfl,h3⟩:=open_ask1 h2
   exact ⟨q,h1,h3⟩)
  refine ⟨(List.range len).map F,?_,by have:maxLen=9223372036854775807:=rfl;omega,?_⟩
  ·refine ⟨by simp,?_⟩
   by_cases h0:len=0
   ·exact .inl h0
   ·right
    obtain ⟨b,off,spot⟩:=a
    have hc0:=(World.cells?_some (hF 0 (by omega)).1).2.2 0 (by omega)
    have hspot:spot=none:=by simpa [Addr.add] using World.cell?_spot hc0
    subst hspot
    refine ⟨b,off,rfl,fun i hi=>?_⟩
    have hi':i<len:=by simpa using hi
    obtain ⟨_,_,hc⟩:=World.cells?_some (hF i hi').1
    rw [Lib.add_plain] at hc
    have k0:=hc 0 (by omega)
    have k1:=hc 1 (by omega)
    have k2:=hc 2 (by omega)
    have k3:=hc 3 (by omega)
    have k4:=hc 4 (by omega)
    rw [Lib.add_plain] at k0 k1 k2 k3 k4
    simp only [List.getElem_map,List.getElem_range]
    exact ⟨k0,k1,k2,k3,k4⟩
  ·intro q hq
   obtain ⟨i,hi,rfl⟩:=List.mem_map.1 hq
   exact (hF i (by simpa using hi)).2
end Go.Proofs.YtjkfappkpopbdaaGreat
/-
 A slice of Machine values that came in: what it holds (mkrow.py wrote this).
-/
namespace Go.Proofs.YtjkfappkpopbdaaGreat
open Go.ChangeShapes Go.WideShapes Go.ChangeAt Go.RowKit Go.Deep
set_option linter.unusedVariables false
theorem cells_lMac:Tryz.prog.cellsOf 125=4:=by kernel_rfl
def MacFit (q:Mac):Prop:=q.name.length≤9223372036854775807∧(Lit.int .i64 q.mem).wf=true∧(Lit.int .i64 q.cpu).wf=true∧(Lit.int .i64 q.seen).wf=true
set_option maxRecDepth 100000 in
theorem open_mac1 {H:Type} {enc:TypeId×Value→H} {W:World} {base:Nat} {sp:Nat→Bool} {held:Bool} {fuel:Nat} {cs:List Value} {x:DataW H×List MemPlace}
  (h:DataW.trod enc Tryz.prog W base sp held fuel 125 cs=some x) :
  ∃q:Mac,cs=[.string (bs q.name),.int .i64 q.mem,.int .i64 q.cpu,.int .i64 q.seen]∧MacFit q:=by
 obtain ⟨xs,n,rfl,rfl,hlen,hxs,hf⟩:=DataW.trod_struct Tryz.underlying125 h
 rw [cells_lMac] at hlen
 have hxs:xs.length=3:=hxs
 match cs,hlen,xs,hxs with
 | [c0,c1,c2,c3],_,[x0,x1,x2],_=>
  have h0:=hf 0 _ rfl
  have h1:=hf 1 _ rfl
  have h2:=hf 2 _ rfl
  obtain ⟨s0,e0,_,b0⟩:=DataW.trod_string Tryz.underlying9 h0
  obtain ⟨s1,s2,e1,b1,b2⟩:=open_rescells h1
  obtain ⟨s3,e3,_,b3⟩:=DataW.trod_int Tryz.underlying3 h2
  simp [cells_qs,cells_qi,cells_lr1] at e0 e1 e3
  obtain ⟨q1,q2⟩:=e1
  subst e0 q1 q2 e3
  refine ⟨⟨s0.data.toList,s1,s2,s3⟩,by simp only [bs_back],?_,b1,b2,b3⟩
  simpa [maxLen] using b0
theorem open_macs {H:Type} {enc:TypeId×Value→H} {W:World} {base:Nat} {held:Bool} {ao:Option Addr} {len cap fuel:Nat} {x:DataW H×List MemPlace}
  (hf:DataW.trod enc Tryz.prog W base (fun _=>true) held fuel 24 [.slice ao len cap]=some x) :
  ∃l:List Mac,MacRow W ao len l∧len≤9223372036854775807∧∀q ∈ l,MacFit q:=by
 rcases open_slice Tryz.underlying24 hf with ⟨hcs,_⟩ | ⟨a,len',cap',m,n,D,Pl,hcs,hb,hl,hm,hmm,hx,hel⟩
 ·simp at hcs
  obtain ⟨rfl,rfl,rfl⟩:=hcs
  exact ⟨[],MacRow.nil _ _,by omega,by simp⟩
 ·simp at hcs
  obtain ⟨rfl,rfl,rfl⟩:=hcs
  simp only [if_true] at hmm
  subst hmm
  rw [cells_lMac] at hel
  have inh:Inhabited Mac:=⟨⟨[],0,0,0⟩⟩
  obtain ⟨F,hF⟩:=choose_lt (α:=Mac) (n:=len) (p:=fun i q=>W.cells? base (a.add (i*4)) 4=some [.string (bs q.name),.int .i64 q.mem,.int .i64 q.cpu,.int .i64 q.seen]∧MacFit q) (fun i hi=>by
   obtain ⟨cs',h1,h2⟩:=hel i (by omega)
   obtain ⟨q,rfl,h3⟩:=open_mac1 h2
   exact ⟨q,h1,h3⟩)
  refine ⟨(List.range len).map F,?_,by have:maxLen=9223372036854775807:=rfl;omega,?_⟩
  ·refine ⟨by simp,?_⟩
   by_cases h0:len=0
   ·exact .inl h0
   ·right
    obtain ⟨b,off,spot⟩:=a
    have hc0:=(World.cells?_some (hF 0 (by omega)).1).2.2 0 (by omega)
    have hspot:spot=none:=by simpa [Addr.add] using World.cell?_spot hc0
    subst hspot
    refine ⟨b,off,rfl,fun i hi=>?_⟩
    have hi':i<len:=by simpa using hi
    obtain ⟨_,_,hc⟩:=World.cells?_some (hF i hi').1
    rw [Lib.add_plain] at hc
    have k0:=hc 0 (by omega)
    have k1:=hc 1 (by omega)
    have k2:=hc 2 (by omega)
    have k3:=hc 3 (by omega)
    rw [Lib.add_plain] at k0 k1 k2 k3
    simp only [List.getElem_map,List.getElem_range]
    exact ⟨k0,k1,k2,k3⟩
  ·intro q hq
   obtain ⟨i,hi,rfl⟩:=List.mem_map.1 hq
   exact (hF i (by simpa using hi)).2
end Go.Proofs.YtjkfappkpopbdaaGreat
/-
 A slice of Cont values that came in: what it holds (mkrow.py wrote this).
-/
namespace Go.Proofs.YtjkfappkpopbdaaGreat
open Go.ChangeShapes Go.WideShapes Go.ChangeAt Go.RowKit Go.Deep
set_option linter.unusedVariables false
theorem cells_lCon:Tryz.prog.cellsOf 128=5:=by kernel_rfl
def ConFit (q:Con):Prop:=q.node.length≤9223372036854775807∧(Lit.int .i64 q.id).wf=true∧(Lit.int .i64 q.app).wf=true∧(Lit.int .i64 q.mem).wf=true∧(Lit.int .i64 q.cpu).wf=true
set_option maxRecDepth 100000 in
theorem open_con1 {H:Type} {enc:TypeId×Value→H} {W:World} {base:Nat} {sp:Nat→Bool} {held:Bool} {fuel:Nat} {cs:List Value} {x:DataW H×List MemPlace}
  (h:DataW.trod enc Tryz.prog W base sp held fuel 128 cs=some x) :
  ∃q:Con,cs=[.int .i64 q.id,.int .i64 q.app,.string (bs q.node),.int .i64 q.mem,.int .i64 q.cpu]∧ConFit q:=by
 obtain ⟨xs,n,rfl,rfl,hlen,hxs,hf⟩:=DataW.trod_struct Tryz.underlying128 h
 rw [cells_lCon] at hlen
 have hxs:xs.length=4:=hxs
 match cs,hlen,xs,hxs with
 | [c0,c1,c2,c3,c4],_,[x0,x1,x2,x3],_=>
  have h0:=hf 0 _ rfl
  have h1:=hf 1 _ rfl
  have h2:=hf 2 _ rfl
  have h3:=hf 3 _ rfl
  obtain ⟨s0,e0,_,b0⟩:=DataW.trod_int Tryz.underlying3 h0
  obtain ⟨s1,e1,_,b1⟩:=DataW.trod_int Tryz.underlying3 h1
  obtain ⟨s2,e2,_,b2⟩:=DataW.trod_string Tryz.underlying9 h2
  obtain ⟨s3,s4,e3,b3,b4⟩:=open_rescells h3
  simp [cells_qs,cells_qi,cells_lr1] at e0 e1 e2 e3
  obtain ⟨q3,q4⟩:=e3
  subst e0 e1 e2 q3 q4
  refine ⟨⟨s0,s1,s2.data.toList,s3,s4⟩,by simp only [bs_back],?_,b0,b1,b3,b4⟩
  simpa [maxLen] using b2
theorem open_cons {H:Type} {enc:TypeId×Value→H} {W:World} {base:Nat} {held:Bool} {ao:Option Addr} {len cap fuel:Nat} {x:DataW H×List MemPlace}
  (hf:DataW.trod enc Tryz.prog W base (fun _=>true) held fuel 25 [.slice ao len cap]=some x) :
  ∃l:List Con,ConRow W ao len l∧len≤9223372036854775807∧∀q ∈ l,ConFit q:=by
 rcases open_slice Tryz.underlying25 hf with ⟨hcs,_⟩ | ⟨a,len',cap',m,n,D,Pl,hcs,hb,hl,hm,hmm,hx,hel⟩
 ·simp at hcs
  obtain ⟨rfl,rfl,rfl⟩:=hcs
  exact ⟨[],ConRow.nil _ _,by omega,by simp⟩
 ·simp at hcs
  obtain ⟨rfl,rfl,rfl⟩:=hcs
  simp only [if_true] at hmm
  subst hmm
  rw [cells_lCon] at hel
  have inh:Inhabited Con:=⟨⟨0,0,[],0,0⟩⟩
  obtain ⟨F,hF⟩:=choose_lt (α:=Con) (n:=len) (p:=fun i q=>W.cells? base (a.add (i*5)) 5=some [.int .i64 q.id,.int .i64 q.app,.string (bs q.node),.int .i64 q.mem,.int .i64 q.cpu]∧ConFit q) (fun i hi=>by
   obtain ⟨cs',h1,h2⟩:=hel i (by omega)
   obtain ⟨q,rfl,h3⟩:=open_con1 h2
   exact ⟨q,h1,h3⟩)
  refine ⟨(List.range len).map F,?_,by have:maxLen=9223372036854775807:=rfl;omega,?_⟩
  ·refine ⟨by simp,?_⟩
   by_cases h0:len=0
   ·exact .inl h0
   ·right
    obtain ⟨b,off,spot⟩:=a
    have hc0:=(World.cells?_some (hF 0 (by omega)).1).2.2 0 (by omega)
    have hspot:spot=none:=by simpa [Addr.add] using World.cell?_spot hc0
    subst hspot
    refine ⟨b,off,rfl,fun i hi=>?_⟩
    have hi':i<len:=by simpa using hi
    obtain ⟨_,_,hc⟩:=World.cells?_some (hF i hi').1
    rw [Lib.add_plain] at hc
    have k0:=hc 0 (by omega)
    have k1:=hc 1 (by omega)
    have k2:=hc 2 (by omega)
    have k3:=hc 3 (by omega)
    have k4:=hc 4 (by omega)
    rw [Lib.add_plain] at k0 k1 k2 k3 k4
    simp only [List.getElem_map,List.getElem_range]
    exact ⟨k0,k1,k2,k3,k4⟩
  ·intro q hq
   obtain ⟨i,hi,rfl⟩:=List.mem_map.1 hq
   exact (hF i (by simpa using hi)).2
end Go.Proofs.YtjkfappkpopbdaaGreat
/-
 A slice of App values that came in: what it holds.
-/
namespace Go.Proofs.YtjkfappkpopbdaaGreat
open Go.ChangeShapes Go.WideShapes Go.ChangeAt Go.RowKit Go.Deep
set_option linter.unusedVariables false
theorem cells_lAppl:Tryz.prog.cellsOf 120=3:=by kernel_rfl
theorem cells_lAskS:Tryz.prog.cellsOf 118=1:=by kernel_rfl
def ApplFit (q:Appl):Prop:=q.queue.length≤9223372036854775807∧(Lit.int .i64 q.id).wf=true∧q.asks.length≤9223372036854775807∧∀a ∈ q.asks,AskFit a
theorem ApplFit.big {q:Appl} (h:ApplFit q):ApplBig q:=⟨h.1,h.2.2.1,fun a ha=>(h.2.2.2 a ha).1⟩
set_option maxRecDepth 100000 in
theorem open_appl1 {H:Type} {enc:TypeId×Value→H} {W:World} {base:Nat} {held:Bool} {fuel:Nat} {cs:List Value} {x:DataW H×List MemPlace}
  (h:DataW.trod enc Tryz.prog W base (fun _=>true) held fuel 120 cs=some x) :
  ∃(q:Appl) (ao:Option Addr) (len cap:Nat),cs=[.int .i64 q.id,.string (bs q.queue),.slice ao len cap]∧AskRow W ao len q.asks∧len≤cap∧ApplFit q:=by
 obtain ⟨xs,n,rfl,rfl,hlen,hxs,hf⟩:=DataW.trod_struct Tryz.underlying120 h
 rw [cells_lAppl] at hlen
 have hxs:xs.length=3:=hxs
 match cs,hlen,xs,hxs with
 | [c0,c1,c2],_,[x0,x1,x2],_=>
  have h0:=hf 0 _ rfl
  have h1:=hf 1 _ rfl
  have h2:=hf 2 _ rfl
  obtain ⟨s0,e0,_,b0⟩:=DataW.trod_int Tryz.underlying3 h0
  obtain ⟨s1,e1,_,b1⟩:=DataW.trod_string Tryz.underlying9 h1
  have h3:=h2
  simp [cells_qs,cells_qi,cells_lAskS] at e0 e1 h3
  rcases open_slice Tryz.underlying118 h3 with ⟨hcs,_⟩ | ⟨a,len',cap',m,n,D,Pl,hcs,hb,hl,hm,hmm,hx,hel⟩
  ·simp at hcs
   subst hcs e0 e1
   exact ⟨⟨s0,s1.data.toList,[]⟩,none,0,0,by simp only [bs_back],AskRow.nil _ _,yJ _,by simpa [maxLen] using b1,b0,by simp,by simp⟩
  ·simp at hcs
   subst hcs e0 e1
   obtain ⟨l,hr,hle,hfit⟩:=open_asks h3
   refine ⟨⟨s0,s1.data.toList,l⟩,some a,len',cap',by simp only [bs_back],hr,hl,by simpa [maxLen] using b1,b0,?_,hfit⟩
   have:=hr.1
   show l.length≤_
   omega
theorem open_appls {H:Type} {enc:TypeId×Value→H} {W:World} {base:Nat} {held:Bool} {ao:Option Addr} {len cap fuel:Nat} {x:DataW H×List MemPlace}
  (hf:DataW.trod enc Tryz.prog W base (fun _=>true) held fuel 23 [.slice ao len cap]=some x) :
  ∃l:List Appl,ApplRow W ao len l∧len≤9223372036854775807∧∀q ∈ l,ApplFit q:=by
 rcases open_slice Tryz.underlying23 hf with ⟨hcs,_⟩ | ⟨a,len',cap',m,n,D,Pl,hcs,hb,hl,hm,hmm,hx,hel⟩
 ·simp at hcs
  obtain ⟨rfl,rfl,rfl⟩:=hcs
  exact ⟨[],ApplRow.nil _ _,by omega,by simp⟩
 ·simp at hcs
  obtain ⟨rfl,rfl,rfl⟩:=hcs
  simp only [if_true] at hmm
  subst hmm
  rw [cells_lAppl] at hel
  have inh:Inhabited Appl:=⟨⟨0,[],[]⟩⟩
  obtain ⟨F,hF⟩:=choose_lt (α:=Appl) (n:=len) (p:=fun i q=>∃(xo:Option Addr) (xl xc:Nat),W.cells? base (a.add (i*3)) 3=some [.int .i64 q.id,.string (bs q.queue),.slice xo xl xc]∧AskRow W xo xl q.asks∧xl≤xc∧ApplFit q) (fun i hi=>by
   obtain ⟨cs',h1,h2⟩:=hel i (by omega)
   obtain ⟨q,xo,xl,xc,rfl,h3⟩:=open_appl1 h2
   exact ⟨q,xo,xl,xc,h1,h3⟩)
  refine ⟨(List.range len).map F,?_,by have:maxLen=9223372036854775807:=rfl;omega,?_⟩
  ·refine ⟨by simp,?_⟩
   by_cases h0:len=0
   ·exact .inl h0
   ·right
    obtain ⟨b,off,spot⟩:=a
    obtain ⟨_,_,_,hF0,_⟩:=hF 0 (by omega)
    have hc0:=(World.cells?_some hF0).2.2 0 (by omega)
    have hspot:spot=none:=by simpa [Addr.add] using World.cell?_spot hc0
    subst hspot
    refine ⟨b,off,rfl,fun i hi=>?_⟩
    have hi':i<len:=by simpa using hi
    obtain ⟨xo,xl,xc,hFi,hrow,hle,_⟩:=hF i hi'
    obtain ⟨_,_,hc⟩:=World.cells?_some hFi
    rw [Lib.add_plain] at hc
    have k0:=hc 0 (by omega)
    have k1:=hc 1 (by omega)
    have k2:=hc 2 (by omega)
    rw [Lib.add_plain] at k0 k1 k2
    simp only [List.getElem_map,List.getElem_range]
    exact ⟨xo,xl,xc,k0,k1,k2,hrow,hle⟩
  ·intro q hq
   obtain ⟨i,hi,rfl⟩:=List.mem_map.1 hq
   obtain ⟨_,_,_,_,_,_,h⟩:=hF i (by simpa using hi)
   exact h
end Go.Proofs.YtjkfappkpopbdaaGreat
/-
 A state that comes in as an argument.
-/
namespace Go.Proofs.YtjkfappkpopbdaaGreat
open Go.ChangeShapes Go.WideShapes Go.ChangeAt Go.RowKit Go.Deep
set_option linter.unusedVariables false
theorem cells_lSt:Tryz.prog.cellsOf 27=8:=by kernel_rfl
theorem cells_lQS:Tryz.prog.cellsOf 22=1:=by kernel_rfl
theorem cells_lAS:Tryz.prog.cellsOf 23=1:=by kernel_rfl
theorem cells_lMS:Tryz.prog.cellsOf 24=1:=by kernel_rfl
theorem cells_lCS:Tryz.prog.cellsOf 25=1:=by kernel_rfl
def StFit (x:Sls) (s:St):Prop:=(x.ql≤9223372036854775807∧∀q ∈ s.qs,QFit q∧(Lit.int .i64 q.due).wf=true∧(Lit.int .i64 q.most).wf=true)∧(x.al≤9223372036854775807∧∀q ∈ s.apps,ApplFit q)∧(x.ml≤9223372036854775807∧∀q ∈ s.ms,MacFit q)∧(x.cl≤9223372036854775807∧∀q ∈ s.cs,ConFit q)∧(Lit.int .i64 s.clock).wf=true∧(Lit.int .i64 s.epoch).wf=true∧(Lit.int .i64 s.next).wf=true∧(Lit.int .i64 s.serial).wf=true
theorem StFit.big {x:Sls} {s:St} (h:StFit x s):StBig x s:=⟨⟨h.1.1,fun q hq=>(h.1.2 q hq).1⟩,⟨h.2.1.1,fun q hq=>(h.2.1.2 q hq).big⟩,⟨h.2.2.1.1,fun q hq=>(h.2.2.1.2 q hq).1⟩,h.2.2.2.1.1,fun q hq=>(h.2.2.2.1.2 q hq).1⟩
theorem slice_cells {H:Type} {enc:TypeId×Value→H} {W:World} {base:Nat} {held:Bool} {t e:TypeId} {fuel:Nat} {c:Value} {x:DataW H×List MemPlace} (hu:Tryz.prog.underlying t=some (.slice e))
  (h:DataW.trod enc Tryz.prog W base (fun _=>true) held fuel t [c]=some x):∃ao len cap,c=.slice ao len cap:=by
 rcases open_slice hu h with ⟨hcs,_⟩ | ⟨a,len',cap',m,n,D,Pl,hcs,_⟩
 ·simp at hcs;exact ⟨_,_,_,hcs⟩
 ·simp at hcs;exact ⟨_,_,_,hcs⟩
end Go.Proofs.YtjkfappkpopbdaaGreat
namespace Go.Proofs.YtjkfappkpopbdaaGreat
section
open Go.RowKit
theorem QBlk.cel {w:World} {t:TypeId} {g n k:Nat} {l:List Q} (h:QBlk w t g n k l):Cel w t g (n*4):=let ⟨arr,h1,h2,_⟩:=h;⟨arr,h1,h2⟩
theorem AskBlk.cel {w:World} {t:TypeId} {g n k:Nat} {l:List Ask} (h:AskBlk w t g n k l):Cel w t g (n*5):=let ⟨arr,h1,h2,_⟩:=h;⟨arr,h1,h2⟩
theorem MacBlk.cel {w:World} {t:TypeId} {g n k:Nat} {l:List Mac} (h:MacBlk w t g n k l):Cel w t g (n*4):=let ⟨arr,h1,h2,_⟩:=h;⟨arr,h1,h2⟩
theorem ConBlk.cel {w:World} {t:TypeId} {g n k:Nat} {l:List Con} (h:ConBlk w t g n k l):Cel w t g (n*5):=let ⟨arr,h1,h2,_⟩:=h;⟨arr,h1,h2⟩
theorem ApplBlk.cel {w:World} {t:TypeId} {g n k:Nat} {l:List Appl} (h:ApplBlk w t g n k l):Cel w t g (n*3):=let ⟨arr,h1,h2,_⟩:=h;⟨arr,h1,h2⟩
def markM (k j:Nat):Mac:=⟨109::dgs (k+4*j),(k:Int)+4*(j:Int)+1,(k:Int)+4*(j:Int)+1+1,(k:Int)+4*(j:Int)+1+1+1⟩
def marksM (k n:Nat):List Mac:=(List.range n).map (markM k)
theorem marksM_len (k n:Nat):(marksM k n).length=n:=by simp [marksM]
theorem marksM_at (k n j:Nat) (h:j<(marksM k n).length):(marksM k n)[j]=markM k j:=by simp [marksM]
theorem MacBlk.tail {w:World} {t:TypeId} {g n k:Nat} {l:List Mac} (h:MacBlk w t g n k l) {p:Nat} (hp:k*4≤p) (v:Value):MacBlk (w.setCell ⟨g,p,none⟩ v) t g n k l:=by
 obtain ⟨arr,h1,h2,h3⟩:=h
 refine ⟨_,heap_setCell_same w g p _ _ v h1,by simp [h2],fun i hi hik=>?_⟩
 obtain ⟨a,b,c,d⟩:=h3 i hi hik
 refine ⟨?_,?_,?_,?_⟩
 ·rw [←a,Array.getElem?_setIfInBounds,if_neg (by omega)]
 ·rw [←b,Array.getElem?_setIfInBounds,if_neg (by omega)]
 ·rw [←c,Array.getElem?_setIfInBounds,if_neg (by omega)]
 ·rw [←d,Array.getElem?_setIfInBounds,if_neg (by omega)]
theorem MacBlk.next {w:World} {t:TypeId} {g n k:Nat} {l:List Mac} (h:MacBlk w t g n k l) (c:∀hk:k<l.length,MacAt w g (k*4) l[k]):MacBlk w t g n (k+1) l:=by
 obtain ⟨arr,h1,h2,h3⟩:=h
 refine ⟨arr,h1,h2,fun i hi hik=>?_⟩
 by_cases e:i=k
 ·subst e
  obtain ⟨c0,c1,c2,c3⟩:=c hi
  simp [World.cell?,h1] at c0 c1 c2 c3
  exact ⟨c0,c1,c2,c3⟩
 ·exact h3 i hi (by omega)
theorem MacBlk.rowOf {w:World} {t:TypeId} {g c n:Nat} {l:List Mac} (h:MacBlk w t g c n l) (hl:n=l.length):MacRow w (some ⟨g,0,none⟩) n l:=by
 obtain ⟨arr,h1,h2,h3⟩:=h
 refine ⟨hl,.inr ⟨g,0,rfl,fun i hi=>?_⟩⟩
 obtain ⟨a,b,c,d⟩:=h3 i hi (by omega)
 unfold MacAt
 simp only [Nat.zero_add]
 exact ⟨by simp [World.cell?,h1,a],by simp [World.cell?,h1,b],by simp [World.cell?,h1,c],by simp [World.cell?,h1,d]⟩
theorem cellKeepM {w:World} {g p q:Nat} {u v:Value} (h:w.cell? ⟨g,p,none⟩=some u) (hne:q≠p):(w.setCell ⟨g,q,none⟩ v).cell? ⟨g,p,none⟩=some u:=
 (World.cell?_setCell_other _ _ _ _ (fun e=>hne (congrArg Addr.off e))).trans h
theorem markMachineS_full (g n c K:Nat) {d:Nat} (w:World) (h:Cel w 147 g (c*4)) (hc:n≤c) (hn:n≤1048576) (h0:0<K) (h1:K≤1000000000000000) :
  Calls Tryz.prog 61 #[.slice (some ⟨g,0,none⟩) n d,.int .i64 (K:Int)] w fun e w'=>e=.returned (.int .i64 ((K:Int)+4*(n:Int)))∧MacRow w' (some ⟨g,0,none⟩) n (marksM K n)∧Mkd g (g+1) w w':=by
 have HQ0:=hide (show MacBlk w 147 g c 0 (marksM K n) by obtain ⟨arr,h1,h2⟩:=h;exact ⟨arr,h1,h2,fun i _ h=>absurd h (by omega)⟩)
 clear h
 go_enter Tryz.func61,Tryz.ntmps61
 go_wp2
 go_loopw [1,5] (fun s i wr=>∃(j:Nat) (k:Int),j≤n∧i=.int .i64 j∧s=.int .i64 k∧k=(K:Int)+4*(j:Int)∧Hid (MacBlk wr 147 g c j (marksM K n))∧Hid (Mkd g (g+1) w wr)) (fun _ i _=>n - (intOf i).toNat)
 case atStart=>exact ⟨0,K,Nat.zero_le _,rfl,rfl,by omega,HQ0,hide (Mkd.refl _ _ _)⟩
 case round=>
  obtain ⟨j,k,hj,rfl,rfl,hk,HQ,HG⟩:=hrel
  by_cases hlt:j<n
  ·have HK:=hide hk
   have hk0:0<k:=by omega
   have hk1:k≤1000000010000000:=by omega
   clear hk
   go_wp2_with fail
   refine (markText_int (k) _ (by omega) (by omega)).mono ?_
   rintro e w1 ⟨rfl,hb⟩
   have HQt:=hide ((uH HQ).below hb)
   have HGt:=hide ((uH HG).on hb)
   clear HQ HG hb
   obtain ⟨v0,d0⟩:=(uH HQt).cell (j:=j*4) (by omega)
   have f0:=(uH HQt).frozen (j*4)
   have Z0_1:=hide (World.cell?_setCell_same _ ⟨g,j*4,none⟩ (.string (mk (k).toNat)) d0)
   have HQ1z:=hide ((uH HQt).tail (p:=j*4) (by omega) (.string (mk (k).toNat)))
   have HG1z:=hide ((uH HGt).sc g (j*4) (.string (mk (k).toNat)) (yJ _) (by omega))
   obtain ⟨v1,d1⟩:=(uH HQ1z).cell (j:=j*4+1) (by omega)
   have f1:=(uH HQ1z).frozen (j*4+1)
   have Z0_2:=hide (cellKeepM (q:=j*4+1) (v:=.int .i64 (k+1)) (uH Z0_1) (by omega))
   have Z1_3:=hide (World.cell?_setCell_same _ ⟨g,j*4+1,none⟩ (.int .i64 (k+1)) d1)
   have HQ2z:=hide ((uH HQ1z).tail (p:=j*4+1) (by omega) (.int .i64 (k+1)))
   have HG2z:=hide ((uH HG1z).sc g (j*4+1) (.int .i64 (k+1)) (yJ _) (by omega))
   obtain ⟨v2,d2⟩:=(uH HQ2z).cell (j:=j*4+2) (by omega)
   have f2:=(uH HQ2z).frozen (j*4+2)
   have Z0_4:=hide (cellKeepM (q:=j*4+2) (v:=.int .i64 (k+1+1)) (uH Z0_2) (by omega))
   have Z1_5:=hide (cellKeepM (q:=j*4+2) (v:=.int .i64 (k+1+1)) (uH Z1_3) (by omega))
   have Z2_6:=hide (World.cell?_setCell_same _ ⟨g,j*4+2,none⟩ (.int .i64 (k+1+1)) d2)
   have HQ3z:=hide ((uH HQ2z).tail (p:=j*4+2) (by omega) (.int .i64 (k+1+1)))
   have HG3z:=hide ((uH HG2z).sc g (j*4+2) (.int .i64 (k+1+1)) (yJ _) (by omega))
   obtain ⟨v3,d3⟩:=(uH HQ3z).cell (j:=j*4+3) (by omega)
   have f3:=(uH HQ3z).frozen (j*4+3)
   have HN:=hide (show MacBlk _ 147 g c (j+1) (marksM K n) from ((uH HQ3z).tail (p:=j*4+3) (by omega) (.int .i64 (k+1+1+1))).next (fun hj'=>by
    rw [marksM_at]
    have e1:(k).toNat=K+4*j:=by have:=uH HK;omega
    have e3:=uH HK
    have y0:=cellKeepM (q:=j*4+3) (v:=.int .i64 (k+1+1+1)) (uH Z0_4) (by omega)
    have y1:=cellKeepM (q:=j*4+3) (v:=.int .i64 (k+1+1+1)) (uH Z1_5) (by omega)
    have y2:=cellKeepM (q:=j*4+3) (v:=.int .i64 (k+1+1+1)) (uH Z2_6) (by omega)
    have y3:=World.cell?_setCell_same _ ⟨g,j*4+3,none⟩ (.int .i64 (k+1+1+1)) d3
    refine ⟨y0.trans ?_,y1.trans ?_,y2.trans ?_,y3.trans ?_⟩
    ·rw [e1];rfl
    ·rw [e3];rfl
    ·rw [e3];rfl
    ·rw [e3];rfl))
   have HGn:=hide ((uH HG3z).sc g (j*4+3) (.int .i64 (k+1+1+1)) (yJ _) (by omega))
   clear HQt HGt Z0_1 HQ1z HG1z Z0_2 Z1_3 HQ2z HG2z HG3z Z0_4 Z1_5 Z2_6
   go_wp2
   go_roundw
   case rel=>exact ⟨j+1,k+1+1+1+1,by omega,by go_num,by go_num,by have:=uH HK;omega,HN,HGn⟩
   case measure=>simp [intOf];omega
  ·have hjn:j=n:=by omega
   subst hjn
   go_wp2
   go_ret
   exact ⟨ret_int (by omega),(uH HQ).rowOf (by rw [marksM_len]),uH HG⟩
def MacOne (w0:World) (b p:Nat) (q:Mac) (w:World):Prop:=MacAt w b p q∧Below w0.heap.size w0 w
theorem MacOne.call {w0 w w':World} {b p:Nat} {q:Mac} (h:MacOne w0 b p q w) (hb:Below w.heap.size w w'):MacOne w0 b p q w':=⟨h.1.below hb,yB h.2 hb⟩
theorem MacOne.drew {w0 w:World} {b p:Nat} {q:Mac} (h:MacOne w0 b p q w):MacOne w0 b p q w.drew:=h.call (yH _ _).drew
theorem MacOne.read (w0:World) (b p:Nat) (q:Mac):∀wx,MacOne w0 b p q wx→wx.cell? ⟨b,p,none⟩=some (.string (bs q.name))∧wx.cell? ⟨b,p+1,none⟩=some (.int .i64 q.mem)∧wx.cell? ⟨b,p+2,none⟩=some (.int .i64 q.cpu)∧wx.cell? ⟨b,p+3,none⟩=some (.int .i64 q.seen):=fun wx h=>h.1
theorem heldMachineS_any (ao:Option Addr) (n c K:Nat) (w:World) (h:MacRow w ao n (marksM K n)) (hn:n≤1048576) (h0:0<K) (h1:K≤1000000000000000) :
  Calls Tryz.prog 66 #[.slice ao n c,.int .i64 (K:Int)] w fun e w'=>e=.returned (.int .i64 ((K:Int)+4*(n:Int)))∧Below w.heap.size w w':=by
 have HR:=hide h
 clear h
 go_enter Tryz.func66,Tryz.ntmps66
 go_wp2
 go_loopw [1,5] (fun s i wr=>∃(j:Nat) (k:Int),j≤n∧i=.int .i64 j∧s=.int .i64 k∧k=(K:Int)+4*(j:Int)∧Hid (Below w.heap.size w wr)) (fun _ i _=>n - (intOf i).toNat)
 case atStart=>exact ⟨0,K,Nat.zero_le _,rfl,rfl,by omega,hide (yH _ _)⟩
 case round=>
  obtain ⟨j,k,hj,rfl,rfl,hk,HB⟩:=hrel
  by_cases hlt:j<n
  ·obtain ⟨b,off,rfl,hq⟩:=((uH HR).below (uH HB)).at hlt
   have hqq:=hq (by rw [marksM_len];exact hlt)
   rw [marksM_at] at hqq
   have T0:∀wx,Calls Tryz.prog 109 #[.int .i64 (k)] wx fun e w'=>e=.returned (.string (bs (markM K j).name))∧Below wx.heap.size wx w':=fun wx=>by
    have:=markText_int (k) wx (by omega) (by omega)
    rw [show (k).toNat=K+4*j by omega] at this
    exact this
   have h_1:(markM K j).mem=k+1:=by rw [hk];rfl
   have h_2:(markM K j).cpu=k+1+1:=by rw [hk];rfl
   have h_3:(markM K j).seen=k+1+1+1:=by rw [hk];rfl
   obtain ⟨q,hqe⟩:∃q,markM K j=q:=⟨_,rfl⟩
   rw [hqe] at hqq T0 h_1 h_2 h_3
   have A0:=hide (show MacOne w b (off+j*4) q wr from ⟨hqq,uH HB⟩)
   have C0:=hide T0
   have HK:=hide hk
   have H_1:=hide h_1
   have H_2:=hide h_2
   have H_3:=hide h_3
   have R:=MacOne.read w b (off+j*4) q
   have R':=hide R
   obtain ⟨_,_,_,_⟩:=R _ (uH A0)
   have j0:(0:Int)≤j:=by omega
   have j1:(j:Int)<n:=by omega
   have hk0:0<k:=by omega
   have hk1:k≤1000000010000000:=by omega
   clear hq hqq T0 hqe hk h_1 h_2 h_3 R
   go_wp2_with fail
   have R:=uH R'
   go_region_held3 (fun wx=>MacOne w b (off+j*4) q wx)
    (first | (with_reducible assumption) | exact (uH A0).drew | exact MacOne.call (by assumption) (by assumption))
    (first
    | (go_at_call 109;refine (uH C0 _).mono ?_;rintro e wt ⟨rfl,hb⟩;have SA:=MacOne.call (w0:=w) (b:=b) (p:=off+j*4) (q:=q) (by assumption) hb))
   obtain ⟨_,r1,r2,r3⟩:=R _ SA
   rw [uH H_1] at r1
   rw [uH H_2] at r2
   rw [uH H_3] at r3
   have HB2:=hide SA.2
   clear SA A0 R C0 R'
   go_wp2
   go_roundw
   case rel=>exact ⟨j+1,k+1+1+1+1,by omega,by go_num,by go_num,by have:=uH HK;omega,HB2⟩
   case measure=>simp [intOf];omega
  ·have hjn:j=n:=by omega
   subst hjn
   go_wp2
   go_ret
   exact ⟨ret_int (by omega),uH HB⟩
def markA (k j:Nat):Ask:=⟨(k:Int)+5*(j:Int),(k:Int)+5*(j:Int)+1,(k:Int)+5*(j:Int)+1+1,109::dgs (k+5*j+1+1+1),(k:Int)+5*(j:Int)+1+1+1+1⟩
def marksA (k n:Nat):List Ask:=(List.range n).map (markA k)
theorem marksA_len (k n:Nat):(marksA k n).length=n:=by simp [marksA]
theorem marksA_at (k n j:Nat) (h:j<(marksA k n).length):(marksA k n)[j]=markA k j:=by simp [marksA]
theorem AskBlk.tail {w:World} {t:TypeId} {g n k:Nat} {l:List Ask} (h:AskBlk w t g n k l) {p:Nat} (hp:k*5≤p) (v:Value):AskBlk (w.setCell ⟨g,p,none⟩ v) t g n k l:=by
 obtain ⟨arr,h1,h2,h3⟩:=h
 refine ⟨_,heap_setCell_same w g p _ _ v h1,by simp [h2],fun i hi hik=>?_⟩
 obtain ⟨a,b,c,d,e⟩:=h3 i hi hik
 refine ⟨?_,?_,?_,?_,?_⟩
 ·rw [←a,Array.getElem?_setIfInBounds,if_neg (by omega)]
 ·rw [←b,Array.getElem?_setIfInBounds,if_neg (by omega)]
 ·rw [←c,Array.getElem?_setIfInBounds,if_neg (by omega)]
 ·rw [←d,Array.getElem?_setIfInBounds,if_neg (by omega)]
 ·rw [←e,Array.getElem?_setIfInBounds,if_neg (by omega)]
theorem AskBlk.next {w:World} {t:TypeId} {g n k:Nat} {l:List Ask} (h:AskBlk w t g n k l) (c:∀hk:k<l.length,AskAt w g (k*5) l[k]):AskBlk w t g n (k+1) l:=by
 obtain ⟨arr,h1,h2,h3⟩:=h
 refine ⟨arr,h1,h2,fun i hi hik=>?_⟩
 by_cases e:i=k
 ·subst e
  obtain ⟨c0,c1,c2,c3,c4⟩:=c hi
  simp [World.cell?,h1] at c0 c1 c2 c3 c4
  exact ⟨c0,c1,c2,c3,c4⟩
 ·exact h3 i hi (by omega)
theorem AskBlk.rowOf {w:World} {t:TypeId} {g c n:Nat} {l:List Ask} (h:AskBlk w t g c n l) (hl:n=l.length):AskRow w (some ⟨g,0,none⟩) n l:=by
 obtain ⟨arr,h1,h2,h3⟩:=h
 refine ⟨hl,.inr ⟨g,0,rfl,fun i hi=>?_⟩⟩
 obtain ⟨a,b,c,d,e⟩:=h3 i hi (by omega)
 unfold AskAt
 simp only [Nat.zero_add]
 exact ⟨by simp [World.cell?,h1,a],by simp [World.cell?,h1,b],by simp [World.cell?,h1,c],by simp [World.cell?,h1,d],by simp [World.cell?,h1,e]⟩
theorem cellKeep {w:World} {g p q:Nat} {u v:Value} (h:w.cell? ⟨g,p,none⟩=some u) (hne:q≠p):(w.setCell ⟨g,q,none⟩ v).cell? ⟨g,p,none⟩=some u:=
 (World.cell?_setCell_other _ _ _ _ (fun e=>hne (congrArg Addr.off e))).trans h
theorem cellBel {w w':World} {g p:Nat} {u:Value} (h:w.cell? ⟨g,p,none⟩=some u) (hb:Below w.heap.size w w'):w'.cell? ⟨g,p,none⟩=some u:=(hb.cell (yG h)).trans h
theorem markAskS_from (g n c K:Nat) {d:Nat} (w:World) (h:Cel w 193 g (c*5)) (hc:n≤c) (hn:n≤1048576) (h0:0<K) (h1:K≤1000000000000000) :
  Calls Tryz.prog 110 #[.slice (some ⟨g,0,none⟩) n d,.int .i64 (K:Int)] w fun e w'=>e=.returned (.int .i64 ((K:Int)+5*(n:Int)))∧AskRow w' (some ⟨g,0,none⟩) n (marksA K n)∧Mkd g (g+1) w w':=by
 have HQ0:=hide (show AskBlk w 193 g c 0 (marksA K n) by obtain ⟨arr,h1,h2⟩:=h;exact ⟨arr,h1,h2,fun i _ h=>absurd h (by omega)⟩)
 clear h
 go_enter Tryz.func110,Tryz.ntmps110
 go_wp2
 go_loopw [1,5] (fun s i wr=>∃(j:Nat) (k:Int),j≤n∧i=.int .i64 j∧s=.int .i64 k∧k=(K:Int)+5*(j:Int)∧Hid (AskBlk wr 193 g c j (marksA K n))∧Hid (Mkd g (g+1) w wr)) (fun _ i _=>n - (intOf i).toNat)
 case atStart=>exact ⟨0,K,Nat.zero_le _,rfl,rfl,by omega,HQ0,hide (Mkd.refl _ _ _)⟩
 case round=>
  obtain ⟨j,k,hj,rfl,rfl,hk,HQ,HG⟩:=hrel
  by_cases hlt:j<n
  ·have HK:=hide hk
   have hk0:0<k:=by omega
   have hk1:k≤1000000010000000:=by omega
   clear hk
   obtain ⟨v0,d0⟩:=(uH HQ).cell (j:=j*5) (by omega)
   have f0:=(uH HQ).frozen (j*5)
   have X0:=hide (World.cell?_setCell_same wr ⟨g,j*5,none⟩ (.int .i64 k) d0)
   have HQ1:=hide ((uH HQ).tail (p:=j*5) (by omega) (.int .i64 k))
   have HG1:=hide ((uH HG).sc g (j*5) (.int .i64 k) (yJ _) (by omega))
   obtain ⟨v1,d1⟩:=(uH HQ1).cell (j:=j*5+1) (by omega)
   have f1:=(uH HQ1).frozen (j*5+1)
   have X1:=hide (World.cell?_setCell_same _ ⟨g,j*5+1,none⟩ (.int .i64 (k+1)) d1)
   have X01:=hide (cellKeep (q:=j*5+1) (v:=.int .i64 (k+1)) (uH X0) (by omega))
   have HQ2:=hide ((uH HQ1).tail (p:=j*5+1) (by omega) (.int .i64 (k+1)))
   have HG2:=hide ((uH HG1).sc g (j*5+1) (.int .i64 (k+1)) (yJ _) (by omega))
   obtain ⟨v2,d2⟩:=(uH HQ2).cell (j:=j*5+2) (by omega)
   have f2:=(uH HQ2).frozen (j*5+2)
   have X2:=hide (World.cell?_setCell_same _ ⟨g,j*5+2,none⟩ (.int .i64 (k+1+1)) d2)
   have X02:=hide (cellKeep (q:=j*5+2) (v:=.int .i64 (k+1+1)) (uH X01) (by omega))
   have X12:=hide (cellKeep (q:=j*5+2) (v:=.int .i64 (k+1+1)) (uH X1) (by omega))
   have HQ3:=hide ((uH HQ2).tail (p:=j*5+2) (by omega) (.int .i64 (k+1+1)))
   have HG3:=hide ((uH HG2).sc g (j*5+2) (.int .i64 (k+1+1)) (yJ _) (by omega))
   clear X0 X1 X01 HQ HG
   go_wp2_with fail
   refine (markText_int (k+1+1+1) _ (by omega) (by omega)).mono ?_
   rintro e w1 ⟨rfl,hb⟩
   have HQ4:=hide ((uH HQ3).below hb)
   have HG4:=hide ((uH HG3).on hb)
   have Y0:=hide (cellBel (uH X02) hb)
   have Y1:=hide (cellBel (uH X12) hb)
   have Y2:=hide (cellBel (uH X2) hb)
   clear hb d0 f0 d1 f1 d2 f2 X2 X02 X12 HQ1 HQ2 HQ3 HG1 HG2 HG3
   obtain ⟨v3,d3⟩:=(uH HQ4).cell (j:=j*5+3) (by omega)
   have f3:=(uH HQ4).frozen (j*5+3)
   have Z0:=hide (cellKeep (q:=j*5+3) (v:=.string (mk (k+1+1+1).toNat)) (uH Y0) (by omega))
   have Z1:=hide (cellKeep (q:=j*5+3) (v:=.string (mk (k+1+1+1).toNat)) (uH Y1) (by omega))
   have Z2:=hide (cellKeep (q:=j*5+3) (v:=.string (mk (k+1+1+1).toNat)) (uH Y2) (by omega))
   have Z3:=hide (World.cell?_setCell_same w1 ⟨g,j*5+3,none⟩ (.string (mk (k+1+1+1).toNat)) d3)
   have HQ5:=hide ((uH HQ4).tail (p:=j*5+3) (by omega) (.string (mk (k+1+1+1).toNat)))
   have HG5:=hide ((uH HG4).sc g (j*5+3) (.string (mk (k+1+1+1).toNat)) (yJ _) (by omega))
   obtain ⟨v4,d4⟩:=(uH HQ5).cell (j:=j*5+4) (by omega)
   have f4:=(uH HQ5).frozen (j*5+4)
   have HN:=hide (show AskBlk _ 193 g c (j+1) (marksA K n) from ((uH HQ5).tail (p:=j*5+4) (by omega) (.int .i64 (k+1+1+1+1))).next (fun hj'=>by
    rw [marksA_at]
    have e1:(k+1+1+1).toNat=K+5*j+1+1+1:=by have:=uH HK;omega
    have e3:=uH HK
    have y0:=cellKeep (q:=j*5+4) (v:=.int .i64 (k+1+1+1+1)) (uH Z0) (by omega)
    have y1:=cellKeep (q:=j*5+4) (v:=.int .i64 (k+1+1+1+1)) (uH Z1) (by omega)
    have y2:=cellKeep (q:=j*5+4) (v:=.int .i64 (k+1+1+1+1)) (uH Z2) (by omega)
    have y3:=cellKeep (q:=j*5+4) (v:=.int .i64 (k+1+1+1+1)) (uH Z3) (by omega)
    have y4:=World.cell?_setCell_same _ ⟨g,j*5+4,none⟩ (.int .i64 (k+1+1+1+1)) d4
    refine ⟨y0.trans ?_,y1.trans ?_,y2.trans ?_,y3.trans ?_,y4.trans ?_⟩
    ·rw [e3];rfl
    ·rw [e3];rfl
    ·rw [e3];rfl
    ·rw [e1];rfl
    ·rw [e3];rfl))
   have HG6:=hide ((uH HG5).sc g (j*5+4) (.int .i64 (k+1+1+1+1)) (yJ _) (by omega))
   clear HQ4 HG4 HG5 Y0 Y1 Y2 Z0 Z1 Z2 Z3
   go_wp2
   go_roundw
   case rel=>exact ⟨j+1,k+1+1+1+1+1,by omega,by go_num,by go_num,by have:=uH HK;omega,HN,HG6⟩
   case measure=>simp [intOf];omega
  ·have hjn:j=n:=by omega
   subst hjn
   go_wp2
   go_ret
   exact ⟨ret_int (by omega),(uH HQ).rowOf (by rw [marksA_len]),uH HG⟩
theorem cloneInt_any (ao:Option Addr) (len cap:Nat) (l:List Int) (w:World) (h:NRow w ao len l) (hl:len≤1048576) :
  Calls Tryz.prog 93 #[.slice ao len cap] w fun e w'=>∃v,e=.returned v∧IOwn w.heap.size w' v l∧Below w.heap.size w w':=by
 obtain ⟨i0,hi,hz0,hz1,hz2⟩:=info_parts Tryz.infoI
 cases ao with
 | none=>
  have hn:len=0:=by rcases h.2 with h | ⟨b,off,e,_⟩;exact h;cases e
  subst hn
  have hl0:l=[]:=List.length_eq_zero_iff.1 h.1.symm
  subst hl0
  have hnl:∀wx,(binOp .eql 72 (.slice none 0 cap) (.slice none 0 0)).run Tryz.prog wx=.ok (.bool true) wx:=fun wx=>Lib.run_eql_slice_nil wx _ _ none 0 cap 0 0 Tryz.underlying72
  clear h hl
  go_enter Tryz.func93,Tryz.ntmps93
  go_wp2
  go_ret
  exact ⟨_,rfl,World.ownsRow_nil _ _ _ _,yH _ _⟩
 | some ad=>
  have hnew:∀j u,(icells l)[j]? = some u→(w.alloc (.cells #[] 3)).cell? (ad.add j)=some u:=fun j u hj=>by
   have hjl:j<l.length:=by rw [←icells_len];exact (List.getElem?_eq_some_iff.1 hj).1
   rcases h.2 with h0 | ⟨b,off,e,hc⟩
   ·have:=h.1;omega
   ·cases e
    have hx:u=.int .i64 l[j]:=by simp [icells,hjl] at hj;exact hj.symm
    rw [hx,Lib.add_plain]
    exact ((yA (yH _ w) (.cells #[] 3)).cell (yG (hc j hjl))).trans (hc j hjl)
  have HNW:=hide hnew
  have HLN:=hide h.1
  have hown:(w.alloc (.cells #[] 3)).ownsRow w.heap.size 3 1 (.slice (some ⟨w.heap.size,0,none⟩) 0 0) 0 []:=iown_empty w
  have hll:(icells l).length=len*1:=by rw [icells_len,h.1];omega
  have hone:∀u ∈ icells l,u.oneCell'=true:=fun u hu=>by
   simp only [icells,List.mem_map] at hu
   obtain ⟨x,_,rfl⟩:=hu
   rfl
  have hnl:∀wx,(binOp .eql 72 (.slice (some ad) len cap) (.slice none 0 0)).run Tryz.prog wx=.ok (.bool false) wx:=fun wx=>Lib.run_eql_slice_nil wx _ _ (some ad) len cap 0 0 Tryz.underlying72
  clear h hnew
  go_enter Tryz.func93,Tryz.ntmps93
  go_wp2_with (at_builtin;refine wpList_append_own _ rfl _ _ 72 rfl w.heap.size 3 i0 (.int .i64 0) 1 8 Tryz.underlying72 hi hz0 hz1 hz2 rfl (by decide) _ _ _ rfl hown ad len cap (icells l) rfl hll (uH HNW) hone ?c3 ?c4 ?c5 ?_)
  case c3=>unfold maxLen;omega
  case c4=>omega
  case c5=>simp
  intro v' w3 hown' hgrow _
  have HO:=hide (show IOwn w.heap.size w3 v' l by
   unfold IOwn
   rw [←uH HLN]
   simpa using hown')
  have HB:=hide (show Below w.heap.size w w3 from (yA (yH _ w) (.cells #[] 3)).grown hgrow (by simp) (fun k e=>by simp [Value.ownBlock] at e;omega))
  clear hown' hgrow hown hone hll
  go_wp2
  go_ret
  exact ⟨_,rfl,uH HO,uH HB⟩
abbrev mcell (q:Mac):List Value:=[.string (bs q.name),.int .i64 q.mem,.int .i64 q.cpu,.int .i64 q.seen]
def mcells:List Mac→List Value
 | []=>[]
 | q::t=>mcell q++mcells t
theorem mcells_len:∀l:List Mac,(mcells l).length=l.length*4
 | []=>rfl
 | q::t=>by rw [mcells,List.length_append,mcells_len t];simp;omega
theorem mcells_at:∀(l:List Mac) (i:Nat) (h:i<l.length),(mcells l)[i*4]? = some (.string (bs l[i].name))∧(mcells l)[i*4+1]? = some (.int .i64 l[i].mem)∧(mcells l)[i*4+2]? = some (.int .i64 l[i].cpu)∧(mcells l)[i*4+3]? = some (.int .i64 l[i].seen)
 | q::t,0,_=>⟨rfl,rfl,rfl,rfl⟩
 | q::t,i+1,h=>by
  have e:=mcells_at t i (by simpa using h)
  have k:∀j,(mcells (q::t))[(i+1)*4+j]? = (mcells t)[i*4+j]?:=fun j=>by
   rw [mcells,show (i+1)*4+j=(mcell q).length+(i*4+j) by simp;omega,List.getElem?_append_right (by omega)]
   congr 1
   omega
  have k0:=k 0
  simp only [Nat.add_zero] at k0
  rw [k0,k 1,k 2,k 3]
  simpa using e
theorem mcells_row {w:World} {b off len:Nat} {l:List Mac} (h:MacRow w (some ⟨b,off,none⟩) len l):∀j u,(mcells l)[j]? = some u→w.cell? ⟨b,off+j,none⟩=some u:=fun j u hj=>by
 have hjl:j<l.length*4:=by rw [←mcells_len];exact (List.getElem?_eq_some_iff.1 hj).1
 obtain ⟨h1,h2⟩:=h
 rcases h2 with h2 | ⟨b',off',e,h4⟩
 ·omega
 ·cases e
  have hi:j / 4<l.length:=by omega
  obtain ⟨a0,a1,a2,a3⟩:=mcells_at l (j / 4) hi
  obtain ⟨c0,c1,c2,c3⟩:=h4 (j / 4) hi
  rcases (show j % 4=0∨j % 4=1∨j % 4=2∨j % 4=3 by omega) with e | e | e | e
  ·rw [show j=j / 4*4 by omega] at hj ⊢;rw [a0] at hj;cases hj;exact c0
  ·rw [show j=j / 4*4+1 by omega] at hj ⊢;rw [a1] at hj;cases hj;rw [←Nat.add_assoc];exact c1
  ·rw [show j=j / 4*4+2 by omega] at hj ⊢;rw [a2] at hj;cases hj;rw [←Nat.add_assoc];exact c2
  ·rw [show j=j / 4*4+3 by omega] at hj ⊢;rw [a3] at hj;cases hj;rw [←Nat.add_assoc];exact c3
theorem mcells_one:∀(l:List Mac),∀u ∈ mcells l,u.oneCell'=true
 | [],u,h=>by simp [mcells] at h
 | q::t,u,h=>by
  rw [mcells,List.mem_append] at h
  rcases h with h | h
  ·simp at h
   rcases h with rfl | rfl | rfl | rfl<;>rfl
  ·exact mcells_one t u h
def MOwn (B:Nat) (w:World) (v:Value) (l:List Mac):Prop:=w.ownsRow B 147 4 v l.length (mcells l)
theorem mown_nil (B:Nat) (w:World):MOwn B w (.slice none 0 0) []:=World.ownsRow_nil _ _ _ _
theorem mown_empty (w:World):w.alloc (.cells #[] 147) |>.ownsRow w.heap.size 147 4 (.slice (some ⟨w.heap.size,0,none⟩) 0 0) 0 []:=
 ⟨rfl,.inr ⟨w.heap.size,0,#[],rfl,yJ _,by show (w.heap.push _)[w.heap.size]? = _;simp,yJ _,by unfold maxLen;omega,rfl,rfl⟩⟩
theorem mown_base {w:World} {B B':Nat} {v:Value} {l:List Mac} (h:MOwn B w v l) (hb:B'≤B):MOwn B' w v l:=by
 obtain ⟨h1,h2⟩:=h
 refine ⟨h1,?_⟩
 rcases h2 with h2 | ⟨g,cap,cur,a,b,c⟩
 ·exact .inl h2
 ·exact .inr ⟨g,cap,cur,a,Nat.le_trans hb b,c⟩
theorem mown_row {w:World} {B:Nat} {v:Value} {l:List Mac} (h:MOwn B w v l):∃ao cap,v=.slice ao l.length cap∧MacRow w ao l.length l∧l.length≤cap∧(l≠[]→∃g cur,ao=some ⟨g,0,none⟩∧B≤g∧w.heap[g]? = some (.cells cur 147 (0,0))∧cur.size=cap*4):=by
 rcases h.2 with ⟨rfl,h0⟩ | ⟨g,cap,cur,rfl,h1,h2,h3,h4,h5,h6⟩
 ·exact ⟨none,0,by rw [h0],⟨rfl,.inl h0⟩,by omega,fun hn=>absurd (List.length_eq_zero_iff.1 h0) hn⟩
 ·refine ⟨some ⟨g,0,none⟩,cap,rfl,⟨rfl,.inr ⟨g,0,rfl,fun i hi=>?_⟩⟩,h3,fun _=>⟨g,cur,rfl,h1,h2,h5⟩⟩
  obtain ⟨a,b,c,d⟩:=mcells_at l i hi
  have k:∀j (v:Value),j<l.length*4→(mcells l)[j]? = some v→w.cell? ⟨g,j,none⟩=some v:=fun j v hj hv=>by
   rw [←h6,List.getElem?_take_of_lt hj] at hv
   simp [World.cell?,h2]
   simpa using hv
  unfold MacAt
  rw [Nat.zero_add]
  exact ⟨k _ _ (by omega) a,k _ _ (by omega) b,k _ _ (by omega) c,k _ _ (by omega) d⟩
theorem Tryz.infoMachine:(Tryz.prog.info? 147).map (fun i=>(i.zero,i.size,i.bytes))=some (some (.agg #[.string ByteArray.empty,.int .i64 0,.int .i64 0,.int .i64 0]),4,40):=by kernel_rfl
theorem cloneMachine_any (ao:Option Addr) (len cap:Nat) (l:List Mac) (w:World) (h:MacRow w ao len l) (hl:len≤1048576) :
  Calls Tryz.prog 89 #[.slice ao len cap] w fun e w'=>∃v,e=.returned v∧MOwn w.heap.size w' v l∧Below w.heap.size w w':=by
 obtain ⟨i0,hi,hz0,hz1,hz2⟩:=info_parts Tryz.infoMachine
 cases ao with
 | none=>
  have hn:len=0:=by rcases h.2 with h | ⟨b,off,e,_⟩;exact h;cases e
  subst hn
  have hl0:l=[]:=List.length_eq_zero_iff.1 h.1.symm
  subst hl0
  have hnl:∀wx,(binOp .eql 34 (.slice none 0 cap) (.slice none 0 0)).run Tryz.prog wx=.ok (.bool true) wx:=fun wx=>Lib.run_eql_slice_nil wx _ _ none 0 cap 0 0 Tryz.underlying34
  clear h hl
  go_enter Tryz.func89,Tryz.ntmps89
  go_wp2
  go_ret
  exact ⟨_,rfl,mown_nil _ _,yH _ _⟩
 | some ad=>
  have hnew:∀j u,(mcells l)[j]? = some u→(w.alloc (.cells #[] 147)).cell? (ad.add j)=some u:=fun j u hj=>by
   have hjl:j<l.length*4:=by rw [←mcells_len];exact (List.getElem?_eq_some_iff.1 hj).1
   rcases h.2 with h0 | ⟨b,off,e,_⟩
   ·have:=h.1;omega
   ·cases e
    have:=mcells_row (h.below (yA (yH _ w) (.cells #[] 147))) j u hj
    rw [Lib.add_plain]
    exact this
  have HNW:=hide hnew
  have HLN:=hide h.1
  have hown:=mown_empty w
  have hll:(mcells l).length=len*4:=by rw [mcells_len,h.1]
  have hone:=mcells_one l
  have hnl:∀wx,(binOp .eql 34 (.slice (some ad) len cap) (.slice none 0 0)).run Tryz.prog wx=.ok (.bool false) wx:=fun wx=>Lib.run_eql_slice_nil wx _ _ (some ad) len cap 0 0 Tryz.underlying34
  clear h hnew
  go_enter Tryz.func89,Tryz.ntmps89
  go_wp2_with (at_builtin;refine wpList_append_own _ rfl _ _ 34 rfl w.heap.size 147 i0 (.agg #[.string ByteArray.empty,.int .i64 0,.int .i64 0,.int .i64 0]) 4 40 Tryz.underlying34 hi hz0 hz1 hz2 rfl (by decide) _ _ _ rfl hown ad len cap (mcells l) rfl hll (uH HNW) hone ?c3 ?c4 ?c5 ?_)
  case c3=>unfold maxLen;omega
  case c4=>omega
  case c5=>simp
  intro v' w3 hown' hgrow _
  have HO:=hide (show MOwn w.heap.size w3 v' l by
   unfold MOwn
   rw [←uH HLN]
   simpa using hown')
  have HB:=hide (show Below w.heap.size w w3 from (yA (yH _ w) (.cells #[] 147)).grown hgrow (by simp) (fun k e=>by simp [Value.ownBlock] at e;omega))
  clear hown' hgrow hown hone hll
  go_wp2
  go_ret
  exact ⟨_,rfl,uH HO,uH HB⟩
abbrev ccell (q:Con):List Value:=[.int .i64 q.id,.int .i64 q.app,.string (bs q.node),.int .i64 q.mem,.int .i64 q.cpu]
def ccells:List Con→List Value
 | []=>[]
 | q::t=>ccell q++ccells t
theorem ccells_app (a:List Con) (q:Con):ccells (a++[q])=ccells a++ccell q:=by
 induction a with
 | nil=>rfl
 | cons x t ih=>rw [List.cons_append,ccells,ccells,ih,List.append_assoc]
theorem ccells_len:∀l:List Con,(ccells l).length=l.length*5
 | []=>rfl
 | q::t=>by rw [ccells,List.length_append,ccells_len t];simp;omega
theorem ccells_at:∀(l:List Con) (i:Nat) (h:i<l.length),(ccells l)[i*5]? = some (.int .i64 l[i].id)∧(ccells l)[i*5+1]? = some (.int .i64 l[i].app)∧(ccells l)[i*5+2]? = some (.string (bs l[i].node))∧(ccells l)[i*5+3]? = some (.int .i64 l[i].mem)∧(ccells l)[i*5+4]? = some (.int .i64 l[i].cpu)
 | q::t,0,_=>⟨rfl,rfl,rfl,rfl,rfl⟩
 | q::t,i+1,h=>by
  have e:=ccells_at t i (by simpa using h)
  have k:∀j,(ccells (q::t))[(i+1)*5+j]? = (ccells t)[i*5+j]?:=fun j=>by
   rw [ccells,show (i+1)*5+j=(ccell q).length+(i*5+j) by simp;omega,List.getElem?_append_right (by omega)]
   congr 1
   omega
  have k0:=k 0
  simp only [Nat.add_zero] at k0
  rw [k0,k 1,k 2,k 3,k 4]
  simpa using e
theorem ccells_row {w:World} {b off len:Nat} {l:List Con} (h:ConRow w (some ⟨b,off,none⟩) len l):∀j u,(ccells l)[j]? = some u→w.cell? ⟨b,off+j,none⟩=some u:=fun j u hj=>by
 have hjl:j<l.length*5:=by rw [←ccells_len];exact (List.getElem?_eq_some_iff.1 hj).1
 obtain ⟨h1,h2⟩:=h
 rcases h2 with h2 | ⟨b',off',e,h4⟩
 ·omega
 ·cases e
  have hi:j / 5<l.length:=by omega
  obtain ⟨a0,a1,a2,a3,a4⟩:=ccells_at l (j / 5) hi
  obtain ⟨c0,c1,c2,c3,c4⟩:=h4 (j / 5) hi
  rcases (show j % 5=0∨j % 5=1∨j % 5=2∨j % 5=3∨j % 5=4 by omega) with e | e | e | e | e
  ·rw [show j=j / 5*5 by omega] at hj ⊢;rw [a0] at hj;cases hj;exact c0
  ·rw [show j=j / 5*5+1 by omega] at hj ⊢;rw [a1] at hj;cases hj;rw [←Nat.add_assoc];exact c1
  ·rw [show j=j / 5*5+2 by omega] at hj ⊢;rw [a2] at hj;cases hj;rw [←Nat.add_assoc];exact c2
  ·rw [show j=j / 5*5+3 by omega] at hj ⊢;rw [a3] at hj;cases hj;rw [←Nat.add_assoc];exact c3
  ·rw [show j=j / 5*5+4 by omega] at hj ⊢;rw [a4] at hj;cases hj;rw [←Nat.add_assoc];exact c4
theorem ccells_one:∀(l:List Con),∀u ∈ ccells l,u.oneCell'=true
 | [],u,h=>by simp [ccells] at h
 | q::t,u,h=>by
  rw [ccells,List.mem_append] at h
  rcases h with h | h
  ·simp at h
   rcases h with rfl | rfl | rfl | rfl | rfl<;>rfl
  ·exact ccells_one t u h
def COwn (B:Nat) (w:World) (v:Value) (l:List Con):Prop:=w.ownsRow B 150 5 v l.length (ccells l)
theorem cown_nil (B:Nat) (w:World):COwn B w (.slice none 0 0) []:=World.ownsRow_nil _ _ _ _
theorem cown_empty (w:World):w.alloc (.cells #[] 150) |>.ownsRow w.heap.size 150 5 (.slice (some ⟨w.heap.size,0,none⟩) 0 0) 0 []:=
 ⟨rfl,.inr ⟨w.heap.size,0,#[],rfl,yJ _,by show (w.heap.push _)[w.heap.size]? = _;simp,yJ _,by unfold maxLen;omega,rfl,rfl⟩⟩
theorem cown_below {w w':World} {B:Nat} {v:Value} {l:List Con} (h:COwn B w v l) (hb:Below w.heap.size w w'):COwn B w' v l:=
 World.ownsRow.kept h (grownBy_below (grownBy_refl w none) hb) (by by_cases e:v.ownBlock=none;exact .inl e;exact .inr e)
theorem cown_base {w:World} {B B':Nat} {v:Value} {l:List Con} (h:COwn B w v l) (hb:B'≤B):COwn B' w v l:=by
 obtain ⟨h1,h2⟩:=h
 refine ⟨h1,?_⟩
 rcases h2 with h2 | ⟨g,cap,cur,a,b,c⟩
 ·exact .inl h2
 ·exact .inr ⟨g,cap,cur,a,Nat.le_trans hb b,c⟩
theorem cown_row {w:World} {B:Nat} {v:Value} {l:List Con} (h:COwn B w v l):∃ao cap,v=.slice ao l.length cap∧ConRow w ao l.length l∧l.length≤cap∧(l≠[]→∃g cur,ao=some ⟨g,0,none⟩∧B≤g∧w.heap[g]? = some (.cells cur 150 (0,0))∧cur.size=cap*5):=by
 rcases h.2 with ⟨rfl,h0⟩ | ⟨g,cap,cur,rfl,h1,h2,h3,h4,h5,h6⟩
 ·exact ⟨none,0,by rw [h0],⟨rfl,.inl h0⟩,by omega,fun hn=>absurd (List.length_eq_zero_iff.1 h0) hn⟩
 ·refine ⟨some ⟨g,0,none⟩,cap,rfl,⟨rfl,.inr ⟨g,0,rfl,fun i hi=>?_⟩⟩,h3,fun _=>⟨g,cur,rfl,h1,h2,h5⟩⟩
  obtain ⟨a,b,c,d,e⟩:=ccells_at l i hi
  have k:∀j (v:Value),j<l.length*5→(ccells l)[j]? = some v→w.cell? ⟨g,j,none⟩=some v:=fun j v hj hv=>by
   rw [←h6,List.getElem?_take_of_lt hj] at hv
   simp [World.cell?,h2]
   simpa using hv
  unfold ConAt
  rw [Nat.zero_add]
  exact ⟨k _ _ (by omega) a,k _ _ (by omega) b,k _ _ (by omega) c,k _ _ (by omega) d,k _ _ (by omega) e⟩
theorem cown_other {w:World} {B:Nat} {v:Value} {l:List Con} (h:COwn B w v l) (k j:Nat) (x:Value) (hk:k<B):COwn B (w.setCell ⟨k,j,none⟩ x) v l:=by
 obtain ⟨h1,h2⟩:=h
 refine ⟨h1,?_⟩
 rcases h2 with h2 | ⟨g,cap,cur,a,b,c,d⟩
 ·exact .inl h2
 ·exact .inr ⟨g,cap,cur,a,b,(heap_setCell_other w ⟨k,j,none⟩ g x (show g≠k by omega)).trans c,d⟩
theorem Tryz.infoCont:(Tryz.prog.info? 150).map (fun i=>(i.zero,i.size,i.bytes))=some (some (.agg #[.int .i64 0,.int .i64 0,.string ByteArray.empty,.int .i64 0,.int .i64 0]),5,48):=by kernel_rfl
theorem cloneCont_any (ao:Option Addr) (len cap:Nat) (l:List Con) (w:World) (h:ConRow w ao len l) (hl:len≤1048576) :
  Calls Tryz.prog 127 #[.slice ao len cap] w fun e w'=>∃v,e=.returned v∧COwn w.heap.size w' v l∧Below w.heap.size w w':=by
 obtain ⟨i0,hi,hz0,hz1,hz2⟩:=info_parts Tryz.infoCont
 cases ao with
 | none=>
  have hn:len=0:=by rcases h.2 with h | ⟨b,off,e,_⟩;exact h;cases e
  subst hn
  have hl0:l=[]:=List.length_eq_zero_iff.1 h.1.symm
  subst hl0
  have hnl:∀wx,(binOp .eql 35 (.slice none 0 cap) (.slice none 0 0)).run Tryz.prog wx=.ok (.bool true) wx:=fun wx=>Lib.run_eql_slice_nil wx _ _ none 0 cap 0 0 Tryz.underlying35
  clear h hl
  go_enter Tryz.func127,Tryz.ntmps127
  go_wp2
  go_ret
  exact ⟨_,rfl,cown_nil _ _,yH _ _⟩
 | some ad=>
  have hnew:∀j u,(ccells l)[j]? = some u→(w.alloc (.cells #[] 150)).cell? (ad.add j)=some u:=fun j u hj=>by
   have hjl:j<l.length*5:=by rw [←ccells_len];exact (List.getElem?_eq_some_iff.1 hj).1
   rcases h.2 with h0 | ⟨b,off,e,_⟩
   ·have:=h.1;omega
   ·cases e
    have:=ccells_row (h.below (yA (yH _ w) (.cells #[] 150))) j u hj
    rw [Lib.add_plain]
    exact this
  have HNW:=hide hnew
  have HLN:=hide h.1
  have hown:=cown_empty w
  have hll:(ccells l).length=len*5:=by rw [ccells_len,h.1]
  have hone:=ccells_one l
  have hnl:∀wx,(binOp .eql 35 (.slice (some ad) len cap) (.slice none 0 0)).run Tryz.prog wx=.ok (.bool false) wx:=fun wx=>Lib.run_eql_slice_nil wx _ _ (some ad) len cap 0 0 Tryz.underlying35
  clear h hnew
  go_enter Tryz.func127,Tryz.ntmps127
  go_wp2_with (at_builtin;refine wpList_append_own _ rfl _ _ 35 rfl w.heap.size 150 i0 (.agg #[.int .i64 0,.int .i64 0,.string ByteArray.empty,.int .i64 0,.int .i64 0]) 5 48 Tryz.underlying35 hi hz0 hz1 hz2 rfl (by decide) _ _ _ rfl hown ad len cap (ccells l) rfl hll (uH HNW) hone ?c3 ?c4 ?c5 ?_)
  case c3=>unfold maxLen;omega
  case c4=>omega
  case c5=>simp
  intro v' w3 hown' hgrow _
  have HO:=hide (show COwn w.heap.size w3 v' l by
   unfold COwn
   rw [←uH HLN]
   simpa using hown')
  have HB:=hide (show Below w.heap.size w w3 from (yA (yH _ w) (.cells #[] 150)).grown hgrow (by simp) (fun k e=>by simp [Value.ownBlock] at e;omega))
  clear hown' hgrow hown hone hll
  go_wp2
  go_ret
  exact ⟨_,rfl,uH HO,uH HB⟩
theorem qcells_row {w:World} {b off len:Nat} {l:List Q} (h:QRow w (some ⟨b,off,none⟩) len l):∀j u,(qcells l)[j]? = some u→w.cell? ⟨b,off+j,none⟩=some u:=fun j u hj=>by
 have hjl:j<l.length*4:=by rw [←qcells_len];exact (List.getElem?_eq_some_iff.1 hj).1
 obtain ⟨h1,h2⟩:=h
 rcases h2 with h2 | ⟨b',off',e,h4⟩
 ·omega
 ·cases e
  have hi:j / 4<l.length:=by omega
  obtain ⟨a0,a1,a2,a3⟩:=qcells_at l (j / 4) hi
  obtain ⟨c0,c1,c2,c3⟩:=h4 (j / 4) hi
  rcases (show j % 4=0∨j % 4=1∨j % 4=2∨j % 4=3 by omega) with e | e | e | e
  ·rw [show j=j / 4*4 by omega] at hj ⊢;rw [a0] at hj;cases hj;exact c0
  ·rw [show j=j / 4*4+1 by omega] at hj ⊢;rw [a1] at hj;cases hj;rw [←Nat.add_assoc];exact c1
  ·rw [show j=j / 4*4+2 by omega] at hj ⊢;rw [a2] at hj;cases hj;rw [←Nat.add_assoc];exact c2
  ·rw [show j=j / 4*4+3 by omega] at hj ⊢;rw [a3] at hj;cases hj;rw [←Nat.add_assoc];exact c3
theorem qcells_one:∀(l:List Q),∀u ∈ qcells l,u.oneCell'=true
 | [],u,h=>by simp [qcells] at h
 | q::t,u,h=>by
  rw [qcells,List.mem_append] at h
  rcases h with h | h
  ·simp at h
   rcases h with rfl | rfl | rfl | rfl<;>rfl
  ·exact qcells_one t u h
theorem qown_base {w:World} {B B':Nat} {v:Value} {l:List Q} (h:QOwn B w v l) (hb:B'≤B):QOwn B' w v l:=by
 obtain ⟨h1,h2⟩:=h
 refine ⟨h1,?_⟩
 rcases h2 with h2 | ⟨g,cap,cur,a,b,c⟩
 ·exact .inl h2
 ·exact .inr ⟨g,cap,cur,a,Nat.le_trans hb b,c⟩
theorem qown_rowx {w:World} {B:Nat} {v:Value} {l:List Q} (h:QOwn B w v l):∃ao cap,v=.slice ao l.length cap∧QRow w ao l.length l∧l.length≤cap∧(l≠[]→∃g cur,ao=some ⟨g,0,none⟩∧B≤g∧w.heap[g]? = some (.cells cur 142 (0,0))∧cur.size=cap*4):=by
 obtain ⟨ao,cap,e,hr,hc⟩:=h.row
 refine ⟨ao,cap,e,hr,hc,fun hn=>?_⟩
 rcases h.2 with ⟨rfl,h0⟩ | ⟨g,cap',cur,rfl,h1,h2,h3,h4,h5,h6⟩
 ·exact absurd (List.length_eq_zero_iff.1 h0) hn
 ·simp only [Value.slice.injEq] at e
  obtain ⟨rfl,_,rfl⟩:=e
  exact ⟨g,cur,rfl,h1,h2,h5⟩
theorem cloneQ_any (ao:Option Addr) (len cap:Nat) (l:List Q) (w:World) (h:QRow w ao len l) (hl:len≤1048576) :
  Calls Tryz.prog 125 #[.slice ao len cap] w fun e w'=>∃v,e=.returned v∧QOwn w.heap.size w' v l∧Below w.heap.size w w':=by
 obtain ⟨i0,hi,hz0,hz1,hz2⟩:=info_parts Tryz.infoQ
 cases ao with
 | none=>
  have hn:len=0:=by rcases h.2 with h | ⟨b,off,e,_⟩;exact h;cases e
  subst hn
  have hl0:l=[]:=List.length_eq_zero_iff.1 h.1.symm
  subst hl0
  have hnl:∀wx,(binOp .eql 32 (.slice none 0 cap) (.slice none 0 0)).run Tryz.prog wx=.ok (.bool true) wx:=fun wx=>Lib.run_eql_slice_nil wx _ _ none 0 cap 0 0 Tryz.underlying32
  clear h hl
  go_enter Tryz.func125,Tryz.ntmps125
  go_wp2
  go_ret
  exact ⟨_,rfl,qown_nil _ _,yH _ _⟩
 | some ad=>
  have hnew:∀j u,(qcells l)[j]? = some u→(w.alloc (.cells #[] 142)).cell? (ad.add j)=some u:=fun j u hj=>by
   have hjl:j<l.length*4:=by rw [←qcells_len];exact (List.getElem?_eq_some_iff.1 hj).1
   rcases h.2 with h0 | ⟨b,off,e,_⟩
   ·have:=h.1;omega
   ·cases e
    have:=qcells_row (h.below (yA (yH _ w) (.cells #[] 142))) j u hj
    rw [Lib.add_plain]
    exact this
  have HNW:=hide hnew
  have HLN:=hide h.1
  have hown:(w.alloc (.cells #[] 142)).ownsRow w.heap.size 142 4 (.slice (some ⟨w.heap.size,0,none⟩) 0 0) 0 []:=qown_empty w
  have hll:(qcells l).length=len*4:=by rw [qcells_len,h.1]
  have hone:=qcells_one l
  have hnl:∀wx,(binOp .eql 32 (.slice (some ad) len cap) (.slice none 0 0)).run Tryz.prog wx=.ok (.bool false) wx:=fun wx=>Lib.run_eql_slice_nil wx _ _ (some ad) len cap 0 0 Tryz.underlying32
  clear h hnew
  go_enter Tryz.func125,Tryz.ntmps125
  go_wp2_with (at_builtin;refine wpList_append_own _ rfl _ _ 32 rfl w.heap.size 142 i0 (.agg #[.string ByteArray.empty,.string ByteArray.empty,.int .i64 0,.int .i64 0]) 4 48 Tryz.underlying32 hi hz0 hz1 hz2 rfl (by decide) _ _ _ rfl hown ad len cap (qcells l) rfl hll (uH HNW) hone ?c3 ?c4 ?c5 ?_)
  case c3=>unfold maxLen;omega
  case c4=>omega
  case c5=>simp
  intro v' w3 hown' hgrow _
  have HO:=hide (show QOwn w.heap.size w3 v' l by
   unfold QOwn
   rw [←uH HLN]
   exact hown')
  have HB:=hide (show Below w.heap.size w w3 from (yA (yH _ w) (.cells #[] 142)).grown hgrow (by simp) (fun k e=>by simp [Value.ownBlock] at e;omega))
  clear hown' hgrow hown hone hll
  go_wp2
  go_ret
  exact ⟨_,rfl,uH HO,uH HB⟩
theorem set_idemQ {arr:Array Value} {j:Nat} {x:Value} (h:arr[j]? = some x):arr.setIfInBounds j x=arr:=by
 apply Array.ext
 ·simp
 ·intro i h1 h2
  rw [Array.getElem_setIfInBounds]
  split
  ·rename_i e
   subst e
   rw [Array.getElem?_eq_getElem h2] at h
   exact (Option.some.inj h).symm
  ·rfl
theorem qown_same {w:World} {B g n cap j:Nat} {x:Value} {l:List Q} (h:QOwn B w (.slice (some ⟨g,0,none⟩) n cap) l) (hc:w.cell? ⟨g,j,none⟩=some x):QOwn B (w.setCell ⟨g,j,none⟩ x) (.slice (some ⟨g,0,none⟩) n cap) l∧B≤g:=by
 obtain ⟨h1,h2⟩:=h
 rcases h2 with ⟨e,_⟩ | ⟨g',cap',cur,e,h3,h4,h5⟩
 ·cases e
 ·cases e
  have hx:cur[j]? = some x:=by simpa [World.cell?,h4] using hc
  refine ⟨⟨h1,.inr ⟨g,cap,cur,rfl,h3,?_,h5⟩⟩,h3⟩
  have:=heap_setCell_same w g j _ _ x h4
  rw [set_idemQ hx] at this
  exact this
theorem qown_other {w:World} {B:Nat} {v:Value} {l:List Q} (h:QOwn B w v l) (k j:Nat) (x:Value) (hk:k<B):QOwn B (w.setCell ⟨k,j,none⟩ x) v l:=by
 obtain ⟨h1,h2⟩:=h
 refine ⟨h1,?_⟩
 rcases h2 with h2 | ⟨g,cap,cur,a,b,c,d⟩
 ·exact .inl h2
 ·exact .inr ⟨g,cap,cur,a,b,(heap_setCell_other w ⟨k,j,none⟩ g x (show g≠k by omega)).trans c,d⟩
theorem copyOfQueues_any (ao:Option Addr) (len cap:Nat) (l:List Q) (w:World) (h:QRow w ao len l) (hl:len≤1048576) (hn:∀q ∈ l,q.name.length≤1048576∧q.parent.length≤1048576) :
  Calls Tryz.prog 86 #[.slice ao len cap] w fun e w'=>∃v,e=.returned v∧QOwn w.heap.size w' v l∧Below w.heap.size w w':=by
 have HN:=hide hn
 have CC:=hide (cloneQ_any ao len cap l w h hl)
 have hll:=hide h.1
 clear h hn
 go_enter Tryz.func86,Tryz.ntmps86
 go_wp2_with fail
 refine (uH CC).mono ?_
 rintro e w1 ⟨v,rfl,ho,hb⟩
 have HB1:=hide hb
 have HO:=hide ho
 obtain ⟨xo,xc,rfl,_,hxc,hxg⟩:=(qown_rowx ho)
 obtain ⟨n,hnn⟩:∃n,l.length=n:=⟨_,rfl⟩
 have HLN:=hide hnn
 have hn2:n≤1048576:=by have:=uH hll;omega
 rw [hnn] at HO hxc ⊢
 clear ho hb CC hnn hxg
 go_wp2
 go_loopw [9] (fun i wr=>∃(k:Nat),k≤n∧i=.int .i64 k∧Hid (QOwn w.heap.size wr (.slice xo n xc) l)∧Hid (Below w.heap.size w wr)) (fun i _=>n - (intOf i).toNat)
 case atStart=>exact ⟨0,Nat.zero_le _,rfl,HO,HB1⟩
 case round=>
  obtain ⟨k,hk,rfl,HOr,HBr⟩:=hrel
  by_cases hlt:k<n
  ·have hkl:k<l.length:=by have:=uH HLN;omega
   obtain ⟨xo',xc',e,hrow,_,hg⟩:=(qown_rowx (uH HOr))
   obtain ⟨g,cur,rfl,hg1,hg2,hg3⟩:=hg (by intro e;rw [e] at hkl;simp at hkl)
   rw [uH HLN] at e hrow
   cases e
   obtain ⟨b',off',e',hat⟩:=hrow.at hlt
   cases e'
   have c0:=(hat hkl).1
   have c1:=(hat hkl).2.1
   simp only [Nat.zero_add] at c0 c1
   have hnd:=uH HN l[k] (yM _)
   obtain ⟨⟨na,pa,du,mo⟩,hs⟩:∃s,l[k]=s:=⟨_,rfl⟩
   rw [hs] at c0 c1 hnd
   simp only at c0 c1 hnd
   have hs1:(bs na).size≤281474976710656:=by rw [bs_size];omega
   have hs2:(bs pa).size≤281474976710656:=by rw [bs_size];omega
   have k0:(0:Int)≤k:=by omega
   have k1:(k:Int)<n:=by omega
   have hgs:g<wr.heap.size:=lt_of_block hg2
   clear hat hrow hg2 hg3 hs hkl hnd
   go_wp2_with fail
   refine (clone_any (bs na) _ hs1).mono ?_
   rintro e w2 ⟨rfl,hb⟩
   have HO2:=hide ((uH HOr).below hb)
   have c0':=(hb.cell (p:=⟨g,k*4,none⟩) hgs).trans c0
   have c1':=(hb.cell (p:=⟨g,k*4+1,none⟩) hgs).trans c1
   have hsame:=(qown_same (uH HO2) c0')
   have hfz:∀j,w2.frozen? ⟨g,j,none⟩=false:=fun j=>by
    rcases (uH HO2).2 with ⟨e,_⟩ | ⟨g',cap',cur',e,_,h4,_⟩
    ·cases e
    ·cases e;simp [World.frozen?,h4]
   have f0:=hfz (k*4)
   have HB2:=hide (show Below w.heap.size w (w2.setCell ⟨g,k*4,none⟩ (.string (bs na))) from (yB (uH HBr) hb).setCell (by exact hsame.2) _)
   have hg2':g<w2.heap.size:=Nat.lt_of_lt_of_le hgs hb.size
   have d1:(w2.setCell ⟨g,k*4,none⟩ (.string (bs na))).cell? ⟨g,k*4+1,none⟩=some (.string (bs pa)):=cell_keep c1' (by omega)
   have HS:=hide hsame
   obtain ⟨W3,hW3⟩:∃W,w2.setCell ⟨g,k*4,none⟩ (.string (bs na))=W:=⟨_,rfl⟩
   rw [hW3] at HB2 d1 HS
   have hgW:g<W3.heap.size:=yG d1
   clear hb hsame HOr HBr HO2 c0 c1 c1' hfz
   go_wp2_with fail
   refine (clone_any (bs pa) _ hs2).mono ?_
   rintro e w4 ⟨rfl,hb⟩
   have HO4:=hide ((uH HS).1.below hb)
   have d1':=(hb.cell (p:=⟨g,k*4+1,none⟩) hgW).trans d1
   have hsame:=(qown_same (uH HO4) d1')
   have f1:w4.frozen? ⟨g,k*4+1,none⟩=false:=by
    rcases (uH HO4).2 with ⟨e,_⟩ | ⟨g',cap',cur',e,_,h4,_⟩
    ·cases e
    ·cases e;simp [World.frozen?,h4]
   have HB4:=hide (show Below w.heap.size w (w4.setCell ⟨g,k*4+1,none⟩ (.string (bs pa))) from (yB (uH HB2) hb).setCell (by exact hsame.2) _)
   have HS4:=hide hsame.1
   clear hb hsame HS HO4 HB2 c0' d1 hW3 f0
   go_wp2
   go_roundw
   case rel=>exact ⟨k+1,by omega,by go_num,HS4,HB4⟩
   case measure=>simp [intOf];omega
  ·have k1:¬(k:Int)<n:=by omega
   go_wp2
   go_ret
   exact ⟨_,rfl,uH HOr,uH HBr⟩
theorem copyOfCont_any (q:Con) (w:World) (hn:q.node.length≤1048576) :
  Calls Tryz.prog 128 #[conv q] w fun e w'=>e=.returned (conv q)∧Below w.heap.size w w':=by
 obtain ⟨id,ap,nd,me,cp⟩:=q
 simp only at hn
 have hs:(bs nd).size≤281474976710656:=by rw [bs_size];omega
 have HB0:=hide (yA (yA (yH _ w) (.cells #[.int .i64 id,.int .i64 ap,.string (bs nd),.int .i64 me,.int .i64 cp] 150)) (.cells #[.int .i64 0,.int .i64 0,.string ByteArray.empty,.int .i64 0,.int .i64 0] 150))
 have P0:=hide ((yD w #[.int .i64 id,.int .i64 ap,.string (bs nd),.int .i64 me,.int .i64 cp] 150).al (.cells #[.int .i64 0,.int .i64 0,.string ByteArray.empty,.int .i64 0,.int .i64 0] 150))
 have P1:=hide (show Blk _ (w.heap.size+1) #[.int .i64 0,.int .i64 0,.string ByteArray.empty,.int .i64 0,.int .i64 0] 150 by have:=yD (w.alloc (.cells #[.int .i64 id,.int .i64 ap,.string (bs nd),.int .i64 me,.int .i64 cp] 150)) #[.int .i64 0,.int .i64 0,.string ByteArray.empty,.int .i64 0,.int .i64 0] 150;rwa [yE] at this)
 clear hn
 go_enter Tryz.func128,Tryz.ntmps128
 go_wp2_with fail
 refine (clone_any (bs nd) _ hs).mono ?_
 rintro e w1 ⟨rfl,hb⟩
 have HB1:=hide (yB (uH HB0) hb)
 have Q0:=hide ((uH P0).below hb)
 have Q1:=hide ((uH P1).below hb)
 clear hb HB0 P0 P1
 have d2:=(uH Q0).at 2
 have f2:=(uH Q0).f 2
 simp at d2
 go_upto_region 2 with fail
 have HB2:=hide (yC (uH HB1) w.heap.size 2 (.string (bs nd)) (yJ _))
 have R0:=hide (show Blk (w1.setCell ⟨w.heap.size,2,none⟩ (.string (bs nd))) w.heap.size #[.int .i64 id,.int .i64 ap,.string (bs nd),.int .i64 me,.int .i64 cp] 150 from (uH Q0).set 2 (.string (bs nd)))
 have R1:=hide ((uH Q1).other w.heap.size 2 (.string (bs nd)) (by omega))
 generalize w1.setCell ⟨w.heap.size,2,none⟩ (.string (bs nd))=w2 at HB2 R0 R1 ⊢
 clear d2 f2 HB1 Q0 Q1
 obtain ⟨a0,a1,a2,a3,a4⟩:=zp (uH R0)
 obtain ⟨c0,c1,c2,c3,c4⟩:=zp (uH R1)
 have f0:=(uH R1).f 0;have f1:=(uH R1).f 1;have f2:=(uH R1).f 2;have f3:=(uH R1).f 3;have f4:=(uH R1).f 4
 go_wp2
 have HB9:=hide (yC (yC (yC (yC (yC (uH HB2) (w.heap.size+1) 0 (.int .i64 id) (by omega)) (w.heap.size+1) 1 (.int .i64 ap) (by omega)) (w.heap.size+1) 2 (.string (bs nd)) (by omega)) (w.heap.size+1) 3 (.int .i64 me) (by omega)) (w.heap.size+1) 4 (.int .i64 cp) (by omega))
 have R9:=hide (show Blk (((((w2.setCell ⟨w.heap.size+1,0,none⟩ (.int .i64 id)).setCell ⟨w.heap.size+1,1,none⟩ (.int .i64 ap)).setCell ⟨w.heap.size+1,2,none⟩ (.string (bs nd))).setCell ⟨w.heap.size+1,3,none⟩ (.int .i64 me)).setCell ⟨w.heap.size+1,4,none⟩ (.int .i64 cp)) (w.heap.size+1) #[.int .i64 id,.int .i64 ap,.string (bs nd),.int .i64 me,.int .i64 cp] 150 from (((((uH R1).set 0 (.int .i64 id)).set 1 (.int .i64 ap)).set 2 (.string (bs nd))).set 3 (.int .i64 me)).set 4 (.int .i64 cp))
 generalize (((((w2.setCell ⟨w.heap.size+1,0,none⟩ (.int .i64 id)).setCell ⟨w.heap.size+1,1,none⟩ (.int .i64 ap)).setCell ⟨w.heap.size+1,2,none⟩ (.string (bs nd))).setCell ⟨w.heap.size+1,3,none⟩ (.int .i64 me)).setCell ⟨w.heap.size+1,4,none⟩ (.int .i64 cp))=W9 at HB9 R9 ⊢
 obtain ⟨z0,z1,z2,z3,z4⟩:=zp (uH R9)
 refine bodyPost_ret (v:=.agg #[.int .i64 id,.int .i64 ap,.string (bs nd),.int .i64 me,.int .i64 cp]) (by simp [results,Tryz.results128,go_sem,z0,z1,z2,z3,z4]) rfl ⟨rfl,uH HB9⟩
def RAt (w:World) (b p:Nat) (r:Int×Int):Prop:=w.cell? ⟨b,p,none⟩=some (.int .i64 r.1)∧w.cell? ⟨b,p+1,none⟩=some (.int .i64 r.2)
def RRow (w:World) (ao:Option Addr) (len:Nat) (l:List (Int×Int)):Prop:=
 len=l.length∧(len=0∨∃b off,ao=some ⟨b,off,none⟩∧∀i (h:i<l.length),RAt w b (off+i*2) l[i])
theorem RAt.lt {w:World} {b p:Nat} {r:Int×Int} (h:RAt w b p r):b<w.heap.size:=yG h.1
theorem RAt.below {w w':World} {b p:Nat} {r:Int×Int} (h:RAt w b p r) (hb:Below w.heap.size w w'):RAt w' b p r:=⟨(hb.cell h.lt).trans h.1,(hb.cell h.lt).trans h.2⟩
theorem RRow.below {w w':World} {ao:Option Addr} {len:Nat} {l:List (Int×Int)} (h:RRow w ao len l) (hb:Below w.heap.size w w'):RRow w' ao len l:=by
 obtain ⟨h1,h2⟩:=h
 refine ⟨h1,?_⟩
 rcases h2 with h2 | ⟨b,off,h3,h4⟩
 ·exact .inl h2
 ·exact .inr ⟨b,off,h3,fun i h=>(h4 i h).below hb⟩
theorem RRow.at {w:World} {ao:Option Addr} {len:Nat} {l:List (Int×Int)} (h:RRow w ao len l) {i:Nat} (hi:i<len):∃b off,ao=some ⟨b,off,none⟩∧∀(h:i<l.length),RAt w b (off+i*2) l[i]:=by
 obtain ⟨h1,h2⟩:=h
 rcases h2 with h2 | ⟨b,off,h3,h4⟩
 ·omega
 ·exact ⟨b,off,h3,fun hi=>h4 i hi⟩
abbrev rcell (r:Int×Int):List Value:=[.int .i64 r.1,.int .i64 r.2]
def rcells:List (Int×Int)→List Value
 | []=>[]
 | q::t=>rcell q++rcells t
theorem rcells_app (a:List (Int×Int)) (q:Int×Int):rcells (a++[q])=rcells a++rcell q:=by
 induction a with
 | nil=>rfl
 | cons x t ih=>rw [List.cons_append,rcells,rcells,ih,List.append_assoc]
theorem rcells_at:∀(l:List (Int×Int)) (i:Nat) (h:i<l.length),(rcells l)[i*2]? = some (.int .i64 l[i].1)∧(rcells l)[i*2+1]? = some (.int .i64 l[i].2)
 | q::t,0,_=>⟨rfl,rfl⟩
 | q::t,i+1,h=>by
  have e:=rcells_at t i (by simpa using h)
  have k:∀j,(rcells (q::t))[(i+1)*2+j]? = (rcells t)[i*2+j]?:=fun j=>by
   rw [rcells,show (i+1)*2+j=(rcell q).length+(i*2+j) by simp;omega,List.getElem?_append_right (by omega)]
   congr 1
   omega
  have k0:=k 0
  simp only [Nat.add_zero] at k0
  rw [k0,k 1]
  simpa using e
def ROwn (B:Nat) (w:World) (v:Value) (l:List (Int×Int)):Prop:=w.ownsRow B 145 2 v l.length (rcells l)
theorem rown_nil (B:Nat) (w:World):ROwn B w (.slice none 0 0) []:=World.ownsRow_nil _ _ _ _
theorem rown_empty (w:World):ROwn w.heap.size (w.alloc (.cells #[] 145)) (.slice (some ⟨w.heap.size,0,none⟩) 0 0) []:=
 ⟨rfl,.inr ⟨w.heap.size,0,#[],rfl,yJ _,by show (w.heap.push _)[w.heap.size]? = _;simp,yJ _,by unfold maxLen;omega,rfl,rfl⟩⟩
theorem ROwn.base {w:World} {B B':Nat} {v:Value} {l:List (Int×Int)} (h:ROwn B w v l) (hb:B'≤B):ROwn B' w v l:=by
 obtain ⟨h1,h2⟩:=h
 refine ⟨h1,?_⟩
 rcases h2 with h2 | ⟨g,cap,cur,a,b,c⟩
 ·exact .inl h2
 ·exact .inr ⟨g,cap,cur,a,Nat.le_trans hb b,c⟩
theorem ROwn.below {w w':World} {B:Nat} {v:Value} {l:List (Int×Int)} (h:ROwn B w v l) (hb:Below w.heap.size w w'):ROwn B w' v l:=
 h.kept (grownBy_below (grownBy_refl w none) hb) (by by_cases e:v.ownBlock=none;exact .inl e;exact .inr e)
theorem ROwn.row {w:World} {B:Nat} {v:Value} {l:List (Int×Int)} (h:ROwn B w v l):∃ao cap,v=.slice ao l.length cap∧RRow w ao l.length l∧l.length≤cap:=by
 rcases h.2 with ⟨rfl,h0⟩ | ⟨g,cap,cur,rfl,h1,h2,h3,h4,h5,h6⟩
 ·exact ⟨none,0,by rw [h0],⟨rfl,.inl h0⟩,by omega⟩
 ·refine ⟨some ⟨g,0,none⟩,cap,rfl,⟨rfl,.inr ⟨g,0,rfl,fun i hi=>?_⟩⟩,h3⟩
  obtain ⟨a,b⟩:=rcells_at l i hi
  have k:∀j (v:Value),j<l.length*2→(rcells l)[j]? = some v→w.cell? ⟨g,j,none⟩=some v:=fun j v hj hv=>by
   rw [←h6,List.getElem?_take_of_lt hj] at hv
   simp [World.cell?,h2]
   simpa using hv
  unfold RAt
  rw [Nat.zero_add]
  exact ⟨k _ _ (by omega) a,k _ _ (by omega) b⟩
theorem rown_step {w wr w1:World} {B:Nat} {v v':Value} {l:List (Int×Int)} {q:Int×Int} {ob:Obj} (hb:Below B w wr) (hown:ROwn B wr v l)
  (h1:w1.ownsRow B 145 2 v' (l.length+1) (rcells l++rcell q)) (hg:(wr.alloc ob).grownBy w1 v.ownBlock) (hB:B≤wr.heap.size) :
  ROwn B w1 v' (l++[q])∧Below B w w1:=by
 refine ⟨?_,(hb.alloc hB ob).grown hg (by simp;omega) ?_⟩
 ·unfold ROwn
  rw [rcells_app,List.length_append]
  exact h1
 ·intro k hk
  rcases hown.2 with ⟨rfl,_⟩ | ⟨g,cap,cur,rfl,hg',_⟩
  ·simp [Value.ownBlock] at hk
  ·simp [Value.ownBlock] at hk;omega
theorem Tryz.infoR:(Tryz.prog.info? 145).map (fun i=>(i.zero,i.size,i.bytes))=some (some (.agg #[.int .i64 0,.int .i64 0]),2,16):=by kernel_rfl
def sumFrom:List (Int×Int)→Int→Int→Int×Int×Bool
 | [],x,y=>(x,y,true)
 | r::t,x,y=>if bothOk 1 x y r.1 r.2=true then sumFrom t (x+1*r.1) (y+1*r.2) else (0,0,false)
def sumR (l:List (Int×Int)):Int×Int×Bool:=sumFrom l 0 0
theorem sumFrom_step {l:List (Int×Int)} {k:Nat} (h:k<l.length) (x y:Int):sumFrom (l.drop k) x y=if bothOk 1 x y l[k].1 l[k].2=true then sumFrom (l.drop (k+1)) (x+1*l[k].1) (y+1*l[k].2) else (0,0,false):=by
 rw [List.drop_eq_getElem_cons h,sumFrom]
theorem sumFrom_end {l:List (Int×Int)} {k:Nat} (h:l.length≤k) (x y:Int):sumFrom (l.drop k) x y=(x,y,true):=by
 rw [List.drop_of_length_le h];rfl
theorem together_any (ao:Option Addr) (len cap:Nat) (l:List (Int×Int)) (w:World) (h:RRow w ao len l) (hl:len≤1048576) :
  Calls Tryz.prog 224 #[.slice ao len cap] w fun e w'=>e=.returned (.tuple #[rv (sumR l).1 (sumR l).2.1,.bool (sumR l).2.2])∧Below w.heap.size w w':=by
 have HR:=hide h
 have HL:=hide h.1
 obtain ⟨⟨sx,sy,so⟩,hs⟩:∃s,sumR l=s:=⟨_,rfl⟩
 have HS:=hide (show sumFrom l 0 0=(sx,sy,so) from hs)
 rw [hs]
 clear h hs
 go_enter Tryz.func224,Tryz.ntmps224
 go_wp2
 go_loopw [12] (fun i wr=>∃(k:Nat) (x y:Int),k≤len∧i=.int .i64 k∧Hid (sumFrom (l.drop k) x y=(sx,sy,so))∧Hid (Var wr 145 w.heap.size 0 0)∧Hid (Var wr 145 (w.heap.size+1) x y)∧Hid (Below w.heap.size w wr)) (fun i _=>len - (intOf i).toNat)
 case atStart=>exact ⟨0,0,0,Nat.zero_le _,rfl,hide (by simpa using uH HS),hide ((var_new w _ _ _).al _),hide (var_new2 w _ _ 0 0 0 0),hide (yA (yA (yH _ _) _) _)⟩
 case round=>
  obtain ⟨k,x,y,hk,rfl,HQ,HV0,HV1,HB⟩:=hrel
  by_cases hlt:k<len
  ·obtain ⟨b,off,rfl,hq⟩:=((uH HR).below (uH HB)).at hlt
   have hkl:k<l.length:=by have:=uH HL;omega
   have hst:=sumFrom_step hkl x y
   obtain ⟨c0,c1⟩:=hq hkl
   obtain ⟨⟨a,d⟩,hs⟩:∃q,l[k]=q:=⟨_,rfl⟩
   rw [hs] at c0 c1 hst
   simp only at c0 c1 hst
   have HST:=hide hst
   have s0:=(uH HV1).c0
   have s1:=(uH HV1).c1
   have hsz:=(uH HV1).lt
   have hl2:=World.cell?_alloc_lt wr (.cells #[.int .i64 a,.int .i64 d] 145) ⟨w.heap.size+1,0,none⟩ hsz
   have hl3:=World.cell?_alloc_lt wr (.cells #[.int .i64 a,.int .i64 d] 145) ⟨w.heap.size+1,1,none⟩ hsz
   rw [s0] at hl2
   rw [s1] at hl3
   clear hq hs hkl hst
   have CA:=hide (fun wx=>implAdd_any x y a d wx)
   have HA:=hide (yA (yH _ wr) (.cells #[.int .i64 a,.int .i64 d] 145))
   cases ho:bothOk 1 x y a d with
   | true=>
    rw [both_yes ho,ho] at CA
    rw [if_pos ho] at HST
    clear ho
    go_wp2_with fail
    refine (uH CA _).mono ?_
    rintro e w1 ⟨rfl,hb⟩
    have W0:=hide (((uH HV0).below (uH HA)).below hb)
    have W1:=hide (((uH HV1).below (uH HA)).below hb)
    have HB1:=hide (yB (yB (uH HB) (uH HA)) hb)
    have hsz1:=(uH W1).lt
    have t0:=(uH W1).c0
    have t1:=(uH W1).c1
    have f0:=(uH W1).f 0
    have f1:=(uH W1).f 1
    have g0:=World.cell?_alloc_lt w1 (.cells #[.int .i64 (x+1*a),.int .i64 (y+1*d)] 145) ⟨w.heap.size+1,0,none⟩ hsz1
    have g1:=World.cell?_alloc_lt w1 (.cells #[.int .i64 (x+1*a),.int .i64 (y+1*d)] 145) ⟨w.heap.size+1,1,none⟩ hsz1
    rw [t0] at g0
    rw [t1] at g1
    clear hb CA HA c0 c1 s0 s1 hl2 hl3 HV0 HV1 HB
    obtain ⟨x',hx'⟩:∃x',x+1*a=x':=⟨_,rfl⟩
    obtain ⟨y',hy'⟩:∃y',y+1*d=y':=⟨_,rfl⟩
    rw [hx',hy'] at HST g0 g1
    rw [hx',hy']
    clear hx' hy'
    have h2:=(uH W1).al (.cells #[.int .i64 x',.int .i64 y'] 145)
    have ff0:=h2.f 0
    have ff1:=h2.f 1
    have W2:=hide h2
    clear h2
    go_wp2
    go_roundw
    case rel=>exact ⟨k+1,x',y',by omega,by go_num,hide (by rw [←uH HST];exact uH HQ),hide ((((uH W0).other _ _ _ (show w.heap.size≠w.heap.size+1 by omega)).other _ _ _ (show w.heap.size≠w.heap.size+1 by omega)).al _),hide (((uH W1).set _ _).al _),hide (yA (yC (yC (uH HB1) _ _ _ (show w.heap.size≤w.heap.size+1 by omega)) _ _ _ (show w.heap.size≤w.heap.size+1 by omega)) _)⟩
    case measure=>simp [intOf];omega
   | false=>
    rw [both_no ho,ho] at CA
    rw [if_neg (by rw [ho];simp)] at HST
    have hres:=(uH HST).symm.trans (uH HQ)
    simp only [Prod.mk.injEq] at hres
    obtain ⟨rfl,rfl,rfl⟩:=hres
    clear ho HST HS
    go_wp2_with fail
    refine (uH CA _).mono ?_
    rintro e w1 ⟨rfl,hb⟩
    have W0:=hide ((((uH HV0).below (uH HA)).below hb).al (.cells #[.int .i64 0,.int .i64 0] 145))
    have HB1:=hide (yA (yB (yB (uH HB) (uH HA)) hb) (.cells #[.int .i64 0,.int .i64 0] 145))
    clear hb CA HA c0 c1 s0 s1 hl2 hl3 HV0 HV1 HB
    have t0:=(uH W0).c0
    have t1:=(uH W0).c1
    have f0:=(uH W0).f 0
    have f1:=(uH W0).f 1
    have k4:=(uH W0).s0 (.int .i64 0)
    have k5:=(uH W0).s1 (.int .i64 0) (.int .i64 0)
    go_wp2
    refine bodyPost_ret (v:=.tuple #[rv 0 0,.bool false]) (by simp [results,Tryz.results224,go_sem,k4,k5]) rfl ⟨rfl,?_⟩
    repeat (first | exact uH HB1 | refine yC ?_ _ _ _ (by omega))
  ·have hres:(x,y,true)=(sx,sy,so):=by rw [←uH HQ,sumFrom_end (by have:=uH HL;omega)]
   simp only [Prod.mk.injEq] at hres
   obtain ⟨rfl,rfl,rfl⟩:=hres
   have s0:=(uH HV1).c0
   have s1:=(uH HV1).c1
   have t0:=(uH HV0).c0
   have t1:=(uH HV0).c1
   have f0:=(uH HV0).f 0
   have f1:=(uH HV0).f 1
   have k4:=(uH HV0).s0 (.int .i64 x)
   have k5:=(uH HV0).s1 (.int .i64 x) (.int .i64 y)
   go_wp2
   refine bodyPost_ret (v:=.tuple #[rv x y,.bool true]) (by simp [results,Tryz.results224,go_sem,k4,k5]) rfl ⟨rfl,?_⟩
   repeat (first | exact uH HB | refine yC ?_ _ _ _ (by omega))
def capsOf (l:List Mac):List (Int×Int):=l.map (fun m=>(m.mem,m.cpu))
theorem capsOf_step {l:List Mac} {k:Nat} (h:k<l.length):capsOf (l.take (k+1))=capsOf (l.take k)++[(l[k].mem,l[k].cpu)]:=by
 rw [List.take_succ_eq_append_getElem h,capsOf,List.map_append];rfl
def usedL (p:Con→Bool) (l:List Con):List (Int×Int):=(l.filter p).map (fun c=>(c.mem,c.cpu))
theorem usedL_step {p:Con→Bool} {l:List Con} {k:Nat} (h:k<l.length):usedL p (l.take (k+1))=if p l[k]=true then usedL p (l.take k)++[(l[k].mem,l[k].cpu)] else usedL p (l.take k):=by
 rw [List.take_succ_eq_append_getElem h]
 simp only [usedL,List.filter_append,List.map_append]
 by_cases hp:p l[k]=true<;>simp [hp]
def capW (w:World) (c:Array Value):World:=(w.alloc (.cells c 37)).alloc (.cells #[.int .i64 0,.int .i64 0] 145)
theorem capW_size (w:World) (c:Array Value):(capW w c).heap.size=w.heap.size+1+1:=by simp only [capW,yE]
theorem capW_below (w:World) (c:Array Value):Below w.heap.size w (capW w c):=yA (yA (yH _ w) _) _
theorem capW_var (w:World) (c:Array Value):Var (capW w c) 145 (w.heap.size+1) 0 0:=by
 have:=var_new (w.alloc (.cells c 37)) 145 0 0
 rwa [yE] at this
abbrev macobj (m:Mac):Obj:=.cells #[.string (bs m.name),.int .i64 m.mem,.int .i64 m.cpu,.int .i64 m.seen] 147
def boxW (w:World) (c:Array Value):World:=w.alloc (.cells c 37)
theorem boxW_size (w:World) (c:Array Value):(boxW w c).heap.size=w.heap.size+1:=by simp only [boxW,yE]
theorem boxW_below (w:World) (c:Array Value):Below w.heap.size w (boxW w c):=yA (yH _ w) _
theorem boxW_blk (w:World) (c:Array Value):Blk (boxW w c) w.heap.size c 37:=yD w c _
theorem caps_any (x:Sls) (s:St) (w:World) (h:MacRow w x.ma x.ml s.ms) (hl:x.ml≤1048576) :
  Calls Tryz.prog 204 #[sv x s] w fun e w'=>e=.returned (.tuple #[rv (sumR (capsOf s.ms)).1 (sumR (capsOf s.ms)).2.1,.bool (sumR (capsOf s.ms)).2.2])∧Below w.heap.size w w':=by
 obtain ⟨i0,hi,hz0,hz1,hz2⟩:=info_parts Tryz.infoR
 obtain ⟨qa,ql,qc,aa,al,ac,ma,ml,mc,ca,cl,cc⟩:=x
 obtain ⟨qs,clock,epoch,next,serial,apps,ms,cs⟩:=s
 simp only at h hl ⊢
 have HR:=hide h
 have HL:=hide h.1
 obtain ⟨c,hc⟩:∃c:Array Value,#[.slice qa ql qc,.int .i64 clock,.int .i64 epoch,.int .i64 next,.int .i64 serial,.slice aa al ac,.slice ma ml mc,.slice ca cl cc]=c:=⟨_,rfl⟩
 have HC:=hide hc
 have HB0:=hide (capW_below w c)
 have V0:=hide (capW_var w c)
 have hW:=capW_size w c
 have HW:=hide hW
 clear h hc hW
 obtain ⟨⟨sx,sy,so⟩,hs⟩:∃s,sumR (capsOf ms)=s:=⟨_,rfl⟩
 have HS:=hide hs
 rw [hs]
 clear hs
 go_enter Tryz.func204,Tryz.ntmps204
 go_wp2
 go_loopw [4,10] (fun v i wr=>∃(k:Nat),k≤ml∧i=.int .i64 k∧Hid (ROwn (capW w c).heap.size wr v (capsOf (ms.take k)))∧Hid (Below (capW w c).heap.size (capW w c) wr)) (fun _ i _=>ml - (intOf i).toNat)
 case atStart=>
  obtain rfl:=uH HC
  exact ⟨0,Nat.zero_le _,rfl,hide (by simpa [capsOf] using rown_nil _ _),hide (yH _ _)⟩
 case round=>
  obtain ⟨k,hk,rfl,HO,HB⟩:=hrel
  by_cases hlt:k<ml
  ·obtain ⟨b,off,rfl,hq⟩:=(((uH HR).below (uH HB0)).below (uH HB)).at hlt
   have hkl:k<ms.length:=by have:=uH HL;omega
   have hst:=hide (capsOf_step hkl)
   obtain ⟨c0,c1,c2,c3⟩:=hq hkl
   obtain ⟨m,hs⟩:∃q,ms[k]=q:=⟨_,rfl⟩
   rw [hs] at c0 c1 c2 c3 hst
   have hal:(capsOf (ms.take k)).length≤1048576:=by simp [capsOf];omega
   obtain ⟨acc,hacc⟩:∃a,capsOf (ms.take k)=a:=⟨_,rfl⟩
   rw [hacc] at hst hal HO
   obtain ⟨nm,me,cp,se⟩:=m
   simp only at c0 c1 c2 c3 hst
   have HB2:=hide (yA (uH HB) (macobj ⟨nm,me,cp,se⟩))
   have HO2:=hide ((uH HO).below (yA (yH _ wr) (macobj ⟨nm,me,cp,se⟩)))
   have hs2:(capW w c).heap.size≤(wr.alloc (macobj ⟨nm,me,cp,se⟩)).heap.size:=(uH HB2).size
   have hown:(wr.alloc (macobj ⟨nm,me,cp,se⟩)).ownsRow (capW w c).heap.size 145 2 _ acc.length (rcells acc):=uH HO2
   clear hq hs hkl hacc HO HB
   go_wp2_with (at_builtin;refine wpList_append_own _ rfl _ _ 216 rfl (capW w c).heap.size 145 i0 (.agg #[.int .i64 0,.int .i64 0]) 2 16 Tryz.underlying216 hi hz0 hz1 hz2 rfl (by decide) _ _ _ rfl (hown.alloc _) ⟨wr.heap.size+1,0,none⟩ 1 1 (rcell (me,cp)) rfl rfl ?c1 ?c2 ?c3 ?c4 ?c5 ?_)
   case c1=>
    intro j x hj
    match j,hj with
    | 0,hj=>simp at hj;subst hj;simp [Addr.add]
    | 1,hj=>simp at hj;subst hj;simp [Addr.add]
    | _+2,hj=>simp at hj
   case c2=>intro x hx;simp at hx;rcases hx with rfl | rfl<;>rfl
   case c3=>unfold maxLen;omega
   case c4=>omega
   case c5=>simp at hs2 ⊢;omega
   intro v' w3 hown' hgrow _
   have R:=rown_step (q:=(me,cp)) (uH HB2) (uH HO2) hown' hgrow hs2
   have HR3:=hide R
   clear hown' hgrow hown c0 c1 c2 c3 R
   go_wp2
   go_roundw
   case rel=>exact ⟨k+1,by omega,by go_num,hide (by rw [uH hst];exact (uH HR3).1),hide (uH HR3).2⟩
   case measure=>simp [intOf];omega
  ·have htk:ms.take k=ms:=List.take_of_length_le (by have:=uH HL;omega)
   rw [htk] at HO
   obtain ⟨ao,cp,rfl,hrow,hcp⟩:=(uH HO).row
   have hlc:(capsOf ms).length≤1048576:=by have:=uH HL;simp [capsOf];omega
   have CT:=hide (together_any ao _ cp (capsOf ms) wr hrow hlc)
   rw [uH HS] at CT
   obtain ⟨n,hn⟩:∃n,(capsOf ms).length=n:=⟨_,rfl⟩
   rw [hn] at CT ⊢
   clear hrow hn htk hcp hlc HO
   go_wp2_with fail
   refine (uH CT).mono ?_
   rintro e w1 ⟨rfl,hb⟩
   have hsz:w.heap.size+1<(capW w c).heap.size:=by have:=uH HW;omega
   have V1:Var w1 145 (w.heap.size+1) 0 0:=Var.below ((uH HB).block _ hsz |>.trans (uH V0)) hb
   have HB1:=hide (yB (yB (uH HB0) (uH HB)) hb)
   have t0:=V1.c0
   have t1:=V1.c1
   have f0:=V1.f 0
   have f1:=V1.f 1
   have k4:=V1.s0 (.int .i64 sx)
   have k5:=V1.s1 (.int .i64 sx) (.int .i64 sy)
   clear hb V1 CT HB HB0
   go_wp2
   refine bodyPost_ret (v:=.tuple #[rv sx sy,.bool so]) (by simp [results,Tryz.results204,go_sem,k4,k5]) rfl ⟨rfl,?_⟩
   repeat (first | exact uH HB1 | refine yC ?_ _ _ _ (by omega))
end
section
open Go.RowKit Go.Shelf
def KpA (W W':World):Prop:=∀(k:Nat) (o:Obj),W.heap[k]? = some o→o.isCells=true→W'.heap[k]? = some o
theorem kpa_t {A B C:World} (h:KpA A B) (k:KpA B C):KpA A C:=fun i o ho hc=>k i o (h i o ho hc) hc
theorem kpa_b {w:World} (W:World) (l:Nat) (o o':Obj) (hl:w.heap.size≤l) (h:W.heap[l]? = some o) (h1:o.isCells=false) (h2:o.isWalk=false):KpA W (W.putObj l o'):=fun k q hq hc=>by
 have hne:k≠l:=fun e=>by
  subst e
  rw [hq] at h
  cases h
  rw [h1] at hc
  cases hc
 exact ((grownBy_putObj' W l o').block k (lt_of_block hq) (by simp;omega)).trans hq
theorem kpa_below {W W':World} (h:Below W.heap.size W W'):KpA W W':=fun k o ho _=>(h.block k (lt_of_block ho)).trans ho
theorem cell_cells {W:World} {b j:Nat} {v:Value} (hc:W.cell? ⟨b,j,none⟩=some v):∃o,W.heap[b]? = some o∧o.isCells=true:=by
 cases h:W.heap[b]? with
 | none=>simp [World.cell?,h] at hc
 | some o=>
  refine ⟨o,rfl,?_⟩
  cases o<;>simp [World.cell?,h] at hc<;>rfl
theorem KpA.cell {W W':World} (h:KpA W W') {b j:Nat} {v:Value} (hc:W.cell? ⟨b,j,none⟩=some v):W'.cell? ⟨b,j,none⟩=some v:=by
 obtain ⟨o,h1,h2⟩:=cell_cells hc
 have h3:=h b o h1 h2
 unfold World.cell? at hc ⊢
 rw [h1] at hc
 rw [h3]
 exact hc
theorem keepsO_below {w w':World} (hb:Below w.heap.size w w'):KeepsOthers w w':=KeepsOthers.of_grownBy (row:=none) (grownBy_below (grownBy_refl w none) hb) (fun j o e=>by cases e)
attribute [local go_sem] Oper.semAt_some
abbrev NMac:={ m:Mac // m.name.length≤1048576 }
theorem MacRow.kpa {W W':World} {ao:Option Addr} {len:Nat} {l:List Mac} (h:MacRow W ao len l) (k:KpA W W'):MacRow W' ao len l:=by
 obtain ⟨h1,h2⟩:=h
 refine ⟨h1,?_⟩
 rcases h2 with h2 | ⟨b,off,h3,h4⟩
 ·exact .inl h2
 ·exact .inr ⟨b,off,h3,fun i hi=>let ⟨a,b,c,d⟩:=h4 i hi;⟨k.cell a,k.cell b,k.cell c,k.cell d⟩⟩
theorem backM_some (n l Bs len cap:Nat) (ao:Option Addr) (ms:List Mac) (J Jx:List (Int×NMac)→World→Prop)
  (hY:∀pre x W1,J pre W1→pre.length<ms.length→YieldAt Fence.wide (n - 1) Tryz.prog l #[.int .i64 x.1,macv x.2.1] W1 fun e W'=>
   (e=.returned (.bool true)∧J (pre++[x]) W'∧KpA W1 W')∨(e=.returned (.bool false)∧Jx (pre++[x]) W'))
  (W:World) (hBs:W.cell? ⟨Bs,0,none⟩=some (.slice ao len cap)) (hg:MacRow W ao len ms) (hl:len≤1048576) (hN:∀m ∈ ms,m.name.length≤1048576) (h0:J [] W) :
  CallsIn Fence.wide n Tryz.prog 241 #[.func (.yield l) #[] #[],.pointer (some ⟨Bs,0,none⟩)] W fun e W'=>(∃v,e=.returned v)∧
   ((∃ys:List (Int×NMac),Hid (ys.map (fun x:Int×NMac=>x.2.1)=ms.reverse)∧J ys W')∨(∃pre,Jx pre W')):=by
 have HY:=hide hY
 have HBs:=hide hBs
 have HG:=hide hg
 have HLEN:=hide hg.1
 have H0:=hide h0
 have HNN:=hide hN
 clear hY hg h0 hN
 refine callsIn_of_wp Tryz.func241 rfl trivial ?_ rfl
 simp only [Tryz.ntmps241,List.size_toArray,List.length_cons,List.length_nil,Nat.reduceAdd,Nat.reduceSub,Array.replicate_succ,Array.replicate_zero,List.push_toArray,List.append_toArray,List.nil_append,List.cons_append]
 gi_wp2
 clear hBs
 gi_loopw [3] (fun i wr=>∃(k:Nat) (pre:List (Int×NMac)),k≤len∧i=.int .i64 ((k:Int) - 1)∧Hid (pre.length+k=ms.length)∧Hid (pre.map (fun x:Int×NMac=>x.2.1)=(ms.drop k).reverse)∧Hid (J pre wr)∧Hid (wr.cell? ⟨Bs,0,none⟩=some (.slice ao len cap))∧Hid (MacRow wr ao len ms)) (fun i _=>(intOf i+1).toNat)
 case atStart=>exact ⟨len,[],yJ _,by go_num,hide (by have:=uH HLEN;simp;omega),hide (by rw [List.drop_of_length_le (by have:=uH HLEN;omega)];rfl),H0,HBs,HG⟩
 case round=>
  obtain ⟨k,pre,hk,rfl,HL,HM,HJ,HB,HGr⟩:=hrel
  cases k with
  | zero=>
   gi_wp2
   go_end0
   exact ⟨⟨_,rfl⟩,.inl ⟨pre,hide (by rw [uH HM];rfl),uH HJ⟩⟩
  | succ j=>
   have hj:j<len:=by omega
   obtain ⟨b,off,rfl,hq⟩:=(uH HGr).at hj
   have hjm:j<ms.length:=by have:=uH HLEN;omega
   obtain ⟨c0,c1,c2,c3⟩:=hq hjm
   have hbox:=uH HB
   have hel:=uH HNN ms[j] (yM _)
   obtain ⟨fn,tmps,assign,body,hy,hR⟩:=uH HY pre ((j:Int),⟨ms[j],hel⟩) wr (uH HJ) (by have:=uH HL;omega)
   have HRR:=hide hR
   have HM2:=hide (show (pre++[((j:Int),(⟨ms[j],hel⟩:NMac))]).map (fun x:Int×NMac=>x.2.1)=(ms.drop j).reverse by rw [List.map_append,uH HM,List.drop_eq_getElem_cons hjm,List.reverse_cons];rfl)
   have hij:((j+1:Nat):Int) - 1=(j:Int):=by omega
   obtain ⟨y,hyy⟩:∃y:NMac,(⟨ms[j],hel⟩:NMac)=y:=⟨_,rfl⟩
   have hy1:ms[j]=y.1:=by rw [←hyy]
   rw [hyy] at hy HRR HM2
   rw [hy1] at c0 c1 c2 c3
   obtain ⟨⟨nm,me,cp,se⟩,hyn⟩:=y
   simp only at hy c0 c1 c2 c3
   rw [hij]
   have j0:(0:Int)≤j:=by omega
   have j1:(j:Int)<len:=by omega
   clear hR hyy hy1 hij HM hq hjm hel
   gi_wp2
   refine ⟨(by intro e;cases e),?_⟩
   refine (uH HRR).mono ?_
   rintro e W3 (⟨rfl,hJ3,hk3⟩ | ⟨rfl,hJx3⟩)
   ·have HB3:=hide (hk3.cell (uH HB))
    have HG3:=hide ((uH HGr).kpa hk3)
    have HJ3:=hide hJ3
    clear hk3 hJ3 hbox hy HRR c0 c1 c2 c3
    gi_wp2
    go_roundw
    case rel=>exact ⟨j,pre++[((j:Int),⟨⟨nm,me,cp,se⟩,hyn⟩)],by omega,by go_num,hide (by have:=uH HL;simp;omega),HM2,HJ3,HB3,HG3⟩
    case measure=>simp [intOf]
   ·gi_wp2
    refine bodyPost_ret (results_none rfl _ _ _) rfl ?_
    exact ⟨⟨_,rfl⟩,.inr ⟨_,hJx3⟩⟩
theorem backM_stops (n Bs len cap:Nat) (ao:Option Addr) (ms:List Mac) (w:World) (hBs:w.cell? ⟨Bs,0,none⟩=some (.slice ao len cap)) (hrow:MacRow w ao len ms) (hl:len≤1048576) (hN:∀m ∈ ms,m.name.length≤1048576) :
  SeqStopsK Fence.wide n Tryz.prog 241 #[.pointer (some ⟨Bs,0,none⟩)] (fun x:Int×NMac=>#[.int .i64 x.1,macv x.2.1]) KpA (fun ys=>Hid (ys.map (fun x:Int×NMac=>x.2.1)=ms.reverse)) (fun _=>True) ms.length w:=by
 intro l J Jx W hW hJ hJx hY h0
 refine (backM_some n l Bs len cap ao ms J Jx hY W ((hW.cell (yG hBs)).trans hBs) (hrow.below hW) hl hN h0).mono ?_
 rintro e W' ⟨he,⟨ys,h1,h2⟩ | ⟨pre,h2⟩⟩
 ·exact ⟨he,.inl ⟨ys,h1,h2⟩⟩
 ·exact ⟨he,.inr ⟨pre,trivial,h2⟩⟩
theorem backM_any (v:Value) (w:World) (hv:v.oneCell'=true) :
  Calls Tryz.prog 227 #[v] w fun e w'=>e=.returned (.func (.func 241) #[] #[.pointer (some ⟨w.heap.size,0,none⟩)])∧w.alloc (.cells #[v] 34)=w':=by
 have hmf:∀(fn:Fn) (first cap:Array Value) (w:World),(Instr.makeFunc fn first cap).run Tryz.prog w=.ok (.func fn first cap) w:=fun _ _ _ _=>rfl
 go_enter Tryz.func227,Tryz.ntmps227
 go_wp2
 go_ret
 exact ⟨rfl,rfl⟩
theorem macKey_any (m:Mac) (w:World) :
  Calls Tryz.prog 228 #[macv m] w fun e w'=>e=.returned (.agg #[.string (bs m.name),.int .i64 0])∧Below w.heap.size w w':=by
 obtain ⟨nm,me,cp,se⟩:=m
 go_enter Tryz.func228,Tryz.ntmps228
 go_wp2
 refine bodyPost_ret (v:=.agg #[.string (bs nm),.int .i64 0]) (by simp [results,Tryz.results228,go_sem]) rfl ⟨rfl,?_⟩
 repeat (first | exact yH _ _ | refine yA ?_ _ | refine Below.drew ?_ | refine yC ?_ _ _ _ (by omega))
end
section
open Go.RowKit
abbrev newX (qo:Option Addr) (n c:Nat):Sls:=⟨qo,n,c,none,0,0,none,0,0,none,0,0⟩
abbrev newSt (l:List Q) (ep nx se:Int):St:=⟨l,0,ep,nx,se,[],[],[]⟩
theorem new_row {w:World} {qo:Option Addr} {n c:Nat} {l:List Q} (ep nx se:Int) (h:QRow w qo n l):SRow w (newX qo n c) (newSt l ep nx se):=⟨h,⟨rfl,.inl rfl⟩,⟨rfl,.inl rfl⟩,⟨rfl,.inl rfl⟩⟩
theorem new_fit {l:List Q} (ep nx se:Int) (h:FitQ l):FitSt (newSt l ep nx se):=⟨h,⟨by simp,by simp⟩,⟨by simp,by simp⟩,⟨by simp,by simp⟩⟩
def Held (w0:World) (n:Nat) (L:List (Nat×Array Value×TypeId)) (wx:World):Prop:=
 (∀p ∈ L,p.1<n∧Blk wx p.1 p.2.1 p.2.2)∧n≤wx.heap.size∧w0.heap.size≤n∧Below w0.heap.size w0 wx
theorem Held.blk {w0:World} {n:Nat} {L:List (Nat×Array Value×TypeId)} {wx:World} (h:Held w0 n L wx) {p:Nat×Array Value×TypeId} (hp:p ∈ L):Blk wx p.1 p.2.1 p.2.2:=(h.1 p hp).2
theorem Var.blk {w:World} {t:TypeId} {g:Nat} {x y:Int} (h:Var w t g x y):Blk w g #[.int .i64 x,.int .i64 y] t:=h
theorem markQueueS_from (g n c:Nat) (k0:Int) (w:World) (h:Cel w 142 g (c*4)) (hc:n≤c) (hn:n≤1048576) (h0:0<k0) (h1:k0≤1000000000000000) :
  Calls Tryz.prog 59 #[.slice (some ⟨g,0,none⟩) n c,.int .i64 k0] w fun e w'=>e=.returned (.int .i64 (k0+4*(n:Int)))∧Mkd g (g+1) w w':=by
 have HQ0:=hide h
 clear h
 go_enter Tryz.func59,Tryz.ntmps59
 go_wp2
 go_loopw [1,5] (fun s i wr=>∃(j:Nat) (k:Int),j≤n∧i=.int .i64 j∧s=.int .i64 k∧k=k0+4*(j:Int)∧Hid (Cel wr 142 g (c*4))∧Hid (Mkd g (g+1) w wr)) (fun _ i _=>n - (intOf i).toNat)
 case atStart=>exact ⟨0,k0,Nat.zero_le _,rfl,rfl,by omega,HQ0,hide (Mkd.refl _ _ _)⟩
 case round=>
  obtain ⟨j,k,hj,rfl,rfl,hk,HQ,HG⟩:=hrel
  by_cases hlt:j<n
  ·have HK:=hide hk
   have hk0:0<k:=by omega
   have hk1:k≤1000000010000000:=by omega
   clear hk
   go_wp2_with fail
   refine (markText_int k _ (by omega) (by omega)).mono ?_
   rintro e w1 ⟨rfl,hb⟩
   have HQt0:=hide ((uH HQ).below hb)
   have HGt0:=hide ((uH HG).on hb)
   clear hb  HQ HG
   obtain ⟨v0,d0⟩:=(uH HQt0).cell (j:=j*4) (by omega)
   have f0:=(uH HQt0).frozen (j*4)
   have HQs0:=hide ((uH HQt0).set g (j*4) (.string (mk k.toNat)))
   have HGs0:=hide ((uH HGt0).sc g (j*4) (.string (mk k.toNat)) (yJ _) (by omega))
   go_wp2_with fail
   refine (markText_int (k+1) _ (by omega) (by omega)).mono ?_
   rintro e w2 ⟨rfl,hb⟩
   have HQt1:=hide ((uH HQs0).below hb)
   have HGt1:=hide ((uH HGs0).on hb)
   clear hb d0 f0 HQt0 HGt0 HQs0 HGs0
   obtain ⟨v1,d1⟩:=(uH HQt1).cell (j:=j*4+1) (by omega)
   have f1:=(uH HQt1).frozen (j*4+1)
   have HQs1:=hide ((uH HQt1).set g (j*4+1) (.string (mk (k+1).toNat)))
   have HGs1:=hide ((uH HGt1).sc g (j*4+1) (.string (mk (k+1).toNat)) (yJ _) (by omega))
   obtain ⟨v2,d2⟩:=(uH HQs1).cell (j:=j*4+2) (by omega)
   have f2:=(uH HQs1).frozen (j*4+2)
   have HQs2:=hide ((uH HQs1).set g (j*4+2) (.int .i64 (k+1+1)))
   have HGs2:=hide ((uH HGs1).sc g (j*4+2) (.int .i64 (k+1+1)) (yJ _) (by omega))
   obtain ⟨v3,d3⟩:=(uH HQs2).cell (j:=j*4+3) (by omega)
   have f3:=(uH HQs2).frozen (j*4+3)
   have HQs3:=hide ((uH HQs2).set g (j*4+3) (.int .i64 (k+1+1+1)))
   have HGs3:=hide ((uH HGs2).sc g (j*4+3) (.int .i64 (k+1+1+1)) (yJ _) (by omega))
   go_wp2
   go_roundw
   case rel=>exact ⟨j+1,k+1+1+1+1,by omega,by go_num,by go_num,by have:=uH HK;omega,HQs3,HGs3⟩
   case measure=>simp [intOf];omega
  ·have hjn:j=n:=by omega
   subst hjn
   go_wp2
   go_ret
   exact ⟨ret_int (by omega),uH HG⟩
theorem markMachineS_from (g n c:Nat) (k0:Int) (w:World) (h:Cel w 147 g (c*4)) (hc:n≤c) (hn:n≤1048576) (h0:0<k0) (h1:k0≤1000000000000000) :
  Calls Tryz.prog 61 #[.slice (some ⟨g,0,none⟩) n c,.int .i64 k0] w fun e w'=>e=.returned (.int .i64 (k0+4*(n:Int)))∧Mkd g (g+1) w w':=by
 have HQ0:=hide h
 clear h
 go_enter Tryz.func61,Tryz.ntmps61
 go_wp2
 go_loopw [1,5] (fun s i wr=>∃(j:Nat) (k:Int),j≤n∧i=.int .i64 j∧s=.int .i64 k∧k=k0+4*(j:Int)∧Hid (Cel wr 147 g (c*4))∧Hid (Mkd g (g+1) w wr)) (fun _ i _=>n - (intOf i).toNat)
 case atStart=>exact ⟨0,k0,Nat.zero_le _,rfl,rfl,by omega,HQ0,hide (Mkd.refl _ _ _)⟩
 case round=>
  obtain ⟨j,k,hj,rfl,rfl,hk,HQ,HG⟩:=hrel
  by_cases hlt:j<n
  ·have HK:=hide hk
   have hk0:0<k:=by omega
   have hk1:k≤1000000010000000:=by omega
   clear hk
   go_wp2_with fail
   refine (markText_int k _ (by omega) (by omega)).mono ?_
   rintro e w1 ⟨rfl,hb⟩
   have HQt0:=hide ((uH HQ).below hb)
   have HGt0:=hide ((uH HG).on hb)
   clear hb  HQ HG
   obtain ⟨v0,d0⟩:=(uH HQt0).cell (j:=j*4) (by omega)
   have f0:=(uH HQt0).frozen (j*4)
   have HQs0:=hide ((uH HQt0).set g (j*4) (.string (mk k.toNat)))
   have HGs0:=hide ((uH HGt0).sc g (j*4) (.string (mk k.toNat)) (yJ _) (by omega))
   obtain ⟨v1,d1⟩:=(uH HQs0).cell (j:=j*4+1) (by omega)
   have f1:=(uH HQs0).frozen (j*4+1)
   have HQs1:=hide ((uH HQs0).set g (j*4+1) (.int .i64 (k+1)))
   have HGs1:=hide ((uH HGs0).sc g (j*4+1) (.int .i64 (k+1)) (yJ _) (by omega))
   obtain ⟨v2,d2⟩:=(uH HQs1).cell (j:=j*4+2) (by omega)
   have f2:=(uH HQs1).frozen (j*4+2)
   have HQs2:=hide ((uH HQs1).set g (j*4+2) (.int .i64 (k+1+1)))
   have HGs2:=hide ((uH HGs1).sc g (j*4+2) (.int .i64 (k+1+1)) (yJ _) (by omega))
   obtain ⟨v3,d3⟩:=(uH HQs2).cell (j:=j*4+3) (by omega)
   have f3:=(uH HQs2).frozen (j*4+3)
   have HQs3:=hide ((uH HQs2).set g (j*4+3) (.int .i64 (k+1+1+1)))
   have HGs3:=hide ((uH HGs2).sc g (j*4+3) (.int .i64 (k+1+1+1)) (yJ _) (by omega))
   go_wp2
   go_roundw
   case rel=>exact ⟨j+1,k+1+1+1+1,by omega,by go_num,by go_num,by have:=uH HK;omega,HQs3,HGs3⟩
   case measure=>simp [intOf];omega
  ·have hjn:j=n:=by omega
   subst hjn
   go_wp2
   go_ret
   exact ⟨ret_int (by omega),uH HG⟩
theorem markContS_from (g n c:Nat) (k0:Int) (w:World) (h:Cel w 150 g (c*5)) (hc:n≤c) (hn:n≤1048576) (h0:0<k0) (h1:k0≤1000000000000000) :
  Calls Tryz.prog 62 #[.slice (some ⟨g,0,none⟩) n c,.int .i64 k0] w fun e w'=>e=.returned (.int .i64 (k0+5*(n:Int)))∧Mkd g (g+1) w w':=by
 have HQ0:=hide h
 clear h
 go_enter Tryz.func62,Tryz.ntmps62
 go_wp2
 go_loopw [1,5] (fun s i wr=>∃(j:Nat) (k:Int),j≤n∧i=.int .i64 j∧s=.int .i64 k∧k=k0+5*(j:Int)∧Hid (Cel wr 150 g (c*5))∧Hid (Mkd g (g+1) w wr)) (fun _ i _=>n - (intOf i).toNat)
 case atStart=>exact ⟨0,k0,Nat.zero_le _,rfl,rfl,by omega,HQ0,hide (Mkd.refl _ _ _)⟩
 case round=>
  obtain ⟨j,k,hj,rfl,rfl,hk,HQ,HG⟩:=hrel
  by_cases hlt:j<n
  ·have HK:=hide hk
   have hk0:0<k:=by omega
   have hk1:k≤1000000010000000:=by omega
   clear hk
   obtain ⟨v0,d0⟩:=(uH HQ).cell (j:=j*5) (by omega)
   have f0:=(uH HQ).frozen (j*5)
   have HQs0:=hide ((uH HQ).set g (j*5) (.int .i64 k))
   have HGs0:=hide ((uH HG).sc g (j*5) (.int .i64 k) (yJ _) (by omega))
   obtain ⟨v1,d1⟩:=(uH HQs0).cell (j:=j*5+1) (by omega)
   have f1:=(uH HQs0).frozen (j*5+1)
   have HQs1:=hide ((uH HQs0).set g (j*5+1) (.int .i64 (k+1)))
   have HGs1:=hide ((uH HGs0).sc g (j*5+1) (.int .i64 (k+1)) (yJ _) (by omega))
   go_wp2_with fail
   refine (markText_int (k+1+1) _ (by omega) (by omega)).mono ?_
   rintro e w1 ⟨rfl,hb⟩
   have HQt2:=hide ((uH HQs1).below hb)
   have HGt2:=hide ((uH HGs1).on hb)
   clear hb d0 f0 HQ HG d1 f1 HQs0 HGs0 HQs1 HGs1
   obtain ⟨v2,d2⟩:=(uH HQt2).cell (j:=j*5+2) (by omega)
   have f2:=(uH HQt2).frozen (j*5+2)
   have HQs2:=hide ((uH HQt2).set g (j*5+2) (.string (mk (k+1+1).toNat)))
   have HGs2:=hide ((uH HGt2).sc g (j*5+2) (.string (mk (k+1+1).toNat)) (yJ _) (by omega))
   obtain ⟨v3,d3⟩:=(uH HQs2).cell (j:=j*5+3) (by omega)
   have f3:=(uH HQs2).frozen (j*5+3)
   have HQs3:=hide ((uH HQs2).set g (j*5+3) (.int .i64 (k+1+1+1)))
   have HGs3:=hide ((uH HGs2).sc g (j*5+3) (.int .i64 (k+1+1+1)) (yJ _) (by omega))
   obtain ⟨v4,d4⟩:=(uH HQs3).cell (j:=j*5+4) (by omega)
   have f4:=(uH HQs3).frozen (j*5+4)
   have HQs4:=hide ((uH HQs3).set g (j*5+4) (.int .i64 (k+1+1+1+1)))
   have HGs4:=hide ((uH HGs3).sc g (j*5+4) (.int .i64 (k+1+1+1+1)) (yJ _) (by omega))
   go_wp2
   go_roundw
   case rel=>exact ⟨j+1,k+1+1+1+1+1,by omega,by go_num,by go_num,by have:=uH HK;omega,HQs4,HGs4⟩
   case measure=>simp [intOf];omega
  ·have hjn:j=n:=by omega
   subst hjn
   go_wp2
   go_ret
   exact ⟨ret_int (by omega),uH HG⟩
def AWh (w:World) (B E g n:Nat):Prop:=Cel w 139 g (n*3)∧∀i,i<n→∃b len,w.cell? ⟨g,i*3+2,none⟩=some (.slice (some ⟨b,0,none⟩) len len)∧Cel w 193 b (len*5)∧len≤1048576∧B≤b∧b<E∧b≠g
theorem AWh.below {w w':World} {B E g n:Nat} (h:AWh w B E g n) (hb:Below w.heap.size w w'):AWh w' B E g n:=
 ⟨h.1.below hb,fun i hi=>let ⟨b,len,a,c,d⟩:=h.2 i hi;⟨b,len,cellBel a hb,c.below hb,d⟩⟩
theorem AWh.sc {w:World} {B E g n:Nat} (h:AWh w B E g n) (j:Nat) (v:Value) (hj:∀i,j≠i*3+2):AWh (w.setCell ⟨g,j,none⟩ v) B E g n:=
 ⟨h.1.set _ _ _,fun i hi=>let ⟨b,len,a,c,d⟩:=h.2 i hi;⟨b,len,cellKeep a (hj i),c.set _ _ _,d⟩⟩
theorem AWh.mkd {w w':World} {B E g n b:Nat} (h:AWh w B E g n) (hm:Mkd b (b+1) w w') (hn:b≠g):AWh w' B E g n:=
 ⟨hm.cel _ _ _ h.1,fun i hi=>let ⟨b',len,a,c,d⟩:=h.2 i hi;⟨b',len,(World.cell?_of_block (w:=w) (a:=⟨g,i*3+2,none⟩) (hm.block g h.1.lt (by omega))).trans a,hm.cel _ _ _ c,d⟩⟩
theorem ApplBlk.wh {w:World} {g n:Nat} {l:List Appl} (h:ApplBlk w 139 g n n l) (hl:n=l.length) (hk:∀q ∈ l,q.asks.length≤1048576):AWh w (g+1) w.heap.size g n:=by
 refine ⟨h.cel,fun i hi=>?_⟩
 obtain ⟨arr,h1,h2,h3⟩:=h
 have hil:i<l.length:=by omega
 obtain ⟨_,_,ao,len,cap,e,ho⟩:=h3 i hil hi
 obtain ⟨b,rfl,rfl,hb⟩:=ho.2.2.2
 have hg:=ho.2.2.1 b 0 rfl
 have hlen:=hk l[i] (yM _)
 have:=ho.1.1
 exact ⟨b,cap,by simp [World.cell?,h1,e],hb.cel,by omega,by omega,hb.lt,by omega⟩
theorem markAppS_from (B E g n:Nat) (k0:Int) (w:World) (h:AWh w B E g n) (hB:B≤g) (hE:g<E) (hn:n≤1048576) (h0:0<k0) (h1:k0≤100000000000000) :
  Calls Tryz.prog 60 #[.slice (some ⟨g,0,none⟩) n n,.int .i64 k0] w fun e w'=>∃k',e=.returned (.int .i64 k')∧k0≤k'∧k'≤k0+5242882*(n:Int)∧Mkd B E w w':=by
 have HQ0:=hide h
 clear h
 go_enter Tryz.func60,Tryz.ntmps60
 go_wp2
 go_loopw [1,5] (fun s i wr=>∃(j:Nat) (k:Int),j≤n∧i=.int .i64 j∧s=.int .i64 k∧k0≤k∧k≤k0+5242882*(j:Int)∧Hid (AWh wr B E g n)∧Hid (Mkd B E w wr)) (fun _ i _=>n - (intOf i).toNat)
 case atStart=>exact ⟨0,k0,Nat.zero_le _,rfl,rfl,by omega,by omega,HQ0,hide (Mkd.refl _ _ _)⟩
 case round=>
  obtain ⟨j,k,hj,rfl,rfl,hk,hk',HQ,HG⟩:=hrel
  by_cases hlt:j<n
  ·have hk0:0<k:=by omega
   have hk1:k≤105500000000000:=by omega
   have HK:=hide hk'
   clear hk'
   obtain ⟨v0,d0⟩:=(uH HQ).1.cell (j:=j*3) (by omega)
   have f0:=(uH HQ).1.frozen (j*3)
   have HQ1:=hide ((uH HQ).sc (j*3) (.int .i64 k) (by omega))
   have HG1:=hide ((uH HG).sc g (j*3) (.int .i64 k) hB hE)
   clear HQ HG
   go_wp2_with fail
   refine (markText_int (k+1) _ (by omega) (by omega)).mono ?_
   rintro e w1 ⟨rfl,hb⟩
   have HQ2:=hide ((uH HQ1).below hb)
   have HG2:=hide ((uH HG1).on hb)
   clear hb d0 f0 HQ1 HG1
   obtain ⟨v1,d1⟩:=(uH HQ2).1.cell (j:=j*3+1) (by omega)
   have f1:=(uH HQ2).1.frozen (j*3+1)
   have HQ3:=hide ((uH HQ2).sc (j*3+1) (.string (mk (k+1).toNat)) (by omega))
   have HG3:=hide ((uH HG2).sc g (j*3+1) (.string (mk (k+1).toNat)) hB hE)
   clear HQ2 HG2
   obtain ⟨b,len,d2,hcel,hlen,hb1,hb2,hbg⟩:=(uH HQ3).2 j hlt
   obtain ⟨K,hK⟩:=Int.eq_ofNat_of_zero_le (a:=k+1+1) (by omega)
   have CA:=hide (fun (e:k+1+1=(K:Int))=>by have:=markAskS_from b len len K (d:=len) _ hcel (yJ _) hlen (by omega) (by omega);rw [←e] at this;exact this)
   have HKK:=hide hK
   clear hcel hK
   go_wp2_with fail
   refine (uH CA (uH HKK)).mono ?_
   rintro e w2 ⟨rfl,_,hm⟩
   have HQ4:=hide ((uH HQ3).mkd hm hbg)
   have HG4:=hide ((uH HG3).trans (hm.mono hb1 (by omega)))
   clear hm CA HQ3 HG3 d1 f1 d2
   go_wp2
   go_roundw
   case rel=>exact ⟨j+1,k+1+1+5*(len:Int),by omega,by go_num,by go_num,by omega,by have:=uH HK;omega,HQ4,HG4⟩
   case measure=>simp [intOf];omega
  ·have hjn:j=n:=by omega
   subst hjn
   go_wp2
   go_ret
   exact ⟨k,rfl,hk,hk',uH HG⟩
theorem AWh.mono {w:World} {B E B' E' g n:Nat} (h:AWh w B E g n) (h1:B'≤B) (h2:E≤E'):AWh w B' E' g n:=
 ⟨h.1,fun i hi=>let ⟨b,len,a,c,d,e,f,k⟩:=h.2 i hi;⟨b,len,a,c,d,by omega,by omega,k⟩⟩
theorem InBox.mkd {w wx wy:World} {x:Sls} {s:St} {B E:Nat} (h:InBox w x s wx) (hm:Mkd B E wx wy) (h1:w.heap.size<B) (h2:B≤wx.heap.size):InBox w x s wy:=⟨hm.blk h.1 (.inl h1),h.2.trans ((hm.below h2).mono (by omega))⟩
theorem InBox.low {w wx wy:World} {x:Sls} {s:St} {B:Nat} (h:InBox w x s wx) (hm:Below B wx wy) (h1:w.heap.size<B):InBox w x s wy:=⟨(hm.block _ h1).trans h.1,h.2.trans (hm.mono (by omega))⟩
def InTwoB (w9 w:World) (x:Sls) (s:St) (g g1 g2 g3 g4:Nat) (wx:World):Prop:=InTwo w x s g g1 g2 g3 g4 wx∧Below w9.heap.size w9 wx
theorem InTwoB.call {w9 w wx wy:World} {x:Sls} {s:St} {g g1 g2 g3 g4:Nat} (h:InTwoB w9 w x s g g1 g2 g3 g4 wx) (hb:Below wx.heap.size wx wy):InTwoB w9 w x s g g1 g2 g3 g4 wy:=⟨h.1.call hb,yB h.2 hb⟩
theorem InTwoB.drew {w9 w wx:World} {x:Sls} {s:St} {g g1 g2 g3 g4:Nat} (h:InTwoB w9 w x s g g1 g2 g3 g4 wx):InTwoB w9 w x s g g1 g2 g3 g4 wx.drew:=h.call (yH _ _).drew
theorem markState_le (B E g1 g2 g3 g4 ql al ml cl:Nat) (s:St) (w:World) (hq:Cel w 142 g1 (ql*4)) (ha:AWh w B E g2 al) (hm:Cel w 147 g3 (ml*4)) (hc:Cel w 150 g4 (cl*5))
  (b1:B≤g1∧g1<g2∧g2<g3∧g3<g4∧g4<E) (hE:E≤w.heap.size) (hql:ql≤1048576) (hal:al≤1048576) (hml:ml≤1048576) (hcl:cl≤1048576) :
  Calls Tryz.prog 23 #[sv (own4 g1 g2 g3 g4 ql al ml cl) s,.int .i64 1] w fun e w'=>∃k,e=.returned (.int .i64 k)∧(0<k∧k≤20000000000000)∧Mkd B E w w':=by
 have hb0:=yA (yH _ w) (.cells (svc (own4 g1 g2 g3 g4 ql al ml cl) s) 37)
 have P0:=hide (yD w (svc (own4 g1 g2 g3 g4 ql al ml cl) s) 37)
 have CQ:=hide (hq.below hb0)
 have CA:=hide (ha.below hb0)
 have CM:=hide (hm.below hb0)
 have CC:=hide (hc.below hb0)
 have HG0:=hide (show Mkd B E w _ from .of_below hb0)
 obtain ⟨qs,clock,epoch,next,serial,apps,ms,cs⟩:=s
 clear hq ha hm hc hb0
 go_enter Tryz.func23,Tryz.ntmps23
 go_wp2_with fail
 refine (markQueueS_from g1 ql ql 1 _ (uH CQ) (yJ _) hql (by omega) (by omega)).mono ?_
 rintro e w1 ⟨rfl,hm1⟩
 have P1:=hide (hm1.blk (uH P0) (.inr (by omega)))
 have CA1:=hide ((uH CA).mkd hm1 (by omega))
 have CM1:=hide (hm1.cel _ _ _ (uH CM))
 have CC1:=hide (hm1.cel _ _ _ (uH CC))
 have HG1:=hide ((uH HG0).trans (hm1.mono b1.1 (by omega)))
 have p5:=(uH P1).at 5
 simp at p5
 clear hm1 P0 CQ CA CM CC HG0
 go_wp2_with fail
 refine (markAppS_from B E g2 al (1+4*(ql:Int)) _ (uH CA1) (by omega) (by omega) hal (by omega) (by omega)).mono ?_
 rintro e w2 ⟨k2,rfl,hk2,hk2',hm2⟩
 have P2:=hide (hm2.blk (uH P1) (.inr (by omega)))
 have CM2:=hide (hm2.cel _ _ _ (uH CM1))
 have CC2:=hide (hm2.cel _ _ _ (uH CC1))
 have HG2:=hide ((uH HG1).trans hm2)
 have p6:=(uH P2).at 6
 simp at p6
 have hk2a:0<k2:=by omega
 have hk2b:k2≤10000000000000:=by omega
 clear hm2 P1 CA1 CM1 CC1 HG1 p5 hk2 hk2'
 go_wp2_with fail
 refine (markMachineS_from g3 ml ml k2 _ (uH CM2) (yJ _) hml (by omega) (by omega)).mono ?_
 rintro e w3 ⟨rfl,hm3⟩
 have P3:=hide (hm3.blk (uH P2) (.inr (by omega)))
 have CC3:=hide (hm3.cel _ _ _ (uH CC2))
 have HG3:=hide ((uH HG2).trans (hm3.mono (by omega) (by omega)))
 have p7:=(uH P3).at 7
 simp at p7
 clear hm3 P2 CM2 CC2 HG2 p6
 go_wp2_with fail
 refine (markContS_from g4 cl cl (k2+4*(ml:Int)) _ (uH CC3) (yJ _) hcl (by omega) (by omega)).mono ?_
 rintro e w4 ⟨rfl,hm4⟩
 have HG4:=hide ((uH HG3).trans (hm4.mono (by omega) (by omega)))
 clear hm4 P3 CC3 HG3 p7
 go_wp2
 go_ret
 exact ⟨_,rfl,by omega,uH HG4⟩
end
end Go.Proofs.YtjkfappkpopbdaaGreat
