/-
  States and what they are made of: values, rows in memory, and what the laws' own helpers do with them (merge.py wrote this out of templates/st).
-/
import Derived.Test.YtmkedfdnokmglaaGreatPackA
import Derived.Deep.CutBlock
import Derived.Deep.CutRange
set_option maxRecDepth 100000
set_option maxHeartbeats 16000000
set_option linter.unusedVariables false
set_option linter.unusedSimpArgs false
/-
 The laws' own toRes and eqRes,with the world behind them;walks over the dump.
-/
namespace Go.Proofs.YtmkedfdnokmglaaGreat
open Go.RowKit
set_option linter.unusedVariables false
set_option maxRecDepth 100000 in
set_option maxHeartbeats 1000000 in
theorem toRes_ex (a b:Int) (w:World) :
  Calls Tryz.prog 69 #[rv a b] w fun e w'=>e=.returned (rv a b)∧∃o1 o2 o3,w'=((w.alloc o1).alloc o2).alloc o3:=by
 go_enter Tryz.func69,Tryz.ntmps69
 go_wp2
 exact bodyPost_ret (v:=rv a b) (by simp [results,Tryz.results69,go_sem]) rfl ⟨rfl,_,_,_,rfl⟩
set_option maxRecDepth 100000 in
set_option maxHeartbeats 1000000 in
theorem eqRes_ex (a b:Int) (w:World) :
  Calls Tryz.prog 77 #[rv a b,rv a b] w fun e w'=>e=.returned (.bool true)∧∃o1 o2 n,w'=((w.alloc o1).alloc o2).drewN n:=by
 go_enter Tryz.func77,Tryz.ntmps77
 go_wp2
 go_ret
 refine ⟨rfl,?_⟩
 first | exact ⟨_,_,0,rfl⟩ | exact ⟨_,_,1,rfl⟩ | exact ⟨_,_,2,rfl⟩ | exact ⟨_,_,3,rfl⟩ | exact ⟨_,_,4,rfl⟩
end Go.Proofs.YtmkedfdnokmglaaGreat
/-
 Rows of Ask values: in memory,and rows that a call makes and fills one by one (mkrow.py wrote this).
-/
namespace Go.Proofs.YtmkedfdnokmglaaGreat
open Go.RowKit
set_option linter.unusedVariables false
structure Ask where
 mem:Int
 cpu:Int
 count:Int
 node:List UInt8
 missed:Int
abbrev askv (q:Ask):Value:=.agg #[.int .i64 q.mem,.int .i64 q.cpu,.int .i64 q.count,.string (bs q.node),.int .i64 q.missed]
def AskAt (w:World) (b p:Nat) (q:Ask):Prop:=
 w.cell? ⟨b,p,none⟩=some (.int .i64 q.mem)∧w.cell? ⟨b,p+1,none⟩=some (.int .i64 q.cpu)∧w.cell? ⟨b,p+2,none⟩=some (.int .i64 q.count)∧w.cell? ⟨b,p+3,none⟩=some (.string (bs q.node))∧w.cell? ⟨b,p+4,none⟩=some (.int .i64 q.missed)
def AskRow (w:World) (ao:Option Addr) (len:Nat) (l:List Ask):Prop:=
 len=l.length∧(len=0∨∃b off,ao=some ⟨b,off,none⟩∧∀i (h:i<l.length),AskAt w b (off+i*5) l[i])
theorem AskAt.lt {w:World} {b p:Nat} {q:Ask} (h:AskAt w b p q):b<w.heap.size:=yG h.1
theorem AskAt.below {w w':World} {b p:Nat} {q:Ask} (h:AskAt w b p q) (hb:Below w.heap.size w w'):AskAt w' b p q:=
 ⟨(hb.cell h.lt).trans h.1,(hb.cell h.lt).trans h.2.1,(hb.cell h.lt).trans h.2.2.1,(hb.cell h.lt).trans h.2.2.2.1,(hb.cell h.lt).trans h.2.2.2.2⟩
theorem AskRow.below {w w':World} {ao:Option Addr} {len:Nat} {l:List Ask} (h:AskRow w ao len l) (hb:Below w.heap.size w w'):AskRow w' ao len l:=by
 obtain ⟨h1,h2⟩:=h
 refine ⟨h1,?_⟩
 rcases h2 with h2 | ⟨b,off,h3,h4⟩
 ·exact .inl h2
 ·exact .inr ⟨b,off,h3,fun i h=>(h4 i h).below hb⟩
theorem AskRow.nil (w:World) (ao:Option Addr):AskRow w ao 0 []:=⟨rfl,.inl rfl⟩
theorem AskRow.at {w:World} {ao:Option Addr} {len:Nat} {l:List Ask} (h:AskRow w ao len l) {i:Nat} (hi:i<len):∃b off,ao=some ⟨b,off,none⟩∧∀(h:i<l.length),AskAt w b (off+i*5) l[i]:=by
 obtain ⟨h1,h2⟩:=h
 rcases h2 with h2 | ⟨b,off,h3,h4⟩
 ·omega
 ·exact ⟨b,off,h3,fun hi=>h4 i hi⟩
def AskBlk (w:World) (t:TypeId) (g n k:Nat) (l:List Ask):Prop:=
 ∃arr:Array Value,w.heap[g]? = some (.cells arr t (0,0))∧arr.size=n*5∧∀i (h:i<l.length),i<k→arr[i*5]? = some (.int .i64 l[i].mem)∧arr[i*5+1]? = some (.int .i64 l[i].cpu)∧arr[i*5+2]? = some (.int .i64 l[i].count)∧arr[i*5+3]? = some (.string (bs l[i].node))∧arr[i*5+4]? = some (.int .i64 l[i].missed)
theorem AskBlk.lt {w:World} {t:TypeId} {g n k:Nat} {l:List Ask} (h:AskBlk w t g n k l):g<w.heap.size:=let ⟨_,h,_⟩:=h;lt_of_block h
theorem AskBlk.below {w w':World} {t:TypeId} {g n k:Nat} {l:List Ask} (h:AskBlk w t g n k l) (hb:Below w.heap.size w w'):AskBlk w' t g n k l:=by
 have hlt:=h.lt
 obtain ⟨arr,h1,h2⟩:=h
 exact ⟨arr,(hb.block g hlt).trans h1,h2⟩
theorem AskBlk.cell {w:World} {t:TypeId} {g n k:Nat} {l:List Ask} (h:AskBlk w t g n k l) {j:Nat} (hj:j<n*5):∃v,w.cell? ⟨g,j,none⟩=some v:=by
 obtain ⟨arr,h1,h2,_⟩:=h
 exact ⟨arr[j]'(by omega),by simp [World.cell?,h1,Array.getElem?_eq_getElem (show j<arr.size by omega)]⟩
theorem AskBlk.frozen {w:World} {t:TypeId} {g n k:Nat} {l:List Ask} (h:AskBlk w t g n k l) (j:Nat):w.frozen? ⟨g,j,none⟩=false:=by
 obtain ⟨arr,h1,h2,_⟩:=h
 simp [World.frozen?,h1]
theorem AskBlk.row {w:World} {t:TypeId} {g n:Nat} {l:List Ask} (h:AskBlk w t g n n l) (hl:n=l.length):AskRow w (some ⟨g,0,none⟩) n l:=by
 obtain ⟨arr,h1,h2,h3⟩:=h
 refine ⟨hl,.inr ⟨g,0,rfl,fun i hi=>?_⟩⟩
 obtain ⟨a,b,c,d,e⟩:=h3 i hi (by omega)
 unfold AskAt
 simp only [Nat.zero_add]
 exact ⟨by simp [World.cell?,h1,a],by simp [World.cell?,h1,b],by simp [World.cell?,h1,c],by simp [World.cell?,h1,d],by simp [World.cell?,h1,e]⟩
theorem askblk_made (w:World) (t:TypeId) (z:Array Value) (n:Nat) (l:List Ask):AskBlk (w.alloc (.cells (madeCells z (n*5)) t)) t w.heap.size n 0 l:=
 ⟨madeCells z (n*5),by show (w.heap.push _)[w.heap.size]? = _;simp,size_madeCells _ _,fun i _ h=>absurd h (by omega)⟩
def putAsk (w:World) (g p:Nat) (q:Ask):World:=(((((w.setCell ⟨g,p,none⟩ (.int .i64 q.mem)).setCell ⟨g,p+1,none⟩ (.int .i64 q.cpu)).setCell ⟨g,p+2,none⟩ (.int .i64 q.count)).setCell ⟨g,p+3,none⟩ (.string (bs q.node))).setCell ⟨g,p+4,none⟩ (.int .i64 q.missed))
theorem AskBlk.step {w:World} {t:TypeId} {g n k:Nat} {l:List Ask} (h:AskBlk w t g n k l) (hk:k<n) (hl:k<l.length):AskBlk (putAsk w g (k*5) l[k]) t g n (k+1) l:=by
 obtain ⟨arr,h1,h2,h3⟩:=h
 have e1:=heap_setCell_same w g (k*5) _ _ (.int .i64 l[k].mem) h1
 have e2:=heap_setCell_same _ g (k*5+1) _ _ (.int .i64 l[k].cpu) e1
 have e3:=heap_setCell_same _ g (k*5+2) _ _ (.int .i64 l[k].count) e2
 have e4:=heap_setCell_same _ g (k*5+3) _ _ (.string (bs l[k].node)) e3
 have e5:=heap_setCell_same _ g (k*5+4) _ _ (.int .i64 l[k].missed) e4
 refine ⟨_,e5,by simp [h2],fun i hi hik=>?_⟩
 by_cases e:i=k
 ·subst e
  have q1:i*5+4<arr.size:=by omega
  refine ⟨?_,?_,?_,?_,?_⟩<;>simp [Array.getElem?_setIfInBounds,h2]<;>omega
 ·obtain ⟨a,b,c,d,e⟩:=h3 i hi (by omega)
  refine ⟨?_,?_,?_,?_,?_⟩
  ·rw [←a];simp only [Array.getElem?_setIfInBounds];repeat rw [if_neg (by omega)]
  ·rw [←b];simp only [Array.getElem?_setIfInBounds];repeat rw [if_neg (by omega)]
  ·rw [←c];simp only [Array.getElem?_setIfInBounds];repeat rw [if_neg (by omega)]
  ·rw [←d];simp only [Array.getElem?_setIfInBounds];repeat rw [if_neg (by omega)]
  ·rw [←e];simp only [Array.getElem?_setIfInBounds];repeat rw [if_neg (by omega)]
end Go.Proofs.YtmkedfdnokmglaaGreat
/-
 Rows of Machine values: in memory,and rows that a call makes and fills one by one (mkrow.py wrote this).
-/
namespace Go.Proofs.YtmkedfdnokmglaaGreat
open Go.RowKit
set_option linter.unusedVariables false
structure Mac where
 name:List UInt8
 mem:Int
 cpu:Int
 seen:Int
abbrev macv (q:Mac):Value:=.agg #[.string (bs q.name),.int .i64 q.mem,.int .i64 q.cpu,.int .i64 q.seen]
def MacAt (w:World) (b p:Nat) (q:Mac):Prop:=
 w.cell? ⟨b,p,none⟩=some (.string (bs q.name))∧w.cell? ⟨b,p+1,none⟩=some (.int .i64 q.mem)∧w.cell? ⟨b,p+2,none⟩=some (.int .i64 q.cpu)∧w.cell? ⟨b,p+3,none⟩=some (.int .i64 q.seen)
def MacRow (w:World) (ao:Option Addr) (len:Nat) (l:List Mac):Prop:=
 len=l.length∧(len=0∨∃b off,ao=some ⟨b,off,none⟩∧∀i (h:i<l.length),MacAt w b (off+i*4) l[i])
theorem MacAt.lt {w:World} {b p:Nat} {q:Mac} (h:MacAt w b p q):b<w.heap.size:=yG h.1
theorem MacAt.below {w w':World} {b p:Nat} {q:Mac} (h:MacAt w b p q) (hb:Below w.heap.size w w'):MacAt w' b p q:=
 ⟨(hb.cell h.lt).trans h.1,(hb.cell h.lt).trans h.2.1,(hb.cell h.lt).trans h.2.2.1,(hb.cell h.lt).trans h.2.2.2⟩
theorem MacRow.below {w w':World} {ao:Option Addr} {len:Nat} {l:List Mac} (h:MacRow w ao len l) (hb:Below w.heap.size w w'):MacRow w' ao len l:=by
 obtain ⟨h1,h2⟩:=h
 refine ⟨h1,?_⟩
 rcases h2 with h2 | ⟨b,off,h3,h4⟩
 ·exact .inl h2
 ·exact .inr ⟨b,off,h3,fun i h=>(h4 i h).below hb⟩
theorem MacRow.nil (w:World) (ao:Option Addr):MacRow w ao 0 []:=⟨rfl,.inl rfl⟩
theorem MacRow.at {w:World} {ao:Option Addr} {len:Nat} {l:List Mac} (h:MacRow w ao len l) {i:Nat} (hi:i<len):∃b off,ao=some ⟨b,off,none⟩∧∀(h:i<l.length),MacAt w b (off+i*4) l[i]:=by
 obtain ⟨h1,h2⟩:=h
 rcases h2 with h2 | ⟨b,off,h3,h4⟩
 ·omega
 ·exact ⟨b,off,h3,fun hi=>h4 i hi⟩
def MacBlk (w:World) (t:TypeId) (g n k:Nat) (l:List Mac):Prop:=
 ∃arr:Array Value,w.heap[g]? = some (.cells arr t (0,0))∧arr.size=n*4∧∀i (h:i<l.length),i<k→arr[i*4]? = some (.string (bs l[i].name))∧arr[i*4+1]? = some (.int .i64 l[i].mem)∧arr[i*4+2]? = some (.int .i64 l[i].cpu)∧arr[i*4+3]? = some (.int .i64 l[i].seen)
theorem MacBlk.lt {w:World} {t:TypeId} {g n k:Nat} {l:List Mac} (h:MacBlk w t g n k l):g<w.heap.size:=let ⟨_,h,_⟩:=h;lt_of_block h
theorem MacBlk.below {w w':World} {t:TypeId} {g n k:Nat} {l:List Mac} (h:MacBlk w t g n k l) (hb:Below w.heap.size w w'):MacBlk w' t g n k l:=by
 have hlt:=h.lt
 obtain ⟨arr,h1,h2⟩:=h
 exact ⟨arr,(hb.block g hlt).trans h1,h2⟩
theorem MacBlk.cell {w:World} {t:TypeId} {g n k:Nat} {l:List Mac} (h:MacBlk w t g n k l) {j:Nat} (hj:j<n*4):∃v,w.cell? ⟨g,j,none⟩=some v:=by
 obtain ⟨arr,h1,h2,_⟩:=h
 exact ⟨arr[j]'(by omega),by simp [World.cell?,h1,Array.getElem?_eq_getElem (show j<arr.size by omega)]⟩
theorem MacBlk.frozen {w:World} {t:TypeId} {g n k:Nat} {l:List Mac} (h:MacBlk w t g n k l) (j:Nat):w.frozen? ⟨g,j,none⟩=false:=by
 obtain ⟨arr,h1,h2,_⟩:=h
 simp [World.frozen?,h1]
theorem MacBlk.row {w:World} {t:TypeId} {g n:Nat} {l:List Mac} (h:MacBlk w t g n n l) (hl:n=l.length):MacRow w (some ⟨g,0,none⟩) n l:=by
 obtain ⟨arr,h1,h2,h3⟩:=h
 refine ⟨hl,.inr ⟨g,0,rfl,fun i hi=>?_⟩⟩
 obtain ⟨a,b,c,d⟩:=h3 i hi (by omega)
 unfold MacAt
 simp only [Nat.zero_add]
 exact ⟨by simp [World.cell?,h1,a],by simp [World.cell?,h1,b],by simp [World.cell?,h1,c],by simp [World.cell?,h1,d]⟩
theorem macblk_made (w:World) (t:TypeId) (z:Array Value) (n:Nat) (l:List Mac):MacBlk (w.alloc (.cells (madeCells z (n*4)) t)) t w.heap.size n 0 l:=
 ⟨madeCells z (n*4),by show (w.heap.push _)[w.heap.size]? = _;simp,size_madeCells _ _,fun i _ h=>absurd h (by omega)⟩
def putMac (w:World) (g p:Nat) (q:Mac):World:=((((w.setCell ⟨g,p,none⟩ (.string (bs q.name))).setCell ⟨g,p+1,none⟩ (.int .i64 q.mem)).setCell ⟨g,p+2,none⟩ (.int .i64 q.cpu)).setCell ⟨g,p+3,none⟩ (.int .i64 q.seen))
theorem MacBlk.step {w:World} {t:TypeId} {g n k:Nat} {l:List Mac} (h:MacBlk w t g n k l) (hk:k<n) (hl:k<l.length):MacBlk (putMac w g (k*4) l[k]) t g n (k+1) l:=by
 obtain ⟨arr,h1,h2,h3⟩:=h
 have e1:=heap_setCell_same w g (k*4) _ _ (.string (bs l[k].name)) h1
 have e2:=heap_setCell_same _ g (k*4+1) _ _ (.int .i64 l[k].mem) e1
 have e3:=heap_setCell_same _ g (k*4+2) _ _ (.int .i64 l[k].cpu) e2
 have e4:=heap_setCell_same _ g (k*4+3) _ _ (.int .i64 l[k].seen) e3
 refine ⟨_,e4,by simp [h2],fun i hi hik=>?_⟩
 by_cases e:i=k
 ·subst e
  have q1:i*4+3<arr.size:=by omega
  refine ⟨?_,?_,?_,?_⟩<;>simp [Array.getElem?_setIfInBounds,h2]<;>omega
 ·obtain ⟨a,b,c,d⟩:=h3 i hi (by omega)
  refine ⟨?_,?_,?_,?_⟩
  ·rw [←a];simp only [Array.getElem?_setIfInBounds];repeat rw [if_neg (by omega)]
  ·rw [←b];simp only [Array.getElem?_setIfInBounds];repeat rw [if_neg (by omega)]
  ·rw [←c];simp only [Array.getElem?_setIfInBounds];repeat rw [if_neg (by omega)]
  ·rw [←d];simp only [Array.getElem?_setIfInBounds];repeat rw [if_neg (by omega)]
end Go.Proofs.YtmkedfdnokmglaaGreat
/-
 Rows of Cont values: in memory,and rows that a call makes and fills one by one (mkrow.py wrote this).
-/
namespace Go.Proofs.YtmkedfdnokmglaaGreat
open Go.RowKit
set_option linter.unusedVariables false
structure Con where
 id:Int
 app:Int
 node:List UInt8
 mem:Int
 cpu:Int
abbrev conv (q:Con):Value:=.agg #[.int .i64 q.id,.int .i64 q.app,.string (bs q.node),.int .i64 q.mem,.int .i64 q.cpu]
def ConAt (w:World) (b p:Nat) (q:Con):Prop:=
 w.cell? ⟨b,p,none⟩=some (.int .i64 q.id)∧w.cell? ⟨b,p+1,none⟩=some (.int .i64 q.app)∧w.cell? ⟨b,p+2,none⟩=some (.string (bs q.node))∧w.cell? ⟨b,p+3,none⟩=some (.int .i64 q.mem)∧w.cell? ⟨b,p+4,none⟩=some (.int .i64 q.cpu)
def ConRow (w:World) (ao:Option Addr) (len:Nat) (l:List Con):Prop:=
 len=l.length∧(len=0∨∃b off,ao=some ⟨b,off,none⟩∧∀i (h:i<l.length),ConAt w b (off+i*5) l[i])
theorem ConAt.lt {w:World} {b p:Nat} {q:Con} (h:ConAt w b p q):b<w.heap.size:=yG h.1
theorem ConAt.below {w w':World} {b p:Nat} {q:Con} (h:ConAt w b p q) (hb:Below w.heap.size w w'):ConAt w' b p q:=
 ⟨(hb.cell h.lt).trans h.1,(hb.cell h.lt).trans h.2.1,(hb.cell h.lt).trans h.2.2.1,(hb.cell h.lt).trans h.2.2.2.1,(hb.cell h.lt).trans h.2.2.2.2⟩
theorem ConRow.below {w w':World} {ao:Option Addr} {len:Nat} {l:List Con} (h:ConRow w ao len l) (hb:Below w.heap.size w w'):ConRow w' ao len l:=by
 obtain ⟨h1,h2⟩:=h
 refine ⟨h1,?_⟩
 rcases h2 with h2 | ⟨b,off,h3,h4⟩
 ·exact .inl h2
 ·exact .inr ⟨b,off,h3,fun i h=>(h4 i h).below hb⟩
theorem ConRow.nil (w:World) (ao:Option Addr):ConRow w ao 0 []:=⟨rfl,.inl rfl⟩
theorem ConRow.at {w:World} {ao:Option Addr} {len:Nat} {l:List Con} (h:ConRow w ao len l) {i:Nat} (hi:i<len):∃b off,ao=some ⟨b,off,none⟩∧∀(h:i<l.length),ConAt w b (off+i*5) l[i]:=by
 obtain ⟨h1,h2⟩:=h
 rcases h2 with h2 | ⟨b,off,h3,h4⟩
 ·omega
 ·exact ⟨b,off,h3,fun hi=>h4 i hi⟩
def ConBlk (w:World) (t:TypeId) (g n k:Nat) (l:List Con):Prop:=
 ∃arr:Array Value,w.heap[g]? = some (.cells arr t (0,0))∧arr.size=n*5∧∀i (h:i<l.length),i<k→arr[i*5]? = some (.int .i64 l[i].id)∧arr[i*5+1]? = some (.int .i64 l[i].app)∧arr[i*5+2]? = some (.string (bs l[i].node))∧arr[i*5+3]? = some (.int .i64 l[i].mem)∧arr[i*5+4]? = some (.int .i64 l[i].cpu)
theorem ConBlk.lt {w:World} {t:TypeId} {g n k:Nat} {l:List Con} (h:ConBlk w t g n k l):g<w.heap.size:=let ⟨_,h,_⟩:=h;lt_of_block h
theorem ConBlk.below {w w':World} {t:TypeId} {g n k:Nat} {l:List Con} (h:ConBlk w t g n k l) (hb:Below w.heap.size w w'):ConBlk w' t g n k l:=by
 have hlt:=h.lt
 obtain ⟨arr,h1,h2⟩:=h
 exact ⟨arr,(hb.block g hlt).trans h1,h2⟩
theorem ConBlk.cell {w:World} {t:TypeId} {g n k:Nat} {l:List Con} (h:ConBlk w t g n k l) {j:Nat} (hj:j<n*5):∃v,w.cell? ⟨g,j,none⟩=some v:=by
 obtain ⟨arr,h1,h2,_⟩:=h
 exact ⟨arr[j]'(by omega),by simp [World.cell?,h1,Array.getElem?_eq_getElem (show j<arr.size by omega)]⟩
theorem ConBlk.frozen {w:World} {t:TypeId} {g n k:Nat} {l:List Con} (h:ConBlk w t g n k l) (j:Nat):w.frozen? ⟨g,j,none⟩=false:=by
 obtain ⟨arr,h1,h2,_⟩:=h
 simp [World.frozen?,h1]
theorem ConBlk.row {w:World} {t:TypeId} {g n:Nat} {l:List Con} (h:ConBlk w t g n n l) (hl:n=l.length):ConRow w (some ⟨g,0,none⟩) n l:=by
 obtain ⟨arr,h1,h2,h3⟩:=h
 refine ⟨hl,.inr ⟨g,0,rfl,fun i hi=>?_⟩⟩
 obtain ⟨a,b,c,d,e⟩:=h3 i hi (by omega)
 unfold ConAt
 simp only [Nat.zero_add]
 exact ⟨by simp [World.cell?,h1,a],by simp [World.cell?,h1,b],by simp [World.cell?,h1,c],by simp [World.cell?,h1,d],by simp [World.cell?,h1,e]⟩
theorem conblk_made (w:World) (t:TypeId) (z:Array Value) (n:Nat) (l:List Con):ConBlk (w.alloc (.cells (madeCells z (n*5)) t)) t w.heap.size n 0 l:=
 ⟨madeCells z (n*5),by show (w.heap.push _)[w.heap.size]? = _;simp,size_madeCells _ _,fun i _ h=>absurd h (by omega)⟩
def putCon (w:World) (g p:Nat) (q:Con):World:=(((((w.setCell ⟨g,p,none⟩ (.int .i64 q.id)).setCell ⟨g,p+1,none⟩ (.int .i64 q.app)).setCell ⟨g,p+2,none⟩ (.string (bs q.node))).setCell ⟨g,p+3,none⟩ (.int .i64 q.mem)).setCell ⟨g,p+4,none⟩ (.int .i64 q.cpu))
theorem ConBlk.step {w:World} {t:TypeId} {g n k:Nat} {l:List Con} (h:ConBlk w t g n k l) (hk:k<n) (hl:k<l.length):ConBlk (putCon w g (k*5) l[k]) t g n (k+1) l:=by
 obtain ⟨arr,h1,h2,h3⟩:=h
 have e1:=heap_setCell_same w g (k*5) _ _ (.int .i64 l[k].id) h1
 have e2:=heap_setCell_same _ g (k*5+1) _ _ (.int .i64 l[k].app) e1
 have e3:=heap_setCell_same _ g (k*5+2) _ _ (.string (bs l[k].node)) e2
 have e4:=heap_setCell_same _ g (k*5+3) _ _ (.int .i64 l[k].mem) e3
 have e5:=heap_setCell_same _ g (k*5+4) _ _ (.int .i64 l[k].cpu) e4
 refine ⟨_,e5,by simp [h2],fun i hi hik=>?_⟩
 by_cases e:i=k
 ·subst e
  have q1:i*5+4<arr.size:=by omega
  refine ⟨?_,?_,?_,?_,?_⟩<;>simp [Array.getElem?_setIfInBounds,h2]<;>omega
 ·obtain ⟨a,b,c,d,e⟩:=h3 i hi (by omega)
  refine ⟨?_,?_,?_,?_,?_⟩
  ·rw [←a];simp only [Array.getElem?_setIfInBounds];repeat rw [if_neg (by omega)]
  ·rw [←b];simp only [Array.getElem?_setIfInBounds];repeat rw [if_neg (by omega)]
  ·rw [←c];simp only [Array.getElem?_setIfInBounds];repeat rw [if_neg (by omega)]
  ·rw [←d];simp only [Array.getElem?_setIfInBounds];repeat rw [if_neg (by omega)]
  ·rw [←e];simp only [Array.getElem?_setIfInBounds];repeat rw [if_neg (by omega)]
end Go.Proofs.YtmkedfdnokmglaaGreat
/-
 Rows of App values: in memory,each with its asks,and rows that a call makes and fills one by one.
-/
namespace Go.Proofs.YtmkedfdnokmglaaGreat
open Go.RowKit
set_option linter.unusedVariables false
structure Appl where
 id:Int
 queue:List UInt8
 asks:List Ask
abbrev applv (id:Int) (queue:List UInt8) (ao:Option Addr) (len cap:Nat):Value:=.agg #[.int .i64 id,.string (bs queue),.slice ao len cap]
theorem AskRow.other {w:World} {ao:Option Addr} {len:Nat} {l:List Ask} (h:AskRow w ao len l) (g j:Nat) (v:Value) (hg:∀b off,ao=some ⟨b,off,none⟩→b≠g):AskRow (w.setCell ⟨g,j,none⟩ v) ao len l:=by
 obtain ⟨h1,h2⟩:=h
 refine ⟨h1,?_⟩
 rcases h2 with h2 | ⟨b,off,h3,h4⟩
 ·exact .inl h2
 ·have hn:=hg b off h3
  have hc:∀p,(w.setCell ⟨g,j,none⟩ v).cell? ⟨b,p,none⟩=w.cell? ⟨b,p,none⟩:=fun p=>by
   unfold World.cell?;rw [heap_setCell_other w ⟨g,j,none⟩ b v hn]
  refine .inr ⟨b,off,h3,fun i h=>?_⟩
  obtain ⟨a,b,c,d,e⟩:=h4 i h
  exact ⟨by rw [hc];exact a,by rw [hc];exact b,by rw [hc];exact c,by rw [hc];exact d,by rw [hc];exact e⟩
def ApplAt (w:World) (b p:Nat) (q:Appl) (ao:Option Addr) (len cap:Nat):Prop:=
 w.cell? ⟨b,p,none⟩=some (.int .i64 q.id)∧w.cell? ⟨b,p+1,none⟩=some (.string (bs q.queue))∧w.cell? ⟨b,p+2,none⟩=some (.slice ao len cap)∧AskRow w ao len q.asks∧len≤cap
def ApplRow (w:World) (ao:Option Addr) (len:Nat) (l:List Appl):Prop:=
 len=l.length∧(len=0∨∃b off,ao=some ⟨b,off,none⟩∧∀i (h:i<l.length),∃ao len cap,ApplAt w b (off+i*3) l[i] ao len cap)
theorem ApplAt.lt {w:World} {b p:Nat} {q:Appl} {ao:Option Addr} {len cap:Nat} (h:ApplAt w b p q ao len cap):b<w.heap.size:=yG h.1
theorem ApplAt.below {w w':World} {b p:Nat} {q:Appl} {ao:Option Addr} {len cap:Nat} (h:ApplAt w b p q ao len cap) (hb:Below w.heap.size w w'):ApplAt w' b p q ao len cap:=
 ⟨(hb.cell h.lt).trans h.1,(hb.cell h.lt).trans h.2.1,(hb.cell h.lt).trans h.2.2.1,h.2.2.2.1.below hb,h.2.2.2.2⟩
theorem ApplRow.below {w w':World} {ao:Option Addr} {len:Nat} {l:List Appl} (h:ApplRow w ao len l) (hb:Below w.heap.size w w'):ApplRow w' ao len l:=by
 obtain ⟨h1,h2⟩:=h
 refine ⟨h1,?_⟩
 rcases h2 with h2 | ⟨b,off,h3,h4⟩
 ·exact .inl h2
 ·exact .inr ⟨b,off,h3,fun i h=>let ⟨x,y,z,hh⟩:=h4 i h;⟨x,y,z,hh.below hb⟩⟩
theorem ApplRow.nil (w:World) (ao:Option Addr):ApplRow w ao 0 []:=⟨rfl,.inl rfl⟩
theorem ApplRow.at {w:World} {ao:Option Addr} {len:Nat} {l:List Appl} (h:ApplRow w ao len l) {i:Nat} (hi:i<len):∃b off,ao=some ⟨b,off,none⟩∧∀(h:i<l.length),∃ao len cap,ApplAt w b (off+i*3) l[i] ao len cap:=by
 obtain ⟨h1,h2⟩:=h
 rcases h2 with h2 | ⟨b,off,h3,h4⟩
 ·omega
 ·exact ⟨b,off,h3,fun hi=>h4 i hi⟩
def AskOwn (w:World) (g:Nat) (ao:Option Addr) (len cap:Nat) (l:List Ask):Prop:=AskRow w ao len l∧len≤cap∧(∀b off,ao=some ⟨b,off,none⟩→g<b)∧∃b,ao=some ⟨b,0,none⟩∧cap=len∧AskBlk w 198 b len 0 []
theorem AskBlk.other {w:World} {t:TypeId} {g n k:Nat} {l:List Ask} (h:AskBlk w t g n k l) (b j:Nat) (v:Value) (hn:g≠b):AskBlk (w.setCell ⟨b,j,none⟩ v) t g n k l:=by
 obtain ⟨arr,h1,h2⟩:=h
 exact ⟨arr,(heap_setCell_other w ⟨b,j,none⟩ g v hn).trans h1,h2⟩
theorem AskBlk.any {w:World} {t:TypeId} {g n k:Nat} {l:List Ask} (h:AskBlk w t g n k l):AskBlk w t g n 0 []:=by
 obtain ⟨arr,h1,h2,_⟩:=h
 exact ⟨arr,h1,h2,fun i hi=>absurd hi (by simp)⟩
theorem AskOwn.below {w w':World} {g:Nat} {ao:Option Addr} {len cap:Nat} {l:List Ask} (h:AskOwn w g ao len cap l) (hb:Below w.heap.size w w'):AskOwn w' g ao len cap l:=⟨h.1.below hb,h.2.1,h.2.2.1,let ⟨b,e,c,d⟩:=h.2.2.2;⟨b,e,c,d.below hb⟩⟩
def ApplBlk (w:World) (t:TypeId) (g n k:Nat) (l:List Appl):Prop:=
 ∃arr:Array Value,w.heap[g]? = some (.cells arr t (0,0))∧arr.size=n*3∧∀i (h:i<l.length),i<k→arr[i*3]? = some (.int .i64 l[i].id)∧arr[i*3+1]? = some (.string (bs l[i].queue))∧∃ao len cap,arr[i*3+2]? = some (.slice ao len cap)∧AskOwn w g ao len cap l[i].asks
theorem ApplBlk.lt {w:World} {t:TypeId} {g n k:Nat} {l:List Appl} (h:ApplBlk w t g n k l):g<w.heap.size:=let ⟨_,h,_⟩:=h;lt_of_block h
theorem ApplBlk.below {w w':World} {t:TypeId} {g n k:Nat} {l:List Appl} (h:ApplBlk w t g n k l) (hb:Below w.heap.size w w'):ApplBlk w' t g n k l:=by
 have hlt:=h.lt
 obtain ⟨arr,h1,h2,h3⟩:=h
 exact ⟨arr,(hb.block g hlt).trans h1,h2,fun i h hk=>let ⟨a,b,x,y,z,c,d⟩:=h3 i h hk;⟨a,b,x,y,z,c,d.below hb⟩⟩
theorem ApplBlk.cell {w:World} {t:TypeId} {g n k:Nat} {l:List Appl} (h:ApplBlk w t g n k l) {j:Nat} (hj:j<n*3):∃v,w.cell? ⟨g,j,none⟩=some v:=by
 obtain ⟨arr,h1,h2,_⟩:=h
 exact ⟨arr[j]'(by omega),by simp [World.cell?,h1,Array.getElem?_eq_getElem (show j<arr.size by omega)]⟩
theorem ApplBlk.frozen {w:World} {t:TypeId} {g n k:Nat} {l:List Appl} (h:ApplBlk w t g n k l) (j:Nat):w.frozen? ⟨g,j,none⟩=false:=by
 obtain ⟨arr,h1,h2,_⟩:=h
 simp [World.frozen?,h1]
theorem ApplBlk.row {w:World} {t:TypeId} {g n:Nat} {l:List Appl} (h:ApplBlk w t g n n l) (hl:n=l.length):ApplRow w (some ⟨g,0,none⟩) n l:=by
 obtain ⟨arr,h1,h2,h3⟩:=h
 refine ⟨hl,.inr ⟨g,0,rfl,fun i hi=>?_⟩⟩
 obtain ⟨a,b,x,y,z,c,d⟩:=h3 i hi (by omega)
 refine ⟨x,y,z,?_⟩
 unfold ApplAt
 simp only [Nat.zero_add]
 exact ⟨by simp [World.cell?,h1,a],by simp [World.cell?,h1,b],by simp [World.cell?,h1,c],d.1,d.2.1⟩
theorem applblk_made (w:World) (t:TypeId) (z:Array Value) (n:Nat) (l:List Appl):ApplBlk (w.alloc (.cells (madeCells z (n*3)) t)) t w.heap.size n 0 l:=
 ⟨madeCells z (n*3),by show (w.heap.push _)[w.heap.size]? = _;simp,size_madeCells _ _,fun i _ h=>absurd h (by omega)⟩
def putAppl (w:World) (g p:Nat) (id:Int) (qu:List UInt8) (ao:Option Addr) (len cap:Nat):World:=((w.setCell ⟨g,p,none⟩ (.int .i64 id)).setCell ⟨g,p+1,none⟩ (.string (bs qu))).setCell ⟨g,p+2,none⟩ (.slice ao len cap)
theorem AskOwn.put {w:World} {g:Nat} {ao:Option Addr} {len cap:Nat} {l:List Ask} (h:AskOwn w g ao len cap l) (j:Nat) (v:Value):AskOwn (w.setCell ⟨g,j,none⟩ v) g ao len cap l:=
 ⟨h.1.other g j v (fun b off e=>by have:=h.2.2.1 b off e;omega),h.2.1,h.2.2.1,let ⟨b,e,c,d⟩:=h.2.2.2;⟨b,e,c,d.other g j v (by have:=h.2.2.1 b 0 e;omega)⟩⟩
theorem AskOwn.other {w:World} {g:Nat} {ao:Option Addr} {len cap:Nat} {l:List Ask} (h:AskOwn w g ao len cap l) (k j:Nat) (v:Value) (hk:k<g):AskOwn (w.setCell ⟨k,j,none⟩ v) g ao len cap l:=
 ⟨h.1.other k j v (fun b off e=>by have:=h.2.2.1 b off e;omega),h.2.1,h.2.2.1,let ⟨b,e,c,d⟩:=h.2.2.2;⟨b,e,c,d.other k j v (by have:=h.2.2.1 b 0 e;omega)⟩⟩
theorem ApplBlk.step {w:World} {t:TypeId} {g n k:Nat} {l:List Appl} (h:ApplBlk w t g n k l) (hk:k<n) (hl:k<l.length) (AO:Option Addr) (LEN CAP:Nat) (ho:AskOwn w g AO LEN CAP l[k].asks):ApplBlk (putAppl w g (k*3) l[k].id l[k].queue AO LEN CAP) t g n (k+1) l:=by
 obtain ⟨arr,h1,h2,h3⟩:=h
 have e1:=heap_setCell_same w g (k*3) _ _ (.int .i64 l[k].id) h1
 have e2:=heap_setCell_same _ g (k*3+1) _ _ (.string (bs l[k].queue)) e1
 have e3:=heap_setCell_same _ g (k*3+2) _ _ (.slice AO LEN CAP) e2
 have hput:∀{ao len cap l'},AskOwn w g ao len cap l'→AskOwn (putAppl w g (k*3) l[k].id l[k].queue AO LEN CAP) g ao len cap l':=fun h=>((h.put _ _).put _ _).put _ _
 refine ⟨_,e3,by simp [h2],fun i hi hik=>?_⟩
 by_cases e:i=k
 ·subst e
  have q1:i*3+2<arr.size:=by omega
  refine ⟨?_,?_,AO,LEN,CAP,?_,hput ho⟩<;>simp [Array.getElem?_setIfInBounds,h2]<;>omega
 ·obtain ⟨a,b,x,y,z,c,d⟩:=h3 i hi (by omega)
  refine ⟨?_,?_,x,y,z,?_,hput d⟩
  ·rw [←a];simp only [Array.getElem?_setIfInBounds];repeat rw [if_neg (by omega)]
  ·rw [←b];simp only [Array.getElem?_setIfInBounds];repeat rw [if_neg (by omega)]
  ·rw [←c];simp only [Array.getElem?_setIfInBounds];repeat rw [if_neg (by omega)]
end Go.Proofs.YtmkedfdnokmglaaGreat
/-
 The laws' own toAsk;a walk over the dump.
-/
namespace Go.Proofs.YtmkedfdnokmglaaGreat
open Go.RowKit
set_option linter.unusedVariables false
set_option maxRecDepth 100000 in
set_option maxHeartbeats 1000000 in
theorem toAsk_any (q:Ask) (w:World) :
  Calls Tryz.prog 167 #[askv q] w fun e w'=>e=.returned (askv q)∧Below w.heap.size w w':=by
 obtain ⟨x0,x1,x2,x3,x4⟩:=q
 go_enter Tryz.func167,Tryz.ntmps167
 go_wp2_with fail
 refine (toRes_ex _ _ _).mono ?_
 rintro e w1 ⟨rfl,o1,o2,o3,rfl⟩
 go_wp2
 refine bodyPost_ret (v:=askv ⟨x0,x1,x2,x3,x4⟩) (by simp [results,Tryz.results167,go_sem]) rfl ⟨rfl,?_⟩
 repeat (first | exact yH _ _ | refine yA ?_ _ | refine Below.drew ?_ | refine yC ?_ _ _ _ (by omega))
end Go.Proofs.YtmkedfdnokmglaaGreat
/-
 The laws' own toMachine;a walk over the dump.
-/
namespace Go.Proofs.YtmkedfdnokmglaaGreat
open Go.RowKit
set_option linter.unusedVariables false
set_option maxRecDepth 100000 in
set_option maxHeartbeats 1000000 in
theorem toMachine_any (q:Mac) (w:World) :
  Calls Tryz.prog 120 #[macv q] w fun e w'=>e=.returned (macv q)∧Below w.heap.size w w':=by
 obtain ⟨x0,x1,x2,x3⟩:=q
 go_enter Tryz.func120,Tryz.ntmps120
 go_wp2_with fail
 refine (toRes_ex _ _ _).mono ?_
 rintro e w1 ⟨rfl,o1,o2,o3,rfl⟩
 go_wp2
 refine bodyPost_ret (v:=macv ⟨x0,x1,x2,x3⟩) (by simp [results,Tryz.results120,go_sem]) rfl ⟨rfl,?_⟩
 repeat (first | exact yH _ _ | refine yA ?_ _ | refine Below.drew ?_ | refine yC ?_ _ _ _ (by omega))
end Go.Proofs.YtmkedfdnokmglaaGreat
/-
 The laws' own toCont;a walk over the dump.
-/
namespace Go.Proofs.YtmkedfdnokmglaaGreat
open Go.RowKit
set_option linter.unusedVariables false
set_option maxRecDepth 100000 in
set_option maxHeartbeats 1000000 in
theorem toCont_any (q:Con) (w:World) :
  Calls Tryz.prog 105 #[conv q] w fun e w'=>e=.returned (conv q)∧Below w.heap.size w w':=by
 obtain ⟨x0,x1,x2,x3,x4⟩:=q
 go_enter Tryz.func105,Tryz.ntmps105
 go_wp2_with fail
 refine (toRes_ex _ _ _).mono ?_
 rintro e w1 ⟨rfl,o1,o2,o3,rfl⟩
 go_wp2
 refine bodyPost_ret (v:=conv ⟨x0,x1,x2,x3,x4⟩) (by simp [results,Tryz.results105,go_sem]) rfl ⟨rfl,?_⟩
 repeat (first | exact yH _ _ | refine yA ?_ _ | refine Below.drew ?_ | refine yC ?_ _ _ _ (by omega))
end Go.Proofs.YtmkedfdnokmglaaGreat
/-
 The laws' own eqAsk,at the same;a walk over the dump.
-/
namespace Go.Proofs.YtmkedfdnokmglaaGreat
open Go.RowKit
set_option linter.unusedVariables false
set_option maxRecDepth 100000 in
set_option maxHeartbeats 1000000 in
theorem eqAsk_same (q:Ask) (w:World) :
  Calls Tryz.prog 168 #[askv q,askv q] w fun e w'=>e=.returned (.bool true)∧Below w.heap.size w w':=by
 obtain ⟨x0,x1,x2,x3,x4⟩:=q
 go_enter Tryz.func168,Tryz.ntmps168
 go_wp2_with fail
 refine (eqRes_ex _ _ _).mono ?_
 rintro e w1 ⟨rfl,o1,o2,n,rfl⟩
 go_wp2
 go_ret
 refine ⟨rfl,?_⟩
 repeat (first | exact yH _ _ | refine yA ?_ _ | refine Below.drew ?_ | refine below_dn ?_ _ | refine yC ?_ _ _ _ (by omega))
end Go.Proofs.YtmkedfdnokmglaaGreat
/-
 The laws' own eqMachine,at the same;a walk over the dump.
-/
namespace Go.Proofs.YtmkedfdnokmglaaGreat
open Go.RowKit
set_option linter.unusedVariables false
set_option maxRecDepth 100000 in
set_option maxHeartbeats 1000000 in
theorem eqMachine_same (q:Mac) (w:World) :
  Calls Tryz.prog 128 #[macv q,macv q] w fun e w'=>e=.returned (.bool true)∧Below w.heap.size w w':=by
 obtain ⟨x0,x1,x2,x3⟩:=q
 go_enter Tryz.func128,Tryz.ntmps128
 go_wp2_with fail
 refine (eqRes_ex _ _ _).mono ?_
 rintro e w1 ⟨rfl,o1,o2,n,rfl⟩
 go_wp2
 go_ret
 refine ⟨rfl,?_⟩
 repeat (first | exact yH _ _ | refine yA ?_ _ | refine Below.drew ?_ | refine below_dn ?_ _ | refine yC ?_ _ _ _ (by omega))
end Go.Proofs.YtmkedfdnokmglaaGreat
/-
 The laws' own eqCont,at the same;a walk over the dump.
-/
namespace Go.Proofs.YtmkedfdnokmglaaGreat
open Go.RowKit
set_option linter.unusedVariables false
set_option maxRecDepth 100000 in
set_option maxHeartbeats 1000000 in
theorem eqCont_same (q:Con) (w:World) :
  Calls Tryz.prog 113 #[conv q,conv q] w fun e w'=>e=.returned (.bool true)∧Below w.heap.size w w':=by
 obtain ⟨x0,x1,x2,x3,x4⟩:=q
 go_enter Tryz.func113,Tryz.ntmps113
 go_wp2_with fail
 refine (eqRes_ex _ _ _).mono ?_
 rintro e w1 ⟨rfl,o1,o2,n,rfl⟩
 go_wp2
 go_ret
 refine ⟨rfl,?_⟩
 repeat (first | exact yH _ _ | refine yA ?_ _ | refine Below.drew ?_ | refine below_dn ?_ _ | refine yC ?_ _ _ _ (by omega))
end Go.Proofs.YtmkedfdnokmglaaGreat
/-
 The laws' own toAskS: rows of Ask values made anew;walks over the dump (mkrow.py wrote this).
-/
namespace Go.Proofs.YtmkedfdnokmglaaGreat
open Go.RowKit
set_option linter.unusedVariables false
theorem askInfo:(Tryz.prog.info? 198).map (fun i=>(i.zero,i.size,i.bytes))=some (some (askv ⟨0,0,0,[],0⟩),5,48):=by kernel_rfl
theorem make_asks (n:Nat) (hn:n≤1048576) (w:World) :
  (Instr.makeSlice 172 (.int .i64 (n:Int)) (.int .i64 (n:Int))).run Tryz.prog w=.ok (.slice (some ⟨w.heap.size,0,none⟩) n n) (w.alloc (.cells (madeCells (askv ⟨0,0,0,[],0⟩).cells (n*5)) 198)):=by
 obtain ⟨i,hi,hz⟩:=Option.map_eq_some_iff.1 askInfo
 simp only [Prod.mk.injEq] at hz
 obtain ⟨hz,hs,hb⟩:=hz
 have hr:=run_make (P:=Tryz.prog) w 172 198 i _ Tryz.underlying172 hi hz .i64 .i64 n n (by omega) (Int.le_refl _) (by rw [hb];omega) (by omega)
 simp only [Int.toNat_natCast,hs] at hr
 exact hr
set_option maxRecDepth 100000 in
set_option maxHeartbeats 1000000 in
theorem toAskS_any (ao:Option Addr) (len cap:Nat) (l:List Ask) (w:World) (h:AskRow w ao len l) (hl:len≤1048576) :
  Calls Tryz.prog 144 #[.slice ao len cap] w fun e w'=>e=.returned (.slice (some ⟨w.heap.size,0,none⟩) len len)∧AskBlk w' 198 w.heap.size len len l∧Below w.heap.size w w':=by
 have HR:=hide h
 have HL:=hide h.1
 have hmk:=make_asks len hl w
 obtain ⟨zs,hzs⟩:∃z,z=(askv ⟨0,0,0,[],0⟩).cells:=⟨_,rfl⟩
 rw [←hzs] at hmk
 clear h hzs
 go_enter Tryz.func144,Tryz.ntmps144
 go_wp2
 clear hmk
 go_loopw [4] (fun i wr=>∃k:Nat,k≤len∧i=.int .i64 k∧Hid (AskBlk wr 198 w.heap.size len k l)∧Hid (Below w.heap.size w wr)) (fun i _=>len - (intOf i).toNat)
 case atStart=>exact ⟨0,Nat.zero_le _,rfl,hide (askblk_made w _ _ _ _),hide (yA (yH _ _) _)⟩
 case round=>
  obtain ⟨k,hk,rfl,HQ,HB⟩:=hrel
  by_cases hlt:k<len
  ·obtain ⟨b,off,rfl,hq⟩:=((uH HR).below (uH HB)).at hlt
   have hkl:k<l.length:=by have:=uH HL;omega
   obtain ⟨c0,c1,c2,c3,c4⟩:=hq hkl
   obtain ⟨q,hs⟩:∃q,l[k]=q:=⟨_,rfl⟩
   rw [hs] at c0 c1 c2 c3 c4
   have hst:∀wx,AskBlk wx 198 w.heap.size len k l→AskBlk (putAsk wx w.heap.size (k*5) q) 198 w.heap.size len (k+1) l:=fun wx hx=>by have:=hx.step hlt hkl;rw [hs] at this;exact this
   have HST:=hide hst
   clear hst hq hs hkl
   go_wp2_with fail
   refine (toAsk_any q _).mono ?_
   rintro e w1 ⟨rfl,hb⟩
   have HQ1:=hide ((uH HQ).below hb)
   have HB1:=hide (yB (uH HB) hb)
   clear hb c0 c1 c2 c3 c4
   obtain ⟨v0,d0⟩:=(uH HQ1).cell (j:=k*5) (by omega)
   obtain ⟨v1,d1⟩:=(uH HQ1).cell (j:=k*5+1) (by omega)
   obtain ⟨v2,d2⟩:=(uH HQ1).cell (j:=k*5+2) (by omega)
   obtain ⟨v3,d3⟩:=(uH HQ1).cell (j:=k*5+3) (by omega)
   obtain ⟨v4,d4⟩:=(uH HQ1).cell (j:=k*5+4) (by omega)
   have f0:=(uH HQ1).frozen (k*5)
   have f1:=(uH HQ1).frozen (k*5+1)
   have f2:=(uH HQ1).frozen (k*5+2)
   have f3:=(uH HQ1).frozen (k*5+3)
   have f4:=(uH HQ1).frozen (k*5+4)
   go_wp2
   go_roundw
   case rel=>exact ⟨k+1,by omega,by go_num,hide (uH HST _ (uH HQ1)),hide (yC (yC (yC (yC (yC (uH HB1) _ _ _ (by omega)) _ _ _ (by omega)) _ _ _ (by omega)) _ _ _ (by omega)) _ _ _ (by omega))⟩
   case measure=>simp [intOf];omega
  ·have hkk:k=len:=by omega
   subst hkk
   go_wp2
   go_ret
   exact ⟨rfl,uH HQ,uH HB⟩
end Go.Proofs.YtmkedfdnokmglaaGreat
/-
 The laws' own toMachineS: rows of Machine values made anew;walks over the dump (mkrow.py wrote this).
-/
namespace Go.Proofs.YtmkedfdnokmglaaGreat
open Go.RowKit
set_option linter.unusedVariables false
theorem macInfo:(Tryz.prog.info? 177).map (fun i=>(i.zero,i.size,i.bytes))=some (some (macv ⟨[],0,0,0⟩),4,40):=by kernel_rfl
theorem make_macs (n:Nat) (hn:n≤1048576) (w:World) :
  (Instr.makeSlice 39 (.int .i64 (n:Int)) (.int .i64 (n:Int))).run Tryz.prog w=.ok (.slice (some ⟨w.heap.size,0,none⟩) n n) (w.alloc (.cells (madeCells (macv ⟨[],0,0,0⟩).cells (n*4)) 177)):=by
 obtain ⟨i,hi,hz⟩:=Option.map_eq_some_iff.1 macInfo
 simp only [Prod.mk.injEq] at hz
 obtain ⟨hz,hs,hb⟩:=hz
 have hr:=run_make (P:=Tryz.prog) w 39 177 i _ Tryz.underlying39 hi hz .i64 .i64 n n (by omega) (Int.le_refl _) (by rw [hb];omega) (by omega)
 simp only [Int.toNat_natCast,hs] at hr
 exact hr
set_option maxRecDepth 100000 in
set_option maxHeartbeats 1000000 in
theorem toMachineS_any (ao:Option Addr) (len cap:Nat) (l:List Mac) (w:World) (h:MacRow w ao len l) (hl:len≤1048576) :
  Calls Tryz.prog 85 #[.slice ao len cap] w fun e w'=>e=.returned (.slice (some ⟨w.heap.size,0,none⟩) len len)∧MacBlk w' 177 w.heap.size len len l∧Below w.heap.size w w':=by
 have HR:=hide h
 have HL:=hide h.1
 have hmk:=make_macs len hl w
 obtain ⟨zs,hzs⟩:∃z,z=(macv ⟨[],0,0,0⟩).cells:=⟨_,rfl⟩
 rw [←hzs] at hmk
 clear h hzs
 go_enter Tryz.func85,Tryz.ntmps85
 go_wp2
 clear hmk
 go_loopw [4] (fun i wr=>∃k:Nat,k≤len∧i=.int .i64 k∧Hid (MacBlk wr 177 w.heap.size len k l)∧Hid (Below w.heap.size w wr)) (fun i _=>len - (intOf i).toNat)
 case atStart=>exact ⟨0,Nat.zero_le _,rfl,hide (macblk_made w _ _ _ _),hide (yA (yH _ _) _)⟩
 case round=>
  obtain ⟨k,hk,rfl,HQ,HB⟩:=hrel
  by_cases hlt:k<len
  ·obtain ⟨b,off,rfl,hq⟩:=((uH HR).below (uH HB)).at hlt
   have hkl:k<l.length:=by have:=uH HL;omega
   obtain ⟨c0,c1,c2,c3⟩:=hq hkl
   obtain ⟨q,hs⟩:∃q,l[k]=q:=⟨_,rfl⟩
   rw [hs] at c0 c1 c2 c3
   have hst:∀wx,MacBlk wx 177 w.heap.size len k l→MacBlk (putMac wx w.heap.size (k*4) q) 177 w.heap.size len (k+1) l:=fun wx hx=>by have:=hx.step hlt hkl;rw [hs] at this;exact this
   have HST:=hide hst
   clear hst hq hs hkl
   go_wp2_with fail
   refine (toMachine_any q _).mono ?_
   rintro e w1 ⟨rfl,hb⟩
   have HQ1:=hide ((uH HQ).below hb)
   have HB1:=hide (yB (uH HB) hb)
   clear hb c0 c1 c2 c3
   obtain ⟨v0,d0⟩:=(uH HQ1).cell (j:=k*4) (by omega)
   obtain ⟨v1,d1⟩:=(uH HQ1).cell (j:=k*4+1) (by omega)
   obtain ⟨v2,d2⟩:=(uH HQ1).cell (j:=k*4+2) (by omega)
   obtain ⟨v3,d3⟩:=(uH HQ1).cell (j:=k*4+3) (by omega)
   have f0:=(uH HQ1).frozen (k*4)
   have f1:=(uH HQ1).frozen (k*4+1)
   have f2:=(uH HQ1).frozen (k*4+2)
   have f3:=(uH HQ1).frozen (k*4+3)
   go_wp2
   go_roundw
   case rel=>exact ⟨k+1,by omega,by go_num,hide (uH HST _ (uH HQ1)),hide (yC (yC (yC (yC (uH HB1) _ _ _ (by omega)) _ _ _ (by omega)) _ _ _ (by omega)) _ _ _ (by omega))⟩
   case measure=>simp [intOf];omega
  ·have hkk:k=len:=by omega
   subst hkk
   go_wp2
   go_ret
   exact ⟨rfl,uH HQ,uH HB⟩
end Go.Proofs.YtmkedfdnokmglaaGreat
/-
 The laws' own toContS: rows of Cont values made anew;walks over the dump (mkrow.py wrote this).
-/
namespace Go.Proofs.YtmkedfdnokmglaaGreat
open Go.RowKit
set_option linter.unusedVariables false
theorem conInfo:(Tryz.prog.info? 74).map (fun i=>(i.zero,i.size,i.bytes))=some (some (conv ⟨0,0,[],0,0⟩),5,48):=by kernel_rfl
theorem make_cons (n:Nat) (hn:n≤1048576) (w:World) :
  (Instr.makeSlice 40 (.int .i64 (n:Int)) (.int .i64 (n:Int))).run Tryz.prog w=.ok (.slice (some ⟨w.heap.size,0,none⟩) n n) (w.alloc (.cells (madeCells (conv ⟨0,0,[],0,0⟩).cells (n*5)) 74)):=by
 obtain ⟨i,hi,hz⟩:=Option.map_eq_some_iff.1 conInfo
 simp only [Prod.mk.injEq] at hz
 obtain ⟨hz,hs,hb⟩:=hz
 have hr:=run_make (P:=Tryz.prog) w 40 74 i _ Tryz.underlying40 hi hz .i64 .i64 n n (by omega) (Int.le_refl _) (by rw [hb];omega) (by omega)
 simp only [Int.toNat_natCast,hs] at hr
 exact hr
set_option maxRecDepth 100000 in
set_option maxHeartbeats 1000000 in
theorem toContS_any (ao:Option Addr) (len cap:Nat) (l:List Con) (w:World) (h:ConRow w ao len l) (hl:len≤1048576) :
  Calls Tryz.prog 70 #[.slice ao len cap] w fun e w'=>e=.returned (.slice (some ⟨w.heap.size,0,none⟩) len len)∧ConBlk w' 74 w.heap.size len len l∧Below w.heap.size w w':=by
 have HR:=hide h
 have HL:=hide h.1
 have hmk:=make_cons len hl w
 obtain ⟨zs,hzs⟩:∃z,z=(conv ⟨0,0,[],0,0⟩).cells:=⟨_,rfl⟩
 rw [←hzs] at hmk
 clear h hzs
 go_enter Tryz.func70,Tryz.ntmps70
 go_wp2
 clear hmk
 go_loopw [4] (fun i wr=>∃k:Nat,k≤len∧i=.int .i64 k∧Hid (ConBlk wr 74 w.heap.size len k l)∧Hid (Below w.heap.size w wr)) (fun i _=>len - (intOf i).toNat)
 case atStart=>exact ⟨0,Nat.zero_le _,rfl,hide (conblk_made w _ _ _ _),hide (yA (yH _ _) _)⟩
 case round=>
  obtain ⟨k,hk,rfl,HQ,HB⟩:=hrel
  by_cases hlt:k<len
  ·obtain ⟨b,off,rfl,hq⟩:=((uH HR).below (uH HB)).at hlt
   have hkl:k<l.length:=by have:=uH HL;omega
   obtain ⟨c0,c1,c2,c3,c4⟩:=hq hkl
   obtain ⟨q,hs⟩:∃q,l[k]=q:=⟨_,rfl⟩
   rw [hs] at c0 c1 c2 c3 c4
   have hst:∀wx,ConBlk wx 74 w.heap.size len k l→ConBlk (putCon wx w.heap.size (k*5) q) 74 w.heap.size len (k+1) l:=fun wx hx=>by have:=hx.step hlt hkl;rw [hs] at this;exact this
   have HST:=hide hst
   clear hst hq hs hkl
   go_wp2_with fail
   refine (toCont_any q _).mono ?_
   rintro e w1 ⟨rfl,hb⟩
   have HQ1:=hide ((uH HQ).below hb)
   have HB1:=hide (yB (uH HB) hb)
   clear hb c0 c1 c2 c3 c4
   obtain ⟨v0,d0⟩:=(uH HQ1).cell (j:=k*5) (by omega)
   obtain ⟨v1,d1⟩:=(uH HQ1).cell (j:=k*5+1) (by omega)
   obtain ⟨v2,d2⟩:=(uH HQ1).cell (j:=k*5+2) (by omega)
   obtain ⟨v3,d3⟩:=(uH HQ1).cell (j:=k*5+3) (by omega)
   obtain ⟨v4,d4⟩:=(uH HQ1).cell (j:=k*5+4) (by omega)
   have f0:=(uH HQ1).frozen (k*5)
   have f1:=(uH HQ1).frozen (k*5+1)
   have f2:=(uH HQ1).frozen (k*5+2)
   have f3:=(uH HQ1).frozen (k*5+3)
   have f4:=(uH HQ1).frozen (k*5+4)
   go_wp2
   go_roundw
   case rel=>exact ⟨k+1,by omega,by go_num,hide (uH HST _ (uH HQ1)),hide (yC (yC (yC (yC (yC (uH HB1) _ _ _ (by omega)) _ _ _ (by omega)) _ _ _ (by omega)) _ _ _ (by omega)) _ _ _ (by omega))⟩
   case measure=>simp [intOf];omega
  ·have hkk:k=len:=by omega
   subst hkk
   go_wp2
   go_ret
   exact ⟨rfl,uH HQ,uH HB⟩
end Go.Proofs.YtmkedfdnokmglaaGreat
/-
 The laws' own szAsk and szAskS: how much is handed in;walks over the dump (mkrow.py wrote this).
-/
namespace Go.Proofs.YtmkedfdnokmglaaGreat
open Go.RowKit
set_option linter.unusedVariables false
def szAsk (q:Ask) (a:Int):Int:=if a - q.node.length<0 then -1 else a - q.node.length
def FitAsk (l:List Ask):Prop:=l.length≤1048576∧∀q ∈ l,q.node.length≤1048576
set_option maxRecDepth 100000 in
set_option maxHeartbeats 1000000 in
theorem szAsk_any (q:Ask) (a:Int) (w:World) (ha0:0≤a) (ha1:a≤1048576) (hn:q.node.length≤9223372036854775807) :
  Calls Tryz.prog 166 #[askv q,.int .i64 a] w fun e w'=>e=.returned (.int .i64 (szAsk q a))∧Below w.heap.size w w':=by
 obtain ⟨x0,x1,x2,x3,x4⟩:=q
 have z1:=bs_size x3
 simp only at hn
 unfold szAsk
 simp only
 by_cases h1:a - x3.length<0
 ·rw [if_pos h1]
  go_enter Tryz.func166,Tryz.ntmps166
  go_wp2
  go_ret
  refine ⟨rfl,?_⟩
  repeat (first | exact yH _ _ | refine yA ?_ _ | refine Below.drew ?_ | refine yC ?_ _ _ _ (by omega))
 ·rw [if_neg h1]
  go_enter Tryz.func166,Tryz.ntmps166
  go_wp2
  go_ret
  refine ⟨rfl,?_⟩
  repeat (first | exact yH _ _ | refine yA ?_ _ | refine Below.drew ?_ | refine yC ?_ _ _ _ (by omega))
theorem szAsk_cases (q:Ask) (a:Int) (ha0:0≤a) (ha1:a≤1048576):szAsk q a = -1∨(0≤szAsk q a∧szAsk q a≤a∧q.node.length≤1048576):=by
 unfold szAsk
 split
 ·exact .inl rfl
 ·right;omega
set_option maxRecDepth 100000 in
set_option maxHeartbeats 1000000 in
theorem szAskS_any (ao:Option Addr) (len cap:Nat) (l:List Ask) (a0:Int) (w:World) (h:AskRow w ao len l) (hlen:len≤9223372036854775807) (hm:∀q ∈ l,q.node.length≤9223372036854775807) (hA0:0≤a0) (hA1:a0≤1048576) :
  Calls Tryz.prog 143 #[.slice ao len cap,.int .i64 a0] w fun e w'=>∃r:Int,e=.returned (.int .i64 r)∧(r = -1∨(0≤r∧r≤a0∧FitAsk l))∧Below w.heap.size w w':=by
 have HR:=hide h
 have HL:=hide h.1
 have HM:=hide hm
 clear h hm
 by_cases hbig:(len:Int)≤a0
 ·have hb1:¬(a0:Int) - len<0:=by omega
  go_enter Tryz.func143,Tryz.ntmps143
  go_wp2
  go_loopw [1,5] (fun s i wr=>∃(k:Nat) (a:Int),k≤len∧i=.int .i64 k∧s=.int .i64 a∧0≤a∧a≤a0∧Hid (∀q ∈ l.take k,q.node.length≤1048576)∧Hid (Below w.heap.size w wr)) (fun _ i _=>len - (intOf i).toNat)
  case atStart=>exact ⟨0,a0 - len,Nat.zero_le _,rfl,rfl,by omega,by omega,hide (by simp),hide (yH _ _)⟩
  case round=>
   obtain ⟨k,a,hk,rfl,rfl,ha0,ha1,HP,HB⟩:=hrel
   by_cases hlt:k<len
   ·obtain ⟨b,off,rfl,hq⟩:=((uH HR).below (uH HB)).at hlt
    have hkl:k<l.length:=by have:=uH HL;omega
    obtain ⟨c0,c1,c2,c3,c4⟩:=hq hkl
    have n1:=uH HM l[k] (yM _)
    have htk:=List.take_succ_eq_append_getElem hkl
    obtain ⟨q,hs⟩:∃q,l[k]=q:=⟨_,rfl⟩
    rw [hs] at c0 c1 c2 c3 c4 n1 htk
    have HTK:=hide htk
    have C:=hide (fun wx=>szAsk_any q a wx ha0 (by omega) n1)
    obtain ⟨r,hr⟩:∃r,szAsk q a=r:=⟨_,rfl⟩
    have hcs:=szAsk_cases q a ha0 (by omega)
    rw [hr] at C hcs
    have HC:=hide hcs
    clear hq hs hkl hr hcs htk n1
    go_wp2_with fail
    refine (uH C _).mono ?_
    rintro e w1 ⟨rfl,hb⟩
    have HB1:=hide (yB (uH HB) hb)
    clear hb C c0 c1 c2 c3 c4
    rcases uH HC with hr | ⟨r0,r1,r2⟩
    ·subst hr
     go_wp2
     go_ret
     exact ⟨-1,rfl,.inl rfl,uH HB1⟩
    ·have HN:=hide (show ∀q ∈ l.take (k+1),q.node.length≤1048576 by
      rw [uH HTK]
      intro x hx
      rcases List.mem_append.1 hx with hx | hx
      ·exact uH HP x hx
      ·rw [List.mem_singleton.1 hx];exact r2)
     clear r2 HP HTK HC
     go_wp2
     go_roundw
     case rel=>exact ⟨k+1,r,by omega,by go_num,rfl,by omega,by omega,HN,HB1⟩
     case measure=>simp [intOf];omega
   ·have HF:=hide (show FitAsk l from ⟨by have:=uH HL;omega,fun q hq=>uH HP q (by rw [List.take_of_length_le (by have:=uH HL;omega)];exact hq)⟩)
    go_wp2
    go_ret
    exact ⟨a,rfl,.inr ⟨ha0,ha1,uH HF⟩,uH HB⟩
 ·have hb1:(a0:Int) - len<0:=by omega
  go_enter Tryz.func143,Tryz.ntmps143
  go_wp2
  go_ret
  exact ⟨-1,rfl,.inl rfl,yH _ _⟩
end Go.Proofs.YtmkedfdnokmglaaGreat
/-
 The laws' own szMachine and szMachineS: how much is handed in;walks over the dump (mkrow.py wrote this).
-/
namespace Go.Proofs.YtmkedfdnokmglaaGreat
open Go.RowKit
set_option linter.unusedVariables false
def szMac (q:Mac) (a:Int):Int:=if a - q.name.length<0 then -1 else a - q.name.length
def FitMac (l:List Mac):Prop:=l.length≤1048576∧∀q ∈ l,q.name.length≤1048576
set_option maxRecDepth 100000 in
set_option maxHeartbeats 1000000 in
theorem szMachine_any (q:Mac) (a:Int) (w:World) (ha0:0≤a) (ha1:a≤1048576) (hn:q.name.length≤9223372036854775807) :
  Calls Tryz.prog 118 #[macv q,.int .i64 a] w fun e w'=>e=.returned (.int .i64 (szMac q a))∧Below w.heap.size w w':=by
 obtain ⟨x0,x1,x2,x3⟩:=q
 have z1:=bs_size x0
 simp only at hn
 unfold szMac
 simp only
 by_cases h1:a - x0.length<0
 ·rw [if_pos h1]
  go_enter Tryz.func118,Tryz.ntmps118
  go_wp2
  go_ret
  refine ⟨rfl,?_⟩
  repeat (first | exact yH _ _ | refine yA ?_ _ | refine Below.drew ?_ | refine yC ?_ _ _ _ (by omega))
 ·rw [if_neg h1]
  go_enter Tryz.func118,Tryz.ntmps118
  go_wp2
  go_ret
  refine ⟨rfl,?_⟩
  repeat (first | exact yH _ _ | refine yA ?_ _ | refine Below.drew ?_ | refine yC ?_ _ _ _ (by omega))
theorem szMac_cases (q:Mac) (a:Int) (ha0:0≤a) (ha1:a≤1048576):szMac q a = -1∨(0≤szMac q a∧szMac q a≤a∧q.name.length≤1048576):=by
 unfold szMac
 split
 ·exact .inl rfl
 ·right;omega
set_option maxRecDepth 100000 in
set_option maxHeartbeats 1000000 in
theorem szMachineS_any (ao:Option Addr) (len cap:Nat) (l:List Mac) (a0:Int) (w:World) (h:MacRow w ao len l) (hlen:len≤9223372036854775807) (hm:∀q ∈ l,q.name.length≤9223372036854775807) (hA0:0≤a0) (hA1:a0≤1048576) :
  Calls Tryz.prog 82 #[.slice ao len cap,.int .i64 a0] w fun e w'=>∃r:Int,e=.returned (.int .i64 r)∧(r = -1∨(0≤r∧r≤a0∧FitMac l))∧Below w.heap.size w w':=by
 have HR:=hide h
 have HL:=hide h.1
 have HM:=hide hm
 clear h hm
 by_cases hbig:(len:Int)≤a0
 ·have hb1:¬(a0:Int) - len<0:=by omega
  go_enter Tryz.func82,Tryz.ntmps82
  go_wp2
  go_loopw [1,5] (fun s i wr=>∃(k:Nat) (a:Int),k≤len∧i=.int .i64 k∧s=.int .i64 a∧0≤a∧a≤a0∧Hid (∀q ∈ l.take k,q.name.length≤1048576)∧Hid (Below w.heap.size w wr)) (fun _ i _=>len - (intOf i).toNat)
  case atStart=>exact ⟨0,a0 - len,Nat.zero_le _,rfl,rfl,by omega,by omega,hide (by simp),hide (yH _ _)⟩
  case round=>
   obtain ⟨k,a,hk,rfl,rfl,ha0,ha1,HP,HB⟩:=hrel
   by_cases hlt:k<len
   ·obtain ⟨b,off,rfl,hq⟩:=((uH HR).below (uH HB)).at hlt
    have hkl:k<l.length:=by have:=uH HL;omega
    obtain ⟨c0,c1,c2,c3⟩:=hq hkl
    have n1:=uH HM l[k] (yM _)
    have htk:=List.take_succ_eq_append_getElem hkl
    obtain ⟨q,hs⟩:∃q,l[k]=q:=⟨_,rfl⟩
    rw [hs] at c0 c1 c2 c3 n1 htk
    have HTK:=hide htk
    have C:=hide (fun wx=>szMachine_any q a wx ha0 (by omega) n1)
    obtain ⟨r,hr⟩:∃r,szMac q a=r:=⟨_,rfl⟩
    have hcs:=szMac_cases q a ha0 (by omega)
    rw [hr] at C hcs
    have HC:=hide hcs
    clear hq hs hkl hr hcs htk n1
    go_wp2_with fail
    refine (uH C _).mono ?_
    rintro e w1 ⟨rfl,hb⟩
    have HB1:=hide (yB (uH HB) hb)
    clear hb C c0 c1 c2 c3
    rcases uH HC with hr | ⟨r0,r1,r2⟩
    ·subst hr
     go_wp2
     go_ret
     exact ⟨-1,rfl,.inl rfl,uH HB1⟩
    ·have HN:=hide (show ∀q ∈ l.take (k+1),q.name.length≤1048576 by
      rw [uH HTK]
      intro x hx
      rcases List.mem_append.1 hx with hx | hx
      ·exact uH HP x hx
      ·rw [List.mem_singleton.1 hx];exact r2)
     clear r2 HP HTK HC
     go_wp2
     go_roundw
     case rel=>exact ⟨k+1,r,by omega,by go_num,rfl,by omega,by omega,HN,HB1⟩
     case measure=>simp [intOf];omega
   ·have HF:=hide (show FitMac l from ⟨by have:=uH HL;omega,fun q hq=>uH HP q (by rw [List.take_of_length_le (by have:=uH HL;omega)];exact hq)⟩)
    go_wp2
    go_ret
    exact ⟨a,rfl,.inr ⟨ha0,ha1,uH HF⟩,uH HB⟩
 ·have hb1:(a0:Int) - len<0:=by omega
  go_enter Tryz.func82,Tryz.ntmps82
  go_wp2
  go_ret
  exact ⟨-1,rfl,.inl rfl,yH _ _⟩
end Go.Proofs.YtmkedfdnokmglaaGreat
/-
 The laws' own szCont and szContS: how much is handed in;walks over the dump (mkrow.py wrote this).
-/
namespace Go.Proofs.YtmkedfdnokmglaaGreat
open Go.RowKit
set_option linter.unusedVariables false
def szCon (q:Con) (a:Int):Int:=if a - q.node.length<0 then -1 else a - q.node.length
def FitCon (l:List Con):Prop:=l.length≤1048576∧∀q ∈ l,q.node.length≤1048576
set_option maxRecDepth 100000 in
set_option maxHeartbeats 1000000 in
theorem szCont_any (q:Con) (a:Int) (w:World) (ha0:0≤a) (ha1:a≤1048576) (hn:q.node.length≤9223372036854775807) :
  Calls Tryz.prog 102 #[conv q,.int .i64 a] w fun e w'=>e=.returned (.int .i64 (szCon q a))∧Below w.heap.size w w':=by
 obtain ⟨x0,x1,x2,x3,x4⟩:=q
 have z1:=bs_size x2
 simp only at hn
 unfold szCon
 simp only
 by_cases h1:a - x2.length<0
 ·rw [if_pos h1]
  go_enter Tryz.func102,Tryz.ntmps102
  go_wp2
  go_ret
  refine ⟨rfl,?_⟩
  repeat (first | exact yH _ _ | refine yA ?_ _ | refine Below.drew ?_ | refine yC ?_ _ _ _ (by omega))
 ·rw [if_neg h1]
  go_enter Tryz.func102,Tryz.ntmps102
  go_wp2
  go_ret
  refine ⟨rfl,?_⟩
  repeat (first | exact yH _ _ | refine yA ?_ _ | refine Below.drew ?_ | refine yC ?_ _ _ _ (by omega))
theorem szCon_cases (q:Con) (a:Int) (ha0:0≤a) (ha1:a≤1048576):szCon q a = -1∨(0≤szCon q a∧szCon q a≤a∧q.node.length≤1048576):=by
 unfold szCon
 split
 ·exact .inl rfl
 ·right;omega
set_option maxRecDepth 100000 in
set_option maxHeartbeats 1000000 in
theorem szContS_any (ao:Option Addr) (len cap:Nat) (l:List Con) (a0:Int) (w:World) (h:ConRow w ao len l) (hlen:len≤9223372036854775807) (hm:∀q ∈ l,q.node.length≤9223372036854775807) (hA0:0≤a0) (hA1:a0≤1048576) :
  Calls Tryz.prog 64 #[.slice ao len cap,.int .i64 a0] w fun e w'=>∃r:Int,e=.returned (.int .i64 r)∧(r = -1∨(0≤r∧r≤a0∧FitCon l))∧Below w.heap.size w w':=by
 have HR:=hide h
 have HL:=hide h.1
 have HM:=hide hm
 clear h hm
 by_cases hbig:(len:Int)≤a0
 ·have hb1:¬(a0:Int) - len<0:=by omega
  go_enter Tryz.func64,Tryz.ntmps64
  go_wp2
  go_loopw [1,5] (fun s i wr=>∃(k:Nat) (a:Int),k≤len∧i=.int .i64 k∧s=.int .i64 a∧0≤a∧a≤a0∧Hid (∀q ∈ l.take k,q.node.length≤1048576)∧Hid (Below w.heap.size w wr)) (fun _ i _=>len - (intOf i).toNat)
  case atStart=>exact ⟨0,a0 - len,Nat.zero_le _,rfl,rfl,by omega,by omega,hide (by simp),hide (yH _ _)⟩
  case round=>
   obtain ⟨k,a,hk,rfl,rfl,ha0,ha1,HP,HB⟩:=hrel
   by_cases hlt:k<len
   ·obtain ⟨b,off,rfl,hq⟩:=((uH HR).below (uH HB)).at hlt
    have hkl:k<l.length:=by have:=uH HL;omega
    obtain ⟨c0,c1,c2,c3,c4⟩:=hq hkl
    have n1:=uH HM l[k] (yM _)
    have htk:=List.take_succ_eq_append_getElem hkl
    obtain ⟨q,hs⟩:∃q,l[k]=q:=⟨_,rfl⟩
    rw [hs] at c0 c1 c2 c3 c4 n1 htk
    have HTK:=hide htk
    have C:=hide (fun wx=>szCont_any q a wx ha0 (by omega) n1)
    obtain ⟨r,hr⟩:∃r,szCon q a=r:=⟨_,rfl⟩
    have hcs:=szCon_cases q a ha0 (by omega)
    rw [hr] at C hcs
    have HC:=hide hcs
    clear hq hs hkl hr hcs htk n1
    go_wp2_with fail
    refine (uH C _).mono ?_
    rintro e w1 ⟨rfl,hb⟩
    have HB1:=hide (yB (uH HB) hb)
    clear hb C c0 c1 c2 c3 c4
    rcases uH HC with hr | ⟨r0,r1,r2⟩
    ·subst hr
     go_wp2
     go_ret
     exact ⟨-1,rfl,.inl rfl,uH HB1⟩
    ·have HN:=hide (show ∀q ∈ l.take (k+1),q.node.length≤1048576 by
      rw [uH HTK]
      intro x hx
      rcases List.mem_append.1 hx with hx | hx
      ·exact uH HP x hx
      ·rw [List.mem_singleton.1 hx];exact r2)
     clear r2 HP HTK HC
     go_wp2
     go_roundw
     case rel=>exact ⟨k+1,r,by omega,by go_num,rfl,by omega,by omega,HN,HB1⟩
     case measure=>simp [intOf];omega
   ·have HF:=hide (show FitCon l from ⟨by have:=uH HL;omega,fun q hq=>uH HP q (by rw [List.take_of_length_le (by have:=uH HL;omega)];exact hq)⟩)
    go_wp2
    go_ret
    exact ⟨a,rfl,.inr ⟨ha0,ha1,uH HF⟩,uH HB⟩
 ·have hb1:(a0:Int) - len<0:=by omega
  go_enter Tryz.func64,Tryz.ntmps64
  go_wp2
  go_ret
  exact ⟨-1,rfl,.inl rfl,yH _ _⟩
end Go.Proofs.YtmkedfdnokmglaaGreat
/-
 The laws' own eqAskS,at rows that hold the same;walks over the dump (mkrow.py wrote this).
-/
namespace Go.Proofs.YtmkedfdnokmglaaGreat
open Go.RowKit
set_option linter.unusedVariables false
def AskTwo (w0:World) (b p c r:Nat) (q:Ask) (w:World):Prop:=AskAt w b p q∧AskAt w c r q∧Below w0.heap.size w0 w
theorem AskTwo.call {w0 w w':World} {b p c r:Nat} {q:Ask} (h:AskTwo w0 b p c r q w) (hb:Below w.heap.size w w'):AskTwo w0 b p c r q w':=⟨h.1.below hb,h.2.1.below hb,yB h.2.2 hb⟩
theorem AskTwo.drew {w0 w:World} {b p c r:Nat} {q:Ask} (h:AskTwo w0 b p c r q w):AskTwo w0 b p c r q w.drew:=h.call (yH _ _).drew
theorem AskTwo.read (w0:World) (b p c r:Nat) (q:Ask):∀wx,AskTwo w0 b p c r q wx→wx.cell? ⟨b,p,none⟩=some (.int .i64 q.mem)∧wx.cell? ⟨b,p+1,none⟩=some (.int .i64 q.cpu)∧wx.cell? ⟨b,p+2,none⟩=some (.int .i64 q.count)∧wx.cell? ⟨b,p+3,none⟩=some (.string (bs q.node))∧wx.cell? ⟨b,p+4,none⟩=some (.int .i64 q.missed)
  ∧wx.cell? ⟨c,r,none⟩=some (.int .i64 q.mem)∧wx.cell? ⟨c,r+1,none⟩=some (.int .i64 q.cpu)∧wx.cell? ⟨c,r+2,none⟩=some (.int .i64 q.count)∧wx.cell? ⟨c,r+3,none⟩=some (.string (bs q.node))∧wx.cell? ⟨c,r+4,none⟩=some (.int .i64 q.missed):=
 fun wx h=>⟨h.1.1,h.1.2.1,h.1.2.2.1,h.1.2.2.2.1,h.1.2.2.2.2,h.2.1.1,h.2.1.2.1,h.2.1.2.2.1,h.2.1.2.2.2.1,h.2.1.2.2.2.2⟩
set_option maxRecDepth 100000 in
set_option maxHeartbeats 2000000 in
theorem eqAskS_same (ao bo:Option Addr) (len cap ccap:Nat) (l:List Ask) (w:World) (h:AskRow w ao len l) (h':AskRow w bo len l) (hl:len≤1048576) :
  Calls Tryz.prog 146 #[.slice ao len cap,.slice bo len ccap] w fun e w'=>e=.returned (.bool true)∧Below w.heap.size w w':=by
 have HR:=hide h
 have HR':=hide h'
 have HL:=hide h.1
 clear h h'
 go_enter Tryz.func146,Tryz.ntmps146
 go_wp2
 go_loopw [5] (fun i wr=>∃k:Nat,k≤len∧i=.int .i64 k∧Hid (Below w.heap.size w wr)) (fun i _=>len - (intOf i).toNat)
 case atStart=>exact ⟨0,Nat.zero_le _,rfl,hide (yH _ _)⟩
 case round=>
  obtain ⟨k,hk,rfl,HB⟩:=hrel
  by_cases hlt:k<len
  ·obtain ⟨b,off,rfl,hq⟩:=((uH HR).below (uH HB)).at hlt
   obtain ⟨c,coff,rfl,hq'⟩:=((uH HR').below (uH HB)).at hlt
   have hkl:k<l.length:=by have:=uH HL;omega
   have A0:=hide (show AskTwo w b (off+k*5) c (coff+k*5) l[k] wr from ⟨hq hkl,hq' hkl,uH HB⟩)
   obtain ⟨q,hs⟩:∃q,l[k]=q:=⟨_,rfl⟩
   rw [hs] at A0
   have R:=AskTwo.read w b (off+k*5) c (coff+k*5) q
   have k0:(0:Int)≤k:=by omega
   have k1:(k:Int)<len:=by omega
   clear hq hq' hs hkl
   go_wp2_with fail
   go_region_held3 (fun wx=>AskTwo w b (off+k*5) c (coff+k*5) q wx)
    (first | (with_reducible assumption) | exact (uH A0).drew | exact AskTwo.call (by assumption) (by assumption))
    (first
    | (go_at_call 168;refine (eqAsk_same _ _).mono ?_;rintro e wt ⟨rfl,hb⟩;have SA:=AskTwo.call (w0:=w) (b:=b) (p:=off+k*5) (c:=c) (r:=coff+k*5) (q:=q) (by assumption) hb))
   have HB2:=hide SA.2.2
   clear SA R A0
   go_wp2
   go_roundw
   case rel=>exact ⟨k+1,by omega,by go_num,HB2⟩
   case measure=>simp [intOf];omega
  ·go_wp2
   go_ret
   exact ⟨rfl,uH HB⟩
end Go.Proofs.YtmkedfdnokmglaaGreat
/-
 The laws' own eqMachineS,at rows that hold the same;walks over the dump (mkrow.py wrote this).
-/
namespace Go.Proofs.YtmkedfdnokmglaaGreat
open Go.RowKit
set_option linter.unusedVariables false
def MacTwo (w0:World) (b p c r:Nat) (q:Mac) (w:World):Prop:=MacAt w b p q∧MacAt w c r q∧Below w0.heap.size w0 w
theorem MacTwo.call {w0 w w':World} {b p c r:Nat} {q:Mac} (h:MacTwo w0 b p c r q w) (hb:Below w.heap.size w w'):MacTwo w0 b p c r q w':=⟨h.1.below hb,h.2.1.below hb,yB h.2.2 hb⟩
theorem MacTwo.drew {w0 w:World} {b p c r:Nat} {q:Mac} (h:MacTwo w0 b p c r q w):MacTwo w0 b p c r q w.drew:=h.call (yH _ _).drew
theorem MacTwo.read (w0:World) (b p c r:Nat) (q:Mac):∀wx,MacTwo w0 b p c r q wx→wx.cell? ⟨b,p,none⟩=some (.string (bs q.name))∧wx.cell? ⟨b,p+1,none⟩=some (.int .i64 q.mem)∧wx.cell? ⟨b,p+2,none⟩=some (.int .i64 q.cpu)∧wx.cell? ⟨b,p+3,none⟩=some (.int .i64 q.seen)
  ∧wx.cell? ⟨c,r,none⟩=some (.string (bs q.name))∧wx.cell? ⟨c,r+1,none⟩=some (.int .i64 q.mem)∧wx.cell? ⟨c,r+2,none⟩=some (.int .i64 q.cpu)∧wx.cell? ⟨c,r+3,none⟩=some (.int .i64 q.seen):=
 fun wx h=>⟨h.1.1,h.1.2.1,h.1.2.2.1,h.1.2.2.2,h.2.1.1,h.2.1.2.1,h.2.1.2.2.1,h.2.1.2.2.2⟩
set_option maxRecDepth 100000 in
set_option maxHeartbeats 2000000 in
theorem eqMachineS_same (ao bo:Option Addr) (len cap ccap:Nat) (l:List Mac) (w:World) (h:MacRow w ao len l) (h':MacRow w bo len l) (hl:len≤1048576) :
  Calls Tryz.prog 99 #[.slice ao len cap,.slice bo len ccap] w fun e w'=>e=.returned (.bool true)∧Below w.heap.size w w':=by
 have HR:=hide h
 have HR':=hide h'
 have HL:=hide h.1
 clear h h'
 go_enter Tryz.func99,Tryz.ntmps99
 go_wp2
 go_loopw [5] (fun i wr=>∃k:Nat,k≤len∧i=.int .i64 k∧Hid (Below w.heap.size w wr)) (fun i _=>len - (intOf i).toNat)
 case atStart=>exact ⟨0,Nat.zero_le _,rfl,hide (yH _ _)⟩
 case round=>
  obtain ⟨k,hk,rfl,HB⟩:=hrel
  by_cases hlt:k<len
  ·obtain ⟨b,off,rfl,hq⟩:=((uH HR).below (uH HB)).at hlt
   obtain ⟨c,coff,rfl,hq'⟩:=((uH HR').below (uH HB)).at hlt
   have hkl:k<l.length:=by have:=uH HL;omega
   have A0:=hide (show MacTwo w b (off+k*4) c (coff+k*4) l[k] wr from ⟨hq hkl,hq' hkl,uH HB⟩)
   obtain ⟨q,hs⟩:∃q,l[k]=q:=⟨_,rfl⟩
   rw [hs] at A0
   have R:=MacTwo.read w b (off+k*4) c (coff+k*4) q
   have k0:(0:Int)≤k:=by omega
   have k1:(k:Int)<len:=by omega
   clear hq hq' hs hkl
   go_wp2_with fail
   go_region_held3 (fun wx=>MacTwo w b (off+k*4) c (coff+k*4) q wx)
    (first | (with_reducible assumption) | exact (uH A0).drew | exact MacTwo.call (by assumption) (by assumption))
    (first
    | (go_at_call 128;refine (eqMachine_same _ _).mono ?_;rintro e wt ⟨rfl,hb⟩;have SA:=MacTwo.call (w0:=w) (b:=b) (p:=off+k*4) (c:=c) (r:=coff+k*4) (q:=q) (by assumption) hb))
   have HB2:=hide SA.2.2
   clear SA R A0
   go_wp2
   go_roundw
   case rel=>exact ⟨k+1,by omega,by go_num,HB2⟩
   case measure=>simp [intOf];omega
  ·go_wp2
   go_ret
   exact ⟨rfl,uH HB⟩
end Go.Proofs.YtmkedfdnokmglaaGreat
/-
 The laws' own eqContS,at rows that hold the same;walks over the dump (mkrow.py wrote this).
-/
namespace Go.Proofs.YtmkedfdnokmglaaGreat
open Go.RowKit
set_option linter.unusedVariables false
def ConTwo (w0:World) (b p c r:Nat) (q:Con) (w:World):Prop:=ConAt w b p q∧ConAt w c r q∧Below w0.heap.size w0 w
theorem ConTwo.call {w0 w w':World} {b p c r:Nat} {q:Con} (h:ConTwo w0 b p c r q w) (hb:Below w.heap.size w w'):ConTwo w0 b p c r q w':=⟨h.1.below hb,h.2.1.below hb,yB h.2.2 hb⟩
theorem ConTwo.drew {w0 w:World} {b p c r:Nat} {q:Con} (h:ConTwo w0 b p c r q w):ConTwo w0 b p c r q w.drew:=h.call (yH _ _).drew
theorem ConTwo.read (w0:World) (b p c r:Nat) (q:Con):∀wx,ConTwo w0 b p c r q wx→wx.cell? ⟨b,p,none⟩=some (.int .i64 q.id)∧wx.cell? ⟨b,p+1,none⟩=some (.int .i64 q.app)∧wx.cell? ⟨b,p+2,none⟩=some (.string (bs q.node))∧wx.cell? ⟨b,p+3,none⟩=some (.int .i64 q.mem)∧wx.cell? ⟨b,p+4,none⟩=some (.int .i64 q.cpu)
  ∧wx.cell? ⟨c,r,none⟩=some (.int .i64 q.id)∧wx.cell? ⟨c,r+1,none⟩=some (.int .i64 q.app)∧wx.cell? ⟨c,r+2,none⟩=some (.string (bs q.node))∧wx.cell? ⟨c,r+3,none⟩=some (.int .i64 q.mem)∧wx.cell? ⟨c,r+4,none⟩=some (.int .i64 q.cpu):=
 fun wx h=>⟨h.1.1,h.1.2.1,h.1.2.2.1,h.1.2.2.2.1,h.1.2.2.2.2,h.2.1.1,h.2.1.2.1,h.2.1.2.2.1,h.2.1.2.2.2.1,h.2.1.2.2.2.2⟩
set_option maxRecDepth 100000 in
set_option maxHeartbeats 2000000 in
theorem eqContS_same (ao bo:Option Addr) (len cap ccap:Nat) (l:List Con) (w:World) (h:ConRow w ao len l) (h':ConRow w bo len l) (hl:len≤1048576) :
  Calls Tryz.prog 78 #[.slice ao len cap,.slice bo len ccap] w fun e w'=>e=.returned (.bool true)∧Below w.heap.size w w':=by
 have HR:=hide h
 have HR':=hide h'
 have HL:=hide h.1
 clear h h'
 go_enter Tryz.func78,Tryz.ntmps78
 go_wp2
 go_loopw [5] (fun i wr=>∃k:Nat,k≤len∧i=.int .i64 k∧Hid (Below w.heap.size w wr)) (fun i _=>len - (intOf i).toNat)
 case atStart=>exact ⟨0,Nat.zero_le _,rfl,hide (yH _ _)⟩
 case round=>
  obtain ⟨k,hk,rfl,HB⟩:=hrel
  by_cases hlt:k<len
  ·obtain ⟨b,off,rfl,hq⟩:=((uH HR).below (uH HB)).at hlt
   obtain ⟨c,coff,rfl,hq'⟩:=((uH HR').below (uH HB)).at hlt
   have hkl:k<l.length:=by have:=uH HL;omega
   have A0:=hide (show ConTwo w b (off+k*5) c (coff+k*5) l[k] wr from ⟨hq hkl,hq' hkl,uH HB⟩)
   obtain ⟨q,hs⟩:∃q,l[k]=q:=⟨_,rfl⟩
   rw [hs] at A0
   have R:=ConTwo.read w b (off+k*5) c (coff+k*5) q
   have k0:(0:Int)≤k:=by omega
   have k1:(k:Int)<len:=by omega
   clear hq hq' hs hkl
   go_wp2_with fail
   go_region_held3 (fun wx=>ConTwo w b (off+k*5) c (coff+k*5) q wx)
    (first | (with_reducible assumption) | exact (uH A0).drew | exact ConTwo.call (by assumption) (by assumption))
    (first
    | (go_at_call 113;refine (eqCont_same _ _).mono ?_;rintro e wt ⟨rfl,hb⟩;have SA:=ConTwo.call (w0:=w) (b:=b) (p:=off+k*5) (c:=c) (r:=coff+k*5) (q:=q) (by assumption) hb))
   have HB2:=hide SA.2.2
   clear SA R A0
   go_wp2
   go_roundw
   case rel=>exact ⟨k+1,by omega,by go_num,HB2⟩
   case measure=>simp [intOf];omega
  ·go_wp2
   go_ret
   exact ⟨rfl,uH HB⟩
end Go.Proofs.YtmkedfdnokmglaaGreat
/-
 The laws' own toApp and toAppS: rows made anew;walks over the dump.
-/
namespace Go.Proofs.YtmkedfdnokmglaaGreat
open Go.RowKit
set_option linter.unusedVariables false
set_option maxRecDepth 100000 in
set_option maxHeartbeats 1000000 in
theorem toApp_any (id:Int) (qu:List UInt8) (ao:Option Addr) (len cap:Nat) (l:List Ask) (w:World) (h:AskRow w ao len l) (hl:len≤1048576) :
  Calls Tryz.prog 119 #[applv id qu ao len cap] w fun e w'=>∃g,e=.returned (applv id qu (some ⟨g,0,none⟩) len len)∧w.heap.size<g∧AskBlk w' 198 g len len l∧Below w.heap.size w w':=by
 have HR:=hide h
 clear h
 have HB0:=hide (yA (yA (yA (yH _ w) (.cells #[.int .i64 id,.string (bs qu),.slice ao len cap] 168)) (.cells #[.int .i64 0,.string (bs []),.slice none 0 0] 174)) (.cells #[.int .i64 id,.string (bs qu),.slice none 0 0] 174))
 have K1:=hide ((yD (w.alloc (.cells #[.int .i64 id,.string (bs qu),.slice ao len cap] 168)) #[.int .i64 0,.string (bs []),.slice none 0 0] 174).al (.cells #[.int .i64 id,.string (bs qu),.slice none 0 0] 174))
 have K2:=hide (yD ((w.alloc (.cells #[.int .i64 id,.string (bs qu),.slice ao len cap] 168)).alloc (.cells #[.int .i64 0,.string (bs []),.slice none 0 0] 174)) #[.int .i64 id,.string (bs qu),.slice none 0 0] 174)
 go_enter Tryz.func119,Tryz.ntmps119
 go_wp2_with fail
 refine (toAskS_any ao len cap l _ ((uH HR).below (uH HB0)) hl).mono ?_
 rintro e w1 ⟨rfl,hq,hb⟩
 have b1:=(uH K1).below hb
 have b2:=(uH K2).below hb
 simp only [yE] at b1 b2 hq
 have HB1:=hide (yB (uH HB0) hb)
 have HQ:=hide hq
 clear hb K1 K2 HB0 HR hq
 have r0:=b1.at 0;have r1:=b1.at 1;have r2:=b1.at 2
 have o0:=b2.at 0;have o1:=b2.at 1;have o2:=b2.at 2
 have rf0:=b1.f 0;have rf1:=b1.f 1;have rf2:=b1.f 2
 have of2:=b2.f 2
 simp at r0 r1 r2 o0 o1 o2
 clear b1 b2
 go_wp2
 refine bodyPost_ret (v:=applv id qu (some ⟨w.heap.size+1+1+1,0,none⟩) len len) (by simp [results,Tryz.results119,go_sem, *]) rfl ⟨_,rfl,by omega,?_,?_⟩
 ·repeat (first | exact uH HQ | refine AskBlk.other ?_ _ _ _ (by omega))
 ·repeat (first | exact uH HB1 | refine yC ?_ _ _ _ (by omega))
theorem applInfo:(Tryz.prog.info? 174).map (fun i=>(i.zero,i.size,i.bytes))=some (some (applv 0 [] none 0 0),3,48):=by kernel_rfl
theorem make_appls (n:Nat) (hn:n≤1048576) (w:World) :
  (Instr.makeSlice 38 (.int .i64 (n:Int)) (.int .i64 (n:Int))).run Tryz.prog w=.ok (.slice (some ⟨w.heap.size,0,none⟩) n n) (w.alloc (.cells (madeCells (applv 0 [] none 0 0).cells (n*3)) 174)):=by
 obtain ⟨i,hi,hz⟩:=Option.map_eq_some_iff.1 applInfo
 simp only [Prod.mk.injEq] at hz
 obtain ⟨hz,hs,hb⟩:=hz
 have hr:=run_make (P:=Tryz.prog) w 38 174 i _ Tryz.underlying38 hi hz .i64 .i64 n n (by omega) (Int.le_refl _) (by rw [hb];omega) (by omega)
 simp only [Int.toNat_natCast,hs] at hr
 exact hr
set_option maxRecDepth 100000 in
set_option maxHeartbeats 1000000 in
theorem toAppS_any (ao:Option Addr) (len cap:Nat) (l:List Appl) (w:World) (h:ApplRow w ao len l) (hl:len≤1048576) (hk:∀q ∈ l,q.asks.length≤1048576) :
  Calls Tryz.prog 84 #[.slice ao len cap] w fun e w'=>e=.returned (.slice (some ⟨w.heap.size,0,none⟩) len len)∧ApplBlk w' 174 w.heap.size len len l∧Below w.heap.size w w':=by
 have HR:=hide h
 have HL:=hide h.1
 have HK:=hide hk
 have hmk:=make_appls len hl w
 obtain ⟨zs,hzs⟩:∃z,z=(applv 0 [] none 0 0).cells:=⟨_,rfl⟩
 rw [←hzs] at hmk
 clear h hzs hk
 go_enter Tryz.func84,Tryz.ntmps84
 go_wp2
 clear hmk
 go_loopw [4] (fun i wr=>∃k:Nat,k≤len∧i=.int .i64 k∧Hid (ApplBlk wr 174 w.heap.size len k l)∧Hid (Below w.heap.size w wr)) (fun i _=>len - (intOf i).toNat)
 case atStart=>exact ⟨0,Nat.zero_le _,rfl,hide (applblk_made w _ _ _ _),hide (yA (yH _ _) _)⟩
 case round=>
  obtain ⟨k,hk,rfl,HQ,HB⟩:=hrel
  by_cases hlt:k<len
  ·obtain ⟨b,off,rfl,hq⟩:=((uH HR).below (uH HB)).at hlt
   have hkl:k<l.length:=by have:=uH HL;omega
   have hkn:=uH HK l[k] (yM _)
   obtain ⟨xo,xl,xc,c0,c1,c2,hrow,hxc⟩:=hq hkl
   have hst:∀wx,ApplBlk wx 174 w.heap.size len k l→∀AO LEN CAP,AskOwn wx w.heap.size AO LEN CAP l[k].asks→ApplBlk (putAppl wx w.heap.size (k*3) l[k].id l[k].queue AO LEN CAP) 174 w.heap.size len (k+1) l:=fun wx hx AO LEN CAP ho=>hx.step hlt hkl AO LEN CAP ho
   obtain ⟨q,hs⟩:∃q,l[k]=q:=⟨_,rfl⟩
   rw [hs] at c0 c1 hst hrow hkn
   obtain ⟨id,qu,asks⟩:=q
   simp only at c0 c1 hst hrow hkn
   have HXL:=hide hrow.1
   have hxl:xl≤1048576:=by have:=hrow.1;omega
   have HST:=hide hst
   have HROW:=hide hrow
   have hsz:=(uH HQ).lt
   clear hst hq hs hkl hrow hxc hkn
   go_wp2_with fail
   refine (toApp_any id qu xo xl xc asks _ (uH HROW) hxl).mono ?_
   rintro e w1 ⟨g,rfl,hg,hab,hb⟩
   have HQ1:=hide ((uH HQ).below hb)
   have HB1:=hide (yB (uH HB) hb)
   have HO:=hide (show AskOwn w1 w.heap.size (some ⟨g,0,none⟩) xl xl asks from ⟨hab.row (uH HXL),yJ _,fun b off e=>by simp at e;omega,g,rfl,rfl,hab.any⟩)
   clear hb c0 c1 c2 hab
   obtain ⟨v0,d0⟩:=(uH HQ1).cell (j:=k*3) (by omega)
   obtain ⟨v1,d1⟩:=(uH HQ1).cell (j:=k*3+1) (by omega)
   obtain ⟨v2,d2⟩:=(uH HQ1).cell (j:=k*3+2) (by omega)
   have f0:=(uH HQ1).frozen (k*3)
   have f1:=(uH HQ1).frozen (k*3+1)
   have f2:=(uH HQ1).frozen (k*3+2)
   go_wp2
   go_roundw
   case rel=>exact ⟨k+1,by omega,by go_num,hide (uH HST _ (uH HQ1) _ _ _ (uH HO)),hide (yC (yC (yC (uH HB1) _ _ _ (by omega)) _ _ _ (by omega)) _ _ _ (by omega))⟩
   case measure=>simp [intOf];omega
  ·have hkk:k=len:=by omega
   subst hkk
   go_wp2
   go_ret
   exact ⟨rfl,uH HQ,uH HB⟩
end Go.Proofs.YtmkedfdnokmglaaGreat
/-
 The laws' own szApp and szAppS: how much is handed in;walks over the dump.
-/
namespace Go.Proofs.YtmkedfdnokmglaaGreat
open Go.RowKit
set_option linter.unusedVariables false
def ApplBig (q:Appl):Prop:=q.queue.length≤9223372036854775807∧q.asks.length≤9223372036854775807∧∀a ∈ q.asks,a.node.length≤9223372036854775807
def FitAppl1 (q:Appl):Prop:=q.queue.length≤1048576∧FitAsk q.asks
def FitAppl (l:List Appl):Prop:=l.length≤1048576∧∀q ∈ l,FitAppl1 q
set_option maxRecDepth 100000 in
set_option maxHeartbeats 1000000 in
theorem szApp_any (id:Int) (qu:List UInt8) (ao:Option Addr) (len cap:Nat) (l:List Ask) (a:Int) (w:World) (h:AskRow w ao len l) (ha0:0≤a) (ha1:a≤1048576) (hn:ApplBig ⟨id,qu,l⟩) :
  Calls Tryz.prog 117 #[applv id qu ao len cap,.int .i64 a] w fun e w'=>∃r:Int,e=.returned (.int .i64 r)∧(r = -1∨(0≤r∧r≤a∧FitAppl1 ⟨id,qu,l⟩))∧Below w.heap.size w w':=by
 have z1:=bs_size qu
 obtain ⟨hn1,hn2,hn3⟩:=hn
 simp only at hn1 hn2 hn3
 have hlen:len≤9223372036854775807:=by have:=h.1;omega
 have HB0:=hide (yA (yH _ w) (.cells #[.int .i64 id,.string (bs qu),.slice ao len cap] 168))
 have HR:=hide h
 have H3:=hide hn3
 clear h hn3 hn2
 by_cases h1:a - qu.length<0
 ·go_enter Tryz.func117,Tryz.ntmps117
  go_wp2
  go_ret
  exact ⟨-1,rfl,.inl rfl,uH HB0⟩
 ·have C:=hide (szAskS_any ao len cap l (a - qu.length) _ ((uH HR).below (uH HB0)) hlen (uH H3) (by omega) (by omega))
  go_enter Tryz.func117,Tryz.ntmps117
  go_wp2_with fail
  refine (uH C).mono ?_
  rintro e w1 ⟨r,rfl,hr,hb⟩
  have HB1:=hide (yB (uH HB0) hb)
  clear hb C
  rcases hr with rfl | ⟨hr0,hr1,hf⟩
  ·go_wp2
   go_ret
   exact ⟨-1,rfl,.inl rfl,uH HB1⟩
  ·have HF:=hide hf
   clear hf
   go_wp2
   go_ret
   exact ⟨r,rfl,.inr ⟨hr0,by omega,by show qu.length≤1048576;omega,uH HF⟩,uH HB1⟩
set_option maxRecDepth 100000 in
set_option maxHeartbeats 1000000 in
theorem szAppS_any (ao:Option Addr) (len cap:Nat) (l:List Appl) (a0:Int) (w:World) (h:ApplRow w ao len l) (hlen:len≤9223372036854775807) (hm:∀q ∈ l,ApplBig q) (hA0:0≤a0) (hA1:a0≤1048576) :
  Calls Tryz.prog 81 #[.slice ao len cap,.int .i64 a0] w fun e w'=>∃r:Int,e=.returned (.int .i64 r)∧(r = -1∨(0≤r∧r≤a0∧FitAppl l))∧Below w.heap.size w w':=by
 have HR:=hide h
 have HL:=hide h.1
 have HM:=hide hm
 clear h hm
 by_cases hbig:(len:Int)≤a0
 ·have hb1:¬(a0:Int) - len<0:=by omega
  go_enter Tryz.func81,Tryz.ntmps81
  go_wp2
  go_loopw [1,5] (fun s i wr=>∃(k:Nat) (a:Int),k≤len∧i=.int .i64 k∧s=.int .i64 a∧0≤a∧a≤a0∧Hid (∀q ∈ l.take k,FitAppl1 q)∧Hid (Below w.heap.size w wr)) (fun _ i _=>len - (intOf i).toNat)
  case atStart=>exact ⟨0,a0 - len,Nat.zero_le _,rfl,rfl,by omega,by omega,hide (by simp),hide (yH _ _)⟩
  case round=>
   obtain ⟨k,a,hk,rfl,rfl,ha0,ha1,HP,HB⟩:=hrel
   by_cases hlt:k<len
   ·obtain ⟨b,off,rfl,hq⟩:=((uH HR).below (uH HB)).at hlt
    have hkl:k<l.length:=by have:=uH HL;omega
    obtain ⟨xo,xl,xc,c0,c1,c2,hrow,hxc⟩:=hq hkl
    have n1:=uH HM l[k] (yM _)
    have htk:=List.take_succ_eq_append_getElem hkl
    obtain ⟨q,hs⟩:∃q,l[k]=q:=⟨_,rfl⟩
    rw [hs] at c0 c1 n1 htk hrow
    obtain ⟨id,qu,asks⟩:=q
    simp only at c0 c1 hrow
    have HTK:=hide htk
    have C:=hide (szApp_any id qu xo xl xc asks a wr hrow ha0 (by omega) n1)
    clear hq hs hkl htk n1 hrow
    go_wp2_with fail
    refine (uH C).mono ?_
    rintro e w1 ⟨r,rfl,hr,hb⟩
    have HB1:=hide (yB (uH HB) hb)
    clear hb C c0 c1 c2
    rcases hr with rfl | ⟨r0,r1,r2⟩
    ·go_wp2
     go_ret
     exact ⟨-1,rfl,.inl rfl,uH HB1⟩
    ·have HN:=hide (show ∀q ∈ l.take (k+1),FitAppl1 q by
      rw [uH HTK]
      intro x hx
      rcases List.mem_append.1 hx with hx | hx
      ·exact uH HP x hx
      ·rw [List.mem_singleton.1 hx];exact r2)
     clear r2 HP HTK
     go_wp2
     go_roundw
     case rel=>exact ⟨k+1,r,by omega,by go_num,rfl,by omega,by omega,HN,HB1⟩
     case measure=>simp [intOf];omega
   ·have HF:=hide (show FitAppl l from ⟨by have:=uH HL;omega,fun q hq=>uH HP q (by rw [List.take_of_length_le (by have:=uH HL;omega)];exact hq)⟩)
    go_wp2
    go_ret
    exact ⟨a,rfl,.inr ⟨ha0,ha1,uH HF⟩,uH HB⟩
 ·have hb1:(a0:Int) - len<0:=by omega
  go_enter Tryz.func81,Tryz.ntmps81
  go_wp2
  go_ret
  exact ⟨-1,rfl,.inl rfl,yH _ _⟩
end Go.Proofs.YtmkedfdnokmglaaGreat
/-
 The laws' own eqApp and eqAppS,at rows that hold the same;walks over the dump.
-/
namespace Go.Proofs.YtmkedfdnokmglaaGreat
open Go.RowKit
set_option linter.unusedVariables false
set_option maxRecDepth 100000 in
set_option maxHeartbeats 1000000 in
theorem eqApp_same (id:Int) (qu:List UInt8) (ao bo:Option Addr) (len cap ccap:Nat) (l:List Ask) (w:World) (h:AskRow w ao len l) (h':AskRow w bo len l) (hl:len≤1048576) :
  Calls Tryz.prog 127 #[applv id qu ao len cap,applv id qu bo len ccap] w fun e w'=>e=.returned (.bool true)∧Below w.heap.size w w':=by
 have HB0:=hide (yA (yA (yH _ w) (.cells #[.int .i64 id,.string (bs qu),.slice ao len cap] 174)) (.cells #[.int .i64 id,.string (bs qu),.slice bo len ccap] 174))
 have C:=hide (fun wx (hb:Below w.heap.size w wx)=>eqAskS_same ao bo len cap ccap l wx (h.below hb) (h'.below hb) hl)
 clear h h'
 go_enter Tryz.func127,Tryz.ntmps127
 go_wp2_with fail
 refine (uH C _ ?_).mono ?_
 ·first | exact uH HB0 | exact (uH HB0).drew | exact (uH HB0).drew.drew | exact below_dn (uH HB0) _
 rintro e w1 ⟨rfl,hb⟩
 have HB1:=hide (show Below w.heap.size w w1 by first | exact yB (uH HB0) hb | exact yB (uH HB0).drew hb | exact yB (uH HB0).drew.drew hb | exact yB (below_dn (uH HB0) _) hb)
 clear hb C HB0
 go_wp2
 go_ret
 exact ⟨rfl,uH HB1⟩
def ApplTwo (w0:World) (b p c r:Nat) (q:Appl) (ao bo:Option Addr) (len cap ccap:Nat) (w:World):Prop:=ApplAt w b p q ao len cap∧ApplAt w c r q bo len ccap∧Below w0.heap.size w0 w
theorem ApplTwo.call {w0 w w':World} {b p c r:Nat} {q:Appl} {ao bo:Option Addr} {len cap ccap:Nat} (h:ApplTwo w0 b p c r q ao bo len cap ccap w) (hb:Below w.heap.size w w'):ApplTwo w0 b p c r q ao bo len cap ccap w':=⟨h.1.below hb,h.2.1.below hb,yB h.2.2 hb⟩
theorem ApplTwo.drew {w0 w:World} {b p c r:Nat} {q:Appl} {ao bo:Option Addr} {len cap ccap:Nat} (h:ApplTwo w0 b p c r q ao bo len cap ccap w):ApplTwo w0 b p c r q ao bo len cap ccap w.drew:=h.call (yH _ _).drew
theorem ApplTwo.read (w0:World) (b p c r:Nat) (q:Appl) (ao bo:Option Addr) (len cap ccap:Nat):∀wx,ApplTwo w0 b p c r q ao bo len cap ccap wx→wx.cell? ⟨b,p,none⟩=some (.int .i64 q.id)∧wx.cell? ⟨b,p+1,none⟩=some (.string (bs q.queue))∧wx.cell? ⟨b,p+2,none⟩=some (.slice ao len cap)
  ∧wx.cell? ⟨c,r,none⟩=some (.int .i64 q.id)∧wx.cell? ⟨c,r+1,none⟩=some (.string (bs q.queue))∧wx.cell? ⟨c,r+2,none⟩=some (.slice bo len ccap):=
 fun wx h=>⟨h.1.1,h.1.2.1,h.1.2.2.1,h.2.1.1,h.2.1.2.1,h.2.1.2.2.1⟩
set_option maxRecDepth 100000 in
set_option maxHeartbeats 2000000 in
theorem eqAppS_same (ao bo:Option Addr) (len cap ccap:Nat) (l:List Appl) (w:World) (h:ApplRow w ao len l) (h':ApplRow w bo len l) (hl:len≤1048576) (hk:∀q ∈ l,q.asks.length≤1048576) :
  Calls Tryz.prog 98 #[.slice ao len cap,.slice bo len ccap] w fun e w'=>e=.returned (.bool true)∧Below w.heap.size w w':=by
 have HR:=hide h
 have HR':=hide h'
 have HL:=hide h.1
 have HK:=hide hk
 clear h h' hk
 go_enter Tryz.func98,Tryz.ntmps98
 go_wp2
 go_loopw [5] (fun i wr=>∃k:Nat,k≤len∧i=.int .i64 k∧Hid (Below w.heap.size w wr)) (fun i _=>len - (intOf i).toNat)
 case atStart=>exact ⟨0,Nat.zero_le _,rfl,hide (yH _ _)⟩
 case round=>
  obtain ⟨k,hk,rfl,HB⟩:=hrel
  by_cases hlt:k<len
  ·obtain ⟨b,off,rfl,hq⟩:=((uH HR).below (uH HB)).at hlt
   obtain ⟨c,coff,rfl,hq'⟩:=((uH HR').below (uH HB)).at hlt
   have hkl:k<l.length:=by have:=uH HL;omega
   obtain ⟨xo,xl,xc,hx⟩:=hq hkl
   obtain ⟨yo,yl,yc,hy⟩:=hq' hkl
   obtain rfl:xl=yl:=hx.2.2.2.1.1.trans hy.2.2.2.1.1.symm
   have hxl:xl≤1048576:=by have:=uH HK l[k] (yM _);have:=hx.2.2.2.1.1;omega
   have A0:=hide (show ApplTwo w b (off+k*3) c (coff+k*3) l[k] xo yo xl xc yc wr from ⟨hx,hy,uH HB⟩)
   obtain ⟨q,hs⟩:∃q,l[k]=q:=⟨_,rfl⟩
   rw [hs] at A0
   have R:=ApplTwo.read w b (off+k*3) c (coff+k*3) q xo yo xl xc yc
   have k0:(0:Int)≤k:=by omega
   have k1:(k:Int)<len:=by omega
   clear hq hq' hs hkl hx hy
   go_wp2_with fail
   go_region_held3 (fun wx=>ApplTwo w b (off+k*3) c (coff+k*3) q xo yo xl xc yc wx)
    (first | (with_reducible assumption) | exact (uH A0).drew | exact ApplTwo.call (by assumption) (by assumption))
    (first
    | (go_at_call 127;refine (eqApp_same _ _ xo yo xl xc yc q.asks _ ?_ ?_ hxl).mono ?_;(exact (show ApplTwo w b (off+k*3) c (coff+k*3) q xo yo xl xc yc _ by assumption).1.2.2.2.1);(exact (show ApplTwo w b (off+k*3) c (coff+k*3) q xo yo xl xc yc _ by assumption).2.1.2.2.2.1);rintro e wt ⟨rfl,hb⟩;have SA:=ApplTwo.call (w0:=w) (b:=b) (p:=off+k*3) (c:=c) (r:=coff+k*3) (q:=q) (ao:=xo) (bo:=yo) (len:=xl) (cap:=xc) (ccap:=yc) (by assumption) hb))
   have HB2:=hide SA.2.2
   clear SA R A0
   go_wp2
   go_roundw
   case rel=>exact ⟨k+1,by omega,by go_num,HB2⟩
   case measure=>simp [intOf];omega
  ·go_wp2
   go_ret
   exact ⟨rfl,uH HB⟩
end Go.Proofs.YtmkedfdnokmglaaGreat
/-
 States: values,and what stands behind their slices.
-/
namespace Go.Proofs.YtmkedfdnokmglaaGreat
open Go.RowKit
set_option linter.unusedVariables false
structure St where
 qs:List Q
 clock:Int
 epoch:Int
 next:Int
 serial:Int
 apps:List Appl
 ms:List Mac
 cs:List Con
structure Sls where
 qa:Option Addr
 ql:Nat
 qc:Nat
 aa:Option Addr
 al:Nat
 ac:Nat
 ma:Option Addr
 ml:Nat
 mc:Nat
 ca:Option Addr
 cl:Nat
 cc:Nat
abbrev svc (x:Sls) (s:St):Array Value:=#[.slice x.qa x.ql x.qc,.int .i64 s.clock,.int .i64 s.epoch,.int .i64 s.next,.int .i64 s.serial,.slice x.aa x.al x.ac,.slice x.ma x.ml x.mc,.slice x.ca x.cl x.cc]
abbrev sv (x:Sls) (s:St):Value:=.agg (svc x s)
def SRow (w:World) (x:Sls) (s:St):Prop:=QRow w x.qa x.ql s.qs∧ApplRow w x.aa x.al s.apps∧MacRow w x.ma x.ml s.ms∧ConRow w x.ca x.cl s.cs
theorem SRow.below {w w':World} {x:Sls} {s:St} (h:SRow w x s) (hb:Below w.heap.size w w'):SRow w' x s:=⟨h.1.below hb,h.2.1.below hb,h.2.2.1.below hb,h.2.2.2.below hb⟩
def SOwn4 (w:World) (g1 g2 g3 g4 ql al ml cl:Nat) (s:St):Prop:=
 QBlk w 95 g1 ql ql s.qs∧ApplBlk w 174 g2 al al s.apps∧MacBlk w 177 g3 ml ml s.ms∧ConBlk w 74 g4 cl cl s.cs
abbrev own4 (g1 g2 g3 g4 ql al ml cl:Nat):Sls:=⟨some ⟨g1,0,none⟩,ql,ql,some ⟨g2,0,none⟩,al,al,some ⟨g3,0,none⟩,ml,ml,some ⟨g4,0,none⟩,cl,cl⟩
def SLen (x:Sls) (s:St):Prop:=x.ql=s.qs.length∧x.al=s.apps.length∧x.ml=s.ms.length∧x.cl=s.cs.length
theorem SRow.len {w:World} {x:Sls} {s:St} (h:SRow w x s):SLen x s:=⟨h.1.1,h.2.1.1,h.2.2.1.1,h.2.2.2.1⟩
theorem SOwn4.below {w w':World} {g1 g2 g3 g4 ql al ml cl:Nat} {s:St} (h:SOwn4 w g1 g2 g3 g4 ql al ml cl s) (hb:Below w.heap.size w w'):SOwn4 w' g1 g2 g3 g4 ql al ml cl s:=⟨h.1.below hb,h.2.1.below hb,h.2.2.1.below hb,h.2.2.2.below hb⟩
theorem SOwn4.row {w:World} {g1 g2 g3 g4:Nat} {x:Sls} {s:St} (h:SOwn4 w g1 g2 g3 g4 x.ql x.al x.ml x.cl s) (hl:SLen x s):SRow w (own4 g1 g2 g3 g4 x.ql x.al x.ml x.cl) s:=⟨h.1.row hl.1,h.2.1.row hl.2.1,h.2.2.1.row hl.2.2.1,h.2.2.2.row hl.2.2.2⟩
theorem QBlk.other {w:World} {t:TypeId} {g n k:Nat} {l:List Q} (h:QBlk w t g n k l) (b j:Nat) (v:Value) (hn:g≠b):QBlk (w.setCell ⟨b,j,none⟩ v) t g n k l:=by
 obtain ⟨arr,h1,h2⟩:=h
 exact ⟨arr,(heap_setCell_other w ⟨b,j,none⟩ g v hn).trans h1,h2⟩
theorem MacBlk.other {w:World} {t:TypeId} {g n k:Nat} {l:List Mac} (h:MacBlk w t g n k l) (b j:Nat) (v:Value) (hn:g≠b):MacBlk (w.setCell ⟨b,j,none⟩ v) t g n k l:=by
 obtain ⟨arr,h1,h2⟩:=h
 exact ⟨arr,(heap_setCell_other w ⟨b,j,none⟩ g v hn).trans h1,h2⟩
theorem ConBlk.other {w:World} {t:TypeId} {g n k:Nat} {l:List Con} (h:ConBlk w t g n k l) (b j:Nat) (v:Value) (hn:g≠b):ConBlk (w.setCell ⟨b,j,none⟩ v) t g n k l:=by
 obtain ⟨arr,h1,h2⟩:=h
 exact ⟨arr,(heap_setCell_other w ⟨b,j,none⟩ g v hn).trans h1,h2⟩
theorem ApplBlk.other {w:World} {t:TypeId} {g n k:Nat} {l:List Appl} (h:ApplBlk w t g n k l) (b j:Nat) (v:Value) (hn:b<g):ApplBlk (w.setCell ⟨b,j,none⟩ v) t g n k l:=by
 obtain ⟨arr,h1,h2,h3⟩:=h
 refine ⟨arr,(heap_setCell_other w ⟨b,j,none⟩ g v (show g≠b by omega)).trans h1,h2,fun i hi hk=>?_⟩
 obtain ⟨a,c,x,y,z,d,e⟩:=h3 i hi hk
 exact ⟨a,c,x,y,z,d,e.other b j v hn⟩
theorem SOwn4.other {w:World} {g1 g2 g3 g4 ql al ml cl:Nat} {s:St} (h:SOwn4 w g1 g2 g3 g4 ql al ml cl s) (b j:Nat) (v:Value) (h1:b<g1) (h2:b<g2) (h3:b<g3) (h4:b<g4):SOwn4 (w.setCell ⟨b,j,none⟩ v) g1 g2 g3 g4 ql al ml cl s:=
 ⟨h.1.other _ _ _ (by omega),h.2.1.other _ _ _ h2,h.2.2.1.other _ _ _ (by omega),h.2.2.2.other _ _ _ (by omega)⟩
end Go.Proofs.YtmkedfdnokmglaaGreat
/-
 The laws' own szState: how much is handed in;walks over the dump.
-/
namespace Go.Proofs.YtmkedfdnokmglaaGreat
open Go.RowKit
set_option linter.unusedVariables false
def FitSt (s:St):Prop:=FitQ s.qs∧FitAppl s.apps∧FitMac s.ms∧FitCon s.cs
def StBig (x:Sls) (s:St):Prop:=(x.ql≤9223372036854775807∧∀q ∈ s.qs,q.name.length≤9223372036854775807∧q.parent.length≤9223372036854775807)∧(x.al≤9223372036854775807∧∀q ∈ s.apps,ApplBig q)∧(x.ml≤9223372036854775807∧∀q ∈ s.ms,q.name.length≤9223372036854775807)∧(x.cl≤9223372036854775807∧∀q ∈ s.cs,q.node.length≤9223372036854775807)
end Go.Proofs.YtmkedfdnokmglaaGreat
/-
 The laws' own toState: a state made anew;a walk over the dump.
-/
namespace Go.Proofs.YtmkedfdnokmglaaGreat
open Go.RowKit
set_option linter.unusedVariables false
set_option maxRecDepth 100000 in
set_option maxHeartbeats 8000000 in
theorem toState_any (x:Sls) (s:St) (w:World) (h:SRow w x s) (hf:FitSt s) :
  Calls Tryz.prog 57 #[sv x s] w fun e w'=>∃g1 g2 g3 g4,e=.returned (sv (own4 g1 g2 g3 g4 x.ql x.al x.ml x.cl) s)∧SOwn4 w' g1 g2 g3 g4 x.ql x.al x.ml x.cl s∧(w.heap.size<g1∧g1<g2∧g2<g3∧g3<g4)∧Below w.heap.size w w':=by
 have hql:x.ql≤1048576:=by have:=h.1.1;have:=hf.1.1;omega
 have hal:x.al≤1048576:=by have:=h.2.1.1;have:=hf.2.1.1;omega
 have hml:x.ml≤1048576:=by have:=h.2.2.1.1;have:=hf.2.2.1.1;omega
 have hcl:x.cl≤1048576:=by have:=h.2.2.2.1;have:=hf.2.2.2.1;omega
 have hask:∀q ∈ s.apps,q.asks.length≤1048576:=fun q hq=>(hf.2.1.2 q hq).2.1
 obtain ⟨qa,ql,qc,aa,al,ac,ma,ml,mc,ca,cl,cc⟩:=x
 obtain ⟨qs,clock,epoch,next,serial,apps,ms,cs⟩:=s
 obtain ⟨hq,ha,hm,hc⟩:=h
 simp only at hql hal hml hcl hq ha hm hc hask
 have HQ:=hide hq
 have HA:=hide ha
 have HM:=hide hm
 have HC:=hide hc
 have HK:=hide hask
 clear hq ha hm hc hf hask
 have HB0:=hide (yA (yA (yA (yH _ w) (.cells #[.slice qa ql qc,.int .i64 clock,.int .i64 epoch,.int .i64 next,.int .i64 serial,.slice aa al ac,.slice ma ml mc,.slice ca cl cc] 27)) (.cells #[.slice none 0 0,.int .i64 0,.int .i64 0,.int .i64 0,.int .i64 0,.slice none 0 0,.slice none 0 0,.slice none 0 0] 42)) (.cells #[.slice none 0 0,.int .i64 0,.int .i64 0,.int .i64 0,.int .i64 0,.slice none 0 0,.slice none 0 0,.slice none 0 0] 42))
 have P0:=hide (((yD w #[.slice qa ql qc,.int .i64 clock,.int .i64 epoch,.int .i64 next,.int .i64 serial,.slice aa al ac,.slice ma ml mc,.slice ca cl cc] 27).al (.cells #[.slice none 0 0,.int .i64 0,.int .i64 0,.int .i64 0,.int .i64 0,.slice none 0 0,.slice none 0 0,.slice none 0 0] 42)).al (.cells #[.slice none 0 0,.int .i64 0,.int .i64 0,.int .i64 0,.int .i64 0,.slice none 0 0,.slice none 0 0,.slice none 0 0] 42))
 have R0:=hide ((yD (w.alloc (.cells #[.slice qa ql qc,.int .i64 clock,.int .i64 epoch,.int .i64 next,.int .i64 serial,.slice aa al ac,.slice ma ml mc,.slice ca cl cc] 27)) #[.slice none 0 0,.int .i64 0,.int .i64 0,.int .i64 0,.int .i64 0,.slice none 0 0,.slice none 0 0,.slice none 0 0] 42).al (.cells #[.slice none 0 0,.int .i64 0,.int .i64 0,.int .i64 0,.int .i64 0,.slice none 0 0,.slice none 0 0,.slice none 0 0] 42))
 have O0:=hide (yD ((w.alloc (.cells #[.slice qa ql qc,.int .i64 clock,.int .i64 epoch,.int .i64 next,.int .i64 serial,.slice aa al ac,.slice ma ml mc,.slice ca cl cc] 27)).alloc (.cells #[.slice none 0 0,.int .i64 0,.int .i64 0,.int .i64 0,.int .i64 0,.slice none 0 0,.slice none 0 0,.slice none 0 0] 42)) #[.slice none 0 0,.int .i64 0,.int .i64 0,.int .i64 0,.int .i64 0,.slice none 0 0,.slice none 0 0,.slice none 0 0] 42)
 have s3:(((w.alloc (.cells #[.slice qa ql qc,.int .i64 clock,.int .i64 epoch,.int .i64 next,.int .i64 serial,.slice aa al ac,.slice ma ml mc,.slice ca cl cc] 27)).alloc (.cells #[.slice none 0 0,.int .i64 0,.int .i64 0,.int .i64 0,.int .i64 0,.slice none 0 0,.slice none 0 0,.slice none 0 0] 42)).alloc (.cells #[.slice none 0 0,.int .i64 0,.int .i64 0,.int .i64 0,.int .i64 0,.slice none 0 0,.slice none 0 0,.slice none 0 0] 42)).heap.size=w.heap.size+1+1+1:=by simp only [yE]
 have S3:=hide s3
 clear s3
 go_enter Tryz.func57,Tryz.ntmps57
 go_wp2_with fail
 refine (toQueueS_any qa ql qc qs _ ((uH HQ).below (uH HB0)) hql).mono ?_
 rintro e w1 ⟨rfl,hq,hb⟩
 have P1:=hide ((uH P0).below hb)
 have R1:=(uH R0).below hb
 have O1:=(uH O0).below hb
 rw [uH S3] at hq
 simp only [yE] at R1 O1
 have HB1:=hide (yB (uH HB0) hb)
 have Q1:=hide hq
 have z1:=hq.lt
 have R1:=hide R1
 have O1:=hide O1
 clear hb P0 R0 O0 HB0 HQ hq
 have p1:=(uH P1).at 1;have p2:=(uH P1).at 2;have p3:=(uH P1).at 3;have p4:=(uH P1).at 4;have p5:=(uH P1).at 5
 have o0:=(uH O1).at 0;have o1:=(uH O1).at 1;have o2:=(uH O1).at 2;have o3:=(uH O1).at 3;have o4:=(uH O1).at 4
 have of0:=(uH O1).f 0;have of1:=(uH O1).f 1;have of2:=(uH O1).f 2;have of3:=(uH O1).f 3;have of4:=(uH O1).f 4
 simp at p1 p2 p3 p4 p5 o0 o1 o2 o3 o4
 go_wp2_with fail
 refine (toAppS_any aa al ac apps _ ((uH HA).below ?_) hal (uH HK)).mono ?_
 ·repeat (first | exact uH HB1 | refine yC ?_ _ _ _ (by omega))
 clear p1 p2 p3 p4 p5 o0 o1 o2 o3 o4 of0 of1 of2 of3 of4
 rintro e w2 ⟨rfl,hq,hb⟩
 simp only [set_size] at hq
 have HB2:=hide (yB (yC (yC (yC (yC (yC (uH HB1) _ _ _ (show w.heap.size≤w.heap.size+1+1 by omega)) _ _ _ (show w.heap.size≤w.heap.size+1+1 by omega)) _ _ _ (show w.heap.size≤w.heap.size+1+1 by omega)) _ _ _ (show w.heap.size≤w.heap.size+1+1 by omega)) _ _ _ (show w.heap.size≤w.heap.size+1+1 by omega)) hb)
 have P2:=hide ((((((uH P1).other _ _ _ (show w.heap.size≠w.heap.size+1+1 by omega)).other _ _ _ (show w.heap.size≠w.heap.size+1+1 by omega)).other _ _ _ (show w.heap.size≠w.heap.size+1+1 by omega)).other _ _ _ (show w.heap.size≠w.heap.size+1+1 by omega)).other _ _ _ (show w.heap.size≠w.heap.size+1+1 by omega) |>.below hb)
 have R2:=hide ((((((uH R1).other _ _ _ (show w.heap.size+1≠w.heap.size+1+1 by omega)).other _ _ _ (show w.heap.size+1≠w.heap.size+1+1 by omega)).other _ _ _ (show w.heap.size+1≠w.heap.size+1+1 by omega)).other _ _ _ (show w.heap.size+1≠w.heap.size+1+1 by omega)).other _ _ _ (show w.heap.size+1≠w.heap.size+1+1 by omega) |>.below hb)
 have O2:=hide (show Blk w2 (w.heap.size+1+1) #[.slice (some ⟨w.heap.size+1+1+1,0,none⟩) ql ql,.int .i64 clock,.int .i64 epoch,.int .i64 next,.int .i64 serial,.slice none 0 0,.slice none 0 0,.slice none 0 0] 42 from ((((((uH O1).set 0 _).set 1 _).set 2 _).set 3 _).set 4 _).below hb)
 have Q2:=hide (((((((uH Q1).other _ _ _ (show w.heap.size+1+1+1≠w.heap.size+1+1 by omega)).other _ _ _ (show w.heap.size+1+1+1≠w.heap.size+1+1 by omega)).other _ _ _ (show w.heap.size+1+1+1≠w.heap.size+1+1 by omega)).other _ _ _ (show w.heap.size+1+1+1≠w.heap.size+1+1 by omega)).other _ _ _ (show w.heap.size+1+1+1≠w.heap.size+1+1 by omega)).below hb)
 have A2:=hide hq
 have z2:=hq.lt
 have g2z:w.heap.size+1+1+1<w1.heap.size:=z1
 obtain ⟨g2,hg2⟩:∃g,w1.heap.size=g:=⟨_,rfl⟩
 simp only [set_size]
 rw [hg2] at A2 z2 g2z
 rw [hg2]
 clear hb P1 R1 O1 HB1 HA hq z1 hg2 Q1
 have p6:=(uH P2).at 6
 have o5:=(uH O2).at 5
 have of5:=(uH O2).f 5
 simp at p6 o5
 go_wp2_with fail
 refine (toMachineS_any ma ml mc ms _ ((uH HM).below (yC (uH HB2) _ _ _ (show w.heap.size≤w.heap.size+1+1 by omega))) hml).mono ?_
 clear p6 o5 of5
 rintro e w3 ⟨rfl,hq,hb⟩
 simp only [set_size] at hq
 have HB3:=hide (yB (yC (uH HB2) _ _ _ (show w.heap.size≤w.heap.size+1+1 by omega)) hb)
 have P3:=hide (((uH P2).other _ _ _ (show w.heap.size≠w.heap.size+1+1 by omega)).below hb)
 have R3:=hide (((uH R2).other _ _ _ (show w.heap.size+1≠w.heap.size+1+1 by omega)).below hb)
 have O3:=hide (show Blk w3 (w.heap.size+1+1) #[.slice (some ⟨w.heap.size+1+1+1,0,none⟩) ql ql,.int .i64 clock,.int .i64 epoch,.int .i64 next,.int .i64 serial,.slice (some ⟨g2,0,none⟩) al al,.slice none 0 0,.slice none 0 0] 42 from ((uH O2).set 5 _).below hb)
 have Q3:=hide (((uH Q2).other _ _ _ (show w.heap.size+1+1+1≠w.heap.size+1+1 by omega)).below hb)
 have A3:=hide (((uH A2).other _ _ _ (show w.heap.size+1+1<g2 by omega)).below hb)
 have M3:=hide hq
 have z3:=hq.lt
 have g3z:g2<w2.heap.size:=z2
 obtain ⟨g3,hg3⟩:∃g,w2.heap.size=g:=⟨_,rfl⟩
 simp only [set_size]
 rw [hg3] at M3 z3 g3z
 rw [hg3]
 clear hb P2 R2 O2 HB2 HM hq z2 hg3 Q2 A2
 have p7:=(uH P3).at 7
 have o6:=(uH O3).at 6
 have of6:=(uH O3).f 6
 simp at p7 o6
 go_wp2_with fail
 refine (toContS_any ca cl cc cs _ ((uH HC).below (yC (uH HB3) _ _ _ (show w.heap.size≤w.heap.size+1+1 by omega))) hcl).mono ?_
 clear p7 o6 of6
 rintro e w4 ⟨rfl,hq,hb⟩
 simp only [set_size] at hq
 have HB4:=hide (yB (yC (uH HB3) _ _ _ (show w.heap.size≤w.heap.size+1+1 by omega)) hb)
 have R4:=hide (((uH R3).other _ _ _ (show w.heap.size+1≠w.heap.size+1+1 by omega)).below hb)
 have O4:=hide (show Blk w4 (w.heap.size+1+1) #[.slice (some ⟨w.heap.size+1+1+1,0,none⟩) ql ql,.int .i64 clock,.int .i64 epoch,.int .i64 next,.int .i64 serial,.slice (some ⟨g2,0,none⟩) al al,.slice (some ⟨g3,0,none⟩) ml ml,.slice none 0 0] 42 from ((uH O3).set 6 _).below hb)
 have Q4:=hide (((uH Q3).other _ _ _ (show w.heap.size+1+1+1≠w.heap.size+1+1 by omega)).below hb)
 have A4:=hide (((uH A3).other _ _ _ (show w.heap.size+1+1<g2 by omega)).below hb)
 have M4:=hide (((uH M3).other _ _ _ (show g3≠w.heap.size+1+1 by omega)).below hb)
 have g4z:g3<w3.heap.size:=z3
 obtain ⟨g4,hg4⟩:∃g,w3.heap.size=g:=⟨_,rfl⟩
 simp only [set_size]
 rw [hg4] at hq g4z
 rw [hg4]
 have SO:=hide (show SOwn4 w4 (w.heap.size+1+1+1) g2 g3 g4 ql al ml cl ⟨qs,clock,epoch,next,serial,apps,ms,cs⟩ from ⟨uH Q4,uH A4,uH M4,hq⟩)
 clear hb P3 R3 O3 HB3 HC hq z3 hg4 Q3 A3 M3 Q4 A4 M4
 have o7:=(uH O4).at 7
 have of7:=(uH O4).f 7
 simp at o7
 go_upto_region 10 with fail
 have HB5:=hide (yC (uH HB4) (w.heap.size+1+1) 7 (.slice (some ⟨g4,0,none⟩) cl cl) (by omega))
 have SO5:=hide ((uH SO).other (w.heap.size+1+1) 7 (.slice (some ⟨g4,0,none⟩) cl cl) (by omega) (by omega) (by omega) (by omega))
 have R5:=hide ((uH R4).other (w.heap.size+1+1) 7 (.slice (some ⟨g4,0,none⟩) cl cl) (show w.heap.size+1≠w.heap.size+1+1 by omega))
 have O5:=hide (show Blk (w4.setCell ⟨w.heap.size+1+1,7,none⟩ (.slice (some ⟨g4,0,none⟩) cl cl)) (w.heap.size+1+1) #[.slice (some ⟨w.heap.size+1+1+1,0,none⟩) ql ql,.int .i64 clock,.int .i64 epoch,.int .i64 next,.int .i64 serial,.slice (some ⟨g2,0,none⟩) al al,.slice (some ⟨g3,0,none⟩) ml ml,.slice (some ⟨g4,0,none⟩) cl cl] 42 from (uH O4).set 7 _)
 generalize w4.setCell ⟨w.heap.size+1+1,7,none⟩ (.slice (some ⟨g4,0,none⟩) cl cl)=w5 at HB5 SO5 R5 O5 ⊢
 clear o7 of7 HB4 SO R4 O4 HK S3
 obtain ⟨o0,o1,o2,o3,o4,o5,o6,o7⟩:=zq (uH O5)
 obtain ⟨r0,r1,r2,r3,r4,r5,r6,r7⟩:=zq (uH R5)
 have rf0:=(uH R5).f 0;have rf1:=(uH R5).f 1;have rf2:=(uH R5).f 2;have rf3:=(uH R5).f 3;have rf4:=(uH R5).f 4;have rf5:=(uH R5).f 5;have rf6:=(uH R5).f 6;have rf7:=(uH R5).f 7
 clear O5
 go_wp2
 have HB6:=hide (yC (yC (yC (yC (yC (yC (yC (yC (uH HB5) _ 0 (.slice (some ⟨w.heap.size+1+1+1,0,none⟩) ql ql) (show w.heap.size≤w.heap.size+1 by omega)) _ 1 (.int .i64 clock) (show w.heap.size≤w.heap.size+1 by omega)) _ 2 (.int .i64 epoch) (show w.heap.size≤w.heap.size+1 by omega)) _ 3 (.int .i64 next) (show w.heap.size≤w.heap.size+1 by omega)) _ 4 (.int .i64 serial) (show w.heap.size≤w.heap.size+1 by omega)) _ 5 (.slice (some ⟨g2,0,none⟩) al al) (show w.heap.size≤w.heap.size+1 by omega)) _ 6 (.slice (some ⟨g3,0,none⟩) ml ml) (show w.heap.size≤w.heap.size+1 by omega)) _ 7 (.slice (some ⟨g4,0,none⟩) cl cl) (show w.heap.size≤w.heap.size+1 by omega))
 have SO6:=hide (SOwn4.other (SOwn4.other (SOwn4.other (SOwn4.other (SOwn4.other (SOwn4.other (SOwn4.other (SOwn4.other (uH SO5) (w.heap.size+1) 0 (.slice (some ⟨w.heap.size+1+1+1,0,none⟩) ql ql) (by omega) (by omega) (by omega) (by omega)) (w.heap.size+1) 1 (.int .i64 clock) (by omega) (by omega) (by omega) (by omega)) (w.heap.size+1) 2 (.int .i64 epoch) (by omega) (by omega) (by omega) (by omega)) (w.heap.size+1) 3 (.int .i64 next) (by omega) (by omega) (by omega) (by omega)) (w.heap.size+1) 4 (.int .i64 serial) (by omega) (by omega) (by omega) (by omega)) (w.heap.size+1) 5 (.slice (some ⟨g2,0,none⟩) al al) (by omega) (by omega) (by omega) (by omega)) (w.heap.size+1) 6 (.slice (some ⟨g3,0,none⟩) ml ml) (by omega) (by omega) (by omega) (by omega)) (w.heap.size+1) 7 (.slice (some ⟨g4,0,none⟩) cl cl) (by omega) (by omega) (by omega) (by omega))
 have R6:=hide (show Blk ((((((((w5.setCell ⟨w.heap.size+1,0,none⟩ (.slice (some ⟨w.heap.size+1+1+1,0,none⟩) ql ql)).setCell ⟨w.heap.size+1,1,none⟩ (.int .i64 clock)).setCell ⟨w.heap.size+1,2,none⟩ (.int .i64 epoch)).setCell ⟨w.heap.size+1,3,none⟩ (.int .i64 next)).setCell ⟨w.heap.size+1,4,none⟩ (.int .i64 serial)).setCell ⟨w.heap.size+1,5,none⟩ (.slice (some ⟨g2,0,none⟩) al al)).setCell ⟨w.heap.size+1,6,none⟩ (.slice (some ⟨g3,0,none⟩) ml ml)).setCell ⟨w.heap.size+1,7,none⟩ (.slice (some ⟨g4,0,none⟩) cl cl)) (w.heap.size+1) #[.slice (some ⟨w.heap.size+1+1+1,0,none⟩) ql ql,.int .i64 clock,.int .i64 epoch,.int .i64 next,.int .i64 serial,.slice (some ⟨g2,0,none⟩) al al,.slice (some ⟨g3,0,none⟩) ml ml,.slice (some ⟨g4,0,none⟩) cl cl] 42 from (Blk.set (Blk.set (Blk.set (Blk.set (Blk.set (Blk.set (Blk.set (Blk.set (uH R5) 0 (.slice (some ⟨w.heap.size+1+1+1,0,none⟩) ql ql)) 1 (.int .i64 clock)) 2 (.int .i64 epoch)) 3 (.int .i64 next)) 4 (.int .i64 serial)) 5 (.slice (some ⟨g2,0,none⟩) al al)) 6 (.slice (some ⟨g3,0,none⟩) ml ml)) 7 (.slice (some ⟨g4,0,none⟩) cl cl)))
 generalize ((((((((w5.setCell ⟨w.heap.size+1,0,none⟩ (.slice (some ⟨w.heap.size+1+1+1,0,none⟩) ql ql)).setCell ⟨w.heap.size+1,1,none⟩ (.int .i64 clock)).setCell ⟨w.heap.size+1,2,none⟩ (.int .i64 epoch)).setCell ⟨w.heap.size+1,3,none⟩ (.int .i64 next)).setCell ⟨w.heap.size+1,4,none⟩ (.int .i64 serial)).setCell ⟨w.heap.size+1,5,none⟩ (.slice (some ⟨g2,0,none⟩) al al)).setCell ⟨w.heap.size+1,6,none⟩ (.slice (some ⟨g3,0,none⟩) ml ml)).setCell ⟨w.heap.size+1,7,none⟩ (.slice (some ⟨g4,0,none⟩) cl cl))=w6 at HB6 SO6 R6 ⊢
 clear o0 o1 o2 o3 o4 o5 o6 o7 r0 r1 r2 r3 r4 r5 r6 r7 rf0 rf1 rf2 rf3 rf4 rf5 rf6 rf7 HB5 SO5 R5
 obtain ⟨r0,r1,r2,r3,r4,r5,r6,r7⟩:=zq (uH R6)
 refine bodyPost_ret (v:=sv (own4 (w.heap.size+1+1+1) g2 g3 g4 ql al ml cl) ⟨qs,clock,epoch,next,serial,apps,ms,cs⟩) (by simp [results,Tryz.results57,go_sem,r0,r1,r2,r3,r4,r5,r6,r7]) rfl ⟨_,_,_,_,rfl,uH SO6,⟨?_,g2z,g3z,g4z⟩,uH HB6⟩
 omega
end Go.Proofs.YtmkedfdnokmglaaGreat
/-
 The laws' own eqState,at states that hold the same;a walk over the dump.
-/
namespace Go.Proofs.YtmkedfdnokmglaaGreat
open Go.RowKit
set_option linter.unusedVariables false
def EqHeld (w:World) (x y:Sls) (s:St) (wx:World):Prop:=Blk wx w.heap.size (svc x s) 42∧Blk wx (w.heap.size+1) (svc y s) 42∧Below w.heap.size w wx
theorem EqHeld.call {w wx wy:World} {x y:Sls} {s:St} (h:EqHeld w x y s wx) (hb:Below wx.heap.size wx wy):EqHeld w x y s wy:=⟨h.1.below hb,h.2.1.below hb,yB h.2.2 hb⟩
theorem EqHeld.drew {w wx:World} {x y:Sls} {s:St} (h:EqHeld w x y s wx):EqHeld w x y s wx.drew:=h.call (yH _ _).drew
theorem EqHeld.new (w:World) (x y:Sls) (s:St):EqHeld w x y s ((w.alloc (.cells (svc x s) 42)).alloc (.cells (svc y s) 42)):=
 ⟨(yD _ _ _).al _,by have:=yD (w.alloc (.cells (svc x s) 42)) (svc y s) 42;rwa [yE] at this,yA (yA (yH _ _) _) _⟩
theorem EqHeld.read (w:World) (x y:Sls) (s:St):∀wx,EqHeld w x y s wx→(wx.cell? ⟨w.heap.size,0,none⟩=some (.slice x.qa x.ql x.qc)∧wx.cell? ⟨w.heap.size,1,none⟩=some (.int .i64 s.clock)∧wx.cell? ⟨w.heap.size,2,none⟩=some (.int .i64 s.epoch)∧wx.cell? ⟨w.heap.size,3,none⟩=some (.int .i64 s.next)∧wx.cell? ⟨w.heap.size,4,none⟩=some (.int .i64 s.serial)∧wx.cell? ⟨w.heap.size,5,none⟩=some (.slice x.aa x.al x.ac)∧wx.cell? ⟨w.heap.size,6,none⟩=some (.slice x.ma x.ml x.mc)∧wx.cell? ⟨w.heap.size,7,none⟩=some (.slice x.ca x.cl x.cc))
  ∧wx.cell? ⟨w.heap.size+1,0,none⟩=some (.slice y.qa y.ql y.qc)∧wx.cell? ⟨w.heap.size+1,1,none⟩=some (.int .i64 s.clock)∧wx.cell? ⟨w.heap.size+1,2,none⟩=some (.int .i64 s.epoch)∧wx.cell? ⟨w.heap.size+1,3,none⟩=some (.int .i64 s.next)∧wx.cell? ⟨w.heap.size+1,4,none⟩=some (.int .i64 s.serial)∧wx.cell? ⟨w.heap.size+1,5,none⟩=some (.slice y.aa y.al y.ac)∧wx.cell? ⟨w.heap.size+1,6,none⟩=some (.slice y.ma y.ml y.mc)∧wx.cell? ⟨w.heap.size+1,7,none⟩=some (.slice y.ca y.cl y.cc):=
 fun wx h=>⟨⟨h.1.at 0,h.1.at 1,h.1.at 2,h.1.at 3,h.1.at 4,h.1.at 5,h.1.at 6,h.1.at 7⟩,h.2.1.at 0,h.2.1.at 1,h.2.1.at 2,h.2.1.at 3,h.2.1.at 4,h.2.1.at 5,h.2.1.at 6,h.2.1.at 7⟩
set_option maxRecDepth 100000 in
set_option maxHeartbeats 4000000 in
theorem eqState_same (x y:Sls) (s:St) (w:World) (h:SRow w x s) (h':SRow w y s) (hf:FitSt s) :
  Calls Tryz.prog 61 #[sv x s,sv y s] w fun e w'=>e=.returned (.bool true)∧Below w.heap.size w w':=by
 have E0:=hide (EqHeld.new w x y s)
 have RD:=hide (EqHeld.read w x y s)
 obtain ⟨k1,k2,k3,k4⟩:=h.len
 obtain ⟨l1,l2,l3,l4⟩:=h'.len
 obtain ⟨qa,ql,qc,aa,al,ac,ma,ml,mc,ca,cl,cc⟩:=x
 obtain ⟨ra,rl,rc,ba,bl,bc,na,nl,nc,da,dl,dc⟩:=y
 simp only at k1 k2 k3 k4 l1 l2 l3 l4
 obtain rfl:ql=rl:=k1.trans l1.symm
 obtain rfl:al=bl:=k2.trans l2.symm
 obtain rfl:ml=nl:=k3.trans l3.symm
 obtain rfl:cl=dl:=k4.trans l4.symm
 obtain ⟨hq,ha,hm,hc⟩:=h
 obtain ⟨hq',ha',hm',hc'⟩:=h'
 simp only at hq ha hm hc hq' ha' hm' hc'
 have CQ:=hide (fun wx (hb:Below w.heap.size w wx)=>eqQueueS_same qa ra ql qc rc s.qs wx (hq.below hb) (hq'.below hb) (by have:=hf.1.1;omega))
 have CA:=hide (fun wx (hb:Below w.heap.size w wx)=>eqAppS_same aa ba al ac bc s.apps wx (ha.below hb) (ha'.below hb) (by have:=hf.2.1.1;omega) (fun q hq=>(hf.2.1.2 q hq).2.1))
 have CM:=hide (fun wx (hb:Below w.heap.size w wx)=>eqMachineS_same ma na ml mc nc s.ms wx (hm.below hb) (hm'.below hb) (by have:=hf.2.2.1.1;omega))
 have CC:=hide (fun wx (hb:Below w.heap.size w wx)=>eqContS_same ca da cl cc dc s.cs wx (hc.below hb) (hc'.below hb) (by have:=hf.2.2.2.1;omega))
 obtain ⟨qs,clock,epoch,next,serial,apps,ms,cs⟩:=s
 clear hq ha hm hc hq' ha' hm' hc' hf k1 k2 k3 k4 l1 l2 l3 l4
 go_enter Tryz.func61,Tryz.ntmps61
 go_wp2_with fail
 have E1:=hide (uH E0).drew
 refine (uH CQ _ ?_).mono ?_
 ·first | exact (uH E0).2.2 | exact (uH E1).2.2 | exact (uH E1).drew.2.2
 rintro e w1 ⟨rfl,hb⟩
 have E2:=hide (show EqHeld w _ _ _ w1 by first | exact (uH E0).call hb | exact (uH E1).call hb | exact (uH E1).drew.call hb)
 clear hb E0 E1 CQ
 obtain ⟨⟨a0,a1,a2,a3,a4,a5,a6,a7⟩,b0,b1,b2,b3,b4,b5,b6,b7⟩:=uH RD _ (uH E2)
 try simp only at a0 a1 a2 a3 a4 a5 a6 a7 b0 b1 b2 b3 b4 b5 b6 b7
 go_wp2_with fail
 refine (uH CA _ (uH E2).2.2).mono ?_
 rintro e w2 ⟨rfl,hb⟩
 have E3:=hide ((uH E2).call hb)
 clear hb E2 CA a0 a1 a2 a3 a4 a5 a6 a7 b0 b1 b2 b3 b4 b5 b6 b7
 obtain ⟨⟨a0,a1,a2,a3,a4,a5,a6,a7⟩,b0,b1,b2,b3,b4,b5,b6,b7⟩:=uH RD _ (uH E3)
 try simp only at a0 a1 a2 a3 a4 a5 a6 a7 b0 b1 b2 b3 b4 b5 b6 b7
 go_wp2_with fail
 refine (uH CM _ (uH E3).2.2).mono ?_
 rintro e w3 ⟨rfl,hb⟩
 have E4:=hide ((uH E3).call hb)
 clear hb E3 CM a0 a1 a2 a3 a4 a5 a6 a7 b0 b1 b2 b3 b4 b5 b6 b7
 obtain ⟨⟨a0,a1,a2,a3,a4,a5,a6,a7⟩,b0,b1,b2,b3,b4,b5,b6,b7⟩:=uH RD _ (uH E4)
 try simp only at a0 a1 a2 a3 a4 a5 a6 a7 b0 b1 b2 b3 b4 b5 b6 b7
 go_wp2_with fail
 refine (uH CC _ (uH E4).2.2).mono ?_
 rintro e w4 ⟨rfl,hb⟩
 have E5:=hide ((uH E4).call hb)
 clear hb E4 CC a0 a1 a2 a3 a4 a5 a6 a7 b0 b1 b2 b3 b4 b5 b6 b7
 go_wp2
 go_ret
 exact ⟨rfl,(uH E5).2.2⟩
end Go.Proofs.YtmkedfdnokmglaaGreat
/-
 What stands while a law over a state is walked.
-/
namespace Go.Proofs.YtmkedfdnokmglaaGreat
open Go.RowKit
set_option linter.unusedVariables false
def InBox (w:World) (x:Sls) (s:St) (wx:World):Prop:=Blk wx w.heap.size (svc x s) 27∧Below w.heap.size w wx
theorem InBox.new (w:World) (x:Sls) (s:St):InBox w x s (w.alloc (.cells (svc x s) 27)):=⟨yD _ _ _,yA (yH _ _) _⟩
theorem InBox.call {w wx wy:World} {x:Sls} {s:St} (h:InBox w x s wx) (hb:Below wx.heap.size wx wy):InBox w x s wy:=⟨h.1.below hb,yB h.2 hb⟩
theorem InBox.drew {w wx:World} {x:Sls} {s:St} (h:InBox w x s wx):InBox w x s wx.drew:=h.call (yH _ _).drew
theorem InBox.al {w wx:World} {x:Sls} {s:St} (h:InBox w x s wx) (o:Obj):InBox w x s (wx.alloc o):=h.call (yA (yH _ _) o)
theorem InBox.read (w:World) (x:Sls) (s:St):∀wx,InBox w x s wx→wx.cell? ⟨w.heap.size,0,none⟩=some (.slice x.qa x.ql x.qc)∧wx.cell? ⟨w.heap.size,1,none⟩=some (.int .i64 s.clock)∧wx.cell? ⟨w.heap.size,2,none⟩=some (.int .i64 s.epoch)∧wx.cell? ⟨w.heap.size,3,none⟩=some (.int .i64 s.next)∧wx.cell? ⟨w.heap.size,4,none⟩=some (.int .i64 s.serial)∧wx.cell? ⟨w.heap.size,5,none⟩=some (.slice x.aa x.al x.ac)∧wx.cell? ⟨w.heap.size,6,none⟩=some (.slice x.ma x.ml x.mc)∧wx.cell? ⟨w.heap.size,7,none⟩=some (.slice x.ca x.cl x.cc):=
 fun wx h=>⟨h.1.at 0,h.1.at 1,h.1.at 2,h.1.at 3,h.1.at 4,h.1.at 5,h.1.at 6,h.1.at 7⟩
def InTwo (w:World) (x:Sls) (s:St) (g g1 g2 g3 g4:Nat) (wx:World):Prop:=InBox w x s wx∧Blk wx g (svc (own4 g1 g2 g3 g4 x.ql x.al x.ml x.cl) s) 42∧SOwn4 wx g1 g2 g3 g4 x.ql x.al x.ml x.cl s
theorem InTwo.call {w wx wy:World} {x:Sls} {s:St} {g g1 g2 g3 g4:Nat} (h:InTwo w x s g g1 g2 g3 g4 wx) (hb:Below wx.heap.size wx wy):InTwo w x s g g1 g2 g3 g4 wy:=⟨h.1.call hb,h.2.1.below hb,h.2.2.below hb⟩
theorem InTwo.drew {w wx:World} {x:Sls} {s:St} {g g1 g2 g3 g4:Nat} (h:InTwo w x s g g1 g2 g3 g4 wx):InTwo w x s g g1 g2 g3 g4 wx.drew:=h.call (yH _ _).drew
theorem InTwo.al {w wx:World} {x:Sls} {s:St} {g g1 g2 g3 g4:Nat} (h:InTwo w x s g g1 g2 g3 g4 wx) (o:Obj):InTwo w x s g g1 g2 g3 g4 (wx.alloc o):=h.call (yA (yH _ _) o)
theorem InTwo.read (w:World) (x:Sls) (s:St) (g g1 g2 g3 g4:Nat):∀wx,InTwo w x s g g1 g2 g3 g4 wx→(wx.cell? ⟨w.heap.size,0,none⟩=some (.slice x.qa x.ql x.qc)∧wx.cell? ⟨w.heap.size,1,none⟩=some (.int .i64 s.clock)∧wx.cell? ⟨w.heap.size,2,none⟩=some (.int .i64 s.epoch)∧wx.cell? ⟨w.heap.size,3,none⟩=some (.int .i64 s.next)∧wx.cell? ⟨w.heap.size,4,none⟩=some (.int .i64 s.serial)∧wx.cell? ⟨w.heap.size,5,none⟩=some (.slice x.aa x.al x.ac)∧wx.cell? ⟨w.heap.size,6,none⟩=some (.slice x.ma x.ml x.mc)∧wx.cell? ⟨w.heap.size,7,none⟩=some (.slice x.ca x.cl x.cc))
  ∧wx.cell? ⟨g,0,none⟩=some (.slice (some ⟨g1,0,none⟩) x.ql x.ql)∧wx.cell? ⟨g,1,none⟩=some (.int .i64 s.clock)∧wx.cell? ⟨g,2,none⟩=some (.int .i64 s.epoch)∧wx.cell? ⟨g,3,none⟩=some (.int .i64 s.next)∧wx.cell? ⟨g,4,none⟩=some (.int .i64 s.serial)∧wx.cell? ⟨g,5,none⟩=some (.slice (some ⟨g2,0,none⟩) x.al x.al)∧wx.cell? ⟨g,6,none⟩=some (.slice (some ⟨g3,0,none⟩) x.ml x.ml)∧wx.cell? ⟨g,7,none⟩=some (.slice (some ⟨g4,0,none⟩) x.cl x.cl):=
 fun wx h=>⟨InBox.read w x s wx h.1,h.2.1.at 0,h.2.1.at 1,h.2.1.at 2,h.2.1.at 3,h.2.1.at 4,h.2.1.at 5,h.2.1.at 6,h.2.1.at 7⟩
end Go.Proofs.YtmkedfdnokmglaaGreat
/-
 An amount among the cells of what came in.
-/
namespace Go.Proofs.YtmkedfdnokmglaaGreat
open Go.ChangeShapes Go.WideShapes Go.ChangeAt Go.RowKit Go.Deep
set_option linter.unusedVariables false
theorem cells_lr1:Tryz.prog.cellsOf 87=2:=by kernel_rfl
set_option maxRecDepth 100000 in
theorem open_rescells {H:Type} {enc:TypeId×Value→H} {W:World} {base:Nat} {sp:Nat→Bool} {held:Bool} {fuel:Nat} {cs:List Value} {x:DataW H×List MemPlace}
  (h:DataW.trod enc Tryz.prog W base sp held fuel 87 cs=some x) :
  ∃a b:Int,cs=[.int .i64 a,.int .i64 b]∧(Lit.int .i64 a).wf=true∧(Lit.int .i64 b).wf=true:=by
 obtain ⟨xs,n,rfl,rfl,hlen,hxs,hf⟩:=DataW.trod_struct Tryz.underlying87 h
 rw [cells_lr1] at hlen
 have hxs:xs.length=2:=hxs
 match cs,hlen,xs,hxs with
 | [c0,c1],_,[x0,x1],_=>
  have h0:=hf 0 _ rfl
  have h1:=hf 1 _ rfl
  obtain ⟨d,e2,_,b2⟩:=DataW.trod_int Tryz.underlying3 h0
  obtain ⟨m,e3,_,b3⟩:=DataW.trod_int Tryz.underlying3 h1
  simp [cells_qi] at e2 e3
  subst e2 e3
  exact ⟨d,m,rfl,b2,b3⟩
end Go.Proofs.YtmkedfdnokmglaaGreat
/-
 A slice of Ask values that came in: what it holds (mkrow.py wrote this).
-/
namespace Go.Proofs.YtmkedfdnokmglaaGreat
open Go.ChangeShapes Go.WideShapes Go.ChangeAt Go.RowKit Go.Deep
set_option linter.unusedVariables false
theorem cells_lAsk:Tryz.prog.cellsOf 223=5:=by kernel_rfl
def AskFit (q:Ask):Prop:=q.node.length≤9223372036854775807∧(Lit.int .i64 q.mem).wf=true∧(Lit.int .i64 q.cpu).wf=true∧(Lit.int .i64 q.count).wf=true∧(Lit.int .i64 q.missed).wf=true
set_option maxRecDepth 100000 in
theorem open_ask1 {H:Type} {enc:TypeId×Value→H} {W:World} {base:Nat} {sp:Nat→Bool} {held:Bool} {fuel:Nat} {cs:List Value} {x:DataW H×List MemPlace}
  (h:DataW.trod enc Tryz.prog W base sp held fuel 223 cs=some x) :
  ∃q:Ask,cs=[.int .i64 q.mem,.int .i64 q.cpu,.int .i64 q.count,.string (bs q.node),.int .i64 q.missed]∧AskFit q:=by
 obtain ⟨xs,n,rfl,rfl,hlen,hxs,hf⟩:=DataW.trod_struct Tryz.underlying223 h
 rw [cells_lAsk] at hlen
 have hxs:xs.length=4:=hxs
 match cs,hlen,xs,hxs with
 | [c0,c1,c2,c3,c4],_,[x0,x1,x2,x3],_=>
  have h0:=hf 0 _ rfl
  have h1:=hf 1 _ rfl
  have h2:=hf 2 _ rfl
  have h3:=hf 3 _ rfl
  obtain ⟨s0,s1,e0,b0,b1⟩:=open_rescells h0
  obtain ⟨s2,e2,_,b2⟩:=DataW.trod_int Tryz.underlying3 h1
  obtain ⟨s3,e3,_,b3⟩:=DataW.trod_string Tryz.underlying9 h2
  obtain ⟨s4,e4,_,b4⟩:=DataW.trod_int Tryz.underlying3 h3
  simp [cells_qs,cells_qi,cells_lr1] at e0 e2 e3 e4
  obtain ⟨q0,q1⟩:=e0
  subst q0 q1 e2 e3 e4
  refine ⟨⟨s0,s1,s2,s3.data.toList,s4⟩,by simp only [bs_back],?_,b0,b1,b2,b4⟩
  simpa [maxLen] using b3
theorem open_asks {H:Type} {enc:TypeId×Value→H} {W:World} {base:Nat} {held:Bool} {ao:Option Addr} {len cap fuel:Nat} {x:DataW H×List MemPlace}
  (hf:DataW.trod enc Tryz.prog W base (fun _=>true) held fuel 166 [.slice ao len cap]=some x) :
  ∃l:List Ask,AskRow W ao len l∧len≤9223372036854775807∧∀q ∈ l,AskFit q:=by
 rcases open_slice Tryz.underlying166 hf with ⟨hcs,_⟩ | ⟨a,len',cap',m,n,D,Pl,hcs,hb,hl,hm,hmm,hx,hel⟩
 ·simp at hcs
  obtain ⟨rfl,rfl,rfl⟩:=hcs
  exact ⟨[],AskRow.nil _ _,by omega,by simp⟩
 ·simp at hcs
  obtain ⟨rfl,rfl,rfl⟩:=hcs
  simp only [if_true] at hmm
  subst hmm
  rw [cells_lAsk] at hel
  have inh:Inhabited Ask:=⟨⟨0,0,0,[],0⟩⟩
  obtain ⟨F,hF⟩:=choose_lt (α:=Ask) (n:=len) (p:=fun i q=>W.cells? base (a.add (i*5)) 5=some [.int .i64 q.mem,.int .i64 q.cpu,.int .i64 q.count,.string (bs q.node),.int .i64 q.missed]∧AskFit q) (fun i hi=>by
   obtain ⟨cs',h1,h2⟩:=hel i (by omega)
   obtain ⟨q,rfl,h3⟩:=open_ask1 h2
   exact ⟨q,h1,h3⟩)
  refine ⟨(List.range len).map F,?_,by have:maxLen=9223372036854775807:=rfl;omega,?_⟩
  ·refine ⟨by simp,?_⟩
   by_cases h0:len=0
   ·exact .inl h0
   ·right
    obtain ⟨b,off,spot⟩:=a
    have hc0:=(World.cells?_some (hF 0 (by omega)).1).2.2 0 (by omega)
    have hspot:spot=none:=by simpa [Addr.add] using World.cell?_spot hc0
    subst hspot
    refine ⟨b,off,rfl,fun i hi=>?_⟩
    have hi':i<len:=by simpa using hi
    obtain ⟨_,_,hc⟩:=World.cells?_some (hF i hi').1
    rw [Lib.add_plain] at hc
    have k0:=hc 0 (by omega)
    have k1:=hc 1 (by omega)
    have k2:=hc 2 (by omega)
    have k3:=hc 3 (by omega)
    have k4:=hc 4 (by omega)
    rw [Lib.add_plain] at k0 k1 k2 k3 k4
    simp only [List.getElem_map,List.getElem_range]
    exact ⟨k0,k1,k2,k3,k4⟩
  ·intro q hq
   obtain ⟨i,hi,rfl⟩:=List.mem_map.1 hq
   exact (hF i (by simpa using hi)).2
end Go.Proofs.YtmkedfdnokmglaaGreat
/-
 A slice of Machine values that came in: what it holds (mkrow.py wrote this).
-/
namespace Go.Proofs.YtmkedfdnokmglaaGreat
open Go.ChangeShapes Go.WideShapes Go.ChangeAt Go.RowKit Go.Deep
set_option linter.unusedVariables false
theorem cells_lMac:Tryz.prog.cellsOf 171=4:=by kernel_rfl
def MacFit (q:Mac):Prop:=q.name.length≤9223372036854775807∧(Lit.int .i64 q.mem).wf=true∧(Lit.int .i64 q.cpu).wf=true∧(Lit.int .i64 q.seen).wf=true
set_option maxRecDepth 100000 in
theorem open_mac1 {H:Type} {enc:TypeId×Value→H} {W:World} {base:Nat} {sp:Nat→Bool} {held:Bool} {fuel:Nat} {cs:List Value} {x:DataW H×List MemPlace}
  (h:DataW.trod enc Tryz.prog W base sp held fuel 171 cs=some x) :
  ∃q:Mac,cs=[.string (bs q.name),.int .i64 q.mem,.int .i64 q.cpu,.int .i64 q.seen]∧MacFit q:=by
 obtain ⟨xs,n,rfl,rfl,hlen,hxs,hf⟩:=DataW.trod_struct Tryz.underlying171 h
 rw [cells_lMac] at hlen
 have hxs:xs.length=3:=hxs
 match cs,hlen,xs,hxs with
 | [c0,c1,c2,c3],_,[x0,x1,x2],_=>
  have h0:=hf 0 _ rfl
  have h1:=hf 1 _ rfl
  have h2:=hf 2 _ rfl
  obtain ⟨s0,e0,_,b0⟩:=DataW.trod_string Tryz.underlying9 h0
  obtain ⟨s1,s2,e1,b1,b2⟩:=open_rescells h1
  obtain ⟨s3,e3,_,b3⟩:=DataW.trod_int Tryz.underlying3 h2
  simp [cells_qs,cells_qi,cells_lr1] at e0 e1 e3
  obtain ⟨q1,q2⟩:=e1
  subst e0 q1 q2 e3
  refine ⟨⟨s0.data.toList,s1,s2,s3⟩,by simp only [bs_back],?_,b1,b2,b3⟩
  simpa [maxLen] using b0
theorem open_macs {H:Type} {enc:TypeId×Value→H} {W:World} {base:Nat} {held:Bool} {ao:Option Addr} {len cap fuel:Nat} {x:DataW H×List MemPlace}
  (hf:DataW.trod enc Tryz.prog W base (fun _=>true) held fuel 24 [.slice ao len cap]=some x) :
  ∃l:List Mac,MacRow W ao len l∧len≤9223372036854775807∧∀q ∈ l,MacFit q:=by
 rcases open_slice Tryz.underlying24 hf with ⟨hcs,_⟩ | ⟨a,len',cap',m,n,D,Pl,hcs,hb,hl,hm,hmm,hx,hel⟩
 ·simp at hcs
  obtain ⟨rfl,rfl,rfl⟩:=hcs
  exact ⟨[],MacRow.nil _ _,by omega,by simp⟩
 ·simp at hcs
  obtain ⟨rfl,rfl,rfl⟩:=hcs
  simp only [if_true] at hmm
  subst hmm
  rw [cells_lMac] at hel
  have inh:Inhabited Mac:=⟨⟨[],0,0,0⟩⟩
  obtain ⟨F,hF⟩:=choose_lt (α:=Mac) (n:=len) (p:=fun i q=>W.cells? base (a.add (i*4)) 4=some [.string (bs q.name),.int .i64 q.mem,.int .i64 q.cpu,.int .i64 q.seen]∧MacFit q) (fun i hi=>by
   obtain ⟨cs',h1,h2⟩:=hel i (by omega)
   obtain ⟨q,rfl,h3⟩:=open_mac1 h2
   exact ⟨q,h1,h3⟩)
  refine ⟨(List.range len).map F,?_,by have:maxLen=9223372036854775807:=rfl;omega,?_⟩
  ·refine ⟨by simp,?_⟩
   by_cases h0:len=0
   ·exact .inl h0
   ·right
    obtain ⟨b,off,spot⟩:=a
    have hc0:=(World.cells?_some (hF 0 (by omega)).1).2.2 0 (by omega)
    have hspot:spot=none:=by simpa [Addr.add] using World.cell?_spot hc0
    subst hspot
    refine ⟨b,off,rfl,fun i hi=>?_⟩
    have hi':i<len:=by simpa using hi
    obtain ⟨_,_,hc⟩:=World.cells?_some (hF i hi').1
    rw [Lib.add_plain] at hc
    have k0:=hc 0 (by omega)
    have k1:=hc 1 (by omega)
    have k2:=hc 2 (by omega)
    have k3:=hc 3 (by omega)
    rw [Lib.add_plain] at k0 k1 k2 k3
    simp only [List.getElem_map,List.getElem_range]
    exact ⟨k0,k1,k2,k3⟩
  ·intro q hq
   obtain ⟨i,hi,rfl⟩:=List.mem_map.1 hq
   exact (hF i (by simpa using hi)).2
end Go.Proofs.YtmkedfdnokmglaaGreat
/-
 A slice of Cont values that came in: what it holds (mkrow.py wrote this).
-/
namespace Go.Proofs.YtmkedfdnokmglaaGreat
open Go.ChangeShapes Go.WideShapes Go.ChangeAt Go.RowKit Go.Deep
set_option linter.unusedVariables false
theorem cells_lCon:Tryz.prog.cellsOf 156=5:=by kernel_rfl
def ConFit (q:Con):Prop:=q.node.length≤9223372036854775807∧(Lit.int .i64 q.id).wf=true∧(Lit.int .i64 q.app).wf=true∧(Lit.int .i64 q.mem).wf=true∧(Lit.int .i64 q.cpu).wf=true
set_option maxRecDepth 100000 in
theorem open_con1 {H:Type} {enc:TypeId×Value→H} {W:World} {base:Nat} {sp:Nat→Bool} {held:Bool} {fuel:Nat} {cs:List Value} {x:DataW H×List MemPlace}
  (h:DataW.trod enc Tryz.prog W base sp held fuel 156 cs=some x) :
  ∃q:Con,cs=[.int .i64 q.id,.int .i64 q.app,.string (bs q.node),.int .i64 q.mem,.int .i64 q.cpu]∧ConFit q:=by
 obtain ⟨xs,n,rfl,rfl,hlen,hxs,hf⟩:=DataW.trod_struct Tryz.underlying156 h
 rw [cells_lCon] at hlen
 have hxs:xs.length=4:=hxs
 match cs,hlen,xs,hxs with
 | [c0,c1,c2,c3,c4],_,[x0,x1,x2,x3],_=>
  have h0:=hf 0 _ rfl
  have h1:=hf 1 _ rfl
  have h2:=hf 2 _ rfl
  have h3:=hf 3 _ rfl
  obtain ⟨s0,e0,_,b0⟩:=DataW.trod_int Tryz.underlying3 h0
  obtain ⟨s1,e1,_,b1⟩:=DataW.trod_int Tryz.underlying3 h1
  obtain ⟨s2,e2,_,b2⟩:=DataW.trod_string Tryz.underlying9 h2
  obtain ⟨s3,s4,e3,b3,b4⟩:=open_rescells h3
  simp [cells_qs,cells_qi,cells_lr1] at e0 e1 e2 e3
  obtain ⟨q3,q4⟩:=e3
  subst e0 e1 e2 q3 q4
  refine ⟨⟨s0,s1,s2.data.toList,s3,s4⟩,by simp only [bs_back],?_,b0,b1,b3,b4⟩
  simpa [maxLen] using b2
theorem open_cons {H:Type} {enc:TypeId×Value→H} {W:World} {base:Nat} {held:Bool} {ao:Option Addr} {len cap fuel:Nat} {x:DataW H×List MemPlace}
  (hf:DataW.trod enc Tryz.prog W base (fun _=>true) held fuel 25 [.slice ao len cap]=some x) :
  ∃l:List Con,ConRow W ao len l∧len≤9223372036854775807∧∀q ∈ l,ConFit q:=by
 rcases open_slice Tryz.underlying25 hf with ⟨hcs,_⟩ | ⟨a,len',cap',m,n,D,Pl,hcs,hb,hl,hm,hmm,hx,hel⟩
 ·simp at hcs
  obtain ⟨rfl,rfl,rfl⟩:=hcs
  exact ⟨[],ConRow.nil _ _,by omega,by simp⟩
 ·simp at hcs
  obtain ⟨rfl,rfl,rfl⟩:=hcs
  simp only [if_true] at hmm
  subst hmm
  rw [cells_lCon] at hel
  have inh:Inhabited Con:=⟨⟨0,0,[],0,0⟩⟩
  obtain ⟨F,hF⟩:=choose_lt (α:=Con) (n:=len) (p:=fun i q=>W.cells? base (a.add (i*5)) 5=some [.int .i64 q.id,.int .i64 q.app,.string (bs q.node),.int .i64 q.mem,.int .i64 q.cpu]∧ConFit q) (fun i hi=>by
   obtain ⟨cs',h1,h2⟩:=hel i (by omega)
   obtain ⟨q,rfl,h3⟩:=open_con1 h2
   exact ⟨q,h1,h3⟩)
  refine ⟨(List.range len).map F,?_,by have:maxLen=9223372036854775807:=rfl;omega,?_⟩
  ·refine ⟨by simp,?_⟩
   by_cases h0:len=0
   ·exact .inl h0
   ·right
    obtain ⟨b,off,spot⟩:=a
    have hc0:=(World.cells?_some (hF 0 (by omega)).1).2.2 0 (by omega)
    have hspot:spot=none:=by simpa [Addr.add] using World.cell?_spot hc0
    subst hspot
    refine ⟨b,off,rfl,fun i hi=>?_⟩
    have hi':i<len:=by simpa using hi
    obtain ⟨_,_,hc⟩:=World.cells?_some (hF i hi').1
    rw [Lib.add_plain] at hc
    have k0:=hc 0 (by omega)
    have k1:=hc 1 (by omega)
    have k2:=hc 2 (by omega)
    have k3:=hc 3 (by omega)
    have k4:=hc 4 (by omega)
    rw [Lib.add_plain] at k0 k1 k2 k3 k4
    simp only [List.getElem_map,List.getElem_range]
    exact ⟨k0,k1,k2,k3,k4⟩
  ·intro q hq
   obtain ⟨i,hi,rfl⟩:=List.mem_map.1 hq
   exact (hF i (by simpa using hi)).2
end Go.Proofs.YtmkedfdnokmglaaGreat
/-
 A slice of App values that came in: what it holds.
-/
namespace Go.Proofs.YtmkedfdnokmglaaGreat
open Go.ChangeShapes Go.WideShapes Go.ChangeAt Go.RowKit Go.Deep
set_option linter.unusedVariables false
theorem cells_lAppl:Tryz.prog.cellsOf 168=3:=by kernel_rfl
theorem cells_lAskS:Tryz.prog.cellsOf 166=1:=by kernel_rfl
def ApplFit (q:Appl):Prop:=q.queue.length≤9223372036854775807∧(Lit.int .i64 q.id).wf=true∧q.asks.length≤9223372036854775807∧∀a ∈ q.asks,AskFit a
theorem ApplFit.big {q:Appl} (h:ApplFit q):ApplBig q:=⟨h.1,h.2.2.1,fun a ha=>(h.2.2.2 a ha).1⟩
set_option maxRecDepth 100000 in
theorem open_appl1 {H:Type} {enc:TypeId×Value→H} {W:World} {base:Nat} {held:Bool} {fuel:Nat} {cs:List Value} {x:DataW H×List MemPlace}
  (h:DataW.trod enc Tryz.prog W base (fun _=>true) held fuel 168 cs=some x) :
  ∃(q:Appl) (ao:Option Addr) (len cap:Nat),cs=[.int .i64 q.id,.string (bs q.queue),.slice ao len cap]∧AskRow W ao len q.asks∧len≤cap∧ApplFit q:=by
 obtain ⟨xs,n,rfl,rfl,hlen,hxs,hf⟩:=DataW.trod_struct Tryz.underlying168 h
 rw [cells_lAppl] at hlen
 have hxs:xs.length=3:=hxs
 match cs,hlen,xs,hxs with
 | [c0,c1,c2],_,[x0,x1,x2],_=>
  have h0:=hf 0 _ rfl
  have h1:=hf 1 _ rfl
  have h2:=hf 2 _ rfl
  obtain ⟨s0,e0,_,b0⟩:=DataW.trod_int Tryz.underlying3 h0
  obtain ⟨s1,e1,_,b1⟩:=DataW.trod_string Tryz.underlying9 h1
  have h3:=h2
  simp [cells_qs,cells_qi,cells_lAskS] at e0 e1 h3
  rcases open_slice Tryz.underlying166 h3 with ⟨hcs,_⟩ | ⟨a,len',cap',m,n,D,Pl,hcs,hb,hl,hm,hmm,hx,hel⟩
  ·simp at hcs
   subst hcs e0 e1
   exact ⟨⟨s0,s1.data.toList,[]⟩,none,0,0,by simp only [bs_back],AskRow.nil _ _,yJ _,by simpa [maxLen] using b1,b0,by simp,by simp⟩
  ·simp at hcs
   subst hcs e0 e1
   obtain ⟨l,hr,hle,hfit⟩:=open_asks h3
   refine ⟨⟨s0,s1.data.toList,l⟩,some a,len',cap',by simp only [bs_back],hr,hl,by simpa [maxLen] using b1,b0,?_,hfit⟩
   have:=hr.1
   show l.length≤_
   omega
theorem open_appls {H:Type} {enc:TypeId×Value→H} {W:World} {base:Nat} {held:Bool} {ao:Option Addr} {len cap fuel:Nat} {x:DataW H×List MemPlace}
  (hf:DataW.trod enc Tryz.prog W base (fun _=>true) held fuel 23 [.slice ao len cap]=some x) :
  ∃l:List Appl,ApplRow W ao len l∧len≤9223372036854775807∧∀q ∈ l,ApplFit q:=by
 rcases open_slice Tryz.underlying23 hf with ⟨hcs,_⟩ | ⟨a,len',cap',m,n,D,Pl,hcs,hb,hl,hm,hmm,hx,hel⟩
 ·simp at hcs
  obtain ⟨rfl,rfl,rfl⟩:=hcs
  exact ⟨[],ApplRow.nil _ _,by omega,by simp⟩
 ·simp at hcs
  obtain ⟨rfl,rfl,rfl⟩:=hcs
  simp only [if_true] at hmm
  subst hmm
  rw [cells_lAppl] at hel
  have inh:Inhabited Appl:=⟨⟨0,[],[]⟩⟩
  obtain ⟨F,hF⟩:=choose_lt (α:=Appl) (n:=len) (p:=fun i q=>∃(xo:Option Addr) (xl xc:Nat),W.cells? base (a.add (i*3)) 3=some [.int .i64 q.id,.string (bs q.queue),.slice xo xl xc]∧AskRow W xo xl q.asks∧xl≤xc∧ApplFit q) (fun i hi=>by
   obtain ⟨cs',h1,h2⟩:=hel i (by omega)
   obtain ⟨q,xo,xl,xc,rfl,h3⟩:=open_appl1 h2
   exact ⟨q,xo,xl,xc,h1,h3⟩)
  refine ⟨(List.range len).map F,?_,by have:maxLen=9223372036854775807:=rfl;omega,?_⟩
  ·refine ⟨by simp,?_⟩
   by_cases h0:len=0
   ·exact .inl h0
   ·right
    obtain ⟨b,off,spot⟩:=a
    obtain ⟨_,_,_,hF0,_⟩:=hF 0 (by omega)
    have hc0:=(World.cells?_some hF0).2.2 0 (by omega)
    have hspot:spot=none:=by simpa [Addr.add] using World.cell?_spot hc0
    subst hspot
    refine ⟨b,off,rfl,fun i hi=>?_⟩
    have hi':i<len:=by simpa using hi
    obtain ⟨xo,xl,xc,hFi,hrow,hle,_⟩:=hF i hi'
    obtain ⟨_,_,hc⟩:=World.cells?_some hFi
    rw [Lib.add_plain] at hc
    have k0:=hc 0 (by omega)
    have k1:=hc 1 (by omega)
    have k2:=hc 2 (by omega)
    rw [Lib.add_plain] at k0 k1 k2
    simp only [List.getElem_map,List.getElem_range]
    exact ⟨xo,xl,xc,k0,k1,k2,hrow,hle⟩
  ·intro q hq
   obtain ⟨i,hi,rfl⟩:=List.mem_map.1 hq
   obtain ⟨_,_,_,_,_,_,h⟩:=hF i (by simpa using hi)
   exact h
end Go.Proofs.YtmkedfdnokmglaaGreat
/-
 A state that comes in as an argument.
-/
namespace Go.Proofs.YtmkedfdnokmglaaGreat
open Go.ChangeShapes Go.WideShapes Go.ChangeAt Go.RowKit Go.Deep
set_option linter.unusedVariables false
theorem cells_lSt:Tryz.prog.cellsOf 27=8:=by kernel_rfl
theorem cells_lQS:Tryz.prog.cellsOf 22=1:=by kernel_rfl
theorem cells_lAS:Tryz.prog.cellsOf 23=1:=by kernel_rfl
theorem cells_lMS:Tryz.prog.cellsOf 24=1:=by kernel_rfl
theorem cells_lCS:Tryz.prog.cellsOf 25=1:=by kernel_rfl
def StFit (x:Sls) (s:St):Prop:=(x.ql≤9223372036854775807∧∀q ∈ s.qs,QFit q∧(Lit.int .i64 q.due).wf=true∧(Lit.int .i64 q.most).wf=true)∧(x.al≤9223372036854775807∧∀q ∈ s.apps,ApplFit q)∧(x.ml≤9223372036854775807∧∀q ∈ s.ms,MacFit q)∧(x.cl≤9223372036854775807∧∀q ∈ s.cs,ConFit q)∧(Lit.int .i64 s.clock).wf=true∧(Lit.int .i64 s.epoch).wf=true∧(Lit.int .i64 s.next).wf=true∧(Lit.int .i64 s.serial).wf=true
theorem StFit.big {x:Sls} {s:St} (h:StFit x s):StBig x s:=⟨⟨h.1.1,fun q hq=>(h.1.2 q hq).1⟩,⟨h.2.1.1,fun q hq=>(h.2.1.2 q hq).big⟩,⟨h.2.2.1.1,fun q hq=>(h.2.2.1.2 q hq).1⟩,h.2.2.2.1.1,fun q hq=>(h.2.2.2.1.2 q hq).1⟩
theorem slice_cells {H:Type} {enc:TypeId×Value→H} {W:World} {base:Nat} {held:Bool} {t e:TypeId} {fuel:Nat} {c:Value} {x:DataW H×List MemPlace} (hu:Tryz.prog.underlying t=some (.slice e))
  (h:DataW.trod enc Tryz.prog W base (fun _=>true) held fuel t [c]=some x):∃ao len cap,c=.slice ao len cap:=by
 rcases open_slice hu h with ⟨hcs,_⟩ | ⟨a,len',cap',m,n,D,Pl,hcs,_⟩
 ·simp at hcs;exact ⟨_,_,_,hcs⟩
 ·simp at hcs;exact ⟨_,_,_,hcs⟩
end Go.Proofs.YtmkedfdnokmglaaGreat
