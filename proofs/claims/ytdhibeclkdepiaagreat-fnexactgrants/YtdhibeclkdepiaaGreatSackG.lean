/-
  States and what they are made of: values, rows in memory, and what the laws' own helpers do with them (merge.py wrote this out of templates/st).
-/
import Derived.Test.YtdhibeclkdepiaaGreatSackC
import Derived.Deep.CutBlock
import Derived.Deep.CutRange
import Derived.Test.YtdhibeclkdepiaaGreatSackD
set_option maxRecDepth 100000
set_option maxHeartbeats 16000000
set_option linter.unusedVariables false
set_option linter.unusedSimpArgs false
/-
 The laws' own toRes and eqRes,with the world behind them;walks over the dump.
-/
namespace Go.Proofs.YtdhibeclkdepiaaGreat
open Go.RowKit
set_option linter.unusedVariables false
set_option maxRecDepth 100000 in
set_option maxHeartbeats 1000000 in
theorem aAv (a b:Int) (w:World) :
  Calls Tryz.prog 100 #[rv a b] w fun e w'=>e=.returned (rv a b)∧∃o1 o2 o3,w'=((w.alloc o1).alloc o2).alloc o3:=by
 go_enter Tryz.func100,Tryz.ntmps100
 go_wp2
 exact bodyPost_ret (v:=rv a b) (by simp [results,Tryz.results100,go_sem]) rfl ⟨rfl,_,_,_,rfl⟩
set_option maxRecDepth 100000 in
set_option maxHeartbeats 1000000 in
theorem aB5 (a b:Int) (w:World) :
  Calls Tryz.prog 34 #[rv a b,rv a b] w fun e w'=>e=.returned (.bool true)∧∃o1 o2 n,w'=((w.alloc o1).alloc o2).drewN n:=by
 go_enter Tryz.func34,Tryz.ntmps34
 go_wp2
 go_ret
 refine ⟨rfl,?_⟩
 first | exact ⟨_,_,0,rfl⟩ | exact ⟨_,_,1,rfl⟩ | exact ⟨_,_,2,rfl⟩ | exact ⟨_,_,3,rfl⟩ | exact ⟨_,_,4,rfl⟩
end Go.Proofs.YtdhibeclkdepiaaGreat
/-
 Rows of Ask values: in memory,and rows that a call makes and fills one by one (mkrow.py wrote this).
-/
namespace Go.Proofs.YtdhibeclkdepiaaGreat
open Go.RowKit
set_option linter.unusedVariables false
structure Ask where
 mem:Int
 cpu:Int
 count:Int
 node:List UInt8
 missed:Int
abbrev aDU (q:Ask):Value:=.agg #[.int .i64 q.mem,.int .i64 q.cpu,.int .i64 q.count,.string (bs q.node),.int .i64 q.missed]
def pV (w:World) (b p:Nat) (q:Ask):Prop:=
 w.cell? ⟨b,p,none⟩=some (.int .i64 q.mem)∧w.cell? ⟨b,p+1,none⟩=some (.int .i64 q.cpu)∧w.cell? ⟨b,p+2,none⟩=some (.int .i64 q.count)∧w.cell? ⟨b,p+3,none⟩=some (.string (bs q.node))∧w.cell? ⟨b,p+4,none⟩=some (.int .i64 q.missed)
def aO (w:World) (ao:Option Addr) (len:Nat) (l:List Ask):Prop:=
 len=l.length∧(len=0∨∃b off,ao=some ⟨b,off,none⟩∧∀i (h:i<l.length),pV w b (off+i*5) l[i])
theorem pV.lt {w:World} {b p:Nat} {q:Ask} (h:pV w b p q):b<w.heap.size:=yG h.1
theorem pV.below {w w':World} {b p:Nat} {q:Ask} (h:pV w b p q) (hb:Below w.heap.size w w'):pV w' b p q:=
 ⟨(hb.cell h.lt).trans h.1,(hb.cell h.lt).trans h.2.1,(hb.cell h.lt).trans h.2.2.1,(hb.cell h.lt).trans h.2.2.2.1,(hb.cell h.lt).trans h.2.2.2.2⟩
theorem aO.below {w w':World} {ao:Option Addr} {len:Nat} {l:List Ask} (h:aO w ao len l) (hb:Below w.heap.size w w'):aO w' ao len l:=by
 obtain ⟨h1,h2⟩:=h
 refine ⟨h1,?_⟩
 rcases h2 with h2 | ⟨b,off,h3,h4⟩
 ·exact .inl h2
 ·exact .inr ⟨b,off,h3,fun i h=>(h4 i h).below hb⟩
theorem aO.nil (w:World) (ao:Option Addr):aO w ao 0 []:=⟨rfl,.inl rfl⟩
theorem aO.at {w:World} {ao:Option Addr} {len:Nat} {l:List Ask} (h:aO w ao len l) {i:Nat} (hi:i<len):∃b off,ao=some ⟨b,off,none⟩∧∀(h:i<l.length),pV w b (off+i*5) l[i]:=by
 obtain ⟨h1,h2⟩:=h
 rcases h2 with h2 | ⟨b,off,h3,h4⟩
 ·omega
 ·exact ⟨b,off,h3,fun hi=>h4 i hi⟩
def bM (w:World) (t:TypeId) (g n k:Nat) (l:List Ask):Prop:=
 ∃arr:Array Value,w.heap[g]? = some (.cells arr t (0,0))∧arr.size=n*5∧∀i (h:i<l.length),i<k→arr[i*5]? = some (.int .i64 l[i].mem)∧arr[i*5+1]? = some (.int .i64 l[i].cpu)∧arr[i*5+2]? = some (.int .i64 l[i].count)∧arr[i*5+3]? = some (.string (bs l[i].node))∧arr[i*5+4]? = some (.int .i64 l[i].missed)
theorem bM.lt {w:World} {t:TypeId} {g n k:Nat} {l:List Ask} (h:bM w t g n k l):g<w.heap.size:=let ⟨_,h,_⟩:=h;lt_of_block h
theorem bM.below {w w':World} {t:TypeId} {g n k:Nat} {l:List Ask} (h:bM w t g n k l) (hb:Below w.heap.size w w'):bM w' t g n k l:=by
 have hlt:=h.lt
 obtain ⟨arr,h1,h2⟩:=h
 exact ⟨arr,(hb.block g hlt).trans h1,h2⟩
theorem bM.cell {w:World} {t:TypeId} {g n k:Nat} {l:List Ask} (h:bM w t g n k l) {j:Nat} (hj:j<n*5):∃v,w.cell? ⟨g,j,none⟩=some v:=by
 obtain ⟨arr,h1,h2,_⟩:=h
 exact ⟨arr[j]'(by omega),by simp [World.cell?,h1,Array.getElem?_eq_getElem (show j<arr.size by omega)]⟩
theorem bM.frozen {w:World} {t:TypeId} {g n k:Nat} {l:List Ask} (h:bM w t g n k l) (j:Nat):w.frozen? ⟨g,j,none⟩=false:=by
 obtain ⟨arr,h1,h2,_⟩:=h
 simp [World.frozen?,h1]
theorem bM.row {w:World} {t:TypeId} {g n:Nat} {l:List Ask} (h:bM w t g n n l) (hl:n=l.length):aO w (some ⟨g,0,none⟩) n l:=by
 obtain ⟨arr,h1,h2,h3⟩:=h
 refine ⟨hl,.inr ⟨g,0,rfl,fun i hi=>?_⟩⟩
 obtain ⟨a,b,c,d,e⟩:=h3 i hi (by omega)
 unfold pV
 simp only [Nat.zero_add]
 exact ⟨by simp [World.cell?,h1,a],by simp [World.cell?,h1,b],by simp [World.cell?,h1,c],by simp [World.cell?,h1,d],by simp [World.cell?,h1,e]⟩
theorem aE7 (w:World) (t:TypeId) (z:Array Value) (n:Nat) (l:List Ask):bM (w.alloc (.cells (madeCells z (n*5)) t)) t w.heap.size n 0 l:=
 ⟨madeCells z (n*5),by show (w.heap.push _)[w.heap.size]? = _;simp,size_madeCells _ _,fun i _ h=>absurd h (by omega)⟩
def aJr (w:World) (g p:Nat) (q:Ask):World:=(((((w.setCell ⟨g,p,none⟩ (.int .i64 q.mem)).setCell ⟨g,p+1,none⟩ (.int .i64 q.cpu)).setCell ⟨g,p+2,none⟩ (.int .i64 q.count)).setCell ⟨g,p+3,none⟩ (.string (bs q.node))).setCell ⟨g,p+4,none⟩ (.int .i64 q.missed))
theorem bM.step {w:World} {t:TypeId} {g n k:Nat} {l:List Ask} (h:bM w t g n k l) (hk:k<n) (hl:k<l.length):bM (aJr w g (k*5) l[k]) t g n (k+1) l:=by
 obtain ⟨arr,h1,h2,h3⟩:=h
 have e1:=heap_setCell_same w g (k*5) _ _ (.int .i64 l[k].mem) h1
 have e2:=heap_setCell_same _ g (k*5+1) _ _ (.int .i64 l[k].cpu) e1
 have e3:=heap_setCell_same _ g (k*5+2) _ _ (.int .i64 l[k].count) e2
 have e4:=heap_setCell_same _ g (k*5+3) _ _ (.string (bs l[k].node)) e3
 have e5:=heap_setCell_same _ g (k*5+4) _ _ (.int .i64 l[k].missed) e4
 refine ⟨_,e5,by simp [h2],fun i hi hik=>?_⟩
 by_cases e:i=k
 ·subst e
  have q1:i*5+4<arr.size:=by omega
  refine ⟨?_,?_,?_,?_,?_⟩<;>simp [Array.getElem?_setIfInBounds,h2]<;>omega
 ·obtain ⟨a,b,c,d,e⟩:=h3 i hi (by omega)
  refine ⟨?_,?_,?_,?_,?_⟩
  ·rw [←a];simp only [Array.getElem?_setIfInBounds];repeat rw [if_neg (by omega)]
  ·rw [←b];simp only [Array.getElem?_setIfInBounds];repeat rw [if_neg (by omega)]
  ·rw [←c];simp only [Array.getElem?_setIfInBounds];repeat rw [if_neg (by omega)]
  ·rw [←d];simp only [Array.getElem?_setIfInBounds];repeat rw [if_neg (by omega)]
  ·rw [←e];simp only [Array.getElem?_setIfInBounds];repeat rw [if_neg (by omega)]
end Go.Proofs.YtdhibeclkdepiaaGreat
/-
 Rows of Machine values: in memory,and rows that a call makes and fills one by one (mkrow.py wrote this).
-/
namespace Go.Proofs.YtdhibeclkdepiaaGreat
open Go.RowKit
set_option linter.unusedVariables false
structure Mac where
 name:List UInt8
 mem:Int
 cpu:Int
 seen:Int
abbrev aBk (q:Mac):Value:=.agg #[.string (bs q.name),.int .i64 q.mem,.int .i64 q.cpu,.int .i64 q.seen]
def oO (w:World) (b p:Nat) (q:Mac):Prop:=
 w.cell? ⟨b,p,none⟩=some (.string (bs q.name))∧w.cell? ⟨b,p+1,none⟩=some (.int .i64 q.mem)∧w.cell? ⟨b,p+2,none⟩=some (.int .i64 q.cpu)∧w.cell? ⟨b,p+3,none⟩=some (.int .i64 q.seen)
def bE (w:World) (ao:Option Addr) (len:Nat) (l:List Mac):Prop:=
 len=l.length∧(len=0∨∃b off,ao=some ⟨b,off,none⟩∧∀i (h:i<l.length),oO w b (off+i*4) l[i])
theorem oO.lt {w:World} {b p:Nat} {q:Mac} (h:oO w b p q):b<w.heap.size:=yG h.1
theorem oO.below {w w':World} {b p:Nat} {q:Mac} (h:oO w b p q) (hb:Below w.heap.size w w'):oO w' b p q:=
 ⟨(hb.cell h.lt).trans h.1,(hb.cell h.lt).trans h.2.1,(hb.cell h.lt).trans h.2.2.1,(hb.cell h.lt).trans h.2.2.2⟩
theorem bE.below {w w':World} {ao:Option Addr} {len:Nat} {l:List Mac} (h:bE w ao len l) (hb:Below w.heap.size w w'):bE w' ao len l:=by
 obtain ⟨h1,h2⟩:=h
 refine ⟨h1,?_⟩
 rcases h2 with h2 | ⟨b,off,h3,h4⟩
 ·exact .inl h2
 ·exact .inr ⟨b,off,h3,fun i h=>(h4 i h).below hb⟩
theorem bE.nil (w:World) (ao:Option Addr):bE w ao 0 []:=⟨rfl,.inl rfl⟩
theorem bE.at {w:World} {ao:Option Addr} {len:Nat} {l:List Mac} (h:bE w ao len l) {i:Nat} (hi:i<len):∃b off,ao=some ⟨b,off,none⟩∧∀(h:i<l.length),oO w b (off+i*4) l[i]:=by
 obtain ⟨h1,h2⟩:=h
 rcases h2 with h2 | ⟨b,off,h3,h4⟩
 ·omega
 ·exact ⟨b,off,h3,fun hi=>h4 i hi⟩
def bT (w:World) (t:TypeId) (g n k:Nat) (l:List Mac):Prop:=
 ∃arr:Array Value,w.heap[g]? = some (.cells arr t (0,0))∧arr.size=n*4∧∀i (h:i<l.length),i<k→arr[i*4]? = some (.string (bs l[i].name))∧arr[i*4+1]? = some (.int .i64 l[i].mem)∧arr[i*4+2]? = some (.int .i64 l[i].cpu)∧arr[i*4+3]? = some (.int .i64 l[i].seen)
theorem bT.lt {w:World} {t:TypeId} {g n k:Nat} {l:List Mac} (h:bT w t g n k l):g<w.heap.size:=let ⟨_,h,_⟩:=h;lt_of_block h
theorem bT.below {w w':World} {t:TypeId} {g n k:Nat} {l:List Mac} (h:bT w t g n k l) (hb:Below w.heap.size w w'):bT w' t g n k l:=by
 have hlt:=h.lt
 obtain ⟨arr,h1,h2⟩:=h
 exact ⟨arr,(hb.block g hlt).trans h1,h2⟩
theorem bT.cell {w:World} {t:TypeId} {g n k:Nat} {l:List Mac} (h:bT w t g n k l) {j:Nat} (hj:j<n*4):∃v,w.cell? ⟨g,j,none⟩=some v:=by
 obtain ⟨arr,h1,h2,_⟩:=h
 exact ⟨arr[j]'(by omega),by simp [World.cell?,h1,Array.getElem?_eq_getElem (show j<arr.size by omega)]⟩
theorem bT.frozen {w:World} {t:TypeId} {g n k:Nat} {l:List Mac} (h:bT w t g n k l) (j:Nat):w.frozen? ⟨g,j,none⟩=false:=by
 obtain ⟨arr,h1,h2,_⟩:=h
 simp [World.frozen?,h1]
theorem bT.row {w:World} {t:TypeId} {g n:Nat} {l:List Mac} (h:bT w t g n n l) (hl:n=l.length):bE w (some ⟨g,0,none⟩) n l:=by
 obtain ⟨arr,h1,h2,h3⟩:=h
 refine ⟨hl,.inr ⟨g,0,rfl,fun i hi=>?_⟩⟩
 obtain ⟨a,b,c,d⟩:=h3 i hi (by omega)
 unfold oO
 simp only [Nat.zero_add]
 exact ⟨by simp [World.cell?,h1,a],by simp [World.cell?,h1,b],by simp [World.cell?,h1,c],by simp [World.cell?,h1,d]⟩
theorem aDz (w:World) (t:TypeId) (z:Array Value) (n:Nat) (l:List Mac):bT (w.alloc (.cells (madeCells z (n*4)) t)) t w.heap.size n 0 l:=
 ⟨madeCells z (n*4),by show (w.heap.push _)[w.heap.size]? = _;simp,size_madeCells _ _,fun i _ h=>absurd h (by omega)⟩
def aJp (w:World) (g p:Nat) (q:Mac):World:=((((w.setCell ⟨g,p,none⟩ (.string (bs q.name))).setCell ⟨g,p+1,none⟩ (.int .i64 q.mem)).setCell ⟨g,p+2,none⟩ (.int .i64 q.cpu)).setCell ⟨g,p+3,none⟩ (.int .i64 q.seen))
theorem bT.step {w:World} {t:TypeId} {g n k:Nat} {l:List Mac} (h:bT w t g n k l) (hk:k<n) (hl:k<l.length):bT (aJp w g (k*4) l[k]) t g n (k+1) l:=by
 obtain ⟨arr,h1,h2,h3⟩:=h
 have e1:=heap_setCell_same w g (k*4) _ _ (.string (bs l[k].name)) h1
 have e2:=heap_setCell_same _ g (k*4+1) _ _ (.int .i64 l[k].mem) e1
 have e3:=heap_setCell_same _ g (k*4+2) _ _ (.int .i64 l[k].cpu) e2
 have e4:=heap_setCell_same _ g (k*4+3) _ _ (.int .i64 l[k].seen) e3
 refine ⟨_,e4,by simp [h2],fun i hi hik=>?_⟩
 by_cases e:i=k
 ·subst e
  have q1:i*4+3<arr.size:=by omega
  refine ⟨?_,?_,?_,?_⟩<;>simp [Array.getElem?_setIfInBounds,h2]<;>omega
 ·obtain ⟨a,b,c,d⟩:=h3 i hi (by omega)
  refine ⟨?_,?_,?_,?_⟩
  ·rw [←a];simp only [Array.getElem?_setIfInBounds];repeat rw [if_neg (by omega)]
  ·rw [←b];simp only [Array.getElem?_setIfInBounds];repeat rw [if_neg (by omega)]
  ·rw [←c];simp only [Array.getElem?_setIfInBounds];repeat rw [if_neg (by omega)]
  ·rw [←d];simp only [Array.getElem?_setIfInBounds];repeat rw [if_neg (by omega)]
end Go.Proofs.YtdhibeclkdepiaaGreat
/-
 Rows of Cont values: in memory,and rows that a call makes and fills one by one (mkrow.py wrote this).
-/
namespace Go.Proofs.YtdhibeclkdepiaaGreat
open Go.RowKit
set_option linter.unusedVariables false
structure Con where
 id:Int
 app:Int
 node:List UInt8
 mem:Int
 cpu:Int
abbrev conv (q:Con):Value:=.agg #[.int .i64 q.id,.int .i64 q.app,.string (bs q.node),.int .i64 q.mem,.int .i64 q.cpu]
def oP (w:World) (b p:Nat) (q:Con):Prop:=
 w.cell? ⟨b,p,none⟩=some (.int .i64 q.id)∧w.cell? ⟨b,p+1,none⟩=some (.int .i64 q.app)∧w.cell? ⟨b,p+2,none⟩=some (.string (bs q.node))∧w.cell? ⟨b,p+3,none⟩=some (.int .i64 q.mem)∧w.cell? ⟨b,p+4,none⟩=some (.int .i64 q.cpu)
def bC (w:World) (ao:Option Addr) (len:Nat) (l:List Con):Prop:=
 len=l.length∧(len=0∨∃b off,ao=some ⟨b,off,none⟩∧∀i (h:i<l.length),oP w b (off+i*5) l[i])
theorem oP.lt {w:World} {b p:Nat} {q:Con} (h:oP w b p q):b<w.heap.size:=yG h.1
theorem oP.below {w w':World} {b p:Nat} {q:Con} (h:oP w b p q) (hb:Below w.heap.size w w'):oP w' b p q:=
 ⟨(hb.cell h.lt).trans h.1,(hb.cell h.lt).trans h.2.1,(hb.cell h.lt).trans h.2.2.1,(hb.cell h.lt).trans h.2.2.2.1,(hb.cell h.lt).trans h.2.2.2.2⟩
theorem bC.below {w w':World} {ao:Option Addr} {len:Nat} {l:List Con} (h:bC w ao len l) (hb:Below w.heap.size w w'):bC w' ao len l:=by
 obtain ⟨h1,h2⟩:=h
 refine ⟨h1,?_⟩
 rcases h2 with h2 | ⟨b,off,h3,h4⟩
 ·exact .inl h2
 ·exact .inr ⟨b,off,h3,fun i h=>(h4 i h).below hb⟩
theorem bC.nil (w:World) (ao:Option Addr):bC w ao 0 []:=⟨rfl,.inl rfl⟩
theorem bC.at {w:World} {ao:Option Addr} {len:Nat} {l:List Con} (h:bC w ao len l) {i:Nat} (hi:i<len):∃b off,ao=some ⟨b,off,none⟩∧∀(h:i<l.length),oP w b (off+i*5) l[i]:=by
 obtain ⟨h1,h2⟩:=h
 rcases h2 with h2 | ⟨b,off,h3,h4⟩
 ·omega
 ·exact ⟨b,off,h3,fun hi=>h4 i hi⟩
def bU (w:World) (t:TypeId) (g n k:Nat) (l:List Con):Prop:=
 ∃arr:Array Value,w.heap[g]? = some (.cells arr t (0,0))∧arr.size=n*5∧∀i (h:i<l.length),i<k→arr[i*5]? = some (.int .i64 l[i].id)∧arr[i*5+1]? = some (.int .i64 l[i].app)∧arr[i*5+2]? = some (.string (bs l[i].node))∧arr[i*5+3]? = some (.int .i64 l[i].mem)∧arr[i*5+4]? = some (.int .i64 l[i].cpu)
theorem bU.lt {w:World} {t:TypeId} {g n k:Nat} {l:List Con} (h:bU w t g n k l):g<w.heap.size:=let ⟨_,h,_⟩:=h;lt_of_block h
theorem bU.below {w w':World} {t:TypeId} {g n k:Nat} {l:List Con} (h:bU w t g n k l) (hb:Below w.heap.size w w'):bU w' t g n k l:=by
 have hlt:=h.lt
 obtain ⟨arr,h1,h2⟩:=h
 exact ⟨arr,(hb.block g hlt).trans h1,h2⟩
theorem bU.cell {w:World} {t:TypeId} {g n k:Nat} {l:List Con} (h:bU w t g n k l) {j:Nat} (hj:j<n*5):∃v,w.cell? ⟨g,j,none⟩=some v:=by
 obtain ⟨arr,h1,h2,_⟩:=h
 exact ⟨arr[j]'(by omega),by simp [World.cell?,h1,Array.getElem?_eq_getElem (show j<arr.size by omega)]⟩
theorem bU.frozen {w:World} {t:TypeId} {g n k:Nat} {l:List Con} (h:bU w t g n k l) (j:Nat):w.frozen? ⟨g,j,none⟩=false:=by
 obtain ⟨arr,h1,h2,_⟩:=h
 simp [World.frozen?,h1]
theorem bU.row {w:World} {t:TypeId} {g n:Nat} {l:List Con} (h:bU w t g n n l) (hl:n=l.length):bC w (some ⟨g,0,none⟩) n l:=by
 obtain ⟨arr,h1,h2,h3⟩:=h
 refine ⟨hl,.inr ⟨g,0,rfl,fun i hi=>?_⟩⟩
 obtain ⟨a,b,c,d,e⟩:=h3 i hi (by omega)
 unfold oP
 simp only [Nat.zero_add]
 exact ⟨by simp [World.cell?,h1,a],by simp [World.cell?,h1,b],by simp [World.cell?,h1,c],by simp [World.cell?,h1,d],by simp [World.cell?,h1,e]⟩
theorem aEZ (w:World) (t:TypeId) (z:Array Value) (n:Nat) (l:List Con):bU (w.alloc (.cells (madeCells z (n*5)) t)) t w.heap.size n 0 l:=
 ⟨madeCells z (n*5),by show (w.heap.push _)[w.heap.size]? = _;simp,size_madeCells _ _,fun i _ h=>absurd h (by omega)⟩
def aJq (w:World) (g p:Nat) (q:Con):World:=(((((w.setCell ⟨g,p,none⟩ (.int .i64 q.id)).setCell ⟨g,p+1,none⟩ (.int .i64 q.app)).setCell ⟨g,p+2,none⟩ (.string (bs q.node))).setCell ⟨g,p+3,none⟩ (.int .i64 q.mem)).setCell ⟨g,p+4,none⟩ (.int .i64 q.cpu))
theorem bU.step {w:World} {t:TypeId} {g n k:Nat} {l:List Con} (h:bU w t g n k l) (hk:k<n) (hl:k<l.length):bU (aJq w g (k*5) l[k]) t g n (k+1) l:=by
 obtain ⟨arr,h1,h2,h3⟩:=h
 have e1:=heap_setCell_same w g (k*5) _ _ (.int .i64 l[k].id) h1
 have e2:=heap_setCell_same _ g (k*5+1) _ _ (.int .i64 l[k].app) e1
 have e3:=heap_setCell_same _ g (k*5+2) _ _ (.string (bs l[k].node)) e2
 have e4:=heap_setCell_same _ g (k*5+3) _ _ (.int .i64 l[k].mem) e3
 have e5:=heap_setCell_same _ g (k*5+4) _ _ (.int .i64 l[k].cpu) e4
 refine ⟨_,e5,by simp [h2],fun i hi hik=>?_⟩
 by_cases e:i=k
 ·subst e
  have q1:i*5+4<arr.size:=by omega
  refine ⟨?_,?_,?_,?_,?_⟩<;>simp [Array.getElem?_setIfInBounds,h2]<;>omega
 ·obtain ⟨a,b,c,d,e⟩:=h3 i hi (by omega)
  refine ⟨?_,?_,?_,?_,?_⟩
  ·rw [←a];simp only [Array.getElem?_setIfInBounds];repeat rw [if_neg (by omega)]
  ·rw [←b];simp only [Array.getElem?_setIfInBounds];repeat rw [if_neg (by omega)]
  ·rw [←c];simp only [Array.getElem?_setIfInBounds];repeat rw [if_neg (by omega)]
  ·rw [←d];simp only [Array.getElem?_setIfInBounds];repeat rw [if_neg (by omega)]
  ·rw [←e];simp only [Array.getElem?_setIfInBounds];repeat rw [if_neg (by omega)]
end Go.Proofs.YtdhibeclkdepiaaGreat
/-
 Rows of App values: in memory,each with its asks,and rows that a call makes and fills one by one.
-/
namespace Go.Proofs.YtdhibeclkdepiaaGreat
open Go.RowKit
set_option linter.unusedVariables false
structure bY where
 id:Int
 queue:List UInt8
 asks:List Ask
abbrev yO (id:Int) (queue:List UInt8) (ao:Option Addr) (len cap:Nat):Value:=.agg #[.int .i64 id,.string (bs queue),.slice ao len cap]
theorem aO.other {w:World} {ao:Option Addr} {len:Nat} {l:List Ask} (h:aO w ao len l) (g j:Nat) (v:Value) (hg:∀b off,ao=some ⟨b,off,none⟩→b≠g):aO (w.setCell ⟨g,j,none⟩ v) ao len l:=by
 obtain ⟨h1,h2⟩:=h
 refine ⟨h1,?_⟩
 rcases h2 with h2 | ⟨b,off,h3,h4⟩
 ·exact .inl h2
 ·have hn:=hg b off h3
  have hc:∀p,(w.setCell ⟨g,j,none⟩ v).cell? ⟨b,p,none⟩=w.cell? ⟨b,p,none⟩:=fun p=>by
   unfold World.cell?;rw [heap_setCell_other w ⟨g,j,none⟩ b v hn]
  refine .inr ⟨b,off,h3,fun i h=>?_⟩
  obtain ⟨a,b,c,d,e⟩:=h4 i h
  exact ⟨by rw [hc];exact a,by rw [hc];exact b,by rw [hc];exact c,by rw [hc];exact d,by rw [hc];exact e⟩
def pI (w:World) (b p:Nat) (q:bY) (ao:Option Addr) (len cap:Nat):Prop:=
 w.cell? ⟨b,p,none⟩=some (.int .i64 q.id)∧w.cell? ⟨b,p+1,none⟩=some (.string (bs q.queue))∧w.cell? ⟨b,p+2,none⟩=some (.slice ao len cap)∧aO w ao len q.asks∧len≤cap
def eO (w:World) (ao:Option Addr) (len:Nat) (l:List bY):Prop:=
 len=l.length∧(len=0∨∃b off,ao=some ⟨b,off,none⟩∧∀i (h:i<l.length),∃ao len cap,pI w b (off+i*3) l[i] ao len cap)
theorem pI.lt {w:World} {b p:Nat} {q:bY} {ao:Option Addr} {len cap:Nat} (h:pI w b p q ao len cap):b<w.heap.size:=yG h.1
theorem pI.below {w w':World} {b p:Nat} {q:bY} {ao:Option Addr} {len cap:Nat} (h:pI w b p q ao len cap) (hb:Below w.heap.size w w'):pI w' b p q ao len cap:=
 ⟨(hb.cell h.lt).trans h.1,(hb.cell h.lt).trans h.2.1,(hb.cell h.lt).trans h.2.2.1,h.2.2.2.1.below hb,h.2.2.2.2⟩
theorem eO.below {w w':World} {ao:Option Addr} {len:Nat} {l:List bY} (h:eO w ao len l) (hb:Below w.heap.size w w'):eO w' ao len l:=by
 obtain ⟨h1,h2⟩:=h
 refine ⟨h1,?_⟩
 rcases h2 with h2 | ⟨b,off,h3,h4⟩
 ·exact .inl h2
 ·exact .inr ⟨b,off,h3,fun i h=>let ⟨x,y,z,hh⟩:=h4 i h;⟨x,y,z,hh.below hb⟩⟩
theorem eO.nil (w:World) (ao:Option Addr):eO w ao 0 []:=⟨rfl,.inl rfl⟩
theorem eO.at {w:World} {ao:Option Addr} {len:Nat} {l:List bY} (h:eO w ao len l) {i:Nat} (hi:i<len):∃b off,ao=some ⟨b,off,none⟩∧∀(h:i<l.length),∃ao len cap,pI w b (off+i*3) l[i] ao len cap:=by
 obtain ⟨h1,h2⟩:=h
 rcases h2 with h2 | ⟨b,off,h3,h4⟩
 ·omega
 ·exact ⟨b,off,h3,fun hi=>h4 i hi⟩
def kM (w:World) (g:Nat) (ao:Option Addr) (len cap:Nat) (l:List Ask):Prop:=aO w ao len l∧len≤cap∧(∀b off,ao=some ⟨b,off,none⟩→g<b)∧∃b,ao=some ⟨b,0,none⟩∧cap=len∧bM w 77 b len 0 []
theorem bM.other {w:World} {t:TypeId} {g n k:Nat} {l:List Ask} (h:bM w t g n k l) (b j:Nat) (v:Value) (hn:g≠b):bM (w.setCell ⟨b,j,none⟩ v) t g n k l:=by
 obtain ⟨arr,h1,h2⟩:=h
 exact ⟨arr,(heap_setCell_other w ⟨b,j,none⟩ g v hn).trans h1,h2⟩
theorem bM.any {w:World} {t:TypeId} {g n k:Nat} {l:List Ask} (h:bM w t g n k l):bM w t g n 0 []:=by
 obtain ⟨arr,h1,h2,_⟩:=h
 exact ⟨arr,h1,h2,fun i hi=>absurd hi (by simp)⟩
theorem kM.below {w w':World} {g:Nat} {ao:Option Addr} {len cap:Nat} {l:List Ask} (h:kM w g ao len cap l) (hb:Below w.heap.size w w'):kM w' g ao len cap l:=⟨h.1.below hb,h.2.1,h.2.2.1,let ⟨b,e,c,d⟩:=h.2.2.2;⟨b,e,c,d.below hb⟩⟩
def bS (w:World) (t:TypeId) (g n k:Nat) (l:List bY):Prop:=
 ∃arr:Array Value,w.heap[g]? = some (.cells arr t (0,0))∧arr.size=n*3∧∀i (h:i<l.length),i<k→arr[i*3]? = some (.int .i64 l[i].id)∧arr[i*3+1]? = some (.string (bs l[i].queue))∧∃ao len cap,arr[i*3+2]? = some (.slice ao len cap)∧kM w g ao len cap l[i].asks
theorem bS.lt {w:World} {t:TypeId} {g n k:Nat} {l:List bY} (h:bS w t g n k l):g<w.heap.size:=let ⟨_,h,_⟩:=h;lt_of_block h
theorem bS.below {w w':World} {t:TypeId} {g n k:Nat} {l:List bY} (h:bS w t g n k l) (hb:Below w.heap.size w w'):bS w' t g n k l:=by
 have hlt:=h.lt
 obtain ⟨arr,h1,h2,h3⟩:=h
 exact ⟨arr,(hb.block g hlt).trans h1,h2,fun i h hk=>let ⟨a,b,x,y,z,c,d⟩:=h3 i h hk;⟨a,b,x,y,z,c,d.below hb⟩⟩
theorem bS.cell {w:World} {t:TypeId} {g n k:Nat} {l:List bY} (h:bS w t g n k l) {j:Nat} (hj:j<n*3):∃v,w.cell? ⟨g,j,none⟩=some v:=by
 obtain ⟨arr,h1,h2,_⟩:=h
 exact ⟨arr[j]'(by omega),by simp [World.cell?,h1,Array.getElem?_eq_getElem (show j<arr.size by omega)]⟩
theorem bS.frozen {w:World} {t:TypeId} {g n k:Nat} {l:List bY} (h:bS w t g n k l) (j:Nat):w.frozen? ⟨g,j,none⟩=false:=by
 obtain ⟨arr,h1,h2,_⟩:=h
 simp [World.frozen?,h1]
theorem bS.row {w:World} {t:TypeId} {g n:Nat} {l:List bY} (h:bS w t g n n l) (hl:n=l.length):eO w (some ⟨g,0,none⟩) n l:=by
 obtain ⟨arr,h1,h2,h3⟩:=h
 refine ⟨hl,.inr ⟨g,0,rfl,fun i hi=>?_⟩⟩
 obtain ⟨a,b,x,y,z,c,d⟩:=h3 i hi (by omega)
 refine ⟨x,y,z,?_⟩
 unfold pI
 simp only [Nat.zero_add]
 exact ⟨by simp [World.cell?,h1,a],by simp [World.cell?,h1,b],by simp [World.cell?,h1,c],d.1,d.2.1⟩
theorem aDP (w:World) (t:TypeId) (z:Array Value) (n:Nat) (l:List bY):bS (w.alloc (.cells (madeCells z (n*3)) t)) t w.heap.size n 0 l:=
 ⟨madeCells z (n*3),by show (w.heap.push _)[w.heap.size]? = _;simp,size_madeCells _ _,fun i _ h=>absurd h (by omega)⟩
def aDh (w:World) (g p:Nat) (id:Int) (qu:List UInt8) (ao:Option Addr) (len cap:Nat):World:=((w.setCell ⟨g,p,none⟩ (.int .i64 id)).setCell ⟨g,p+1,none⟩ (.string (bs qu))).setCell ⟨g,p+2,none⟩ (.slice ao len cap)
theorem kM.put {w:World} {g:Nat} {ao:Option Addr} {len cap:Nat} {l:List Ask} (h:kM w g ao len cap l) (j:Nat) (v:Value):kM (w.setCell ⟨g,j,none⟩ v) g ao len cap l:=
 ⟨h.1.other g j v (fun b off e=>by have:=h.2.2.1 b off e;omega),h.2.1,h.2.2.1,let ⟨b,e,c,d⟩:=h.2.2.2;⟨b,e,c,d.other g j v (by have:=h.2.2.1 b 0 e;omega)⟩⟩
theorem kM.other {w:World} {g:Nat} {ao:Option Addr} {len cap:Nat} {l:List Ask} (h:kM w g ao len cap l) (k j:Nat) (v:Value) (hk:k<g):kM (w.setCell ⟨k,j,none⟩ v) g ao len cap l:=
 ⟨h.1.other k j v (fun b off e=>by have:=h.2.2.1 b off e;omega),h.2.1,h.2.2.1,let ⟨b,e,c,d⟩:=h.2.2.2;⟨b,e,c,d.other k j v (by have:=h.2.2.1 b 0 e;omega)⟩⟩
theorem bS.step {w:World} {t:TypeId} {g n k:Nat} {l:List bY} (h:bS w t g n k l) (hk:k<n) (hl:k<l.length) (AO:Option Addr) (LEN CAP:Nat) (ho:kM w g AO LEN CAP l[k].asks):bS (aDh w g (k*3) l[k].id l[k].queue AO LEN CAP) t g n (k+1) l:=by
 obtain ⟨arr,h1,h2,h3⟩:=h
 have e1:=heap_setCell_same w g (k*3) _ _ (.int .i64 l[k].id) h1
 have e2:=heap_setCell_same _ g (k*3+1) _ _ (.string (bs l[k].queue)) e1
 have e3:=heap_setCell_same _ g (k*3+2) _ _ (.slice AO LEN CAP) e2
 have hput:∀{ao len cap l'},kM w g ao len cap l'→kM (aDh w g (k*3) l[k].id l[k].queue AO LEN CAP) g ao len cap l':=fun h=>((h.put _ _).put _ _).put _ _
 refine ⟨_,e3,by simp [h2],fun i hi hik=>?_⟩
 by_cases e:i=k
 ·subst e
  have q1:i*3+2<arr.size:=by omega
  refine ⟨?_,?_,AO,LEN,CAP,?_,hput ho⟩<;>simp [Array.getElem?_setIfInBounds,h2]<;>omega
 ·obtain ⟨a,b,x,y,z,c,d⟩:=h3 i hi (by omega)
  refine ⟨?_,?_,x,y,z,?_,hput d⟩
  ·rw [←a];simp only [Array.getElem?_setIfInBounds];repeat rw [if_neg (by omega)]
  ·rw [←b];simp only [Array.getElem?_setIfInBounds];repeat rw [if_neg (by omega)]
  ·rw [←c];simp only [Array.getElem?_setIfInBounds];repeat rw [if_neg (by omega)]
end Go.Proofs.YtdhibeclkdepiaaGreat
/-
 The laws' own toAsk;a aBn over the dump.
-/
namespace Go.Proofs.YtdhibeclkdepiaaGreat
open Go.RowKit
set_option linter.unusedVariables false
set_option maxRecDepth 100000 in
set_option maxHeartbeats 1000000 in
theorem aGp (q:Ask) (w:World) :
  Calls Tryz.prog 133 #[aDU q] w fun e w'=>e=.returned (aDU q)∧Below w.heap.size w w':=by
 obtain ⟨x0,x1,x2,x3,x4⟩:=q
 go_enter Tryz.func133,Tryz.ntmps133
 go_wp2_with fail
 refine (aAv _ _ _).mono ?_
 rintro e w1 ⟨rfl,o1,o2,o3,rfl⟩
 go_wp2
 refine bodyPost_ret (v:=aDU ⟨x0,x1,x2,x3,x4⟩) (by simp [results,Tryz.results133,go_sem]) rfl ⟨rfl,?_⟩
 repeat (first | exact yH _ _ | refine yA ?_ _ | refine Below.drew ?_ | refine yC ?_ _ _ _ (by omega))
end Go.Proofs.YtdhibeclkdepiaaGreat
/-
 The laws' own toMachine;a aBn over the dump.
-/
namespace Go.Proofs.YtdhibeclkdepiaaGreat
open Go.RowKit
set_option linter.unusedVariables false
set_option maxRecDepth 100000 in
set_option maxHeartbeats 1000000 in
theorem aAw (q:Mac) (w:World) :
  Calls Tryz.prog 61 #[aBk q] w fun e w'=>e=.returned (aBk q)∧Below w.heap.size w w':=by
 obtain ⟨x0,x1,x2,x3⟩:=q
 go_enter Tryz.func61,Tryz.ntmps61
 go_wp2_with fail
 refine (aAv _ _ _).mono ?_
 rintro e w1 ⟨rfl,o1,o2,o3,rfl⟩
 go_wp2
 refine bodyPost_ret (v:=aBk ⟨x0,x1,x2,x3⟩) (by simp [results,Tryz.results61,go_sem]) rfl ⟨rfl,?_⟩
 repeat (first | exact yH _ _ | refine yA ?_ _ | refine Below.drew ?_ | refine yC ?_ _ _ _ (by omega))
end Go.Proofs.YtdhibeclkdepiaaGreat
/-
 The laws' own toCont;a aBn over the dump.
-/
namespace Go.Proofs.YtdhibeclkdepiaaGreat
open Go.RowKit
set_option linter.unusedVariables false
set_option maxRecDepth 100000 in
set_option maxHeartbeats 1000000 in
theorem aFZ (q:Con) (w:World) :
  Calls Tryz.prog 62 #[conv q] w fun e w'=>e=.returned (conv q)∧Below w.heap.size w w':=by
 obtain ⟨x0,x1,x2,x3,x4⟩:=q
 go_enter Tryz.func62,Tryz.ntmps62
 go_wp2_with fail
 refine (aAv _ _ _).mono ?_
 rintro e w1 ⟨rfl,o1,o2,o3,rfl⟩
 go_wp2
 refine bodyPost_ret (v:=conv ⟨x0,x1,x2,x3,x4⟩) (by simp [results,Tryz.results62,go_sem]) rfl ⟨rfl,?_⟩
 repeat (first | exact yH _ _ | refine yA ?_ _ | refine Below.drew ?_ | refine yC ?_ _ _ _ (by omega))
end Go.Proofs.YtdhibeclkdepiaaGreat
/-
 The laws' own eqAsk,at the same;a aBn over the dump.
-/
namespace Go.Proofs.YtdhibeclkdepiaaGreat
open Go.RowKit
set_option linter.unusedVariables false
set_option maxRecDepth 100000 in
set_option maxHeartbeats 1000000 in
theorem aGT (q:Ask) (w:World) :
  Calls Tryz.prog 140 #[aDU q,aDU q] w fun e w'=>e=.returned (.bool true)∧Below w.heap.size w w':=by
 obtain ⟨x0,x1,x2,x3,x4⟩:=q
 go_enter Tryz.func140,Tryz.ntmps140
 go_wp2_with fail
 refine (aB5 _ _ _).mono ?_
 rintro e w1 ⟨rfl,o1,o2,n,rfl⟩
 go_wp2
 go_ret
 refine ⟨rfl,?_⟩
 repeat (first | exact yH _ _ | refine yA ?_ _ | refine Below.drew ?_ | refine jR ?_ _ | refine yC ?_ _ _ _ (by omega))
end Go.Proofs.YtdhibeclkdepiaaGreat
/-
 The laws' own eqMachine,at the same;a aBn over the dump.
-/
namespace Go.Proofs.YtdhibeclkdepiaaGreat
open Go.RowKit
set_option linter.unusedVariables false
set_option maxRecDepth 100000 in
set_option maxHeartbeats 1000000 in
theorem zV (q:Mac) (w:World) :
  Calls Tryz.prog 76 #[aBk q,aBk q] w fun e w'=>e=.returned (.bool true)∧Below w.heap.size w w':=by
 obtain ⟨x0,x1,x2,x3⟩:=q
 go_enter Tryz.func76,Tryz.ntmps76
 go_wp2_with fail
 refine (aB5 _ _ _).mono ?_
 rintro e w1 ⟨rfl,o1,o2,n,rfl⟩
 go_wp2
 go_ret
 refine ⟨rfl,?_⟩
 repeat (first | exact yH _ _ | refine yA ?_ _ | refine Below.drew ?_ | refine jR ?_ _ | refine yC ?_ _ _ _ (by omega))
end Go.Proofs.YtdhibeclkdepiaaGreat
/-
 The laws' own eqCont,at the same;a aBn over the dump.
-/
namespace Go.Proofs.YtdhibeclkdepiaaGreat
open Go.RowKit
set_option linter.unusedVariables false
set_option maxRecDepth 100000 in
set_option maxHeartbeats 1000000 in
theorem aES (q:Con) (w:World) :
  Calls Tryz.prog 10 #[conv q,conv q] w fun e w'=>e=.returned (.bool true)∧Below w.heap.size w w':=by
 obtain ⟨x0,x1,x2,x3,x4⟩:=q
 go_enter Tryz.func10,Tryz.ntmps10
 go_wp2_with fail
 refine (aB5 _ _ _).mono ?_
 rintro e w1 ⟨rfl,o1,o2,n,rfl⟩
 go_wp2
 go_ret
 refine ⟨rfl,?_⟩
 repeat (first | exact yH _ _ | refine yA ?_ _ | refine Below.drew ?_ | refine jR ?_ _ | refine yC ?_ _ _ _ (by omega))
end Go.Proofs.YtdhibeclkdepiaaGreat
/-
 The laws' own toAskS: rows of Ask values made anew;walks over the dump (mkrow.py wrote this).
-/
namespace Go.Proofs.YtdhibeclkdepiaaGreat
open Go.RowKit
set_option linter.unusedVariables false
theorem aKe:(Tryz.prog.info? 77).map (fun i=>(i.zero,i.size,i.bytes))=some (some (aDU ⟨0,0,0,[],0⟩),5,48):=by kernel_rfl
theorem aHd (n:Nat) (hn:n≤1048576) (w:World) :
  (Instr.makeSlice 72 (.int .i64 (n:Int)) (.int .i64 (n:Int))).run Tryz.prog w=.ok (.slice (some ⟨w.heap.size,0,none⟩) n n) (w.alloc (.cells (madeCells (aDU ⟨0,0,0,[],0⟩).cells (n*5)) 77)):=by
 obtain ⟨i,hi,hz⟩:=Option.map_eq_some_iff.1 aKe
 simp only [Prod.mk.injEq] at hz
 obtain ⟨hz,hs,hb⟩:=hz
 have hr:=run_make (P:=Tryz.prog) w 72 77 i _ Tryz.underlying72 hi hz .i64 .i64 n n (by omega) (Int.le_refl _) (by rw [hb];omega) (by omega)
 simp only [Int.toNat_natCast,hs] at hr
 exact hr
set_option maxRecDepth 100000 in
set_option maxHeartbeats 1000000 in
theorem aF0 (ao:Option Addr) (len cap:Nat) (l:List Ask) (w:World) (h:aO w ao len l) (hl:len≤1048576) :
  Calls Tryz.prog 99 #[.slice ao len cap] w fun e w'=>e=.returned (.slice (some ⟨w.heap.size,0,none⟩) len len)∧bM w' 77 w.heap.size len len l∧Below w.heap.size w w':=by
 have HR:=aA h
 have HL:=aA h.1
 have hmk:=aHd len hl w
 obtain ⟨zs,hzs⟩:∃z,z=(aDU ⟨0,0,0,[],0⟩).cells:=⟨_,rfl⟩
 rw [←hzs] at hmk
 clear h hzs
 go_enter Tryz.func99,Tryz.ntmps99
 go_wp2
 clear hmk
 go_loopw [4] (fun i wr=>∃k:Nat,k≤len∧i=.int .i64 k∧Hid (bM wr 77 w.heap.size len k l)∧Hid (Below w.heap.size w wr)) (fun i _=>len - (intOf i).toNat)
 case atStart=>exact ⟨0,Nat.zero_le _,rfl,aA (aE7 w _ _ _ _),aA (yA (yH _ _) _)⟩
 case round=>
  obtain ⟨k,hk,rfl,HQ,HB⟩:=hrel
  by_cases hlt:k<len
  ·obtain ⟨b,off,rfl,hq⟩:=((uH HR).below (uH HB)).at hlt
   have hkl:k<l.length:=by have:=uH HL;omega
   obtain ⟨c0,c1,c2,c3,c4⟩:=hq hkl
   obtain ⟨q,hs⟩:∃q,l[k]=q:=⟨_,rfl⟩
   rw [hs] at c0 c1 c2 c3 c4
   have hst:∀wx,bM wx 77 w.heap.size len k l→bM (aJr wx w.heap.size (k*5) q) 77 w.heap.size len (k+1) l:=fun wx hx=>by have:=hx.step hlt hkl;rw [hs] at this;exact this
   have HST:=aA hst
   clear hst hq hs hkl
   go_wp2_with fail
   refine (aGp q _).mono ?_
   rintro e w1 ⟨rfl,hb⟩
   have HQ1:=aA ((uH HQ).below hb)
   have HB1:=aA (yB (uH HB) hb)
   clear hb c0 c1 c2 c3 c4
   obtain ⟨v0,d0⟩:=(uH HQ1).cell (j:=k*5) (by omega)
   obtain ⟨v1,d1⟩:=(uH HQ1).cell (j:=k*5+1) (by omega)
   obtain ⟨v2,d2⟩:=(uH HQ1).cell (j:=k*5+2) (by omega)
   obtain ⟨v3,d3⟩:=(uH HQ1).cell (j:=k*5+3) (by omega)
   obtain ⟨v4,d4⟩:=(uH HQ1).cell (j:=k*5+4) (by omega)
   have f0:=(uH HQ1).frozen (k*5)
   have f1:=(uH HQ1).frozen (k*5+1)
   have f2:=(uH HQ1).frozen (k*5+2)
   have f3:=(uH HQ1).frozen (k*5+3)
   have f4:=(uH HQ1).frozen (k*5+4)
   go_wp2
   go_roundw
   case rel=>exact ⟨k+1,by omega,by go_num,aA (uH HST _ (uH HQ1)),aA (yC (yC (yC (yC (yC (uH HB1) _ _ _ (by omega)) _ _ _ (by omega)) _ _ _ (by omega)) _ _ _ (by omega)) _ _ _ (by omega))⟩
   case measure=>simp [intOf];omega
  ·have hkk:k=len:=by omega
   subst hkk
   go_wp2
   go_ret
   exact ⟨rfl,uH HQ,uH HB⟩
end Go.Proofs.YtdhibeclkdepiaaGreat
/-
 The laws' own toMachineS: rows of Machine values made anew;walks over the dump (mkrow.py wrote this).
-/
namespace Go.Proofs.YtdhibeclkdepiaaGreat
open Go.RowKit
set_option linter.unusedVariables false
theorem aKS:(Tryz.prog.info? 104).map (fun i=>(i.zero,i.size,i.bytes))=some (some (aBk ⟨[],0,0,0⟩),4,40):=by kernel_rfl
theorem aHb (n:Nat) (hn:n≤1048576) (w:World) :
  (Instr.makeSlice 31 (.int .i64 (n:Int)) (.int .i64 (n:Int))).run Tryz.prog w=.ok (.slice (some ⟨w.heap.size,0,none⟩) n n) (w.alloc (.cells (madeCells (aBk ⟨[],0,0,0⟩).cells (n*4)) 104)):=by
 obtain ⟨i,hi,hz⟩:=Option.map_eq_some_iff.1 aKS
 simp only [Prod.mk.injEq] at hz
 obtain ⟨hz,hs,hb⟩:=hz
 have hr:=run_make (P:=Tryz.prog) w 31 104 i _ Tryz.underlying31 hi hz .i64 .i64 n n (by omega) (Int.le_refl _) (by rw [hb];omega) (by omega)
 simp only [Int.toNat_natCast,hs] at hr
 exact hr
set_option maxRecDepth 100000 in
set_option maxHeartbeats 1000000 in
theorem y7 (ao:Option Addr) (len cap:Nat) (l:List Mac) (w:World) (h:bE w ao len l) (hl:len≤1048576) :
  Calls Tryz.prog 27 #[.slice ao len cap] w fun e w'=>e=.returned (.slice (some ⟨w.heap.size,0,none⟩) len len)∧bT w' 104 w.heap.size len len l∧Below w.heap.size w w':=by
 have HR:=aA h
 have HL:=aA h.1
 have hmk:=aHb len hl w
 obtain ⟨zs,hzs⟩:∃z,z=(aBk ⟨[],0,0,0⟩).cells:=⟨_,rfl⟩
 rw [←hzs] at hmk
 clear h hzs
 go_enter Tryz.func27,Tryz.ntmps27
 go_wp2
 clear hmk
 go_loopw [4] (fun i wr=>∃k:Nat,k≤len∧i=.int .i64 k∧Hid (bT wr 104 w.heap.size len k l)∧Hid (Below w.heap.size w wr)) (fun i _=>len - (intOf i).toNat)
 case atStart=>exact ⟨0,Nat.zero_le _,rfl,aA (aDz w _ _ _ _),aA (yA (yH _ _) _)⟩
 case round=>
  obtain ⟨k,hk,rfl,HQ,HB⟩:=hrel
  by_cases hlt:k<len
  ·obtain ⟨b,off,rfl,hq⟩:=((uH HR).below (uH HB)).at hlt
   have hkl:k<l.length:=by have:=uH HL;omega
   obtain ⟨c0,c1,c2,c3⟩:=hq hkl
   obtain ⟨q,hs⟩:∃q,l[k]=q:=⟨_,rfl⟩
   rw [hs] at c0 c1 c2 c3
   have hst:∀wx,bT wx 104 w.heap.size len k l→bT (aJp wx w.heap.size (k*4) q) 104 w.heap.size len (k+1) l:=fun wx hx=>by have:=hx.step hlt hkl;rw [hs] at this;exact this
   have HST:=aA hst
   clear hst hq hs hkl
   go_wp2_with fail
   refine (aAw q _).mono ?_
   rintro e w1 ⟨rfl,hb⟩
   have HQ1:=aA ((uH HQ).below hb)
   have HB1:=aA (yB (uH HB) hb)
   clear hb c0 c1 c2 c3
   obtain ⟨v0,d0⟩:=(uH HQ1).cell (j:=k*4) (by omega)
   obtain ⟨v1,d1⟩:=(uH HQ1).cell (j:=k*4+1) (by omega)
   obtain ⟨v2,d2⟩:=(uH HQ1).cell (j:=k*4+2) (by omega)
   obtain ⟨v3,d3⟩:=(uH HQ1).cell (j:=k*4+3) (by omega)
   have f0:=(uH HQ1).frozen (k*4)
   have f1:=(uH HQ1).frozen (k*4+1)
   have f2:=(uH HQ1).frozen (k*4+2)
   have f3:=(uH HQ1).frozen (k*4+3)
   go_wp2
   go_roundw
   case rel=>exact ⟨k+1,by omega,by go_num,aA (uH HST _ (uH HQ1)),aA (yC (yC (yC (yC (uH HB1) _ _ _ (by omega)) _ _ _ (by omega)) _ _ _ (by omega)) _ _ _ (by omega))⟩
   case measure=>simp [intOf];omega
  ·have hkk:k=len:=by omega
   subst hkk
   go_wp2
   go_ret
   exact ⟨rfl,uH HQ,uH HB⟩
end Go.Proofs.YtdhibeclkdepiaaGreat
/-
 The laws' own toContS: rows of Cont values made anew;walks over the dump (mkrow.py wrote this).
-/
namespace Go.Proofs.YtdhibeclkdepiaaGreat
open Go.RowKit
set_option linter.unusedVariables false
theorem aKd:(Tryz.prog.info? 38).map (fun i=>(i.zero,i.size,i.bytes))=some (some (conv ⟨0,0,[],0,0⟩),5,48):=by kernel_rfl
theorem aHc (n:Nat) (hn:n≤1048576) (w:World) :
  (Instr.makeSlice 32 (.int .i64 (n:Int)) (.int .i64 (n:Int))).run Tryz.prog w=.ok (.slice (some ⟨w.heap.size,0,none⟩) n n) (w.alloc (.cells (madeCells (conv ⟨0,0,[],0,0⟩).cells (n*5)) 38)):=by
 obtain ⟨i,hi,hz⟩:=Option.map_eq_some_iff.1 aKd
 simp only [Prod.mk.injEq] at hz
 obtain ⟨hz,hs,hb⟩:=hz
 have hr:=run_make (P:=Tryz.prog) w 32 38 i _ Tryz.underlying32 hi hz .i64 .i64 n n (by omega) (Int.le_refl _) (by rw [hb];omega) (by omega)
 simp only [Int.toNat_natCast,hs] at hr
 exact hr
set_option maxRecDepth 100000 in
set_option maxHeartbeats 1000000 in
theorem aD2 (ao:Option Addr) (len cap:Nat) (l:List Con) (w:World) (h:bC w ao len l) (hl:len≤1048576) :
  Calls Tryz.prog 28 #[.slice ao len cap] w fun e w'=>e=.returned (.slice (some ⟨w.heap.size,0,none⟩) len len)∧bU w' 38 w.heap.size len len l∧Below w.heap.size w w':=by
 have HR:=aA h
 have HL:=aA h.1
 have hmk:=aHc len hl w
 obtain ⟨zs,hzs⟩:∃z,z=(conv ⟨0,0,[],0,0⟩).cells:=⟨_,rfl⟩
 rw [←hzs] at hmk
 clear h hzs
 go_enter Tryz.func28,Tryz.ntmps28
 go_wp2
 clear hmk
 go_loopw [4] (fun i wr=>∃k:Nat,k≤len∧i=.int .i64 k∧Hid (bU wr 38 w.heap.size len k l)∧Hid (Below w.heap.size w wr)) (fun i _=>len - (intOf i).toNat)
 case atStart=>exact ⟨0,Nat.zero_le _,rfl,aA (aEZ w _ _ _ _),aA (yA (yH _ _) _)⟩
 case round=>
  obtain ⟨k,hk,rfl,HQ,HB⟩:=hrel
  by_cases hlt:k<len
  ·obtain ⟨b,off,rfl,hq⟩:=((uH HR).below (uH HB)).at hlt
   have hkl:k<l.length:=by have:=uH HL;omega
   obtain ⟨c0,c1,c2,c3,c4⟩:=hq hkl
   obtain ⟨q,hs⟩:∃q,l[k]=q:=⟨_,rfl⟩
   rw [hs] at c0 c1 c2 c3 c4
   have hst:∀wx,bU wx 38 w.heap.size len k l→bU (aJq wx w.heap.size (k*5) q) 38 w.heap.size len (k+1) l:=fun wx hx=>by have:=hx.step hlt hkl;rw [hs] at this;exact this
   have HST:=aA hst
   clear hst hq hs hkl
   go_wp2_with fail
   refine (aFZ q _).mono ?_
   rintro e w1 ⟨rfl,hb⟩
   have HQ1:=aA ((uH HQ).below hb)
   have HB1:=aA (yB (uH HB) hb)
   clear hb c0 c1 c2 c3 c4
   obtain ⟨v0,d0⟩:=(uH HQ1).cell (j:=k*5) (by omega)
   obtain ⟨v1,d1⟩:=(uH HQ1).cell (j:=k*5+1) (by omega)
   obtain ⟨v2,d2⟩:=(uH HQ1).cell (j:=k*5+2) (by omega)
   obtain ⟨v3,d3⟩:=(uH HQ1).cell (j:=k*5+3) (by omega)
   obtain ⟨v4,d4⟩:=(uH HQ1).cell (j:=k*5+4) (by omega)
   have f0:=(uH HQ1).frozen (k*5)
   have f1:=(uH HQ1).frozen (k*5+1)
   have f2:=(uH HQ1).frozen (k*5+2)
   have f3:=(uH HQ1).frozen (k*5+3)
   have f4:=(uH HQ1).frozen (k*5+4)
   go_wp2
   go_roundw
   case rel=>exact ⟨k+1,by omega,by go_num,aA (uH HST _ (uH HQ1)),aA (yC (yC (yC (yC (yC (uH HB1) _ _ _ (by omega)) _ _ _ (by omega)) _ _ _ (by omega)) _ _ _ (by omega)) _ _ _ (by omega))⟩
   case measure=>simp [intOf];omega
  ·have hkk:k=len:=by omega
   subst hkk
   go_wp2
   go_ret
   exact ⟨rfl,uH HQ,uH HB⟩
end Go.Proofs.YtdhibeclkdepiaaGreat
/-
 The laws' own aBs and szAskS: how much is handed in;walks over the dump (mkrow.py wrote this).
-/
namespace Go.Proofs.YtdhibeclkdepiaaGreat
open Go.RowKit
set_option linter.unusedVariables false
def aBs (q:Ask) (a:Int):Int:=if a - q.node.length<0 then -1 else a - q.node.length
def aIb (l:List Ask):Prop:=l.length≤1048576∧∀q ∈ l,q.node.length≤1048576
set_option maxRecDepth 100000 in
set_option maxHeartbeats 1000000 in
theorem aGv (q:Ask) (a:Int) (w:World) (ha0:0≤a) (ha1:a≤1048576) (hn:q.node.length≤9223372036854775807) :
  Calls Tryz.prog 128 #[aDU q,.int .i64 a] w fun e w'=>e=.returned (.int .i64 (aBs q a))∧Below w.heap.size w w':=by
 obtain ⟨x0,x1,x2,x3,x4⟩:=q
 have z1:=dI x3
 simp only at hn
 unfold aBs
 simp only
 by_cases h1:a - x3.length<0
 ·rw [if_pos h1]
  go_enter Tryz.func128,Tryz.ntmps128
  go_wp2
  go_ret
  refine ⟨rfl,?_⟩
  repeat (first | exact yH _ _ | refine yA ?_ _ | refine Below.drew ?_ | refine yC ?_ _ _ _ (by omega))
 ·rw [if_neg h1]
  go_enter Tryz.func128,Tryz.ntmps128
  go_wp2
  go_ret
  refine ⟨rfl,?_⟩
  repeat (first | exact yH _ _ | refine yA ?_ _ | refine Below.drew ?_ | refine yC ?_ _ _ _ (by omega))
theorem aDa (q:Ask) (a:Int) (ha0:0≤a) (ha1:a≤1048576):aBs q a = -1∨(0≤aBs q a∧aBs q a≤a∧q.node.length≤1048576):=by
 unfold aBs
 split
 ·exact .inl rfl
 ·right;omega
set_option maxRecDepth 100000 in
set_option maxHeartbeats 1000000 in
theorem aF5 (ao:Option Addr) (len cap:Nat) (l:List Ask) (a0:Int) (w:World) (h:aO w ao len l) (hlen:len≤9223372036854775807) (hm:∀q ∈ l,q.node.length≤9223372036854775807) (hA0:0≤a0) (hA1:a0≤1048576) :
  Calls Tryz.prog 86 #[.slice ao len cap,.int .i64 a0] w fun e w'=>∃r:Int,e=.returned (.int .i64 r)∧(r = -1∨(0≤r∧r≤a0∧aIb l))∧Below w.heap.size w w':=by
 have HR:=aA h
 have HL:=aA h.1
 have HM:=aA hm
 clear h hm
 by_cases hbig:(len:Int)≤a0
 ·have hb1:¬(a0:Int) - len<0:=by omega
  go_enter Tryz.func86,Tryz.ntmps86
  go_wp2
  go_loopw [1,5] (fun s i wr=>∃(k:Nat) (a:Int),k≤len∧i=.int .i64 k∧s=.int .i64 a∧0≤a∧a≤a0∧Hid (∀q ∈ l.take k,q.node.length≤1048576)∧Hid (Below w.heap.size w wr)) (fun _ i _=>len - (intOf i).toNat)
  case atStart=>exact ⟨0,a0 - len,Nat.zero_le _,rfl,rfl,by omega,by omega,aA (by simp),aA (yH _ _)⟩
  case round=>
   obtain ⟨k,a,hk,rfl,rfl,ha0,ha1,HP,HB⟩:=hrel
   by_cases hlt:k<len
   ·obtain ⟨b,off,rfl,hq⟩:=((uH HR).below (uH HB)).at hlt
    have hkl:k<l.length:=by have:=uH HL;omega
    obtain ⟨c0,c1,c2,c3,c4⟩:=hq hkl
    have n1:=uH HM l[k] (yM _)
    have htk:=List.take_succ_eq_append_getElem hkl
    obtain ⟨q,hs⟩:∃q,l[k]=q:=⟨_,rfl⟩
    rw [hs] at c0 c1 c2 c3 c4 n1 htk
    have HTK:=aA htk
    have C:=aA (fun wx=>aGv q a wx ha0 (by omega) n1)
    obtain ⟨r,hr⟩:∃r,aBs q a=r:=⟨_,rfl⟩
    have hcs:=aDa q a ha0 (by omega)
    rw [hr] at C hcs
    have HC:=aA hcs
    clear hq hs hkl hr hcs htk n1
    go_wp2_with fail
    refine (uH C _).mono ?_
    rintro e w1 ⟨rfl,hb⟩
    have HB1:=aA (yB (uH HB) hb)
    clear hb C c0 c1 c2 c3 c4
    rcases uH HC with hr | ⟨r0,r1,r2⟩
    ·subst hr
     go_wp2
     go_ret
     exact ⟨-1,rfl,.inl rfl,uH HB1⟩
    ·have HN:=aA (show ∀q ∈ l.take (k+1),q.node.length≤1048576 by
      rw [uH HTK]
      intro x hx
      rcases List.mem_append.1 hx with hx | hx
      ·exact uH HP x hx
      ·rw [List.mem_singleton.1 hx];exact r2)
     clear r2 HP HTK HC
     go_wp2
     go_roundw
     case rel=>exact ⟨k+1,r,by omega,by go_num,rfl,by omega,by omega,HN,HB1⟩
     case measure=>simp [intOf];omega
   ·have HF:=aA (show aIb l from ⟨by have:=uH HL;omega,fun q hq=>uH HP q (by rw [List.take_of_length_le (by have:=uH HL;omega)];exact hq)⟩)
    go_wp2
    go_ret
    exact ⟨a,rfl,.inr ⟨ha0,ha1,uH HF⟩,uH HB⟩
 ·have hb1:(a0:Int) - len<0:=by omega
  go_enter Tryz.func86,Tryz.ntmps86
  go_wp2
  go_ret
  exact ⟨-1,rfl,.inl rfl,yH _ _⟩
end Go.Proofs.YtdhibeclkdepiaaGreat
/-
 The laws' own szMachine and szMachineS: how much is handed in;walks over the dump (mkrow.py wrote this).
-/
namespace Go.Proofs.YtdhibeclkdepiaaGreat
open Go.RowKit
set_option linter.unusedVariables false
def aD6 (q:Mac) (a:Int):Int:=if a - q.name.length<0 then -1 else a - q.name.length
def aI9 (l:List Mac):Prop:=l.length≤1048576∧∀q ∈ l,q.name.length≤1048576
set_option maxRecDepth 100000 in
set_option maxHeartbeats 1000000 in
theorem aAz (q:Mac) (a:Int) (w:World) (ha0:0≤a) (ha1:a≤1048576) (hn:q.name.length≤9223372036854775807) :
  Calls Tryz.prog 50 #[aBk q,.int .i64 a] w fun e w'=>e=.returned (.int .i64 (aD6 q a))∧Below w.heap.size w w':=by
 obtain ⟨x0,x1,x2,x3⟩:=q
 have z1:=dI x0
 simp only at hn
 unfold aD6
 simp only
 by_cases h1:a - x0.length<0
 ·rw [if_pos h1]
  go_enter Tryz.func50,Tryz.ntmps50
  go_wp2
  go_ret
  refine ⟨rfl,?_⟩
  repeat (first | exact yH _ _ | refine yA ?_ _ | refine Below.drew ?_ | refine yC ?_ _ _ _ (by omega))
 ·rw [if_neg h1]
  go_enter Tryz.func50,Tryz.ntmps50
  go_wp2
  go_ret
  refine ⟨rfl,?_⟩
  repeat (first | exact yH _ _ | refine yA ?_ _ | refine Below.drew ?_ | refine yC ?_ _ _ _ (by omega))
theorem aD5 (q:Mac) (a:Int) (ha0:0≤a) (ha1:a≤1048576):aD6 q a = -1∨(0≤aD6 q a∧aD6 q a≤a∧q.name.length≤1048576):=by
 unfold aD6
 split
 ·exact .inl rfl
 ·right;omega
set_option maxRecDepth 100000 in
set_option maxHeartbeats 1000000 in
theorem y8 (ao:Option Addr) (len cap:Nat) (l:List Mac) (a0:Int) (w:World) (h:bE w ao len l) (hlen:len≤9223372036854775807) (hm:∀q ∈ l,q.name.length≤9223372036854775807) (hA0:0≤a0) (hA1:a0≤1048576) :
  Calls Tryz.prog 20 #[.slice ao len cap,.int .i64 a0] w fun e w'=>∃r:Int,e=.returned (.int .i64 r)∧(r = -1∨(0≤r∧r≤a0∧aI9 l))∧Below w.heap.size w w':=by
 have HR:=aA h
 have HL:=aA h.1
 have HM:=aA hm
 clear h hm
 by_cases hbig:(len:Int)≤a0
 ·have hb1:¬(a0:Int) - len<0:=by omega
  go_enter Tryz.func20,Tryz.ntmps20
  go_wp2
  go_loopw [1,5] (fun s i wr=>∃(k:Nat) (a:Int),k≤len∧i=.int .i64 k∧s=.int .i64 a∧0≤a∧a≤a0∧Hid (∀q ∈ l.take k,q.name.length≤1048576)∧Hid (Below w.heap.size w wr)) (fun _ i _=>len - (intOf i).toNat)
  case atStart=>exact ⟨0,a0 - len,Nat.zero_le _,rfl,rfl,by omega,by omega,aA (by simp),aA (yH _ _)⟩
  case round=>
   obtain ⟨k,a,hk,rfl,rfl,ha0,ha1,HP,HB⟩:=hrel
   by_cases hlt:k<len
   ·obtain ⟨b,off,rfl,hq⟩:=((uH HR).below (uH HB)).at hlt
    have hkl:k<l.length:=by have:=uH HL;omega
    obtain ⟨c0,c1,c2,c3⟩:=hq hkl
    have n1:=uH HM l[k] (yM _)
    have htk:=List.take_succ_eq_append_getElem hkl
    obtain ⟨q,hs⟩:∃q,l[k]=q:=⟨_,rfl⟩
    rw [hs] at c0 c1 c2 c3 n1 htk
    have HTK:=aA htk
    have C:=aA (fun wx=>aAz q a wx ha0 (by omega) n1)
    obtain ⟨r,hr⟩:∃r,aD6 q a=r:=⟨_,rfl⟩
    have hcs:=aD5 q a ha0 (by omega)
    rw [hr] at C hcs
    have HC:=aA hcs
    clear hq hs hkl hr hcs htk n1
    go_wp2_with fail
    refine (uH C _).mono ?_
    rintro e w1 ⟨rfl,hb⟩
    have HB1:=aA (yB (uH HB) hb)
    clear hb C c0 c1 c2 c3
    rcases uH HC with hr | ⟨r0,r1,r2⟩
    ·subst hr
     go_wp2
     go_ret
     exact ⟨-1,rfl,.inl rfl,uH HB1⟩
    ·have HN:=aA (show ∀q ∈ l.take (k+1),q.name.length≤1048576 by
      rw [uH HTK]
      intro x hx
      rcases List.mem_append.1 hx with hx | hx
      ·exact uH HP x hx
      ·rw [List.mem_singleton.1 hx];exact r2)
     clear r2 HP HTK HC
     go_wp2
     go_roundw
     case rel=>exact ⟨k+1,r,by omega,by go_num,rfl,by omega,by omega,HN,HB1⟩
     case measure=>simp [intOf];omega
   ·have HF:=aA (show aI9 l from ⟨by have:=uH HL;omega,fun q hq=>uH HP q (by rw [List.take_of_length_le (by have:=uH HL;omega)];exact hq)⟩)
    go_wp2
    go_ret
    exact ⟨a,rfl,.inr ⟨ha0,ha1,uH HF⟩,uH HB⟩
 ·have hb1:(a0:Int) - len<0:=by omega
  go_enter Tryz.func20,Tryz.ntmps20
  go_wp2
  go_ret
  exact ⟨-1,rfl,.inl rfl,yH _ _⟩
end Go.Proofs.YtdhibeclkdepiaaGreat
/-
 The laws' own szCont and szContS: how much is handed in;walks over the dump (mkrow.py wrote this).
-/
namespace Go.Proofs.YtdhibeclkdepiaaGreat
open Go.RowKit
set_option linter.unusedVariables false
def aD9 (q:Con) (a:Int):Int:=if a - q.node.length<0 then -1 else a - q.node.length
def aIa (l:List Con):Prop:=l.length≤1048576∧∀q ∈ l,q.node.length≤1048576
set_option maxRecDepth 100000 in
set_option maxHeartbeats 1000000 in
theorem aF4 (q:Con) (a:Int) (w:World) (ha0:0≤a) (ha1:a≤1048576) (hn:q.node.length≤9223372036854775807) :
  Calls Tryz.prog 51 #[conv q,.int .i64 a] w fun e w'=>e=.returned (.int .i64 (aD9 q a))∧Below w.heap.size w w':=by
 obtain ⟨x0,x1,x2,x3,x4⟩:=q
 have z1:=dI x2
 simp only at hn
 unfold aD9
 simp only
 by_cases h1:a - x2.length<0
 ·rw [if_pos h1]
  go_enter Tryz.func51,Tryz.ntmps51
  go_wp2
  go_ret
  refine ⟨rfl,?_⟩
  repeat (first | exact yH _ _ | refine yA ?_ _ | refine Below.drew ?_ | refine yC ?_ _ _ _ (by omega))
 ·rw [if_neg h1]
  go_enter Tryz.func51,Tryz.ntmps51
  go_wp2
  go_ret
  refine ⟨rfl,?_⟩
  repeat (first | exact yH _ _ | refine yA ?_ _ | refine Below.drew ?_ | refine yC ?_ _ _ _ (by omega))
theorem aD8 (q:Con) (a:Int) (ha0:0≤a) (ha1:a≤1048576):aD9 q a = -1∨(0≤aD9 q a∧aD9 q a≤a∧q.node.length≤1048576):=by
 unfold aD9
 split
 ·exact .inl rfl
 ·right;omega
set_option maxRecDepth 100000 in
set_option maxHeartbeats 1000000 in
theorem aD7 (ao:Option Addr) (len cap:Nat) (l:List Con) (a0:Int) (w:World) (h:bC w ao len l) (hlen:len≤9223372036854775807) (hm:∀q ∈ l,q.node.length≤9223372036854775807) (hA0:0≤a0) (hA1:a0≤1048576) :
  Calls Tryz.prog 21 #[.slice ao len cap,.int .i64 a0] w fun e w'=>∃r:Int,e=.returned (.int .i64 r)∧(r = -1∨(0≤r∧r≤a0∧aIa l))∧Below w.heap.size w w':=by
 have HR:=aA h
 have HL:=aA h.1
 have HM:=aA hm
 clear h hm
 by_cases hbig:(len:Int)≤a0
 ·have hb1:¬(a0:Int) - len<0:=by omega
  go_enter Tryz.func21,Tryz.ntmps21
  go_wp2
  go_loopw [1,5] (fun s i wr=>∃(k:Nat) (a:Int),k≤len∧i=.int .i64 k∧s=.int .i64 a∧0≤a∧a≤a0∧Hid (∀q ∈ l.take k,q.node.length≤1048576)∧Hid (Below w.heap.size w wr)) (fun _ i _=>len - (intOf i).toNat)
  case atStart=>exact ⟨0,a0 - len,Nat.zero_le _,rfl,rfl,by omega,by omega,aA (by simp),aA (yH _ _)⟩
  case round=>
   obtain ⟨k,a,hk,rfl,rfl,ha0,ha1,HP,HB⟩:=hrel
   by_cases hlt:k<len
   ·obtain ⟨b,off,rfl,hq⟩:=((uH HR).below (uH HB)).at hlt
    have hkl:k<l.length:=by have:=uH HL;omega
    obtain ⟨c0,c1,c2,c3,c4⟩:=hq hkl
    have n1:=uH HM l[k] (yM _)
    have htk:=List.take_succ_eq_append_getElem hkl
    obtain ⟨q,hs⟩:∃q,l[k]=q:=⟨_,rfl⟩
    rw [hs] at c0 c1 c2 c3 c4 n1 htk
    have HTK:=aA htk
    have C:=aA (fun wx=>aF4 q a wx ha0 (by omega) n1)
    obtain ⟨r,hr⟩:∃r,aD9 q a=r:=⟨_,rfl⟩
    have hcs:=aD8 q a ha0 (by omega)
    rw [hr] at C hcs
    have HC:=aA hcs
    clear hq hs hkl hr hcs htk n1
    go_wp2_with fail
    refine (uH C _).mono ?_
    rintro e w1 ⟨rfl,hb⟩
    have HB1:=aA (yB (uH HB) hb)
    clear hb C c0 c1 c2 c3 c4
    rcases uH HC with hr | ⟨r0,r1,r2⟩
    ·subst hr
     go_wp2
     go_ret
     exact ⟨-1,rfl,.inl rfl,uH HB1⟩
    ·have HN:=aA (show ∀q ∈ l.take (k+1),q.node.length≤1048576 by
      rw [uH HTK]
      intro x hx
      rcases List.mem_append.1 hx with hx | hx
      ·exact uH HP x hx
      ·rw [List.mem_singleton.1 hx];exact r2)
     clear r2 HP HTK HC
     go_wp2
     go_roundw
     case rel=>exact ⟨k+1,r,by omega,by go_num,rfl,by omega,by omega,HN,HB1⟩
     case measure=>simp [intOf];omega
   ·have HF:=aA (show aIa l from ⟨by have:=uH HL;omega,fun q hq=>uH HP q (by rw [List.take_of_length_le (by have:=uH HL;omega)];exact hq)⟩)
    go_wp2
    go_ret
    exact ⟨a,rfl,.inr ⟨ha0,ha1,uH HF⟩,uH HB⟩
 ·have hb1:(a0:Int) - len<0:=by omega
  go_enter Tryz.func21,Tryz.ntmps21
  go_wp2
  go_ret
  exact ⟨-1,rfl,.inl rfl,yH _ _⟩
end Go.Proofs.YtdhibeclkdepiaaGreat
/-
 The laws' own eqAskS,at rows that hold the same;walks over the dump (mkrow.py wrote this).
-/
namespace Go.Proofs.YtdhibeclkdepiaaGreat
open Go.RowKit
set_option linter.unusedVariables false
def l9 (w0:World) (b p c r:Nat) (q:Ask) (w:World):Prop:=pV w b p q∧pV w c r q∧Below w0.heap.size w0 w
theorem l9.call {w0 w w':World} {b p c r:Nat} {q:Ask} (h:l9 w0 b p c r q w) (hb:Below w.heap.size w w'):l9 w0 b p c r q w':=⟨h.1.below hb,h.2.1.below hb,yB h.2.2 hb⟩
theorem l9.drew {w0 w:World} {b p c r:Nat} {q:Ask} (h:l9 w0 b p c r q w):l9 w0 b p c r q w.drew:=h.call (yH _ _).drew
theorem l9.read (w0:World) (b p c r:Nat) (q:Ask):∀wx,l9 w0 b p c r q wx→wx.cell? ⟨b,p,none⟩=some (.int .i64 q.mem)∧wx.cell? ⟨b,p+1,none⟩=some (.int .i64 q.cpu)∧wx.cell? ⟨b,p+2,none⟩=some (.int .i64 q.count)∧wx.cell? ⟨b,p+3,none⟩=some (.string (bs q.node))∧wx.cell? ⟨b,p+4,none⟩=some (.int .i64 q.missed)
  ∧wx.cell? ⟨c,r,none⟩=some (.int .i64 q.mem)∧wx.cell? ⟨c,r+1,none⟩=some (.int .i64 q.cpu)∧wx.cell? ⟨c,r+2,none⟩=some (.int .i64 q.count)∧wx.cell? ⟨c,r+3,none⟩=some (.string (bs q.node))∧wx.cell? ⟨c,r+4,none⟩=some (.int .i64 q.missed):=
 fun wx h=>⟨h.1.1,h.1.2.1,h.1.2.2.1,h.1.2.2.2.1,h.1.2.2.2.2,h.2.1.1,h.2.1.2.1,h.2.1.2.2.1,h.2.1.2.2.2.1,h.2.1.2.2.2.2⟩
set_option maxRecDepth 100000 in
set_option maxHeartbeats 2000000 in
theorem aET (ao bo:Option Addr) (len cap ccap:Nat) (l:List Ask) (w:World) (h:aO w ao len l) (h':aO w bo len l) (hl:len≤1048576) :
  Calls Tryz.prog 113 #[.slice ao len cap,.slice bo len ccap] w fun e w'=>e=.returned (.bool true)∧Below w.heap.size w w':=by
 have HR:=aA h
 have HR':=aA h'
 have HL:=aA h.1
 clear h h'
 go_enter Tryz.func113,Tryz.ntmps113
 go_wp2
 go_loopw [5] (fun i wr=>∃k:Nat,k≤len∧i=.int .i64 k∧Hid (Below w.heap.size w wr)) (fun i _=>len - (intOf i).toNat)
 case atStart=>exact ⟨0,Nat.zero_le _,rfl,aA (yH _ _)⟩
 case round=>
  obtain ⟨k,hk,rfl,HB⟩:=hrel
  by_cases hlt:k<len
  ·obtain ⟨b,off,rfl,hq⟩:=((uH HR).below (uH HB)).at hlt
   obtain ⟨c,coff,rfl,hq'⟩:=((uH HR').below (uH HB)).at hlt
   have hkl:k<l.length:=by have:=uH HL;omega
   have A0:=aA (show l9 w b (off+k*5) c (coff+k*5) l[k] wr from ⟨hq hkl,hq' hkl,uH HB⟩)
   obtain ⟨q,hs⟩:∃q,l[k]=q:=⟨_,rfl⟩
   rw [hs] at A0
   have R:=l9.read w b (off+k*5) c (coff+k*5) q
   have k0:(0:Int)≤k:=by omega
   have k1:(k:Int)<len:=by omega
   clear hq hq' hs hkl
   go_wp2_with fail
   go_region_held3 (fun wx=>l9 w b (off+k*5) c (coff+k*5) q wx)
    (first | (with_reducible assumption) | exact (uH A0).drew | exact l9.call (by assumption) (by assumption))
    (first
    | (go_at_call 140;refine (aGT _ _).mono ?_;rintro e wt ⟨rfl,hb⟩;have SA:=l9.call (w0:=w) (b:=b) (p:=off+k*5) (c:=c) (r:=coff+k*5) (q:=q) (by assumption) hb))
   have HB2:=aA SA.2.2
   clear SA R A0
   go_wp2
   go_roundw
   case rel=>exact ⟨k+1,by omega,by go_num,HB2⟩
   case measure=>simp [intOf];omega
  ·go_wp2
   go_ret
   exact ⟨rfl,uH HB⟩
end Go.Proofs.YtdhibeclkdepiaaGreat
/-
 The laws' own eqMachineS,at rows that hold the same;walks over the dump (mkrow.py wrote this).
-/
namespace Go.Proofs.YtdhibeclkdepiaaGreat
open Go.RowKit
set_option linter.unusedVariables false
def lY (w0:World) (b p c r:Nat) (q:Mac) (w:World):Prop:=oO w b p q∧oO w c r q∧Below w0.heap.size w0 w
theorem lY.call {w0 w w':World} {b p c r:Nat} {q:Mac} (h:lY w0 b p c r q w) (hb:Below w.heap.size w w'):lY w0 b p c r q w':=⟨h.1.below hb,h.2.1.below hb,yB h.2.2 hb⟩
theorem lY.drew {w0 w:World} {b p c r:Nat} {q:Mac} (h:lY w0 b p c r q w):lY w0 b p c r q w.drew:=h.call (yH _ _).drew
theorem lY.read (w0:World) (b p c r:Nat) (q:Mac):∀wx,lY w0 b p c r q wx→wx.cell? ⟨b,p,none⟩=some (.string (bs q.name))∧wx.cell? ⟨b,p+1,none⟩=some (.int .i64 q.mem)∧wx.cell? ⟨b,p+2,none⟩=some (.int .i64 q.cpu)∧wx.cell? ⟨b,p+3,none⟩=some (.int .i64 q.seen)
  ∧wx.cell? ⟨c,r,none⟩=some (.string (bs q.name))∧wx.cell? ⟨c,r+1,none⟩=some (.int .i64 q.mem)∧wx.cell? ⟨c,r+2,none⟩=some (.int .i64 q.cpu)∧wx.cell? ⟨c,r+3,none⟩=some (.int .i64 q.seen):=
 fun wx h=>⟨h.1.1,h.1.2.1,h.1.2.2.1,h.1.2.2.2,h.2.1.1,h.2.1.2.1,h.2.1.2.2.1,h.2.1.2.2.2⟩
set_option maxRecDepth 100000 in
set_option maxHeartbeats 2000000 in
theorem xO (ao bo:Option Addr) (len cap ccap:Nat) (l:List Mac) (w:World) (h:bE w ao len l) (h':bE w bo len l) (hl:len≤1048576) :
  Calls Tryz.prog 33 #[.slice ao len cap,.slice bo len ccap] w fun e w'=>e=.returned (.bool true)∧Below w.heap.size w w':=by
 have HR:=aA h
 have HR':=aA h'
 have HL:=aA h.1
 clear h h'
 go_enter Tryz.func33,Tryz.ntmps33
 go_wp2
 go_loopw [5] (fun i wr=>∃k:Nat,k≤len∧i=.int .i64 k∧Hid (Below w.heap.size w wr)) (fun i _=>len - (intOf i).toNat)
 case atStart=>exact ⟨0,Nat.zero_le _,rfl,aA (yH _ _)⟩
 case round=>
  obtain ⟨k,hk,rfl,HB⟩:=hrel
  by_cases hlt:k<len
  ·obtain ⟨b,off,rfl,hq⟩:=((uH HR).below (uH HB)).at hlt
   obtain ⟨c,coff,rfl,hq'⟩:=((uH HR').below (uH HB)).at hlt
   have hkl:k<l.length:=by have:=uH HL;omega
   have A0:=aA (show lY w b (off+k*4) c (coff+k*4) l[k] wr from ⟨hq hkl,hq' hkl,uH HB⟩)
   obtain ⟨q,hs⟩:∃q,l[k]=q:=⟨_,rfl⟩
   rw [hs] at A0
   have R:=lY.read w b (off+k*4) c (coff+k*4) q
   have k0:(0:Int)≤k:=by omega
   have k1:(k:Int)<len:=by omega
   clear hq hq' hs hkl
   go_wp2_with fail
   go_region_held3 (fun wx=>lY w b (off+k*4) c (coff+k*4) q wx)
    (first | (with_reducible assumption) | exact (uH A0).drew | exact lY.call (by assumption) (by assumption))
    (first
    | (go_at_call 76;refine (zV _ _).mono ?_;rintro e wt ⟨rfl,hb⟩;have SA:=lY.call (w0:=w) (b:=b) (p:=off+k*4) (c:=c) (r:=coff+k*4) (q:=q) (by assumption) hb))
   have HB2:=aA SA.2.2
   clear SA R A0
   go_wp2
   go_roundw
   case rel=>exact ⟨k+1,by omega,by go_num,HB2⟩
   case measure=>simp [intOf];omega
  ·go_wp2
   go_ret
   exact ⟨rfl,uH HB⟩
end Go.Proofs.YtdhibeclkdepiaaGreat
/-
 The laws' own eqContS,at rows that hold the same;walks over the dump (mkrow.py wrote this).
-/
namespace Go.Proofs.YtdhibeclkdepiaaGreat
open Go.RowKit
set_option linter.unusedVariables false
def l7 (w0:World) (b p c r:Nat) (q:Con) (w:World):Prop:=oP w b p q∧oP w c r q∧Below w0.heap.size w0 w
theorem l7.call {w0 w w':World} {b p c r:Nat} {q:Con} (h:l7 w0 b p c r q w) (hb:Below w.heap.size w w'):l7 w0 b p c r q w':=⟨h.1.below hb,h.2.1.below hb,yB h.2.2 hb⟩
theorem l7.drew {w0 w:World} {b p c r:Nat} {q:Con} (h:l7 w0 b p c r q w):l7 w0 b p c r q w.drew:=h.call (yH _ _).drew
theorem l7.read (w0:World) (b p c r:Nat) (q:Con):∀wx,l7 w0 b p c r q wx→wx.cell? ⟨b,p,none⟩=some (.int .i64 q.id)∧wx.cell? ⟨b,p+1,none⟩=some (.int .i64 q.app)∧wx.cell? ⟨b,p+2,none⟩=some (.string (bs q.node))∧wx.cell? ⟨b,p+3,none⟩=some (.int .i64 q.mem)∧wx.cell? ⟨b,p+4,none⟩=some (.int .i64 q.cpu)
  ∧wx.cell? ⟨c,r,none⟩=some (.int .i64 q.id)∧wx.cell? ⟨c,r+1,none⟩=some (.int .i64 q.app)∧wx.cell? ⟨c,r+2,none⟩=some (.string (bs q.node))∧wx.cell? ⟨c,r+3,none⟩=some (.int .i64 q.mem)∧wx.cell? ⟨c,r+4,none⟩=some (.int .i64 q.cpu):=
 fun wx h=>⟨h.1.1,h.1.2.1,h.1.2.2.1,h.1.2.2.2.1,h.1.2.2.2.2,h.2.1.1,h.2.1.2.1,h.2.1.2.2.1,h.2.1.2.2.2.1,h.2.1.2.2.2.2⟩
set_option maxRecDepth 100000 in
set_option maxHeartbeats 2000000 in
theorem kV (ao bo:Option Addr) (len cap ccap:Nat) (l:List Con) (w:World) (h:bC w ao len l) (h':bC w bo len l) (hl:len≤1048576) :
  Calls Tryz.prog 15 #[.slice ao len cap,.slice bo len ccap] w fun e w'=>e=.returned (.bool true)∧Below w.heap.size w w':=by
 have HR:=aA h
 have HR':=aA h'
 have HL:=aA h.1
 clear h h'
 go_enter Tryz.func15,Tryz.ntmps15
 go_wp2
 go_loopw [5] (fun i wr=>∃k:Nat,k≤len∧i=.int .i64 k∧Hid (Below w.heap.size w wr)) (fun i _=>len - (intOf i).toNat)
 case atStart=>exact ⟨0,Nat.zero_le _,rfl,aA (yH _ _)⟩
 case round=>
  obtain ⟨k,hk,rfl,HB⟩:=hrel
  by_cases hlt:k<len
  ·obtain ⟨b,off,rfl,hq⟩:=((uH HR).below (uH HB)).at hlt
   obtain ⟨c,coff,rfl,hq'⟩:=((uH HR').below (uH HB)).at hlt
   have hkl:k<l.length:=by have:=uH HL;omega
   have A0:=aA (show l7 w b (off+k*5) c (coff+k*5) l[k] wr from ⟨hq hkl,hq' hkl,uH HB⟩)
   obtain ⟨q,hs⟩:∃q,l[k]=q:=⟨_,rfl⟩
   rw [hs] at A0
   have R:=l7.read w b (off+k*5) c (coff+k*5) q
   have k0:(0:Int)≤k:=by omega
   have k1:(k:Int)<len:=by omega
   clear hq hq' hs hkl
   go_wp2_with fail
   go_region_held3 (fun wx=>l7 w b (off+k*5) c (coff+k*5) q wx)
    (first | (with_reducible assumption) | exact (uH A0).drew | exact l7.call (by assumption) (by assumption))
    (first
    | (go_at_call 10;refine (aES _ _).mono ?_;rintro e wt ⟨rfl,hb⟩;have SA:=l7.call (w0:=w) (b:=b) (p:=off+k*5) (c:=c) (r:=coff+k*5) (q:=q) (by assumption) hb))
   have HB2:=aA SA.2.2
   clear SA R A0
   go_wp2
   go_roundw
   case rel=>exact ⟨k+1,by omega,by go_num,HB2⟩
   case measure=>simp [intOf];omega
  ·go_wp2
   go_ret
   exact ⟨rfl,uH HB⟩
end Go.Proofs.YtdhibeclkdepiaaGreat
/-
 The laws' own toApp and toAppS: rows made anew;walks over the dump.
-/
namespace Go.Proofs.YtdhibeclkdepiaaGreat
open Go.RowKit
set_option linter.unusedVariables false
set_option maxRecDepth 100000 in
set_option maxHeartbeats 1000000 in
theorem aGq (id:Int) (qu:List UInt8) (ao:Option Addr) (len cap:Nat) (l:List Ask) (w:World) (h:aO w ao len l) (hl:len≤1048576) :
  Calls Tryz.prog 60 #[yO id qu ao len cap] w fun e w'=>∃g,e=.returned (yO id qu (some ⟨g,0,none⟩) len len)∧w.heap.size<g∧bM w' 77 g len len l∧Below w.heap.size w w':=by
 have HR:=aA h
 clear h
 have HB0:=aA (yA (yA (yA (yH _ w) (.cells #[.int .i64 id,.string (bs qu),.slice ao len cap] 87)) (.cells #[.int .i64 0,.string (bs []),.slice none 0 0] 74)) (.cells #[.int .i64 id,.string (bs qu),.slice none 0 0] 74))
 have K1:=aA ((yD (w.alloc (.cells #[.int .i64 id,.string (bs qu),.slice ao len cap] 87)) #[.int .i64 0,.string (bs []),.slice none 0 0] 74).al (.cells #[.int .i64 id,.string (bs qu),.slice none 0 0] 74))
 have K2:=aA (yD ((w.alloc (.cells #[.int .i64 id,.string (bs qu),.slice ao len cap] 87)).alloc (.cells #[.int .i64 0,.string (bs []),.slice none 0 0] 74)) #[.int .i64 id,.string (bs qu),.slice none 0 0] 74)
 go_enter Tryz.func60,Tryz.ntmps60
 go_wp2_with fail
 refine (aF0 ao len cap l _ ((uH HR).below (uH HB0)) hl).mono ?_
 rintro e w1 ⟨rfl,hq,hb⟩
 have b1:=(uH K1).below hb
 have b2:=(uH K2).below hb
 simp only [yE] at b1 b2 hq
 have HB1:=aA (yB (uH HB0) hb)
 have HQ:=aA hq
 clear hb K1 K2 HB0 HR hq
 have r0:=b1.at 0;have r1:=b1.at 1;have r2:=b1.at 2
 have o0:=b2.at 0;have o1:=b2.at 1;have o2:=b2.at 2
 have rf0:=b1.f 0;have rf1:=b1.f 1;have rf2:=b1.f 2
 have of2:=b2.f 2
 simp at r0 r1 r2 o0 o1 o2
 clear b1 b2
 go_wp2
 refine bodyPost_ret (v:=yO id qu (some ⟨w.heap.size+1+1+1,0,none⟩) len len) (by simp [results,Tryz.results60,go_sem, *]) rfl ⟨_,rfl,by omega,?_,?_⟩
 ·repeat (first | exact uH HQ | refine bM.other ?_ _ _ _ (by omega))
 ·repeat (first | exact uH HB1 | refine yC ?_ _ _ _ (by omega))
theorem aJa:(Tryz.prog.info? 74).map (fun i=>(i.zero,i.size,i.bytes))=some (some (yO 0 [] none 0 0),3,48):=by kernel_rfl
theorem aGB (n:Nat) (hn:n≤1048576) (w:World) :
  (Instr.makeSlice 30 (.int .i64 (n:Int)) (.int .i64 (n:Int))).run Tryz.prog w=.ok (.slice (some ⟨w.heap.size,0,none⟩) n n) (w.alloc (.cells (madeCells (yO 0 [] none 0 0).cells (n*3)) 74)):=by
 obtain ⟨i,hi,hz⟩:=Option.map_eq_some_iff.1 aJa
 simp only [Prod.mk.injEq] at hz
 obtain ⟨hz,hs,hb⟩:=hz
 have hr:=run_make (P:=Tryz.prog) w 30 74 i _ Tryz.underlying30 hi hz .i64 .i64 n n (by omega) (Int.le_refl _) (by rw [hb];omega) (by omega)
 simp only [Int.toNat_natCast,hs] at hr
 exact hr
set_option maxRecDepth 100000 in
set_option maxHeartbeats 1000000 in
theorem aF1 (ao:Option Addr) (len cap:Nat) (l:List bY) (w:World) (h:eO w ao len l) (hl:len≤1048576) (hk:∀q ∈ l,q.asks.length≤1048576) :
  Calls Tryz.prog 26 #[.slice ao len cap] w fun e w'=>e=.returned (.slice (some ⟨w.heap.size,0,none⟩) len len)∧bS w' 74 w.heap.size len len l∧Below w.heap.size w w':=by
 have HR:=aA h
 have HL:=aA h.1
 have HK:=aA hk
 have hmk:=aGB len hl w
 obtain ⟨zs,hzs⟩:∃z,z=(yO 0 [] none 0 0).cells:=⟨_,rfl⟩
 rw [←hzs] at hmk
 clear h hzs hk
 go_enter Tryz.func26,Tryz.ntmps26
 go_wp2
 clear hmk
 go_loopw [4] (fun i wr=>∃k:Nat,k≤len∧i=.int .i64 k∧Hid (bS wr 74 w.heap.size len k l)∧Hid (Below w.heap.size w wr)) (fun i _=>len - (intOf i).toNat)
 case atStart=>exact ⟨0,Nat.zero_le _,rfl,aA (aDP w _ _ _ _),aA (yA (yH _ _) _)⟩
 case round=>
  obtain ⟨k,hk,rfl,HQ,HB⟩:=hrel
  by_cases hlt:k<len
  ·obtain ⟨b,off,rfl,hq⟩:=((uH HR).below (uH HB)).at hlt
   have hkl:k<l.length:=by have:=uH HL;omega
   have hkn:=uH HK l[k] (yM _)
   obtain ⟨xo,xl,xc,c0,c1,c2,hrow,hxc⟩:=hq hkl
   have hst:∀wx,bS wx 74 w.heap.size len k l→∀AO LEN CAP,kM wx w.heap.size AO LEN CAP l[k].asks→bS (aDh wx w.heap.size (k*3) l[k].id l[k].queue AO LEN CAP) 74 w.heap.size len (k+1) l:=fun wx hx AO LEN CAP ho=>hx.step hlt hkl AO LEN CAP ho
   obtain ⟨q,hs⟩:∃q,l[k]=q:=⟨_,rfl⟩
   rw [hs] at c0 c1 hst hrow hkn
   obtain ⟨id,qu,asks⟩:=q
   simp only at c0 c1 hst hrow hkn
   have HXL:=aA hrow.1
   have hxl:xl≤1048576:=by have:=hrow.1;omega
   have HST:=aA hst
   have HROW:=aA hrow
   have hsz:=(uH HQ).lt
   clear hst hq hs hkl hrow hxc hkn
   go_wp2_with fail
   refine (aGq id qu xo xl xc asks _ (uH HROW) hxl).mono ?_
   rintro e w1 ⟨g,rfl,hg,hab,hb⟩
   have HQ1:=aA ((uH HQ).below hb)
   have HB1:=aA (yB (uH HB) hb)
   have HO:=aA (show kM w1 w.heap.size (some ⟨g,0,none⟩) xl xl asks from ⟨hab.row (uH HXL),yJ _,fun b off e=>by simp at e;omega,g,rfl,rfl,hab.any⟩)
   clear hb c0 c1 c2 hab
   obtain ⟨v0,d0⟩:=(uH HQ1).cell (j:=k*3) (by omega)
   obtain ⟨v1,d1⟩:=(uH HQ1).cell (j:=k*3+1) (by omega)
   obtain ⟨v2,d2⟩:=(uH HQ1).cell (j:=k*3+2) (by omega)
   have f0:=(uH HQ1).frozen (k*3)
   have f1:=(uH HQ1).frozen (k*3+1)
   have f2:=(uH HQ1).frozen (k*3+2)
   go_wp2
   go_roundw
   case rel=>exact ⟨k+1,by omega,by go_num,aA (uH HST _ (uH HQ1) _ _ _ (uH HO)),aA (yC (yC (yC (uH HB1) _ _ _ (by omega)) _ _ _ (by omega)) _ _ _ (by omega))⟩
   case measure=>simp [intOf];omega
  ·have hkk:k=len:=by omega
   subst hkk
   go_wp2
   go_ret
   exact ⟨rfl,uH HQ,uH HB⟩
end Go.Proofs.YtdhibeclkdepiaaGreat
/-
 The laws' own szApp and szAppS: how much is handed in;walks over the dump.
-/
namespace Go.Proofs.YtdhibeclkdepiaaGreat
open Go.RowKit
set_option linter.unusedVariables false
def aBi (q:bY):Prop:=q.queue.length≤9223372036854775807∧q.asks.length≤9223372036854775807∧∀a ∈ q.asks,a.node.length≤9223372036854775807
def vM (q:bY):Prop:=q.queue.length≤1048576∧aIb q.asks
def aBh (l:List bY):Prop:=l.length≤1048576∧∀q ∈ l,vM q
set_option maxRecDepth 100000 in
set_option maxHeartbeats 1000000 in
theorem aGw (id:Int) (qu:List UInt8) (ao:Option Addr) (len cap:Nat) (l:List Ask) (a:Int) (w:World) (h:aO w ao len l) (ha0:0≤a) (ha1:a≤1048576) (hn:aBi ⟨id,qu,l⟩) :
  Calls Tryz.prog 49 #[yO id qu ao len cap,.int .i64 a] w fun e w'=>∃r:Int,e=.returned (.int .i64 r)∧(r = -1∨(0≤r∧r≤a∧vM ⟨id,qu,l⟩))∧Below w.heap.size w w':=by
 have z1:=dI qu
 obtain ⟨hn1,hn2,hn3⟩:=hn
 simp only at hn1 hn2 hn3
 have hlen:len≤9223372036854775807:=by have:=h.1;omega
 have HB0:=aA (yA (yH _ w) (.cells #[.int .i64 id,.string (bs qu),.slice ao len cap] 87))
 have HR:=aA h
 have H3:=aA hn3
 clear h hn3 hn2
 by_cases h1:a - qu.length<0
 ·go_enter Tryz.func49,Tryz.ntmps49
  go_wp2
  go_ret
  exact ⟨-1,rfl,.inl rfl,uH HB0⟩
 ·have C:=aA (aF5 ao len cap l (a - qu.length) _ ((uH HR).below (uH HB0)) hlen (uH H3) (by omega) (by omega))
  go_enter Tryz.func49,Tryz.ntmps49
  go_wp2_with fail
  refine (uH C).mono ?_
  rintro e w1 ⟨r,rfl,hr,hb⟩
  have HB1:=aA (yB (uH HB0) hb)
  clear hb C
  rcases hr with rfl | ⟨hr0,hr1,hf⟩
  ·go_wp2
   go_ret
   exact ⟨-1,rfl,.inl rfl,uH HB1⟩
  ·have HF:=aA hf
   clear hf
   go_wp2
   go_ret
   exact ⟨r,rfl,.inr ⟨hr0,by omega,by show qu.length≤1048576;omega,uH HF⟩,uH HB1⟩
set_option maxRecDepth 100000 in
set_option maxHeartbeats 1000000 in
theorem aF6 (ao:Option Addr) (len cap:Nat) (l:List bY) (a0:Int) (w:World) (h:eO w ao len l) (hlen:len≤9223372036854775807) (hm:∀q ∈ l,aBi q) (hA0:0≤a0) (hA1:a0≤1048576) :
  Calls Tryz.prog 19 #[.slice ao len cap,.int .i64 a0] w fun e w'=>∃r:Int,e=.returned (.int .i64 r)∧(r = -1∨(0≤r∧r≤a0∧aBh l))∧Below w.heap.size w w':=by
 have HR:=aA h
 have HL:=aA h.1
 have HM:=aA hm
 clear h hm
 by_cases hbig:(len:Int)≤a0
 ·have hb1:¬(a0:Int) - len<0:=by omega
  go_enter Tryz.func19,Tryz.ntmps19
  go_wp2
  go_loopw [1,5] (fun s i wr=>∃(k:Nat) (a:Int),k≤len∧i=.int .i64 k∧s=.int .i64 a∧0≤a∧a≤a0∧Hid (∀q ∈ l.take k,vM q)∧Hid (Below w.heap.size w wr)) (fun _ i _=>len - (intOf i).toNat)
  case atStart=>exact ⟨0,a0 - len,Nat.zero_le _,rfl,rfl,by omega,by omega,aA (by simp),aA (yH _ _)⟩
  case round=>
   obtain ⟨k,a,hk,rfl,rfl,ha0,ha1,HP,HB⟩:=hrel
   by_cases hlt:k<len
   ·obtain ⟨b,off,rfl,hq⟩:=((uH HR).below (uH HB)).at hlt
    have hkl:k<l.length:=by have:=uH HL;omega
    obtain ⟨xo,xl,xc,c0,c1,c2,hrow,hxc⟩:=hq hkl
    have n1:=uH HM l[k] (yM _)
    have htk:=List.take_succ_eq_append_getElem hkl
    obtain ⟨q,hs⟩:∃q,l[k]=q:=⟨_,rfl⟩
    rw [hs] at c0 c1 n1 htk hrow
    obtain ⟨id,qu,asks⟩:=q
    simp only at c0 c1 hrow
    have HTK:=aA htk
    have C:=aA (aGw id qu xo xl xc asks a wr hrow ha0 (by omega) n1)
    clear hq hs hkl htk n1 hrow
    go_wp2_with fail
    refine (uH C).mono ?_
    rintro e w1 ⟨r,rfl,hr,hb⟩
    have HB1:=aA (yB (uH HB) hb)
    clear hb C c0 c1 c2
    rcases hr with rfl | ⟨r0,r1,r2⟩
    ·go_wp2
     go_ret
     exact ⟨-1,rfl,.inl rfl,uH HB1⟩
    ·have HN:=aA (show ∀q ∈ l.take (k+1),vM q by
      rw [uH HTK]
      intro x hx
      rcases List.mem_append.1 hx with hx | hx
      ·exact uH HP x hx
      ·rw [List.mem_singleton.1 hx];exact r2)
     clear r2 HP HTK
     go_wp2
     go_roundw
     case rel=>exact ⟨k+1,r,by omega,by go_num,rfl,by omega,by omega,HN,HB1⟩
     case measure=>simp [intOf];omega
   ·have HF:=aA (show aBh l from ⟨by have:=uH HL;omega,fun q hq=>uH HP q (by rw [List.take_of_length_le (by have:=uH HL;omega)];exact hq)⟩)
    go_wp2
    go_ret
    exact ⟨a,rfl,.inr ⟨ha0,ha1,uH HF⟩,uH HB⟩
 ·have hb1:(a0:Int) - len<0:=by omega
  go_enter Tryz.func19,Tryz.ntmps19
  go_wp2
  go_ret
  exact ⟨-1,rfl,.inl rfl,yH _ _⟩
end Go.Proofs.YtdhibeclkdepiaaGreat
/-
 The laws' own eqApp and eqAppS,at rows that hold the same;walks over the dump.
-/
namespace Go.Proofs.YtdhibeclkdepiaaGreat
open Go.RowKit
set_option linter.unusedVariables false
set_option maxRecDepth 100000 in
set_option maxHeartbeats 1000000 in
theorem aGU (id:Int) (qu:List UInt8) (ao bo:Option Addr) (len cap ccap:Nat) (l:List Ask) (w:World) (h:aO w ao len l) (h':aO w bo len l) (hl:len≤1048576) :
  Calls Tryz.prog 75 #[yO id qu ao len cap,yO id qu bo len ccap] w fun e w'=>e=.returned (.bool true)∧Below w.heap.size w w':=by
 have HB0:=aA (yA (yA (yH _ w) (.cells #[.int .i64 id,.string (bs qu),.slice ao len cap] 74)) (.cells #[.int .i64 id,.string (bs qu),.slice bo len ccap] 74))
 have C:=aA (fun wx (hb:Below w.heap.size w wx)=>aET ao bo len cap ccap l wx (h.below hb) (h'.below hb) hl)
 clear h h'
 go_enter Tryz.func75,Tryz.ntmps75
 go_wp2_with fail
 refine (uH C _ ?_).mono ?_
 ·first | exact uH HB0 | exact (uH HB0).drew | exact (uH HB0).drew.drew | exact jR (uH HB0) _
 rintro e w1 ⟨rfl,hb⟩
 have HB1:=aA (show Below w.heap.size w w1 by first | exact yB (uH HB0) hb | exact yB (uH HB0).drew hb | exact yB (uH HB0).drew.drew hb | exact yB (jR (uH HB0) _) hb)
 clear hb C HB0
 go_wp2
 go_ret
 exact ⟨rfl,uH HB1⟩
def gQ (w0:World) (b p c r:Nat) (q:bY) (ao bo:Option Addr) (len cap ccap:Nat) (w:World):Prop:=pI w b p q ao len cap∧pI w c r q bo len ccap∧Below w0.heap.size w0 w
theorem gQ.call {w0 w w':World} {b p c r:Nat} {q:bY} {ao bo:Option Addr} {len cap ccap:Nat} (h:gQ w0 b p c r q ao bo len cap ccap w) (hb:Below w.heap.size w w'):gQ w0 b p c r q ao bo len cap ccap w':=⟨h.1.below hb,h.2.1.below hb,yB h.2.2 hb⟩
theorem gQ.drew {w0 w:World} {b p c r:Nat} {q:bY} {ao bo:Option Addr} {len cap ccap:Nat} (h:gQ w0 b p c r q ao bo len cap ccap w):gQ w0 b p c r q ao bo len cap ccap w.drew:=h.call (yH _ _).drew
theorem gQ.read (w0:World) (b p c r:Nat) (q:bY) (ao bo:Option Addr) (len cap ccap:Nat):∀wx,gQ w0 b p c r q ao bo len cap ccap wx→wx.cell? ⟨b,p,none⟩=some (.int .i64 q.id)∧wx.cell? ⟨b,p+1,none⟩=some (.string (bs q.queue))∧wx.cell? ⟨b,p+2,none⟩=some (.slice ao len cap)
  ∧wx.cell? ⟨c,r,none⟩=some (.int .i64 q.id)∧wx.cell? ⟨c,r+1,none⟩=some (.string (bs q.queue))∧wx.cell? ⟨c,r+2,none⟩=some (.slice bo len ccap):=
 fun wx h=>⟨h.1.1,h.1.2.1,h.1.2.2.1,h.2.1.1,h.2.1.2.1,h.2.1.2.2.1⟩
set_option maxRecDepth 100000 in
set_option maxHeartbeats 2000000 in
theorem aEU (ao bo:Option Addr) (len cap ccap:Nat) (l:List bY) (w:World) (h:eO w ao len l) (h':eO w bo len l) (hl:len≤1048576) (hk:∀q ∈ l,q.asks.length≤1048576) :
  Calls Tryz.prog 32 #[.slice ao len cap,.slice bo len ccap] w fun e w'=>e=.returned (.bool true)∧Below w.heap.size w w':=by
 have HR:=aA h
 have HR':=aA h'
 have HL:=aA h.1
 have HK:=aA hk
 clear h h' hk
 go_enter Tryz.func32,Tryz.ntmps32
 go_wp2
 go_loopw [5] (fun i wr=>∃k:Nat,k≤len∧i=.int .i64 k∧Hid (Below w.heap.size w wr)) (fun i _=>len - (intOf i).toNat)
 case atStart=>exact ⟨0,Nat.zero_le _,rfl,aA (yH _ _)⟩
 case round=>
  obtain ⟨k,hk,rfl,HB⟩:=hrel
  by_cases hlt:k<len
  ·obtain ⟨b,off,rfl,hq⟩:=((uH HR).below (uH HB)).at hlt
   obtain ⟨c,coff,rfl,hq'⟩:=((uH HR').below (uH HB)).at hlt
   have hkl:k<l.length:=by have:=uH HL;omega
   obtain ⟨xo,xl,xc,hx⟩:=hq hkl
   obtain ⟨yo,yl,yc,hy⟩:=hq' hkl
   obtain rfl:xl=yl:=hx.2.2.2.1.1.trans hy.2.2.2.1.1.symm
   have hxl:xl≤1048576:=by have:=uH HK l[k] (yM _);have:=hx.2.2.2.1.1;omega
   have A0:=aA (show gQ w b (off+k*3) c (coff+k*3) l[k] xo yo xl xc yc wr from ⟨hx,hy,uH HB⟩)
   obtain ⟨q,hs⟩:∃q,l[k]=q:=⟨_,rfl⟩
   rw [hs] at A0
   have R:=gQ.read w b (off+k*3) c (coff+k*3) q xo yo xl xc yc
   have k0:(0:Int)≤k:=by omega
   have k1:(k:Int)<len:=by omega
   clear hq hq' hs hkl hx hy
   go_wp2_with fail
   go_region_held3 (fun wx=>gQ w b (off+k*3) c (coff+k*3) q xo yo xl xc yc wx)
    (first | (with_reducible assumption) | exact (uH A0).drew | exact gQ.call (by assumption) (by assumption))
    (first
    | (go_at_call 75;refine (aGU _ _ xo yo xl xc yc q.asks _ ?_ ?_ hxl).mono ?_;(exact (show gQ w b (off+k*3) c (coff+k*3) q xo yo xl xc yc _ by assumption).1.2.2.2.1);(exact (show gQ w b (off+k*3) c (coff+k*3) q xo yo xl xc yc _ by assumption).2.1.2.2.2.1);rintro e wt ⟨rfl,hb⟩;have SA:=gQ.call (w0:=w) (b:=b) (p:=off+k*3) (c:=c) (r:=coff+k*3) (q:=q) (ao:=xo) (bo:=yo) (len:=xl) (cap:=xc) (ccap:=yc) (by assumption) hb))
   have HB2:=aA SA.2.2
   clear SA R A0
   go_wp2
   go_roundw
   case rel=>exact ⟨k+1,by omega,by go_num,HB2⟩
   case measure=>simp [intOf];omega
  ·go_wp2
   go_ret
   exact ⟨rfl,uH HB⟩
end Go.Proofs.YtdhibeclkdepiaaGreat
/-
 States: values,and what stands behind their slices.
-/
namespace Go.Proofs.YtdhibeclkdepiaaGreat
open Go.RowKit
set_option linter.unusedVariables false
structure St where
 qs:List Q
 clock:Int
 epoch:Int
 next:Int
 serial:Int
 apps:List bY
 ms:List Mac
 cs:List Con
structure Sls where
 qa:Option Addr
 ql:Nat
 qc:Nat
 aa:Option Addr
 al:Nat
 ac:Nat
 ma:Option Addr
 ml:Nat
 mc:Nat
 ca:Option Addr
 cl:Nat
 cc:Nat
abbrev svc (x:Sls) (s:St):Array Value:=#[.slice x.qa x.ql x.qc,.int .i64 s.clock,.int .i64 s.epoch,.int .i64 s.next,.int .i64 s.serial,.slice x.aa x.al x.ac,.slice x.ma x.ml x.mc,.slice x.ca x.cl x.cc]
abbrev sv (x:Sls) (s:St):Value:=.agg (svc x s)
def jC (w:World) (x:Sls) (s:St):Prop:=iG w x.qa x.ql s.qs∧eO w x.aa x.al s.apps∧bE w x.ma x.ml s.ms∧bC w x.ca x.cl s.cs
theorem jC.below {w w':World} {x:Sls} {s:St} (h:jC w x s) (hb:Below w.heap.size w w'):jC w' x s:=⟨h.1.below hb,h.2.1.below hb,h.2.2.1.below hb,h.2.2.2.below hb⟩
def iU (w:World) (g1 g2 g3 g4 ql al ml cl:Nat) (s:St):Prop:=
 lX w 100 g1 ql ql s.qs∧bS w 74 g2 al al s.apps∧bT w 104 g3 ml ml s.ms∧bU w 38 g4 cl cl s.cs
abbrev aDo (g1 g2 g3 g4 ql al ml cl:Nat):Sls:=⟨some ⟨g1,0,none⟩,ql,ql,some ⟨g2,0,none⟩,al,al,some ⟨g3,0,none⟩,ml,ml,some ⟨g4,0,none⟩,cl,cl⟩
def aLa (x:Sls) (s:St):Prop:=x.ql=s.qs.length∧x.al=s.apps.length∧x.ml=s.ms.length∧x.cl=s.cs.length
theorem jC.len {w:World} {x:Sls} {s:St} (h:jC w x s):aLa x s:=⟨h.1.1,h.2.1.1,h.2.2.1.1,h.2.2.2.1⟩
theorem iU.below {w w':World} {g1 g2 g3 g4 ql al ml cl:Nat} {s:St} (h:iU w g1 g2 g3 g4 ql al ml cl s) (hb:Below w.heap.size w w'):iU w' g1 g2 g3 g4 ql al ml cl s:=⟨h.1.below hb,h.2.1.below hb,h.2.2.1.below hb,h.2.2.2.below hb⟩
theorem iU.row {w:World} {g1 g2 g3 g4:Nat} {x:Sls} {s:St} (h:iU w g1 g2 g3 g4 x.ql x.al x.ml x.cl s) (hl:aLa x s):jC w (aDo g1 g2 g3 g4 x.ql x.al x.ml x.cl) s:=⟨h.1.row hl.1,h.2.1.row hl.2.1,h.2.2.1.row hl.2.2.1,h.2.2.2.row hl.2.2.2⟩
theorem lX.other {w:World} {t:TypeId} {g n k:Nat} {l:List Q} (h:lX w t g n k l) (b j:Nat) (v:Value) (hn:g≠b):lX (w.setCell ⟨b,j,none⟩ v) t g n k l:=by
 obtain ⟨arr,h1,h2⟩:=h
 exact ⟨arr,(heap_setCell_other w ⟨b,j,none⟩ g v hn).trans h1,h2⟩
theorem bT.other {w:World} {t:TypeId} {g n k:Nat} {l:List Mac} (h:bT w t g n k l) (b j:Nat) (v:Value) (hn:g≠b):bT (w.setCell ⟨b,j,none⟩ v) t g n k l:=by
 obtain ⟨arr,h1,h2⟩:=h
 exact ⟨arr,(heap_setCell_other w ⟨b,j,none⟩ g v hn).trans h1,h2⟩
theorem bU.other {w:World} {t:TypeId} {g n k:Nat} {l:List Con} (h:bU w t g n k l) (b j:Nat) (v:Value) (hn:g≠b):bU (w.setCell ⟨b,j,none⟩ v) t g n k l:=by
 obtain ⟨arr,h1,h2⟩:=h
 exact ⟨arr,(heap_setCell_other w ⟨b,j,none⟩ g v hn).trans h1,h2⟩
theorem bS.other {w:World} {t:TypeId} {g n k:Nat} {l:List bY} (h:bS w t g n k l) (b j:Nat) (v:Value) (hn:b<g):bS (w.setCell ⟨b,j,none⟩ v) t g n k l:=by
 obtain ⟨arr,h1,h2,h3⟩:=h
 refine ⟨arr,(heap_setCell_other w ⟨b,j,none⟩ g v (show g≠b by omega)).trans h1,h2,fun i hi hk=>?_⟩
 obtain ⟨a,c,x,y,z,d,e⟩:=h3 i hi hk
 exact ⟨a,c,x,y,z,d,e.other b j v hn⟩
theorem iU.other {w:World} {g1 g2 g3 g4 ql al ml cl:Nat} {s:St} (h:iU w g1 g2 g3 g4 ql al ml cl s) (b j:Nat) (v:Value) (h1:b<g1) (h2:b<g2) (h3:b<g3) (h4:b<g4):iU (w.setCell ⟨b,j,none⟩ v) g1 g2 g3 g4 ql al ml cl s:=
 ⟨h.1.other _ _ _ (by omega),h.2.1.other _ _ _ h2,h.2.2.1.other _ _ _ (by omega),h.2.2.2.other _ _ _ (by omega)⟩
end Go.Proofs.YtdhibeclkdepiaaGreat
/-
 The laws' own szState: how much is handed in;walks over the dump.
-/
namespace Go.Proofs.YtdhibeclkdepiaaGreat
open Go.RowKit
set_option linter.unusedVariables false
def bD (s:St):Prop:=aLc s.qs∧aBh s.apps∧aI9 s.ms∧aIa s.cs
def aLU (x:Sls) (s:St):Prop:=(x.ql≤9223372036854775807∧∀q ∈ s.qs,q.name.length≤9223372036854775807∧q.parent.length≤9223372036854775807)∧(x.al≤9223372036854775807∧∀q ∈ s.apps,aBi q)∧(x.ml≤9223372036854775807∧∀q ∈ s.ms,q.name.length≤9223372036854775807)∧(x.cl≤9223372036854775807∧∀q ∈ s.cs,q.node.length≤9223372036854775807)
set_option maxRecDepth 100000 in
set_option maxHeartbeats 2000000 in
theorem aD3 (x:Sls) (s:St) (w:World) (h:jC w x s) (hn:aLU x s) :
  Calls Tryz.prog 5 #[sv x s,.int .i64 1048576] w fun e w'=>∃r:Int,e=.returned (.int .i64 r)∧(r = -1∨(0≤r∧bD s))∧Below w.heap.size w w':=by
 obtain ⟨qa,ql,qc,aa,al,ac,ma,ml,mc,ca,cl,cc⟩:=x
 obtain ⟨qs,clock,epoch,next,serial,apps,ms,cs⟩:=s
 obtain ⟨hq,ha,hm,hc⟩:=h
 obtain ⟨nq,na,nm,nc⟩:=hn
 simp only at hq ha hm hc nq na nm nc
 have HB0:=aA (yA (yH _ w) (.cells #[.slice qa ql qc,.int .i64 clock,.int .i64 epoch,.int .i64 next,.int .i64 serial,.slice aa al ac,.slice ma ml mc,.slice ca cl cc] 27))
 have P0:=aA (yD w #[.slice qa ql qc,.int .i64 clock,.int .i64 epoch,.int .i64 next,.int .i64 serial,.slice aa al ac,.slice ma ml mc,.slice ca cl cc] 27)
 have CQ:=aA (aBr qa ql qc qs _ (hq.below (uH HB0)) nq.1 nq.2)
 have CA:=aA (fun a0 wx (hb:Below w.heap.size w wx) h0 h1=>aF6 aa al ac apps a0 wx (ha.below hb) na.1 na.2 h0 h1)
 have CM:=aA (fun a0 wx (hb:Below w.heap.size w wx) h0 h1=>y8 ma ml mc ms a0 wx (hm.below hb) nm.1 nm.2 h0 h1)
 have CC:=aA (fun a0 wx (hb:Below w.heap.size w wx) h0 h1=>aD7 ca cl cc cs a0 wx (hc.below hb) nc.1 nc.2 h0 h1)
 clear hq ha hm hc nq na nm nc
 go_enter Tryz.func5,Tryz.ntmps5
 go_wp2_with fail
 refine (uH CQ).mono ?_
 rintro e w1 ⟨r,rfl,hr,hb⟩
 have HB1:=aA (yB (uH HB0) hb)
 have P1:=aA ((uH P0).below hb)
 clear hb CQ P0 HB0
 rcases hr with rfl | ⟨r0,r1,hf⟩
 ·go_wp2
  go_ret
  exact ⟨-1,rfl,.inl rfl,uH HB1⟩
 have F1:=aA hf
 have p5:=(uH P1).at 5
 simp at p5
 clear hf
 go_wp2_with fail
 refine (uH CA _ _ (uH HB1) r0 r1).mono ?_
 rintro e w2 ⟨u,rfl,hr,hb⟩
 have HB2:=aA (yB (uH HB1) hb)
 have P2:=aA ((uH P1).below hb)
 clear hb CA P1 HB1 p5
 rcases hr with rfl | ⟨u0,u1,hf⟩
 ·go_wp2
  go_ret
  exact ⟨-1,rfl,.inl rfl,uH HB2⟩
 have F2:=aA hf
 have p6:=(uH P2).at 6
 simp at p6
 clear hf
 go_wp2_with fail
 refine (uH CM _ _ (uH HB2) u0 (by omega)).mono ?_
 rintro e w3 ⟨v,rfl,hr,hb⟩
 have HB3:=aA (yB (uH HB2) hb)
 have P3:=aA ((uH P2).below hb)
 clear hb CM P2 HB2 p6
 rcases hr with rfl | ⟨v0,v1,hf⟩
 ·go_wp2
  go_ret
  exact ⟨-1,rfl,.inl rfl,uH HB3⟩
 have F3:=aA hf
 have p7:=(uH P3).at 7
 simp at p7
 clear hf
 go_wp2_with fail
 refine (uH CC _ _ (uH HB3) v0 (by omega)).mono ?_
 rintro e w4 ⟨t,rfl,hr,hb⟩
 have HB4:=aA (yB (uH HB3) hb)
 clear hb CC P3 HB3 p7
 rcases hr with rfl | ⟨t0,t1,hf⟩
 ·go_wp2
  go_ret
  exact ⟨-1,rfl,.inl rfl,uH HB4⟩
 have F4:=aA hf
 clear hf
 go_wp2
 go_ret
 exact ⟨_,rfl,.inr ⟨t0,uH F1,uH F2,uH F3,uH F4⟩,uH HB4⟩
end Go.Proofs.YtdhibeclkdepiaaGreat
/-
 The laws' own toState: a state made anew;a aBn over the dump.
-/
namespace Go.Proofs.YtdhibeclkdepiaaGreat
open Go.RowKit
set_option linter.unusedVariables false
set_option maxRecDepth 100000 in
set_option maxHeartbeats 8000000 in
theorem aD0 (x:Sls) (s:St) (w:World) (h:jC w x s) (hf:bD s) :
  Calls Tryz.prog 7 #[sv x s] w fun e w'=>∃g1 g2 g3 g4,e=.returned (sv (aDo g1 g2 g3 g4 x.ql x.al x.ml x.cl) s)∧iU w' g1 g2 g3 g4 x.ql x.al x.ml x.cl s∧(w.heap.size<g1∧g1<g2∧g2<g3∧g3<g4)∧Below w.heap.size w w':=by
 have hql:x.ql≤1048576:=by have:=h.1.1;have:=hf.1.1;omega
 have hal:x.al≤1048576:=by have:=h.2.1.1;have:=hf.2.1.1;omega
 have hml:x.ml≤1048576:=by have:=h.2.2.1.1;have:=hf.2.2.1.1;omega
 have hcl:x.cl≤1048576:=by have:=h.2.2.2.1;have:=hf.2.2.2.1;omega
 have hask:∀q ∈ s.apps,q.asks.length≤1048576:=fun q hq=>(hf.2.1.2 q hq).2.1
 obtain ⟨qa,ql,qc,aa,al,ac,ma,ml,mc,ca,cl,cc⟩:=x
 obtain ⟨qs,clock,epoch,next,serial,apps,ms,cs⟩:=s
 obtain ⟨hq,ha,hm,hc⟩:=h
 simp only at hql hal hml hcl hq ha hm hc hask
 have HQ:=aA hq
 have HA:=aA ha
 have HM:=aA hm
 have HC:=aA hc
 have HK:=aA hask
 clear hq ha hm hc hf hask
 have HB0:=aA (yA (yA (yA (yH _ w) (.cells #[.slice qa ql qc,.int .i64 clock,.int .i64 epoch,.int .i64 next,.int .i64 serial,.slice aa al ac,.slice ma ml mc,.slice ca cl cc] 27)) (.cells #[.slice none 0 0,.int .i64 0,.int .i64 0,.int .i64 0,.int .i64 0,.slice none 0 0,.slice none 0 0,.slice none 0 0] 34)) (.cells #[.slice none 0 0,.int .i64 0,.int .i64 0,.int .i64 0,.int .i64 0,.slice none 0 0,.slice none 0 0,.slice none 0 0] 34))
 have P0:=aA (((yD w #[.slice qa ql qc,.int .i64 clock,.int .i64 epoch,.int .i64 next,.int .i64 serial,.slice aa al ac,.slice ma ml mc,.slice ca cl cc] 27).al (.cells #[.slice none 0 0,.int .i64 0,.int .i64 0,.int .i64 0,.int .i64 0,.slice none 0 0,.slice none 0 0,.slice none 0 0] 34)).al (.cells #[.slice none 0 0,.int .i64 0,.int .i64 0,.int .i64 0,.int .i64 0,.slice none 0 0,.slice none 0 0,.slice none 0 0] 34))
 have R0:=aA ((yD (w.alloc (.cells #[.slice qa ql qc,.int .i64 clock,.int .i64 epoch,.int .i64 next,.int .i64 serial,.slice aa al ac,.slice ma ml mc,.slice ca cl cc] 27)) #[.slice none 0 0,.int .i64 0,.int .i64 0,.int .i64 0,.int .i64 0,.slice none 0 0,.slice none 0 0,.slice none 0 0] 34).al (.cells #[.slice none 0 0,.int .i64 0,.int .i64 0,.int .i64 0,.int .i64 0,.slice none 0 0,.slice none 0 0,.slice none 0 0] 34))
 have O0:=aA (yD ((w.alloc (.cells #[.slice qa ql qc,.int .i64 clock,.int .i64 epoch,.int .i64 next,.int .i64 serial,.slice aa al ac,.slice ma ml mc,.slice ca cl cc] 27)).alloc (.cells #[.slice none 0 0,.int .i64 0,.int .i64 0,.int .i64 0,.int .i64 0,.slice none 0 0,.slice none 0 0,.slice none 0 0] 34)) #[.slice none 0 0,.int .i64 0,.int .i64 0,.int .i64 0,.int .i64 0,.slice none 0 0,.slice none 0 0,.slice none 0 0] 34)
 have s3:(((w.alloc (.cells #[.slice qa ql qc,.int .i64 clock,.int .i64 epoch,.int .i64 next,.int .i64 serial,.slice aa al ac,.slice ma ml mc,.slice ca cl cc] 27)).alloc (.cells #[.slice none 0 0,.int .i64 0,.int .i64 0,.int .i64 0,.int .i64 0,.slice none 0 0,.slice none 0 0,.slice none 0 0] 34)).alloc (.cells #[.slice none 0 0,.int .i64 0,.int .i64 0,.int .i64 0,.int .i64 0,.slice none 0 0,.slice none 0 0,.slice none 0 0] 34)).heap.size=w.heap.size+1+1+1:=by simp only [yE]
 have S3:=aA s3
 clear s3
 go_enter Tryz.func7,Tryz.ntmps7
 go_wp2_with fail
 refine (aBq qa ql qc qs _ ((uH HQ).below (uH HB0)) hql).mono ?_
 rintro e w1 ⟨rfl,hq,hb⟩
 have P1:=aA ((uH P0).below hb)
 have R1:=(uH R0).below hb
 have O1:=(uH O0).below hb
 rw [uH S3] at hq
 simp only [yE] at R1 O1
 have HB1:=aA (yB (uH HB0) hb)
 have Q1:=aA hq
 have z1:=hq.lt
 have R1:=aA R1
 have O1:=aA O1
 clear hb P0 R0 O0 HB0 HQ hq
 have p1:=(uH P1).at 1;have p2:=(uH P1).at 2;have p3:=(uH P1).at 3;have p4:=(uH P1).at 4;have p5:=(uH P1).at 5
 have o0:=(uH O1).at 0;have o1:=(uH O1).at 1;have o2:=(uH O1).at 2;have o3:=(uH O1).at 3;have o4:=(uH O1).at 4
 have of0:=(uH O1).f 0;have of1:=(uH O1).f 1;have of2:=(uH O1).f 2;have of3:=(uH O1).f 3;have of4:=(uH O1).f 4
 simp at p1 p2 p3 p4 p5 o0 o1 o2 o3 o4
 go_wp2_with fail
 refine (aF1 aa al ac apps _ ((uH HA).below ?_) hal (uH HK)).mono ?_
 ·repeat (first | exact uH HB1 | refine yC ?_ _ _ _ (by omega))
 clear p1 p2 p3 p4 p5 o0 o1 o2 o3 o4 of0 of1 of2 of3 of4
 rintro e w2 ⟨rfl,hq,hb⟩
 simp only [bG] at hq
 have HB2:=aA (yB (yC (yC (yC (yC (yC (uH HB1) _ _ _ (show w.heap.size≤w.heap.size+1+1 by omega)) _ _ _ (show w.heap.size≤w.heap.size+1+1 by omega)) _ _ _ (show w.heap.size≤w.heap.size+1+1 by omega)) _ _ _ (show w.heap.size≤w.heap.size+1+1 by omega)) _ _ _ (show w.heap.size≤w.heap.size+1+1 by omega)) hb)
 have P2:=aA ((((((uH P1).other _ _ _ (show w.heap.size≠w.heap.size+1+1 by omega)).other _ _ _ (show w.heap.size≠w.heap.size+1+1 by omega)).other _ _ _ (show w.heap.size≠w.heap.size+1+1 by omega)).other _ _ _ (show w.heap.size≠w.heap.size+1+1 by omega)).other _ _ _ (show w.heap.size≠w.heap.size+1+1 by omega) |>.below hb)
 have R2:=aA ((((((uH R1).other _ _ _ (show w.heap.size+1≠w.heap.size+1+1 by omega)).other _ _ _ (show w.heap.size+1≠w.heap.size+1+1 by omega)).other _ _ _ (show w.heap.size+1≠w.heap.size+1+1 by omega)).other _ _ _ (show w.heap.size+1≠w.heap.size+1+1 by omega)).other _ _ _ (show w.heap.size+1≠w.heap.size+1+1 by omega) |>.below hb)
 have O2:=aA (show Blk w2 (w.heap.size+1+1) #[.slice (some ⟨w.heap.size+1+1+1,0,none⟩) ql ql,.int .i64 clock,.int .i64 epoch,.int .i64 next,.int .i64 serial,.slice none 0 0,.slice none 0 0,.slice none 0 0] 34 from ((((((uH O1).set 0 _).set 1 _).set 2 _).set 3 _).set 4 _).below hb)
 have Q2:=aA (((((((uH Q1).other _ _ _ (show w.heap.size+1+1+1≠w.heap.size+1+1 by omega)).other _ _ _ (show w.heap.size+1+1+1≠w.heap.size+1+1 by omega)).other _ _ _ (show w.heap.size+1+1+1≠w.heap.size+1+1 by omega)).other _ _ _ (show w.heap.size+1+1+1≠w.heap.size+1+1 by omega)).other _ _ _ (show w.heap.size+1+1+1≠w.heap.size+1+1 by omega)).below hb)
 have A2:=aA hq
 have z2:=hq.lt
 have g2z:w.heap.size+1+1+1<w1.heap.size:=z1
 obtain ⟨g2,hg2⟩:∃g,w1.heap.size=g:=⟨_,rfl⟩
 simp only [bG]
 rw [hg2] at A2 z2 g2z
 rw [hg2]
 clear hb P1 R1 O1 HB1 HA hq z1 hg2 Q1
 have p6:=(uH P2).at 6
 have o5:=(uH O2).at 5
 have of5:=(uH O2).f 5
 simp at p6 o5
 go_wp2_with fail
 refine (y7 ma ml mc ms _ ((uH HM).below (yC (uH HB2) _ _ _ (show w.heap.size≤w.heap.size+1+1 by omega))) hml).mono ?_
 clear p6 o5 of5
 rintro e w3 ⟨rfl,hq,hb⟩
 simp only [bG] at hq
 have HB3:=aA (yB (yC (uH HB2) _ _ _ (show w.heap.size≤w.heap.size+1+1 by omega)) hb)
 have P3:=aA (((uH P2).other _ _ _ (show w.heap.size≠w.heap.size+1+1 by omega)).below hb)
 have R3:=aA (((uH R2).other _ _ _ (show w.heap.size+1≠w.heap.size+1+1 by omega)).below hb)
 have O3:=aA (show Blk w3 (w.heap.size+1+1) #[.slice (some ⟨w.heap.size+1+1+1,0,none⟩) ql ql,.int .i64 clock,.int .i64 epoch,.int .i64 next,.int .i64 serial,.slice (some ⟨g2,0,none⟩) al al,.slice none 0 0,.slice none 0 0] 34 from ((uH O2).set 5 _).below hb)
 have Q3:=aA (((uH Q2).other _ _ _ (show w.heap.size+1+1+1≠w.heap.size+1+1 by omega)).below hb)
 have A3:=aA (((uH A2).other _ _ _ (show w.heap.size+1+1<g2 by omega)).below hb)
 have M3:=aA hq
 have z3:=hq.lt
 have g3z:g2<w2.heap.size:=z2
 obtain ⟨g3,hg3⟩:∃g,w2.heap.size=g:=⟨_,rfl⟩
 simp only [bG]
 rw [hg3] at M3 z3 g3z
 rw [hg3]
 clear hb P2 R2 O2 HB2 HM hq z2 hg3 Q2 A2
 have p7:=(uH P3).at 7
 have o6:=(uH O3).at 6
 have of6:=(uH O3).f 6
 simp at p7 o6
 go_wp2_with fail
 refine (aD2 ca cl cc cs _ ((uH HC).below (yC (uH HB3) _ _ _ (show w.heap.size≤w.heap.size+1+1 by omega))) hcl).mono ?_
 clear p7 o6 of6
 rintro e w4 ⟨rfl,hq,hb⟩
 simp only [bG] at hq
 have HB4:=aA (yB (yC (uH HB3) _ _ _ (show w.heap.size≤w.heap.size+1+1 by omega)) hb)
 have R4:=aA (((uH R3).other _ _ _ (show w.heap.size+1≠w.heap.size+1+1 by omega)).below hb)
 have O4:=aA (show Blk w4 (w.heap.size+1+1) #[.slice (some ⟨w.heap.size+1+1+1,0,none⟩) ql ql,.int .i64 clock,.int .i64 epoch,.int .i64 next,.int .i64 serial,.slice (some ⟨g2,0,none⟩) al al,.slice (some ⟨g3,0,none⟩) ml ml,.slice none 0 0] 34 from ((uH O3).set 6 _).below hb)
 have Q4:=aA (((uH Q3).other _ _ _ (show w.heap.size+1+1+1≠w.heap.size+1+1 by omega)).below hb)
 have A4:=aA (((uH A3).other _ _ _ (show w.heap.size+1+1<g2 by omega)).below hb)
 have M4:=aA (((uH M3).other _ _ _ (show g3≠w.heap.size+1+1 by omega)).below hb)
 have g4z:g3<w3.heap.size:=z3
 obtain ⟨g4,hg4⟩:∃g,w3.heap.size=g:=⟨_,rfl⟩
 simp only [bG]
 rw [hg4] at hq g4z
 rw [hg4]
 have SO:=aA (show iU w4 (w.heap.size+1+1+1) g2 g3 g4 ql al ml cl ⟨qs,clock,epoch,next,serial,apps,ms,cs⟩ from ⟨uH Q4,uH A4,uH M4,hq⟩)
 clear hb P3 R3 O3 HB3 HC hq z3 hg4 Q3 A3 M3 Q4 A4 M4
 have o7:=(uH O4).at 7
 have of7:=(uH O4).f 7
 simp at o7
 go_upto_region 10 with fail
 have HB5:=aA (yC (uH HB4) (w.heap.size+1+1) 7 (.slice (some ⟨g4,0,none⟩) cl cl) (by omega))
 have SO5:=aA ((uH SO).other (w.heap.size+1+1) 7 (.slice (some ⟨g4,0,none⟩) cl cl) (by omega) (by omega) (by omega) (by omega))
 have R5:=aA ((uH R4).other (w.heap.size+1+1) 7 (.slice (some ⟨g4,0,none⟩) cl cl) (show w.heap.size+1≠w.heap.size+1+1 by omega))
 have O5:=aA (show Blk (w4.setCell ⟨w.heap.size+1+1,7,none⟩ (.slice (some ⟨g4,0,none⟩) cl cl)) (w.heap.size+1+1) #[.slice (some ⟨w.heap.size+1+1+1,0,none⟩) ql ql,.int .i64 clock,.int .i64 epoch,.int .i64 next,.int .i64 serial,.slice (some ⟨g2,0,none⟩) al al,.slice (some ⟨g3,0,none⟩) ml ml,.slice (some ⟨g4,0,none⟩) cl cl] 34 from (uH O4).set 7 _)
 generalize w4.setCell ⟨w.heap.size+1+1,7,none⟩ (.slice (some ⟨g4,0,none⟩) cl cl)=w5 at HB5 SO5 R5 O5 ⊢
 clear o7 of7 HB4 SO R4 O4 HK S3
 obtain ⟨o0,o1,o2,o3,o4,o5,o6,o7⟩:=zq (uH O5)
 obtain ⟨r0,r1,r2,r3,r4,r5,r6,r7⟩:=zq (uH R5)
 have rf0:=(uH R5).f 0;have rf1:=(uH R5).f 1;have rf2:=(uH R5).f 2;have rf3:=(uH R5).f 3;have rf4:=(uH R5).f 4;have rf5:=(uH R5).f 5;have rf6:=(uH R5).f 6;have rf7:=(uH R5).f 7
 clear O5
 go_wp2
 have HB6:=aA (yC (yC (yC (yC (yC (yC (yC (yC (uH HB5) _ 0 (.slice (some ⟨w.heap.size+1+1+1,0,none⟩) ql ql) (show w.heap.size≤w.heap.size+1 by omega)) _ 1 (.int .i64 clock) (show w.heap.size≤w.heap.size+1 by omega)) _ 2 (.int .i64 epoch) (show w.heap.size≤w.heap.size+1 by omega)) _ 3 (.int .i64 next) (show w.heap.size≤w.heap.size+1 by omega)) _ 4 (.int .i64 serial) (show w.heap.size≤w.heap.size+1 by omega)) _ 5 (.slice (some ⟨g2,0,none⟩) al al) (show w.heap.size≤w.heap.size+1 by omega)) _ 6 (.slice (some ⟨g3,0,none⟩) ml ml) (show w.heap.size≤w.heap.size+1 by omega)) _ 7 (.slice (some ⟨g4,0,none⟩) cl cl) (show w.heap.size≤w.heap.size+1 by omega))
 have SO6:=aA (iU.other (iU.other (iU.other (iU.other (iU.other (iU.other (iU.other (iU.other (uH SO5) (w.heap.size+1) 0 (.slice (some ⟨w.heap.size+1+1+1,0,none⟩) ql ql) (by omega) (by omega) (by omega) (by omega)) (w.heap.size+1) 1 (.int .i64 clock) (by omega) (by omega) (by omega) (by omega)) (w.heap.size+1) 2 (.int .i64 epoch) (by omega) (by omega) (by omega) (by omega)) (w.heap.size+1) 3 (.int .i64 next) (by omega) (by omega) (by omega) (by omega)) (w.heap.size+1) 4 (.int .i64 serial) (by omega) (by omega) (by omega) (by omega)) (w.heap.size+1) 5 (.slice (some ⟨g2,0,none⟩) al al) (by omega) (by omega) (by omega) (by omega)) (w.heap.size+1) 6 (.slice (some ⟨g3,0,none⟩) ml ml) (by omega) (by omega) (by omega) (by omega)) (w.heap.size+1) 7 (.slice (some ⟨g4,0,none⟩) cl cl) (by omega) (by omega) (by omega) (by omega))
 have R6:=aA (show Blk ((((((((w5.setCell ⟨w.heap.size+1,0,none⟩ (.slice (some ⟨w.heap.size+1+1+1,0,none⟩) ql ql)).setCell ⟨w.heap.size+1,1,none⟩ (.int .i64 clock)).setCell ⟨w.heap.size+1,2,none⟩ (.int .i64 epoch)).setCell ⟨w.heap.size+1,3,none⟩ (.int .i64 next)).setCell ⟨w.heap.size+1,4,none⟩ (.int .i64 serial)).setCell ⟨w.heap.size+1,5,none⟩ (.slice (some ⟨g2,0,none⟩) al al)).setCell ⟨w.heap.size+1,6,none⟩ (.slice (some ⟨g3,0,none⟩) ml ml)).setCell ⟨w.heap.size+1,7,none⟩ (.slice (some ⟨g4,0,none⟩) cl cl)) (w.heap.size+1) #[.slice (some ⟨w.heap.size+1+1+1,0,none⟩) ql ql,.int .i64 clock,.int .i64 epoch,.int .i64 next,.int .i64 serial,.slice (some ⟨g2,0,none⟩) al al,.slice (some ⟨g3,0,none⟩) ml ml,.slice (some ⟨g4,0,none⟩) cl cl] 34 from (Blk.set (Blk.set (Blk.set (Blk.set (Blk.set (Blk.set (Blk.set (Blk.set (uH R5) 0 (.slice (some ⟨w.heap.size+1+1+1,0,none⟩) ql ql)) 1 (.int .i64 clock)) 2 (.int .i64 epoch)) 3 (.int .i64 next)) 4 (.int .i64 serial)) 5 (.slice (some ⟨g2,0,none⟩) al al)) 6 (.slice (some ⟨g3,0,none⟩) ml ml)) 7 (.slice (some ⟨g4,0,none⟩) cl cl)))
 generalize ((((((((w5.setCell ⟨w.heap.size+1,0,none⟩ (.slice (some ⟨w.heap.size+1+1+1,0,none⟩) ql ql)).setCell ⟨w.heap.size+1,1,none⟩ (.int .i64 clock)).setCell ⟨w.heap.size+1,2,none⟩ (.int .i64 epoch)).setCell ⟨w.heap.size+1,3,none⟩ (.int .i64 next)).setCell ⟨w.heap.size+1,4,none⟩ (.int .i64 serial)).setCell ⟨w.heap.size+1,5,none⟩ (.slice (some ⟨g2,0,none⟩) al al)).setCell ⟨w.heap.size+1,6,none⟩ (.slice (some ⟨g3,0,none⟩) ml ml)).setCell ⟨w.heap.size+1,7,none⟩ (.slice (some ⟨g4,0,none⟩) cl cl))=w6 at HB6 SO6 R6 ⊢
 clear o0 o1 o2 o3 o4 o5 o6 o7 r0 r1 r2 r3 r4 r5 r6 r7 rf0 rf1 rf2 rf3 rf4 rf5 rf6 rf7 HB5 SO5 R5
 obtain ⟨r0,r1,r2,r3,r4,r5,r6,r7⟩:=zq (uH R6)
 refine bodyPost_ret (v:=sv (aDo (w.heap.size+1+1+1) g2 g3 g4 ql al ml cl) ⟨qs,clock,epoch,next,serial,apps,ms,cs⟩) (by simp [results,Tryz.results7,go_sem,r0,r1,r2,r3,r4,r5,r6,r7]) rfl ⟨_,_,_,_,rfl,uH SO6,⟨?_,g2z,g3z,g4z⟩,uH HB6⟩
 omega
end Go.Proofs.YtdhibeclkdepiaaGreat
/-
 The laws' own eqState,at states that hold the same;a aBn over the dump.
-/
namespace Go.Proofs.YtdhibeclkdepiaaGreat
open Go.RowKit
set_option linter.unusedVariables false
def l6 (w:World) (x y:Sls) (s:St) (wx:World):Prop:=Blk wx w.heap.size (svc x s) 34∧Blk wx (w.heap.size+1) (svc y s) 34∧Below w.heap.size w wx
theorem l6.call {w wx wy:World} {x y:Sls} {s:St} (h:l6 w x y s wx) (hb:Below wx.heap.size wx wy):l6 w x y s wy:=⟨h.1.below hb,h.2.1.below hb,yB h.2.2 hb⟩
theorem l6.drew {w wx:World} {x y:Sls} {s:St} (h:l6 w x y s wx):l6 w x y s wx.drew:=h.call (yH _ _).drew
theorem l6.new (w:World) (x y:Sls) (s:St):l6 w x y s ((w.alloc (.cells (svc x s) 34)).alloc (.cells (svc y s) 34)):=
 ⟨(yD _ _ _).al _,by have:=yD (w.alloc (.cells (svc x s) 34)) (svc y s) 34;rwa [yE] at this,yA (yA (yH _ _) _) _⟩
theorem l6.read (w:World) (x y:Sls) (s:St):∀wx,l6 w x y s wx→(wx.cell? ⟨w.heap.size,0,none⟩=some (.slice x.qa x.ql x.qc)∧wx.cell? ⟨w.heap.size,1,none⟩=some (.int .i64 s.clock)∧wx.cell? ⟨w.heap.size,2,none⟩=some (.int .i64 s.epoch)∧wx.cell? ⟨w.heap.size,3,none⟩=some (.int .i64 s.next)∧wx.cell? ⟨w.heap.size,4,none⟩=some (.int .i64 s.serial)∧wx.cell? ⟨w.heap.size,5,none⟩=some (.slice x.aa x.al x.ac)∧wx.cell? ⟨w.heap.size,6,none⟩=some (.slice x.ma x.ml x.mc)∧wx.cell? ⟨w.heap.size,7,none⟩=some (.slice x.ca x.cl x.cc))
  ∧wx.cell? ⟨w.heap.size+1,0,none⟩=some (.slice y.qa y.ql y.qc)∧wx.cell? ⟨w.heap.size+1,1,none⟩=some (.int .i64 s.clock)∧wx.cell? ⟨w.heap.size+1,2,none⟩=some (.int .i64 s.epoch)∧wx.cell? ⟨w.heap.size+1,3,none⟩=some (.int .i64 s.next)∧wx.cell? ⟨w.heap.size+1,4,none⟩=some (.int .i64 s.serial)∧wx.cell? ⟨w.heap.size+1,5,none⟩=some (.slice y.aa y.al y.ac)∧wx.cell? ⟨w.heap.size+1,6,none⟩=some (.slice y.ma y.ml y.mc)∧wx.cell? ⟨w.heap.size+1,7,none⟩=some (.slice y.ca y.cl y.cc):=
 fun wx h=>⟨⟨h.1.at 0,h.1.at 1,h.1.at 2,h.1.at 3,h.1.at 4,h.1.at 5,h.1.at 6,h.1.at 7⟩,h.2.1.at 0,h.2.1.at 1,h.2.1.at 2,h.2.1.at 3,h.2.1.at 4,h.2.1.at 5,h.2.1.at 6,h.2.1.at 7⟩
set_option maxRecDepth 100000 in
set_option maxHeartbeats 4000000 in
theorem kU (x y:Sls) (s:St) (w:World) (h:jC w x s) (h':jC w y s) (hf:bD s) :
  Calls Tryz.prog 9 #[sv x s,sv y s] w fun e w'=>e=.returned (.bool true)∧Below w.heap.size w w':=by
 have E0:=aA (l6.new w x y s)
 have RD:=aA (l6.read w x y s)
 obtain ⟨k1,k2,k3,k4⟩:=h.len
 obtain ⟨l1,l2,l3,l4⟩:=h'.len
 obtain ⟨qa,ql,qc,aa,al,ac,ma,ml,mc,ca,cl,cc⟩:=x
 obtain ⟨ra,rl,rc,ba,bl,bc,na,nl,nc,da,dl,dc⟩:=y
 simp only at k1 k2 k3 k4 l1 l2 l3 l4
 obtain rfl:ql=rl:=k1.trans l1.symm
 obtain rfl:al=bl:=k2.trans l2.symm
 obtain rfl:ml=nl:=k3.trans l3.symm
 obtain rfl:cl=dl:=k4.trans l4.symm
 obtain ⟨hq,ha,hm,hc⟩:=h
 obtain ⟨hq',ha',hm',hc'⟩:=h'
 simp only at hq ha hm hc hq' ha' hm' hc'
 have CQ:=aA (fun wx (hb:Below w.heap.size w wx)=>aB6 qa ra ql qc rc s.qs wx (hq.below hb) (hq'.below hb) (by have:=hf.1.1;omega))
 have CA:=aA (fun wx (hb:Below w.heap.size w wx)=>aEU aa ba al ac bc s.apps wx (ha.below hb) (ha'.below hb) (by have:=hf.2.1.1;omega) (fun q hq=>(hf.2.1.2 q hq).2.1))
 have CM:=aA (fun wx (hb:Below w.heap.size w wx)=>xO ma na ml mc nc s.ms wx (hm.below hb) (hm'.below hb) (by have:=hf.2.2.1.1;omega))
 have CC:=aA (fun wx (hb:Below w.heap.size w wx)=>kV ca da cl cc dc s.cs wx (hc.below hb) (hc'.below hb) (by have:=hf.2.2.2.1;omega))
 obtain ⟨qs,clock,epoch,next,serial,apps,ms,cs⟩:=s
 clear hq ha hm hc hq' ha' hm' hc' hf k1 k2 k3 k4 l1 l2 l3 l4
 go_enter Tryz.func9,Tryz.ntmps9
 go_wp2_with fail
 have E1:=aA (uH E0).drew
 refine (uH CQ _ ?_).mono ?_
 ·first | exact (uH E0).2.2 | exact (uH E1).2.2 | exact (uH E1).drew.2.2
 rintro e w1 ⟨rfl,hb⟩
 have E2:=aA (show l6 w _ _ _ w1 by first | exact (uH E0).call hb | exact (uH E1).call hb | exact (uH E1).drew.call hb)
 clear hb E0 E1 CQ
 obtain ⟨⟨a0,a1,a2,a3,a4,a5,a6,a7⟩,b0,b1,b2,b3,b4,b5,b6,b7⟩:=uH RD _ (uH E2)
 try simp only at a0 a1 a2 a3 a4 a5 a6 a7 b0 b1 b2 b3 b4 b5 b6 b7
 go_wp2_with fail
 refine (uH CA _ (uH E2).2.2).mono ?_
 rintro e w2 ⟨rfl,hb⟩
 have E3:=aA ((uH E2).call hb)
 clear hb E2 CA a0 a1 a2 a3 a4 a5 a6 a7 b0 b1 b2 b3 b4 b5 b6 b7
 obtain ⟨⟨a0,a1,a2,a3,a4,a5,a6,a7⟩,b0,b1,b2,b3,b4,b5,b6,b7⟩:=uH RD _ (uH E3)
 try simp only at a0 a1 a2 a3 a4 a5 a6 a7 b0 b1 b2 b3 b4 b5 b6 b7
 go_wp2_with fail
 refine (uH CM _ (uH E3).2.2).mono ?_
 rintro e w3 ⟨rfl,hb⟩
 have E4:=aA ((uH E3).call hb)
 clear hb E3 CM a0 a1 a2 a3 a4 a5 a6 a7 b0 b1 b2 b3 b4 b5 b6 b7
 obtain ⟨⟨a0,a1,a2,a3,a4,a5,a6,a7⟩,b0,b1,b2,b3,b4,b5,b6,b7⟩:=uH RD _ (uH E4)
 try simp only at a0 a1 a2 a3 a4 a5 a6 a7 b0 b1 b2 b3 b4 b5 b6 b7
 go_wp2_with fail
 refine (uH CC _ (uH E4).2.2).mono ?_
 rintro e w4 ⟨rfl,hb⟩
 have E5:=aA ((uH E4).call hb)
 clear hb E4 CC a0 a1 a2 a3 a4 a5 a6 a7 b0 b1 b2 b3 b4 b5 b6 b7
 go_wp2
 go_ret
 exact ⟨rfl,(uH E5).2.2⟩
end Go.Proofs.YtdhibeclkdepiaaGreat
/-
 What stands while a law over a state is walked.
-/
namespace Go.Proofs.YtdhibeclkdepiaaGreat
open Go.RowKit
set_option linter.unusedVariables false
def jD (w:World) (x:Sls) (s:St) (wx:World):Prop:=Blk wx w.heap.size (svc x s) 27∧Below w.heap.size w wx
theorem jD.new (w:World) (x:Sls) (s:St):jD w x s (w.alloc (.cells (svc x s) 27)):=⟨yD _ _ _,yA (yH _ _) _⟩
theorem jD.call {w wx wy:World} {x:Sls} {s:St} (h:jD w x s wx) (hb:Below wx.heap.size wx wy):jD w x s wy:=⟨h.1.below hb,yB h.2 hb⟩
theorem jD.drew {w wx:World} {x:Sls} {s:St} (h:jD w x s wx):jD w x s wx.drew:=h.call (yH _ _).drew
theorem jD.al {w wx:World} {x:Sls} {s:St} (h:jD w x s wx) (o:Obj):jD w x s (wx.alloc o):=h.call (yA (yH _ _) o)
theorem jD.read (w:World) (x:Sls) (s:St):∀wx,jD w x s wx→wx.cell? ⟨w.heap.size,0,none⟩=some (.slice x.qa x.ql x.qc)∧wx.cell? ⟨w.heap.size,1,none⟩=some (.int .i64 s.clock)∧wx.cell? ⟨w.heap.size,2,none⟩=some (.int .i64 s.epoch)∧wx.cell? ⟨w.heap.size,3,none⟩=some (.int .i64 s.next)∧wx.cell? ⟨w.heap.size,4,none⟩=some (.int .i64 s.serial)∧wx.cell? ⟨w.heap.size,5,none⟩=some (.slice x.aa x.al x.ac)∧wx.cell? ⟨w.heap.size,6,none⟩=some (.slice x.ma x.ml x.mc)∧wx.cell? ⟨w.heap.size,7,none⟩=some (.slice x.ca x.cl x.cc):=
 fun wx h=>⟨h.1.at 0,h.1.at 1,h.1.at 2,h.1.at 3,h.1.at 4,h.1.at 5,h.1.at 6,h.1.at 7⟩
def pU (w:World) (x:Sls) (s:St) (g g1 g2 g3 g4:Nat) (wx:World):Prop:=jD w x s wx∧Blk wx g (svc (aDo g1 g2 g3 g4 x.ql x.al x.ml x.cl) s) 34∧iU wx g1 g2 g3 g4 x.ql x.al x.ml x.cl s
theorem pU.call {w wx wy:World} {x:Sls} {s:St} {g g1 g2 g3 g4:Nat} (h:pU w x s g g1 g2 g3 g4 wx) (hb:Below wx.heap.size wx wy):pU w x s g g1 g2 g3 g4 wy:=⟨h.1.call hb,h.2.1.below hb,h.2.2.below hb⟩
theorem pU.drew {w wx:World} {x:Sls} {s:St} {g g1 g2 g3 g4:Nat} (h:pU w x s g g1 g2 g3 g4 wx):pU w x s g g1 g2 g3 g4 wx.drew:=h.call (yH _ _).drew
theorem pU.al {w wx:World} {x:Sls} {s:St} {g g1 g2 g3 g4:Nat} (h:pU w x s g g1 g2 g3 g4 wx) (o:Obj):pU w x s g g1 g2 g3 g4 (wx.alloc o):=h.call (yA (yH _ _) o)
theorem pU.read (w:World) (x:Sls) (s:St) (g g1 g2 g3 g4:Nat):∀wx,pU w x s g g1 g2 g3 g4 wx→(wx.cell? ⟨w.heap.size,0,none⟩=some (.slice x.qa x.ql x.qc)∧wx.cell? ⟨w.heap.size,1,none⟩=some (.int .i64 s.clock)∧wx.cell? ⟨w.heap.size,2,none⟩=some (.int .i64 s.epoch)∧wx.cell? ⟨w.heap.size,3,none⟩=some (.int .i64 s.next)∧wx.cell? ⟨w.heap.size,4,none⟩=some (.int .i64 s.serial)∧wx.cell? ⟨w.heap.size,5,none⟩=some (.slice x.aa x.al x.ac)∧wx.cell? ⟨w.heap.size,6,none⟩=some (.slice x.ma x.ml x.mc)∧wx.cell? ⟨w.heap.size,7,none⟩=some (.slice x.ca x.cl x.cc))
  ∧wx.cell? ⟨g,0,none⟩=some (.slice (some ⟨g1,0,none⟩) x.ql x.ql)∧wx.cell? ⟨g,1,none⟩=some (.int .i64 s.clock)∧wx.cell? ⟨g,2,none⟩=some (.int .i64 s.epoch)∧wx.cell? ⟨g,3,none⟩=some (.int .i64 s.next)∧wx.cell? ⟨g,4,none⟩=some (.int .i64 s.serial)∧wx.cell? ⟨g,5,none⟩=some (.slice (some ⟨g2,0,none⟩) x.al x.al)∧wx.cell? ⟨g,6,none⟩=some (.slice (some ⟨g3,0,none⟩) x.ml x.ml)∧wx.cell? ⟨g,7,none⟩=some (.slice (some ⟨g4,0,none⟩) x.cl x.cl):=
 fun wx h=>⟨jD.read w x s wx h.1,h.2.1.at 0,h.2.1.at 1,h.2.1.at 2,h.2.1.at 3,h.2.1.at 4,h.2.1.at 5,h.2.1.at 6,h.2.1.at 7⟩
end Go.Proofs.YtdhibeclkdepiaaGreat
/-
 An amount among the cells of what came in.
-/
namespace Go.Proofs.YtdhibeclkdepiaaGreat
open Go.ChangeShapes Go.WideShapes Go.ChangeAt Go.RowKit Go.Deep
set_option linter.unusedVariables false
theorem rO:Tryz.prog.cellsOf 89=2:=by kernel_rfl
set_option maxRecDepth 100000 in
theorem mM {H:Type} {enc:TypeId×Value→H} {W:World} {base:Nat} {sp:Nat→Bool} {held:Bool} {fuel:Nat} {cs:List Value} {x:DataW H×List MemPlace}
  (h:DataW.trod enc Tryz.prog W base sp held fuel 89 cs=some x) :
  ∃a b:Int,cs=[.int .i64 a,.int .i64 b]∧(Lit.int .i64 a).wf=true∧(Lit.int .i64 b).wf=true:=by
 obtain ⟨xs,n,rfl,rfl,hlen,hxs,hf⟩:=DataW.trod_struct Tryz.underlying89 h
 rw [rO] at hlen
 have hxs:xs.length=2:=hxs
 match cs,hlen,xs,hxs with
 | [c0,c1],_,[x0,x1],_=>
  have h0:=hf 0 _ rfl
  have h1:=hf 1 _ rfl
  obtain ⟨d,e2,_,b2⟩:=DataW.trod_int Tryz.underlying3 h0
  obtain ⟨m,e3,_,b3⟩:=DataW.trod_int Tryz.underlying3 h1
  simp [mZ] at e2 e3
  subst e2 e3
  exact ⟨d,m,rfl,b2,b3⟩
end Go.Proofs.YtdhibeclkdepiaaGreat
/-
 A slice of Ask values that came in: what it holds (mkrow.py wrote this).
-/
namespace Go.Proofs.YtdhibeclkdepiaaGreat
open Go.ChangeShapes Go.WideShapes Go.ChangeAt Go.RowKit Go.Deep
set_option linter.unusedVariables false
theorem aAj:Tryz.prog.cellsOf 174=5:=by kernel_rfl
def aFV (q:Ask):Prop:=q.node.length≤9223372036854775807∧(Lit.int .i64 q.mem).wf=true∧(Lit.int .i64 q.cpu).wf=true∧(Lit.int .i64 q.count).wf=true∧(Lit.int .i64 q.missed).wf=true
set_option maxRecDepth 100000 in
theorem aH0 {H:Type} {enc:TypeId×Value→H} {W:World} {base:Nat} {sp:Nat→Bool} {held:Bool} {fuel:Nat} {cs:List Value} {x:DataW H×List MemPlace}
  (h:DataW.trod enc Tryz.prog W base sp held fuel 174 cs=some x) :
  ∃q:Ask,cs=[.int .i64 q.mem,.int .i64 q.cpu,.int .i64 q.count,.string (bs q.node),.int .i64 q.missed]∧aFV q:=by
 obtain ⟨xs,n,rfl,rfl,hlen,hxs,hf⟩:=DataW.trod_struct Tryz.underlying174 h
 rw [aAj] at hlen
 have hxs:xs.length=4:=hxs
 match cs,hlen,xs,hxs with
 | [c0,c1,c2,c3,c4],_,[x0,x1,x2,x3],_=>
  have h0:=hf 0 _ rfl
  have h1:=hf 1 _ rfl
  have h2:=hf 2 _ rfl
  have h3:=hf 3 _ rfl
  obtain ⟨s0,s1,e0,b0,b1⟩:=mM h0
  obtain ⟨s2,e2,_,b2⟩:=DataW.trod_int Tryz.underlying3 h1
  obtain ⟨s3,e3,_,b3⟩:=DataW.trod_string Tryz.underlying9 h2
  obtain ⟨s4,e4,_,b4⟩:=DataW.trod_int Tryz.underlying3 h3
  simp [rM,mZ,rO] at e0 e2 e3 e4
  obtain ⟨q0,q1⟩:=e0
  subst q0 q1 e2 e3 e4
  refine ⟨⟨s0,s1,s2,s3.data.toList,s4⟩,by simp only [sS],?_,b0,b1,b2,b4⟩
  simpa [maxLen] using b3
theorem aHZ {H:Type} {enc:TypeId×Value→H} {W:World} {base:Nat} {held:Bool} {ao:Option Addr} {len cap fuel:Nat} {x:DataW H×List MemPlace}
  (hf:DataW.trod enc Tryz.prog W base (fun _=>true) held fuel 85 [.slice ao len cap]=some x) :
  ∃l:List Ask,aO W ao len l∧len≤9223372036854775807∧∀q ∈ l,aFV q:=by
 rcases open_slice Tryz.underlying85 hf with ⟨hcs,_⟩ | ⟨a,len',cap',m,n,D,Pl,hcs,hb,hl,hm,hmm,hx,hel⟩
 ·simp at hcs
  obtain ⟨rfl,rfl,rfl⟩:=hcs
  exact ⟨[],aO.nil _ _,by omega,by simp⟩
 ·simp at hcs
  obtain ⟨rfl,rfl,rfl⟩:=hcs
  simp only [if_true] at hmm
  subst hmm
  rw [aAj] at hel
  have inh:Inhabited Ask:=⟨⟨0,0,0,[],0⟩⟩
  obtain ⟨F,hF⟩:=choose_lt (α:=Ask) (n:=len) (p:=fun i q=>W.cells? base (a.add (i*5)) 5=some [.int .i64 q.mem,.int .i64 q.cpu,.int .i64 q.count,.string (bs q.node),.int .i64 q.missed]∧aFV q) (fun i hi=>by
   obtain ⟨cs',h1,h2⟩:=hel i (by omega)
   obtain ⟨q,rfl,h3⟩:=aH0 h2
   exact ⟨q,h1,h3⟩)
  refine ⟨(List.range len).map F,?_,by have:maxLen=9223372036854775807:=rfl;omega,?_⟩
  ·refine ⟨by simp,?_⟩
   by_cases h0:len=0
   ·exact .inl h0
   ·right
    obtain ⟨b,off,spot⟩:=a
    have hc0:=(World.cells?_some (hF 0 (by omega)).1).2.2 0 (by omega)
    have hspot:spot=none:=by simpa [Addr.add] using World.cell?_spot hc0
    subst hspot
    refine ⟨b,off,rfl,fun i hi=>?_⟩
    have hi':i<len:=by simpa using hi
    obtain ⟨_,_,hc⟩:=World.cells?_some (hF i hi').1
    rw [Lib.add_plain] at hc
    have k0:=hc 0 (by omega)
    have k1:=hc 1 (by omega)
    have k2:=hc 2 (by omega)
    have k3:=hc 3 (by omega)
    have k4:=hc 4 (by omega)
    rw [Lib.add_plain] at k0 k1 k2 k3 k4
    simp only [List.getElem_map,List.getElem_range]
    exact ⟨k0,k1,k2,k3,k4⟩
  ·intro q hq
   obtain ⟨i,hi,rfl⟩:=List.mem_map.1 hq
   exact (hF i (by simpa using hi)).2
end Go.Proofs.YtdhibeclkdepiaaGreat
/-
 A slice of Machine values that came in: what it holds (mkrow.py wrote this).
-/
namespace Go.Proofs.YtdhibeclkdepiaaGreat
open Go.ChangeShapes Go.WideShapes Go.ChangeAt Go.RowKit Go.Deep
set_option linter.unusedVariables false
theorem aAh:Tryz.prog.cellsOf 91=4:=by kernel_rfl
def aFR (q:Mac):Prop:=q.name.length≤9223372036854775807∧(Lit.int .i64 q.mem).wf=true∧(Lit.int .i64 q.cpu).wf=true∧(Lit.int .i64 q.seen).wf=true
set_option maxRecDepth 100000 in
theorem aHW {H:Type} {enc:TypeId×Value→H} {W:World} {base:Nat} {sp:Nat→Bool} {held:Bool} {fuel:Nat} {cs:List Value} {x:DataW H×List MemPlace}
  (h:DataW.trod enc Tryz.prog W base sp held fuel 91 cs=some x) :
  ∃q:Mac,cs=[.string (bs q.name),.int .i64 q.mem,.int .i64 q.cpu,.int .i64 q.seen]∧aFR q:=by
 obtain ⟨xs,n,rfl,rfl,hlen,hxs,hf⟩:=DataW.trod_struct Tryz.underlying91 h
 rw [aAh] at hlen
 have hxs:xs.length=3:=hxs
 match cs,hlen,xs,hxs with
 | [c0,c1,c2,c3],_,[x0,x1,x2],_=>
  have h0:=hf 0 _ rfl
  have h1:=hf 1 _ rfl
  have h2:=hf 2 _ rfl
  obtain ⟨s0,e0,_,b0⟩:=DataW.trod_string Tryz.underlying9 h0
  obtain ⟨s1,s2,e1,b1,b2⟩:=mM h1
  obtain ⟨s3,e3,_,b3⟩:=DataW.trod_int Tryz.underlying3 h2
  simp [rM,mZ,rO] at e0 e1 e3
  obtain ⟨q1,q2⟩:=e1
  subst e0 q1 q2 e3
  refine ⟨⟨s0.data.toList,s1,s2,s3⟩,by simp only [sS],?_,b1,b2,b3⟩
  simpa [maxLen] using b0
theorem aHV {H:Type} {enc:TypeId×Value→H} {W:World} {base:Nat} {held:Bool} {ao:Option Addr} {len cap fuel:Nat} {x:DataW H×List MemPlace}
  (hf:DataW.trod enc Tryz.prog W base (fun _=>true) held fuel 24 [.slice ao len cap]=some x) :
  ∃l:List Mac,bE W ao len l∧len≤9223372036854775807∧∀q ∈ l,aFR q:=by
 rcases open_slice Tryz.underlying24 hf with ⟨hcs,_⟩ | ⟨a,len',cap',m,n,D,Pl,hcs,hb,hl,hm,hmm,hx,hel⟩
 ·simp at hcs
  obtain ⟨rfl,rfl,rfl⟩:=hcs
  exact ⟨[],bE.nil _ _,by omega,by simp⟩
 ·simp at hcs
  obtain ⟨rfl,rfl,rfl⟩:=hcs
  simp only [if_true] at hmm
  subst hmm
  rw [aAh] at hel
  have inh:Inhabited Mac:=⟨⟨[],0,0,0⟩⟩
  obtain ⟨F,hF⟩:=choose_lt (α:=Mac) (n:=len) (p:=fun i q=>W.cells? base (a.add (i*4)) 4=some [.string (bs q.name),.int .i64 q.mem,.int .i64 q.cpu,.int .i64 q.seen]∧aFR q) (fun i hi=>by
   obtain ⟨cs',h1,h2⟩:=hel i (by omega)
   obtain ⟨q,rfl,h3⟩:=aHW h2
   exact ⟨q,h1,h3⟩)
  refine ⟨(List.range len).map F,?_,by have:maxLen=9223372036854775807:=rfl;omega,?_⟩
  ·refine ⟨by simp,?_⟩
   by_cases h0:len=0
   ·exact .inl h0
   ·right
    obtain ⟨b,off,spot⟩:=a
    have hc0:=(World.cells?_some (hF 0 (by omega)).1).2.2 0 (by omega)
    have hspot:spot=none:=by simpa [Addr.add] using World.cell?_spot hc0
    subst hspot
    refine ⟨b,off,rfl,fun i hi=>?_⟩
    have hi':i<len:=by simpa using hi
    obtain ⟨_,_,hc⟩:=World.cells?_some (hF i hi').1
    rw [Lib.add_plain] at hc
    have k0:=hc 0 (by omega)
    have k1:=hc 1 (by omega)
    have k2:=hc 2 (by omega)
    have k3:=hc 3 (by omega)
    rw [Lib.add_plain] at k0 k1 k2 k3
    simp only [List.getElem_map,List.getElem_range]
    exact ⟨k0,k1,k2,k3⟩
  ·intro q hq
   obtain ⟨i,hi,rfl⟩:=List.mem_map.1 hq
   exact (hF i (by simpa using hi)).2
end Go.Proofs.YtdhibeclkdepiaaGreat
/-
 A slice of Cont values that came in: what it holds (mkrow.py wrote this).
-/
namespace Go.Proofs.YtdhibeclkdepiaaGreat
open Go.ChangeShapes Go.WideShapes Go.ChangeAt Go.RowKit Go.Deep
set_option linter.unusedVariables false
theorem aAi:Tryz.prog.cellsOf 94=5:=by kernel_rfl
def aFT (q:Con):Prop:=q.node.length≤9223372036854775807∧(Lit.int .i64 q.id).wf=true∧(Lit.int .i64 q.app).wf=true∧(Lit.int .i64 q.mem).wf=true∧(Lit.int .i64 q.cpu).wf=true
set_option maxRecDepth 100000 in
theorem aHY {H:Type} {enc:TypeId×Value→H} {W:World} {base:Nat} {sp:Nat→Bool} {held:Bool} {fuel:Nat} {cs:List Value} {x:DataW H×List MemPlace}
  (h:DataW.trod enc Tryz.prog W base sp held fuel 94 cs=some x) :
  ∃q:Con,cs=[.int .i64 q.id,.int .i64 q.app,.string (bs q.node),.int .i64 q.mem,.int .i64 q.cpu]∧aFT q:=by
 obtain ⟨xs,n,rfl,rfl,hlen,hxs,hf⟩:=DataW.trod_struct Tryz.underlying94 h
 rw [aAi] at hlen
 have hxs:xs.length=4:=hxs
 match cs,hlen,xs,hxs with
 | [c0,c1,c2,c3,c4],_,[x0,x1,x2,x3],_=>
  have h0:=hf 0 _ rfl
  have h1:=hf 1 _ rfl
  have h2:=hf 2 _ rfl
  have h3:=hf 3 _ rfl
  obtain ⟨s0,e0,_,b0⟩:=DataW.trod_int Tryz.underlying3 h0
  obtain ⟨s1,e1,_,b1⟩:=DataW.trod_int Tryz.underlying3 h1
  obtain ⟨s2,e2,_,b2⟩:=DataW.trod_string Tryz.underlying9 h2
  obtain ⟨s3,s4,e3,b3,b4⟩:=mM h3
  simp [rM,mZ,rO] at e0 e1 e2 e3
  obtain ⟨q3,q4⟩:=e3
  subst e0 e1 e2 q3 q4
  refine ⟨⟨s0,s1,s2.data.toList,s3,s4⟩,by simp only [sS],?_,b0,b1,b3,b4⟩
  simpa [maxLen] using b2
theorem aHX {H:Type} {enc:TypeId×Value→H} {W:World} {base:Nat} {held:Bool} {ao:Option Addr} {len cap fuel:Nat} {x:DataW H×List MemPlace}
  (hf:DataW.trod enc Tryz.prog W base (fun _=>true) held fuel 25 [.slice ao len cap]=some x) :
  ∃l:List Con,bC W ao len l∧len≤9223372036854775807∧∀q ∈ l,aFT q:=by
 rcases open_slice Tryz.underlying25 hf with ⟨hcs,_⟩ | ⟨a,len',cap',m,n,D,Pl,hcs,hb,hl,hm,hmm,hx,hel⟩
 ·simp at hcs
  obtain ⟨rfl,rfl,rfl⟩:=hcs
  exact ⟨[],bC.nil _ _,by omega,by simp⟩
 ·simp at hcs
  obtain ⟨rfl,rfl,rfl⟩:=hcs
  simp only [if_true] at hmm
  subst hmm
  rw [aAi] at hel
  have inh:Inhabited Con:=⟨⟨0,0,[],0,0⟩⟩
  obtain ⟨F,hF⟩:=choose_lt (α:=Con) (n:=len) (p:=fun i q=>W.cells? base (a.add (i*5)) 5=some [.int .i64 q.id,.int .i64 q.app,.string (bs q.node),.int .i64 q.mem,.int .i64 q.cpu]∧aFT q) (fun i hi=>by
   obtain ⟨cs',h1,h2⟩:=hel i (by omega)
   obtain ⟨q,rfl,h3⟩:=aHY h2
   exact ⟨q,h1,h3⟩)
  refine ⟨(List.range len).map F,?_,by have:maxLen=9223372036854775807:=rfl;omega,?_⟩
  ·refine ⟨by simp,?_⟩
   by_cases h0:len=0
   ·exact .inl h0
   ·right
    obtain ⟨b,off,spot⟩:=a
    have hc0:=(World.cells?_some (hF 0 (by omega)).1).2.2 0 (by omega)
    have hspot:spot=none:=by simpa [Addr.add] using World.cell?_spot hc0
    subst hspot
    refine ⟨b,off,rfl,fun i hi=>?_⟩
    have hi':i<len:=by simpa using hi
    obtain ⟨_,_,hc⟩:=World.cells?_some (hF i hi').1
    rw [Lib.add_plain] at hc
    have k0:=hc 0 (by omega)
    have k1:=hc 1 (by omega)
    have k2:=hc 2 (by omega)
    have k3:=hc 3 (by omega)
    have k4:=hc 4 (by omega)
    rw [Lib.add_plain] at k0 k1 k2 k3 k4
    simp only [List.getElem_map,List.getElem_range]
    exact ⟨k0,k1,k2,k3,k4⟩
  ·intro q hq
   obtain ⟨i,hi,rfl⟩:=List.mem_map.1 hq
   exact (hF i (by simpa using hi)).2
end Go.Proofs.YtdhibeclkdepiaaGreat
/-
 A slice of App values that came in: what it holds.
-/
namespace Go.Proofs.YtdhibeclkdepiaaGreat
open Go.ChangeShapes Go.WideShapes Go.ChangeAt Go.RowKit Go.Deep
set_option linter.unusedVariables false
theorem xW:Tryz.prog.cellsOf 87=3:=by kernel_rfl
theorem aE0:Tryz.prog.cellsOf 85=1:=by kernel_rfl
def tC (q:bY):Prop:=q.queue.length≤9223372036854775807∧(Lit.int .i64 q.id).wf=true∧q.asks.length≤9223372036854775807∧∀a ∈ q.asks,aFV a
theorem tC.big {q:bY} (h:tC q):aBi q:=⟨h.1,h.2.2.1,fun a ha=>(h.2.2.2 a ha).1⟩
set_option maxRecDepth 100000 in
theorem aFu {H:Type} {enc:TypeId×Value→H} {W:World} {base:Nat} {held:Bool} {fuel:Nat} {cs:List Value} {x:DataW H×List MemPlace}
  (h:DataW.trod enc Tryz.prog W base (fun _=>true) held fuel 87 cs=some x) :
  ∃(q:bY) (ao:Option Addr) (len cap:Nat),cs=[.int .i64 q.id,.string (bs q.queue),.slice ao len cap]∧aO W ao len q.asks∧len≤cap∧tC q:=by
 obtain ⟨xs,n,rfl,rfl,hlen,hxs,hf⟩:=DataW.trod_struct Tryz.underlying87 h
 rw [xW] at hlen
 have hxs:xs.length=3:=hxs
 match cs,hlen,xs,hxs with
 | [c0,c1,c2],_,[x0,x1,x2],_=>
  have h0:=hf 0 _ rfl
  have h1:=hf 1 _ rfl
  have h2:=hf 2 _ rfl
  obtain ⟨s0,e0,_,b0⟩:=DataW.trod_int Tryz.underlying3 h0
  obtain ⟨s1,e1,_,b1⟩:=DataW.trod_string Tryz.underlying9 h1
  have h3:=h2
  simp [rM,mZ,aE0] at e0 e1 h3
  rcases open_slice Tryz.underlying85 h3 with ⟨hcs,_⟩ | ⟨a,len',cap',m,n,D,Pl,hcs,hb,hl,hm,hmm,hx,hel⟩
  ·simp at hcs
   subst hcs e0 e1
   exact ⟨⟨s0,s1.data.toList,[]⟩,none,0,0,by simp only [sS],aO.nil _ _,yJ _,by simpa [maxLen] using b1,b0,by simp,by simp⟩
  ·simp at hcs
   subst hcs e0 e1
   obtain ⟨l,hr,hle,hfit⟩:=aHZ h3
   refine ⟨⟨s0,s1.data.toList,l⟩,some a,len',cap',by simp only [sS],hr,hl,by simpa [maxLen] using b1,b0,?_,hfit⟩
   have:=hr.1
   show l.length≤_
   omega
theorem aFt {H:Type} {enc:TypeId×Value→H} {W:World} {base:Nat} {held:Bool} {ao:Option Addr} {len cap fuel:Nat} {x:DataW H×List MemPlace}
  (hf:DataW.trod enc Tryz.prog W base (fun _=>true) held fuel 23 [.slice ao len cap]=some x) :
  ∃l:List bY,eO W ao len l∧len≤9223372036854775807∧∀q ∈ l,tC q:=by
 rcases open_slice Tryz.underlying23 hf with ⟨hcs,_⟩ | ⟨a,len',cap',m,n,D,Pl,hcs,hb,hl,hm,hmm,hx,hel⟩
 ·simp at hcs
  obtain ⟨rfl,rfl,rfl⟩:=hcs
  exact ⟨[],eO.nil _ _,by omega,by simp⟩
 ·simp at hcs
  obtain ⟨rfl,rfl,rfl⟩:=hcs
  simp only [if_true] at hmm
  subst hmm
  rw [xW] at hel
  have inh:Inhabited bY:=⟨⟨0,[],[]⟩⟩
  obtain ⟨F,hF⟩:=choose_lt (α:=bY) (n:=len) (p:=fun i q=>∃(xo:Option Addr) (xl xc:Nat),W.cells? base (a.add (i*3)) 3=some [.int .i64 q.id,.string (bs q.queue),.slice xo xl xc]∧aO W xo xl q.asks∧xl≤xc∧tC q) (fun i hi=>by
   obtain ⟨cs',h1,h2⟩:=hel i (by omega)
   obtain ⟨q,xo,xl,xc,rfl,h3⟩:=aFu h2
   exact ⟨q,xo,xl,xc,h1,h3⟩)
  refine ⟨(List.range len).map F,?_,by have:maxLen=9223372036854775807:=rfl;omega,?_⟩
  ·refine ⟨by simp,?_⟩
   by_cases h0:len=0
   ·exact .inl h0
   ·right
    obtain ⟨b,off,spot⟩:=a
    obtain ⟨_,_,_,hF0,_⟩:=hF 0 (by omega)
    have hc0:=(World.cells?_some hF0).2.2 0 (by omega)
    have hspot:spot=none:=by simpa [Addr.add] using World.cell?_spot hc0
    subst hspot
    refine ⟨b,off,rfl,fun i hi=>?_⟩
    have hi':i<len:=by simpa using hi
    obtain ⟨xo,xl,xc,hFi,hrow,hle,_⟩:=hF i hi'
    obtain ⟨_,_,hc⟩:=World.cells?_some hFi
    rw [Lib.add_plain] at hc
    have k0:=hc 0 (by omega)
    have k1:=hc 1 (by omega)
    have k2:=hc 2 (by omega)
    rw [Lib.add_plain] at k0 k1 k2
    simp only [List.getElem_map,List.getElem_range]
    exact ⟨xo,xl,xc,k0,k1,k2,hrow,hle⟩
  ·intro q hq
   obtain ⟨i,hi,rfl⟩:=List.mem_map.1 hq
   obtain ⟨_,_,_,_,_,_,h⟩:=hF i (by simpa using hi)
   exact h
end Go.Proofs.YtdhibeclkdepiaaGreat
/-
 A state that comes in as an argument.
-/
namespace Go.Proofs.YtdhibeclkdepiaaGreat
open Go.ChangeShapes Go.WideShapes Go.ChangeAt Go.RowKit Go.Deep
set_option linter.unusedVariables false
theorem aIJ:Tryz.prog.cellsOf 27=8:=by kernel_rfl
theorem aIK:Tryz.prog.cellsOf 22=1:=by kernel_rfl
theorem aIN:Tryz.prog.cellsOf 23=1:=by kernel_rfl
theorem aIL:Tryz.prog.cellsOf 24=1:=by kernel_rfl
theorem aIM:Tryz.prog.cellsOf 25=1:=by kernel_rfl
def aGb (x:Sls) (s:St):Prop:=(x.ql≤9223372036854775807∧∀q ∈ s.qs,aL0 q∧(Lit.int .i64 q.due).wf=true∧(Lit.int .i64 q.most).wf=true)∧(x.al≤9223372036854775807∧∀q ∈ s.apps,tC q)∧(x.ml≤9223372036854775807∧∀q ∈ s.ms,aFR q)∧(x.cl≤9223372036854775807∧∀q ∈ s.cs,aFT q)∧(Lit.int .i64 s.clock).wf=true∧(Lit.int .i64 s.epoch).wf=true∧(Lit.int .i64 s.next).wf=true∧(Lit.int .i64 s.serial).wf=true
theorem aGb.big {x:Sls} {s:St} (h:aGb x s):aLU x s:=⟨⟨h.1.1,fun q hq=>(h.1.2 q hq).1⟩,⟨h.2.1.1,fun q hq=>(h.2.1.2 q hq).big⟩,⟨h.2.2.1.1,fun q hq=>(h.2.2.1.2 q hq).1⟩,h.2.2.2.1.1,fun q hq=>(h.2.2.2.1.2 q hq).1⟩
theorem mH {H:Type} {enc:TypeId×Value→H} {W:World} {base:Nat} {held:Bool} {t e:TypeId} {fuel:Nat} {c:Value} {x:DataW H×List MemPlace} (hu:Tryz.prog.underlying t=some (.slice e))
  (h:DataW.trod enc Tryz.prog W base (fun _=>true) held fuel t [c]=some x):∃ao len cap,c=.slice ao len cap:=by
 rcases open_slice hu h with ⟨hcs,_⟩ | ⟨a,len',cap',m,n,D,Pl,hcs,_⟩
 ·simp at hcs;exact ⟨_,_,_,hcs⟩
 ·simp at hcs;exact ⟨_,_,_,hcs⟩
set_option maxRecDepth 100000 in
theorem aFs {H:Type} {enc:TypeId×Value→H} {W:World} {base b0:Nat} {r:Reach} {held:Bool} {v:Value} {d:DataW H} {p:List MemPlace}
  (hv:Value.okWide Tryz.prog W r b0 27 v) (h:DataW.Trod enc Tryz.prog W base (fun _=>true) held 27 v d p) :
  ∃(x:Sls) (s:St),v=sv x s∧jC W x s∧aGb x s:=by
 obtain ⟨cs,rfl,hsz⟩:=okWide_struct Tryz.underlying27 hv
 obtain ⟨fuel,hf0⟩:=h
 obtain ⟨cs⟩:=cs
 have hcells:(Value.agg ⟨cs⟩).cells.toList=cs:=by simp [Value.cells]
 rw [hcells] at hf0
 obtain ⟨xs,n,rfl,_,hlen,hxs,hf⟩:=DataW.trod_struct Tryz.underlying27 hf0
 rw [aIJ] at hlen
 have hxs:xs.length=8:=hxs
 match cs,hlen,xs,hxs with
 | [c0,c1,c2,c3,c4,c5,c6,c7],_,[x0,x1,x2,x3,x4,x5,x6,x7],_=>
  have h0:=hf 0 _ rfl
  have h1:=hf 1 _ rfl
  have h2:=hf 2 _ rfl
  have h3:=hf 3 _ rfl
  have h4:=hf 4 _ rfl
  have h5:=hf 5 _ rfl
  have h6:=hf 6 _ rfl
  have h7:=hf 7 _ rfl
  obtain ⟨s1,e1,_,b1⟩:=DataW.trod_int Tryz.underlying3 h1
  obtain ⟨s2,e2,_,b2⟩:=DataW.trod_int Tryz.underlying3 h2
  obtain ⟨s3,e3,_,b3⟩:=DataW.trod_int Tryz.underlying3 h3
  obtain ⟨s4,e4,_,b4⟩:=DataW.trod_int Tryz.underlying3 h4
  simp [mZ,aIK,aIN,aIL,aIM] at e1 e2 e3 e4 h0 h5 h6 h7
  obtain ⟨qa,ql,qc,rfl⟩:=mH Tryz.underlying22 h0
  obtain ⟨aa,al,ac,rfl⟩:=mH Tryz.underlying23 h5
  obtain ⟨ma,ml,mc,rfl⟩:=mH Tryz.underlying24 h6
  obtain ⟨ca,cl,cc,rfl⟩:=mH Tryz.underlying25 h7
  subst e1 e2 e3 e4
  obtain ⟨lq,hq,q1,q2⟩:=aDr (ao:=qa) (len:=ql) (cap:=qc) ⟨_,by simpa [Value.cells] using h0⟩
  obtain ⟨la,ha,a1,a2⟩:=aFt h5
  obtain ⟨lm,hm,m1,m2⟩:=aHV h6
  obtain ⟨lc,hc,k1,k2⟩:=aHX h7
  exact ⟨⟨qa,ql,qc,aa,al,ac,ma,ml,mc,ca,cl,cc⟩,⟨lq,s1,s2,s3,s4,la,lm,lc⟩,rfl,⟨hq,ha,hm,hc⟩,⟨q1,q2⟩,⟨a1,a2⟩,⟨m1,m2⟩,⟨k1,k2⟩,b1,b2,b3,b4⟩
end Go.Proofs.YtdhibeclkdepiaaGreat
