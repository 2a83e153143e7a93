/-
  Texts in one: RcRow, OwnJ.
-/
import Derived.Test.YtjkfappkpopbdaaGreatSackA
import Derived.Lib.SliceRun
set_option maxRecDepth 100000
set_option maxHeartbeats 16000000
set_option linter.unusedVariables false
set_option linter.unusedSimpArgs false
namespace Go.Proofs.YtjkfappkpopbdaaGreat
section
open Go.RowKit
def RcAt (w:World) (b p:Nat) (q:Rc):Prop:=
 w.cell? ⟨b,p,none⟩=some (.int .i64 q.kind)∧w.cell? ⟨b,p+1,none⟩=some (.int .i64 q.app)∧w.cell? ⟨b,p+2,none⟩=some (.string (bs q.queue))
def RcRow (w:World) (ao:Option Addr) (len:Nat) (l:List Rc):Prop:=
 len=l.length∧(len=0∨∃b off,ao=some ⟨b,off,none⟩∧∀i (h:i<l.length),RcAt w b (off+i*3) l[i])
theorem RcAt.lt {w:World} {b p:Nat} {q:Rc} (h:RcAt w b p q):b<w.heap.size:=yG h.1
theorem RcAt.below {w w':World} {b p:Nat} {q:Rc} (h:RcAt w b p q) (hb:Below w.heap.size w w'):RcAt w' b p q:=
 ⟨(hb.cell h.lt).trans h.1,(hb.cell h.lt).trans h.2.1,(hb.cell h.lt).trans h.2.2⟩
theorem RcRow.below {w w':World} {ao:Option Addr} {len:Nat} {l:List Rc} (h:RcRow w ao len l) (hb:Below w.heap.size w w'):RcRow w' ao len l:=by
 obtain ⟨h1,h2⟩:=h
 refine ⟨h1,?_⟩
 rcases h2 with h2 | ⟨b,off,h3,h4⟩
 ·exact .inl h2
 ·exact .inr ⟨b,off,h3,fun i h=>(h4 i h).below hb⟩
theorem RcRow.nil (w:World) (ao:Option Addr):RcRow w ao 0 []:=⟨rfl,.inl rfl⟩
theorem RcRow.at {w:World} {ao:Option Addr} {len:Nat} {l:List Rc} (h:RcRow w ao len l) {i:Nat} (hi:i<len):∃b off,ao=some ⟨b,off,none⟩∧∀(h:i<l.length),RcAt w b (off+i*3) l[i]:=by
 obtain ⟨h1,h2⟩:=h
 rcases h2 with h2 | ⟨b,off,h3,h4⟩
 ·omega
 ·exact ⟨b,off,h3,fun hi=>h4 i hi⟩
def RcBlk (w:World) (t:TypeId) (g n k:Nat) (l:List Rc):Prop:=
 ∃arr:Array Value,w.heap[g]? = some (.cells arr t (0,0))∧arr.size=n*3∧∀i (h:i<l.length),i<k→arr[i*3]? = some (.int .i64 l[i].kind)∧arr[i*3+1]? = some (.int .i64 l[i].app)∧arr[i*3+2]? = some (.string (bs l[i].queue))
theorem RcBlk.lt {w:World} {t:TypeId} {g n k:Nat} {l:List Rc} (h:RcBlk w t g n k l):g<w.heap.size:=let ⟨_,h,_⟩:=h;lt_of_block h
theorem RcBlk.below {w w':World} {t:TypeId} {g n k:Nat} {l:List Rc} (h:RcBlk w t g n k l) (hb:Below w.heap.size w w'):RcBlk w' t g n k l:=by
 have hlt:=h.lt
 obtain ⟨arr,h1,h2⟩:=h
 exact ⟨arr,(hb.block g hlt).trans h1,h2⟩
theorem RcBlk.cell {w:World} {t:TypeId} {g n k:Nat} {l:List Rc} (h:RcBlk w t g n k l) {j:Nat} (hj:j<n*3):∃v,w.cell? ⟨g,j,none⟩=some v:=by
 obtain ⟨arr,h1,h2,_⟩:=h
 exact ⟨arr[j]'(by omega),by simp [World.cell?,h1,Array.getElem?_eq_getElem (show j<arr.size by omega)]⟩
theorem RcBlk.frozen {w:World} {t:TypeId} {g n k:Nat} {l:List Rc} (h:RcBlk w t g n k l) (j:Nat):w.frozen? ⟨g,j,none⟩=false:=by
 obtain ⟨arr,h1,h2,_⟩:=h
 simp [World.frozen?,h1]
theorem RcBlk.row {w:World} {t:TypeId} {g n:Nat} {l:List Rc} (h:RcBlk w t g n n l) (hl:n=l.length):RcRow w (some ⟨g,0,none⟩) n l:=by
 obtain ⟨arr,h1,h2,h3⟩:=h
 refine ⟨hl,.inr ⟨g,0,rfl,fun i hi=>?_⟩⟩
 obtain ⟨a,b,c⟩:=h3 i hi (by omega)
 unfold RcAt
 simp only [Nat.zero_add]
 exact ⟨by simp [World.cell?,h1,a],by simp [World.cell?,h1,b],by simp [World.cell?,h1,c]⟩
def putRc (w:World) (g p:Nat) (q:Rc):World:=(((w.setCell ⟨g,p,none⟩ (.int .i64 q.kind)).setCell ⟨g,p+1,none⟩ (.int .i64 q.app)).setCell ⟨g,p+2,none⟩ (.string (bs q.queue)))
theorem RcBlk.step {w:World} {t:TypeId} {g n k:Nat} {l:List Rc} (h:RcBlk w t g n k l) (hk:k<n) (hl:k<l.length):RcBlk (putRc w g (k*3) l[k]) t g n (k+1) l:=by
 obtain ⟨arr,h1,h2,h3⟩:=h
 have e1:=heap_setCell_same w g (k*3) _ _ (.int .i64 l[k].kind) h1
 have e2:=heap_setCell_same _ g (k*3+1) _ _ (.int .i64 l[k].app) e1
 have e3:=heap_setCell_same _ g (k*3+2) _ _ (.string (bs l[k].queue)) e2
 refine ⟨_,e3,by simp [h2],fun i hi hik=>?_⟩
 by_cases e:i=k
 ·subst e
  have q1:i*3+2<arr.size:=by omega
  refine ⟨?_,?_,?_⟩<;>simp [Array.getElem?_setIfInBounds,h2]<;>omega
 ·obtain ⟨a,b,c⟩:=h3 i hi (by omega)
  refine ⟨?_,?_,?_⟩
  ·rw [←a];simp only [Array.getElem?_setIfInBounds];repeat rw [if_neg (by omega)]
  ·rw [←b];simp only [Array.getElem?_setIfInBounds];repeat rw [if_neg (by omega)]
  ·rw [←c];simp only [Array.getElem?_setIfInBounds];repeat rw [if_neg (by omega)]
abbrev jcell (q:Rc):List Value:=[.int .i64 q.kind,.int .i64 q.app,.string (bs q.queue)]
def jcells:List Rc→List Value
 | []=>[]
 | q::t=>jcell q++jcells t
theorem jcells_app (a:List Rc) (q:Rc):jcells (a++[q])=jcells a++jcell q:=by
 induction a with
 | nil=>rfl
 | cons x t ih=>rw [List.cons_append,jcells,jcells,ih,List.append_assoc]
theorem jcells_at:∀(l:List Rc) (i:Nat) (h:i<l.length),(jcells l)[i*3]? = some (.int .i64 l[i].kind)∧(jcells l)[i*3+1]? = some (.int .i64 l[i].app)∧(jcells l)[i*3+2]? = some (.string (bs l[i].queue))
 | q::t,0,_=>⟨rfl,rfl,rfl⟩
 | q::t,i+1,h=>by
  have e:=jcells_at t i (by simpa using h)
  have k:∀j,(jcells (q::t))[(i+1)*3+j]? = (jcells t)[i*3+j]?:=fun j=>by
   rw [jcells,show (i+1)*3+j=(jcell q).length+(i*3+j) by simp;omega,List.getElem?_append_right (by omega)]
   congr 1
   omega
  have k0:=k 0
  simp only [Nat.add_zero] at k0
  rw [k0,k 1,k 2]
  simpa using e
def JOwn (B:Nat) (w:World) (v:Value) (l:List Rc):Prop:=w.ownsRow B 54 3 v l.length (jcells l)
theorem jown_nil (B:Nat) (w:World):JOwn B w (.slice none 0 0) []:=World.ownsRow_nil _ _ _ _
theorem jown_empty (w:World):w.alloc (.cells #[] 54) |>.ownsRow w.heap.size 54 3 (.slice (some ⟨w.heap.size,0,none⟩) 0 0) 0 []:=
 ⟨rfl,.inr ⟨w.heap.size,0,#[],rfl,yJ _,by show (w.heap.push _)[w.heap.size]? = _;simp,yJ _,by unfold maxLen;omega,rfl,rfl⟩⟩
theorem jown_below {w w':World} {B:Nat} {v:Value} {l:List Rc} (h:JOwn B w v l) (hb:Below w.heap.size w w'):JOwn B w' v l:=
 World.ownsRow.kept h (grownBy_below (grownBy_refl w none) hb) (by by_cases e:v.ownBlock=none;exact .inl e;exact .inr e)
theorem jown_base {w:World} {B B':Nat} {v:Value} {l:List Rc} (h:JOwn B w v l) (hb:B'≤B):JOwn B' w v l:=by
 obtain ⟨h1,h2⟩:=h
 refine ⟨h1,?_⟩
 rcases h2 with h2 | ⟨g,cap,cur,a,b,c⟩
 ·exact .inl h2
 ·exact .inr ⟨g,cap,cur,a,Nat.le_trans hb b,c⟩
theorem jown_row {w:World} {B:Nat} {v:Value} {l:List Rc} (h:JOwn B w v l):∃ao cap,v=.slice ao l.length cap∧RcRow w ao l.length l∧l.length≤cap∧(l≠[]→∃g cur,ao=some ⟨g,0,none⟩∧B≤g∧w.heap[g]? = some (.cells cur 54 (0,0))∧cur.size=cap*3):=by
 rcases h.2 with ⟨rfl,h0⟩ | ⟨g,cap,cur,rfl,h1,h2,h3,h4,h5,h6⟩
 ·exact ⟨none,0,by rw [h0],⟨rfl,.inl h0⟩,by omega,fun hn=>absurd (List.length_eq_zero_iff.1 h0) hn⟩
 ·refine ⟨some ⟨g,0,none⟩,cap,rfl,⟨rfl,.inr ⟨g,0,rfl,fun i hi=>?_⟩⟩,h3,fun _=>⟨g,cur,rfl,h1,h2,h5⟩⟩
  obtain ⟨a,b,c⟩:=jcells_at l i hi
  have k:∀j (v:Value),j<l.length*3→(jcells l)[j]? = some v→w.cell? ⟨g,j,none⟩=some v:=fun j v hj hv=>by
   rw [←h6,List.getElem?_take_of_lt hj] at hv
   simp [World.cell?,h2]
   simpa using hv
  unfold RcAt
  rw [Nat.zero_add]
  exact ⟨k _ _ (by omega) a,k _ _ (by omega) b,k _ _ (by omega) c⟩
theorem jown_other {w:World} {B:Nat} {v:Value} {l:List Rc} (h:JOwn B w v l) (k j:Nat) (x:Value) (hk:k<B):JOwn B (w.setCell ⟨k,j,none⟩ x) v l:=by
 obtain ⟨h1,h2⟩:=h
 refine ⟨h1,?_⟩
 rcases h2 with h2 | ⟨g,cap,cur,a,b,c,d⟩
 ·exact .inl h2
 ·exact .inr ⟨g,cap,cur,a,b,(heap_setCell_other w ⟨k,j,none⟩ g x (show g≠k by omega)).trans c,d⟩
theorem Tryz.infoRec:(Tryz.prog.info? 54).map (fun i=>(i.zero,i.size,i.bytes))=some (some (.agg #[.int .i64 0,.int .i64 0,.string ByteArray.empty]),3,32):=by kernel_rfl
end
end Go.Proofs.YtjkfappkpopbdaaGreat
