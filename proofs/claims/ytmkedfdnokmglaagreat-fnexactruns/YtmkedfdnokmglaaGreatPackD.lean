/-
  Texts in one: MarkFM, KKey.
-/
import Derived.Test.YtmkedfdnokmglaaGreatPackC
import Derived.Maps.OwnSet
import Derived.Maps.Views
import Derived.DeepKeys4
set_option maxRecDepth 100000
set_option maxHeartbeats 16000000
set_option linter.unusedVariables false
set_option linter.unusedSimpArgs false
namespace Go.Proofs.YtmkedfdnokmglaaGreat
section
open Go.RowKit
theorem MacBlk.tail {w:World} {t:TypeId} {g n k:Nat} {l:List Mac} (h:MacBlk w t g n k l) {p:Nat} (hp:k*4≤p) (v:Value):MacBlk (w.setCell ⟨g,p,none⟩ v) t g n k l:=by
 obtain ⟨arr,h1,h2,h3⟩:=h
 refine ⟨_,heap_setCell_same w g p _ _ v h1,by simp [h2],fun i hi hik=>?_⟩
 obtain ⟨a,b,c,d⟩:=h3 i hi hik
 refine ⟨?_,?_,?_,?_⟩
 ·rw [←a,Array.getElem?_setIfInBounds,if_neg (by omega)]
 ·rw [←b,Array.getElem?_setIfInBounds,if_neg (by omega)]
 ·rw [←c,Array.getElem?_setIfInBounds,if_neg (by omega)]
 ·rw [←d,Array.getElem?_setIfInBounds,if_neg (by omega)]
theorem MacBlk.next {w:World} {t:TypeId} {g n k:Nat} {l:List Mac} (h:MacBlk w t g n k l) (c:∀hk:k<l.length,MacAt w g (k*4) l[k]):MacBlk w t g n (k+1) l:=by
 obtain ⟨arr,h1,h2,h3⟩:=h
 refine ⟨arr,h1,h2,fun i hi hik=>?_⟩
 by_cases e:i=k
 ·subst e
  obtain ⟨c0,c1,c2,c3⟩:=c hi
  simp [World.cell?,h1] at c0 c1 c2 c3
  exact ⟨c0,c1,c2,c3⟩
 ·exact h3 i hi (by omega)
theorem MacBlk.rowOf {w:World} {t:TypeId} {g c n:Nat} {l:List Mac} (h:MacBlk w t g c n l) (hl:n=l.length):MacRow w (some ⟨g,0,none⟩) n l:=by
 obtain ⟨arr,h1,h2,h3⟩:=h
 refine ⟨hl,.inr ⟨g,0,rfl,fun i hi=>?_⟩⟩
 obtain ⟨a,b,c,d⟩:=h3 i hi (by omega)
 unfold MacAt
 simp only [Nat.zero_add]
 exact ⟨by simp [World.cell?,h1,a],by simp [World.cell?,h1,b],by simp [World.cell?,h1,c],by simp [World.cell?,h1,d]⟩
def MacOne (w0:World) (b p:Nat) (q:Mac) (w:World):Prop:=MacAt w b p q∧Below w0.heap.size w0 w
theorem MacOne.call {w0 w w':World} {b p:Nat} {q:Mac} (h:MacOne w0 b p q w) (hb:Below w.heap.size w w'):MacOne w0 b p q w':=⟨h.1.below hb,yB h.2 hb⟩
theorem MacOne.drew {w0 w:World} {b p:Nat} {q:Mac} (h:MacOne w0 b p q w):MacOne w0 b p q w.drew:=h.call (yH _ _).drew
theorem MacOne.read (w0:World) (b p:Nat) (q:Mac):∀wx,MacOne w0 b p q wx→wx.cell? ⟨b,p,none⟩=some (.string (bs q.name))∧wx.cell? ⟨b,p+1,none⟩=some (.int .i64 q.mem)∧wx.cell? ⟨b,p+2,none⟩=some (.int .i64 q.cpu)∧wx.cell? ⟨b,p+3,none⟩=some (.int .i64 q.seen):=fun wx h=>h.1
end
section
open Go.RowKit Go.Maps
abbrev keyv (nm:List UInt8) (k:Int):Value:=.agg #[.string (bs nm),.int .i64 k]
theorem keyLaidOut:laidOutB Tryz.prog=true:=by kernel_rfl
theorem keyRow:(217:TypeId)<Tryz.prog.types.size:=of_decide_eq_true (by kernel_rfl)
theorem keyWide:(match Tryz.prog.underlying 217 with | some (.array _ _) | some (.struct _)=>true | _=>false)=true:=by kernel_rfl
theorem keyLaw:Keyed Tryz.prog 217:=Keyed.of_law (deep_law_laid keyLaidOut (m:=3) (by omega) keyRow (by kernel_rfl) keyWide)
end
end Go.Proofs.YtmkedfdnokmglaaGreat
