/-
  Blocks that stand through calls: their cells.
-/
import Derived.Test.YtmmdckakchconaaResV
namespace Go.Proofs.Ytmmdckakchconaa
open Go.RowKit
set_option linter.unusedVariables false
/-- block g is just these cells -/
def Blk (w : World) (g : Nat) (arr : Array Value) (t : TypeId) : Prop := w.heap[g]? = some (.cells arr t (0, 0))
theorem Blk.lt {w : World} {g : Nat} {arr : Array Value} {t : TypeId} (h : Blk w g arr t) : g < w.heap.size := lt_of_block h
theorem Blk.below {w w' : World} {g : Nat} {arr : Array Value} {t : TypeId} (h : Blk w g arr t) (hb : Below w.heap.size w w') : Blk w' g arr t := (hb.block g h.lt).trans h
theorem Blk.at {w : World} {g : Nat} {arr : Array Value} {t : TypeId} (h : Blk w g arr t) (j : Nat) : w.cell? ⟨g, j, none⟩ = arr[j]? := by
  unfold Blk at h; simp [World.cell?, h]
theorem Blk.f {w : World} {g : Nat} {arr : Array Value} {t : TypeId} (h : Blk w g arr t) (j : Nat) : w.frozen? ⟨g, j, none⟩ = false := by
  unfold Blk at h; simp [World.frozen?, h]
theorem Blk.al {w : World} {g : Nat} {arr : Array Value} {t : TypeId} (h : Blk w g arr t) (o : Obj) : Blk (w.alloc o) g arr t := h.below (below_al (Below.refl _ _) o)
theorem Blk.drew {w : World} {g : Nat} {arr : Array Value} {t : TypeId} (h : Blk w g arr t) : Blk w.drew g arr t := h
theorem Blk.set {w : World} {g : Nat} {arr : Array Value} {t : TypeId} (h : Blk w g arr t) (j : Nat) (v : Value) : Blk (w.setCell ⟨g, j, none⟩ v) g (arr.setIfInBounds j v) t := heap_setCell_same w g j _ _ v h
theorem Blk.other {w : World} {g : Nat} {arr : Array Value} {t : TypeId} (h : Blk w g arr t) (k j : Nat) (v : Value) (hn : g ≠ k) : Blk (w.setCell ⟨k, j, none⟩ v) g arr t := (heap_setCell_other w ⟨k, j, none⟩ g v hn).trans h
theorem blk_new (w : World) (arr : Array Value) (t : TypeId) : Blk (w.alloc (.cells arr t)) w.heap.size arr t := by show (w.heap.push _)[w.heap.size]? = _; simp
theorem al_size (w : World) (o : Obj) : (w.alloc o).heap.size = w.heap.size + 1 := by show (w.heap.push _).size = _; simp
theorem set_old (w : World) (o : Obj) (b j : Nat) (v : Value) (hb : b < w.heap.size) : (w.alloc o).setCell ⟨b, j, none⟩ v = (w.setCell ⟨b, j, none⟩ v).alloc o := by
  unfold World.setCell World.alloc
  congr 1
  apply Array.ext
  · simp
  · intro i h1 h2
    simp [Array.getElem_modify, Array.getElem_push]
    split <;> split <;> simp_all <;> omega
end Go.Proofs.Ytmmdckakchconaa
