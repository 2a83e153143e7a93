/-
  Amounts: values, variables that hold them, and what lies below.
-/
import Derived.Test.YtmmdckakchconaaGrow
namespace Go.Proofs.Ytmmdckakchconaa
open Go.RowKit
set_option linter.unusedVariables false
theorem below_al {w w1 : World} (h : Below w.heap.size w w1) (o : Obj) : Below w.heap.size w (w1.alloc o) := h.alloc h.size o
theorem below_sc {w w1 : World} (h : Below w.heap.size w w1) (b j : Nat) (v : Value) (hb : w.heap.size ≤ b) : Below w.heap.size w (w1.setCell ⟨b, j, none⟩ v) := h.setCell hb v
theorem below_on {w w1 w2 : World} (h : Below w.heap.size w w1) (k : Below w1.heap.size w1 w2) : Below w.heap.size w w2 := Below.trans h (k.mono h.size)
/-- block g is a variable of type t that holds two numbers -/
def Var (w : World) (t : TypeId) (g : Nat) (x y : Int) : Prop := w.heap[g]? = some (.cells #[.int .i64 x, .int .i64 y] t (0, 0))
theorem Var.c0 {w : World} {t : TypeId} {g : Nat} {x y : Int} (h : Var w t g x y) : w.cell? ⟨g, 0, none⟩ = some (.int .i64 x) := by unfold Var at h; simp [World.cell?, h]
theorem Var.c1 {w : World} {t : TypeId} {g : Nat} {x y : Int} (h : Var w t g x y) : w.cell? ⟨g, 1, none⟩ = some (.int .i64 y) := by unfold Var at h; simp [World.cell?, h]
theorem Var.f {w : World} {t : TypeId} {g : Nat} {x y : Int} (h : Var w t g x y) (j : Nat) : w.frozen? ⟨g, j, none⟩ = false := by unfold Var at h; simp [World.frozen?, h]
theorem Var.lt {w : World} {t : TypeId} {g : Nat} {x y : Int} (h : Var w t g x y) : g < w.heap.size := lt_of_block h
theorem Var.same {w w' : World} {t : TypeId} {g : Nat} {x y : Int} (h : Var w t g x y) (e : w'.heap[g]? = w.heap[g]?) : Var w' t g x y := e.trans h
theorem Var.below {w w' : World} {t : TypeId} {g : Nat} {x y : Int} (h : Var w t g x y) (hb : Below w.heap.size w w') : Var w' t g x y := (hb.block g h.lt).trans h
theorem var_new (w : World) (t : TypeId) (x y : Int) : Var (w.alloc (.cells #[.int .i64 x, .int .i64 y] t)) t w.heap.size x y := by show (w.heap.push _)[w.heap.size]? = _; simp
theorem Var.set {w : World} {t : TypeId} {g : Nat} {a b : Int} (h : Var w t g a b) (x y : Int) : Var ((w.setCell ⟨g, 0, none⟩ (.int .i64 x)).setCell ⟨g, 1, none⟩ (.int .i64 y)) t g x y := by
  have h1 := heap_setCell_same w g 0 _ _ (.int .i64 x) h
  exact heap_setCell_same _ g 1 _ _ (.int .i64 y) h1
theorem Var.al {w : World} {t : TypeId} {g : Nat} {x y : Int} (h : Var w t g x y) (o : Obj) : Var (w.alloc o) t g x y := h.below (below_al (Below.refl _ _) o)
theorem Var.drew {w : World} {t : TypeId} {g : Nat} {x y : Int} (h : Var w t g x y) : Var w.drew t g x y := h
theorem Var.other {w : World} {t : TypeId} {g : Nat} {x y : Int} (h : Var w t g x y) (k j : Nat) (v : Value) (hn : g ≠ k) : Var (w.setCell ⟨k, j, none⟩ v) t g x y := h.same (heap_setCell_other w ⟨k, j, none⟩ g v hn)
/-- the one amount that came in, boxed, stands; nothing of w0 has turned -/
def Boxed (w0 : World) (t : TypeId) (a b : Int) (wx : World) : Prop := Var wx t w0.heap.size a b ∧ Below w0.heap.size w0 wx
theorem Boxed.new (w0 : World) (t : TypeId) (a b : Int) : Boxed w0 t a b (w0.alloc (.cells #[.int .i64 a, .int .i64 b] t)) := ⟨var_new w0 t a b, below_al (Below.refl _ _) _⟩
theorem Boxed.call {w0 w1 w2 : World} {t : TypeId} {a b : Int} (h : Boxed w0 t a b w1) (hb : Below w1.heap.size w1 w2) : Boxed w0 t a b w2 := ⟨h.1.below hb, below_on h.2 hb⟩
theorem Boxed.drew {w0 w1 : World} {t : TypeId} {a b : Int} (h : Boxed w0 t a b w1) : Boxed w0 t a b w1.drew := h.call (Below.refl _ _).drew
theorem Boxed.read (w0 : World) (t : TypeId) (a b : Int) : ∀ wx, Boxed w0 t a b wx → wx.cell? ⟨w0.heap.size, 0, none⟩ = some (.int .i64 a) ∧ wx.cell? ⟨w0.heap.size, 1, none⟩ = some (.int .i64 b) := fun wx h => ⟨h.1.c0, h.1.c1⟩
end Go.Proofs.Ytmmdckakchconaa
