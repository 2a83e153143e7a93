/-
  Variables that hold two amounts at once.
-/
import Derived.Test.YtbgamlegiikggaaGreatPackB
namespace Go.Proofs.YtbgamlegiikggaaGreat
open Go.RowKit
set_option linter.unusedVariables false

/-- block g is a variable of type t that holds four numbers -/
def Var4 (w : World) (t : TypeId) (g : Nat) (x y u v : Int) : Prop := w.heap[g]? = some (.cells #[.int .i64 x, .int .i64 y, .int .i64 u, .int .i64 v] t (0, 0))
theorem Var4.c0 {w : World} {t : TypeId} {g : Nat} {x y u v : Int} (h : Var4 w t g x y u v) : w.cell? ⟨g, 0, none⟩ = some (.int .i64 x) := by unfold Var4 at h; simp [World.cell?, h]
theorem Var4.c1 {w : World} {t : TypeId} {g : Nat} {x y u v : Int} (h : Var4 w t g x y u v) : w.cell? ⟨g, 1, none⟩ = some (.int .i64 y) := by unfold Var4 at h; simp [World.cell?, h]
theorem Var4.c2 {w : World} {t : TypeId} {g : Nat} {x y u v : Int} (h : Var4 w t g x y u v) : w.cell? ⟨g, 2, none⟩ = some (.int .i64 u) := by unfold Var4 at h; simp [World.cell?, h]
theorem Var4.c3 {w : World} {t : TypeId} {g : Nat} {x y u v : Int} (h : Var4 w t g x y u v) : w.cell? ⟨g, 3, none⟩ = some (.int .i64 v) := by unfold Var4 at h; simp [World.cell?, h]
theorem Var4.lt {w : World} {t : TypeId} {g : Nat} {x y u v : Int} (h : Var4 w t g x y u v) : g < w.heap.size := lt_of_block h
theorem Var4.same {w w' : World} {t : TypeId} {g : Nat} {x y u v : Int} (h : Var4 w t g x y u v) (e : w'.heap[g]? = w.heap[g]?) : Var4 w' t g x y u v := e.trans h
theorem Var4.below {w w' : World} {t : TypeId} {g : Nat} {x y u v : Int} (h : Var4 w t g x y u v) (hb : Below w.heap.size w w') : Var4 w' t g x y u v := (hb.block g h.lt).trans h
theorem Var4.al {w : World} {t : TypeId} {g : Nat} {x y u v : Int} (h : Var4 w t g x y u v) (o : Obj) : Var4 (w.alloc o) t g x y u v := h.below (below_al (Below.refl _ _) o)
theorem var4_new (w : World) (t : TypeId) (x y u v : Int) : Var4 (w.alloc (.cells #[.int .i64 x, .int .i64 y, .int .i64 u, .int .i64 v] t)) t w.heap.size x y u v := by show (w.heap.push _)[w.heap.size]? = _; simp
theorem Var4.grown {w w' : World} {t : TypeId} {g : Nat} {x y u v : Int} {row : Option Nat} (h : Var4 w t g x y u v) (hg : w.grownBy w' row) (hne : some g ≠ row) : Var4 w' t g x y u v := (hg.block g h.lt hne).trans h
theorem Var.grown' {w w' : World} {t : TypeId} {g : Nat} {x y : Int} {row : Option Nat} (h : Var w t g x y) (hg : w.grownBy w' row) (hne : some g ≠ row) : Var w' t g x y := (hg.block g h.lt hne).trans h
end Go.Proofs.YtbgamlegiikggaaGreat
