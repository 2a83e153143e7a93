/-
  Blocks that stand while a region is run, in whatever order: one word for them.
-/
import Derived.Test.YtgallgdmedfgmaaGreatStAll
import Derived.Test.YtgallgdmedfgmaaGreatHeldK
namespace Go.Proofs.YtgallgdmedfgmaaGreat
open Go.RowKit
set_option linter.unusedVariables false

/-- the blocks of L stand, all of them ahead of n; nothing of w0 has turned -/
def Held (w0 : World) (n : Nat) (L : List (Nat × Array Value × TypeId)) (wx : World) : Prop :=
  (∀ p ∈ L, p.1 < n ∧ Blk wx p.1 p.2.1 p.2.2) ∧ n ≤ wx.heap.size ∧ w0.heap.size ≤ n ∧ Below w0.heap.size w0 wx
theorem held_holds (w0 : World) (n : Nat) (L : List (Nat × Array Value × TypeId)) : Holds (Held w0 n L) w0 n where
  call := fun h hb => ⟨fun p hp => ⟨(h.1 p hp).1, (h.1 p hp).2.below hb⟩, Nat.le_trans h.2.1 hb.size, h.2.2.1, below_on h.2.2.2 hb⟩
  set := fun k j v h hk => ⟨fun p hp => ⟨(h.1 p hp).1, (h.1 p hp).2.other k j v (by have := (h.1 p hp).1; omega)⟩, by rw [set_size]; exact h.2.1, h.2.2.1, below_sc h.2.2.2 _ _ _ (Nat.le_trans h.2.2.1 hk)⟩
  size := fun h => h.2.1
  below := fun h => h.2.2.2
theorem Held.blk {w0 : World} {n : Nat} {L : List (Nat × Array Value × TypeId)} {wx : World} (h : Held w0 n L wx) {p : Nat × Array Value × TypeId} (hp : p ∈ L) : Blk wx p.1 p.2.1 p.2.2 := (h.1 p hp).2
theorem Var.blk {w : World} {t : TypeId} {g : Nat} {x y : Int} (h : Var w t g x y) : Blk w g #[.int .i64 x, .int .i64 y] t := h
theorem Blk.var {w : World} {t : TypeId} {g : Nat} {x y : Int} (h : Blk w g #[.int .i64 x, .int .i64 y] t) : Var w t g x y := h
end Go.Proofs.YtgallgdmedfgmaaGreat
