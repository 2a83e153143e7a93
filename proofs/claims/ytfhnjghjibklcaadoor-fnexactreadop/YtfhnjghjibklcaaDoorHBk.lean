/-
  Blocks that stand, wherever they lie, while stores go to others: one word for them.
-/
import Derived.Test.YtfhnjghjibklcaaDoorKeptV
namespace Go.Proofs.YtfhnjghjibklcaaDoor
open Go.RowKit
set_option linter.unusedVariables false

/-- the blocks of L stand; nothing of w0 has turned -/
def HBk (w0 : World) (L : List (Nat × Array Value × TypeId)) (wx : World) : Prop :=
  (∀ p ∈ L, Blk wx p.1 p.2.1 p.2.2) ∧ Below w0.heap.size w0 wx
theorem HBk.call {w0 : World} {L : List (Nat × Array Value × TypeId)} {wx wy : World} (h : HBk w0 L wx) (hb : Below wx.heap.size wx wy) : HBk w0 L wy := ⟨fun p hp => (h.1 p hp).below hb, below_on h.2 hb⟩
theorem HBk.drew {w0 : World} {L : List (Nat × Array Value × TypeId)} {wx : World} (h : HBk w0 L wx) : HBk w0 L wx.drew := h.call (Below.refl _ _).drew
theorem HBk.al {w0 : World} {L : List (Nat × Array Value × TypeId)} {wx : World} (h : HBk w0 L wx) (o : Obj) : HBk w0 L (wx.alloc o) := h.call (below_al (Below.refl _ _) o)
theorem HBk.set {w0 : World} {L : List (Nat × Array Value × TypeId)} {wx : World} (h : HBk w0 L wx) (k j : Nat) (v : Value) (hk : w0.heap.size ≤ k) (hn : ∀ p ∈ L, p.1 ≠ k) : HBk w0 L (wx.setCell ⟨k, j, none⟩ v) :=
  ⟨fun p hp => (h.1 p hp).other k j v (hn p hp), below_sc h.2 _ _ _ hk⟩
theorem HBk.blk {w0 : World} {L : List (Nat × Array Value × TypeId)} {wx : World} (h : HBk w0 L wx) {g : Nat} {c : Array Value} {t : TypeId} (hp : (g, c, t) ∈ L) : Blk wx g c t := h.1 _ hp
theorem HBk.cell {w0 : World} {L : List (Nat × Array Value × TypeId)} {wx : World} (h : HBk w0 L wx) {b j : Nat} {v : Value} (hc : w0.cell? ⟨b, j, none⟩ = some v) : wx.cell? ⟨b, j, none⟩ = some v := (Below.cell h.2 (p := ⟨b, j, none⟩) (cell_lt hc)).trans hc
end Go.Proofs.YtfhnjghjibklcaaDoor
