/-
  Blocks that stand while a region is run, in whatever order: one word for them.
-/
import Derived.Test.YtlpnndajnodahaaGreatStAll
namespace Go.Proofs.YtlpnndajnodahaaGreat
open Go.RowKit
set_option linter.unusedVariables false

/-- the blocks of L stand, all of them ahead of n; nothing of w0 has turned -/
def Held (w0 : World) (n : Nat) (L : List (Nat × Array Value × TypeId)) (wx : World) : Prop :=
  (∀ p ∈ L, p.1 < n ∧ Blk wx p.1 p.2.1 p.2.2) ∧ n ≤ wx.heap.size ∧ w0.heap.size ≤ n ∧ Below w0.heap.size w0 wx
/-- what a word on worlds bears -/
structure Holds (S : World → Prop) (w0 : World) (n : Nat) : Prop where
  call : ∀ {wx wy : World}, S wx → Below wx.heap.size wx wy → S wy
  set : ∀ {wx : World} (k j : Nat) (v : Value), S wx → n ≤ k → S (wx.setCell ⟨k, j, none⟩ v)
  size : ∀ {wx : World}, S wx → n ≤ wx.heap.size
  below : ∀ {wx : World}, S wx → Below w0.heap.size w0 wx
theorem Holds.drew {S : World → Prop} {w0 : World} {n : Nat} (h : Holds S w0 n) {wx : World} (hs : S wx) : S wx.drew := h.call hs (Below.refl _ _).drew
theorem Holds.al {S : World → Prop} {w0 : World} {n : Nat} (h : Holds S w0 n) {wx : World} (hs : S wx) (o : Obj) : S (wx.alloc o) := h.call hs (below_al (Below.refl _ _) o)
theorem Holds.set2 {S : World → Prop} {w0 : World} {n : Nat} (h : Holds S w0 n) {wx : World} (hs : S wx) (k : Nat) (a b : Value) (hk : n ≤ k) : S ((wx.setCell ⟨k, 0, none⟩ a).setCell ⟨k, 1, none⟩ b) := h.set k 1 b (h.set k 0 a hs hk) hk
theorem held_holds (w0 : World) (n : Nat) (L : List (Nat × Array Value × TypeId)) : Holds (Held w0 n L) w0 n where
  call := fun h hb => ⟨fun p hp => ⟨(h.1 p hp).1, (h.1 p hp).2.below hb⟩, Nat.le_trans h.2.1 hb.size, h.2.2.1, below_on h.2.2.2 hb⟩
  set := fun k j v h hk => ⟨fun p hp => ⟨(h.1 p hp).1, (h.1 p hp).2.other k j v (by have := (h.1 p hp).1; omega)⟩, by rw [set_size]; exact h.2.1, h.2.2.1, below_sc h.2.2.2 _ _ _ (Nat.le_trans h.2.2.1 hk)⟩
  size := fun h => h.2.1
  below := fun h => h.2.2.2
/-- all that was there stands -/
def Kp (w1 wx : World) : Prop := Below w1.heap.size w1 wx
theorem kp_holds (w1 : World) : Holds (Kp w1) w1 w1.heap.size where
  call := fun h hb => below_on h hb
  set := fun k j v h hk => below_sc h _ _ _ hk
  size := fun h => h.size
  below := fun h => h
theorem Kp.cell {w1 wx : World} (h : Kp w1 wx) {b j : Nat} {v : Value} (hc : w1.cell? ⟨b, j, none⟩ = some v) : wx.cell? ⟨b, j, none⟩ = some v := (Below.cell h (p := ⟨b, j, none⟩) (cell_lt hc)).trans hc
theorem Kp.new (w1 : World) : Kp w1 w1 := Below.refl _ _
theorem Held.blk {w0 : World} {n : Nat} {L : List (Nat × Array Value × TypeId)} {wx : World} (h : Held w0 n L wx) {p : Nat × Array Value × TypeId} (hp : p ∈ L) : Blk wx p.1 p.2.1 p.2.2 := (h.1 p hp).2
theorem Var.blk {w : World} {t : TypeId} {g : Nat} {x y : Int} (h : Var w t g x y) : Blk w g #[.int .i64 x, .int .i64 y] t := h
theorem Blk.var {w : World} {t : TypeId} {g : Nat} {x y : Int} (h : Blk w g #[.int .i64 x, .int .i64 y] t) : Var w t g x y := h
end Go.Proofs.YtlpnndajnodahaaGreat
