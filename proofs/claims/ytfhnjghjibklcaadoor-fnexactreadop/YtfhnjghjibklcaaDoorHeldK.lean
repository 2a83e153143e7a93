/-
  Words on worlds that calls and stores behind them keep; all that was there stands.
-/
import Derived.Test.YtfhnjghjibklcaaDoorResV
namespace Go.Proofs.YtfhnjghjibklcaaDoor
open Go.RowKit
set_option linter.unusedVariables false

/-- what a word on worlds bears -/
structure Holds (S : World → Prop) (w0 : World) (n : Nat) : Prop where
  call : ∀ {wx wy : World}, S wx → Below wx.heap.size wx wy → S wy
  set : ∀ {wx : World} (k j : Nat) (v : Value), S wx → n ≤ k → S (wx.setCell ⟨k, j, none⟩ v)
  size : ∀ {wx : World}, S wx → n ≤ wx.heap.size
  below : ∀ {wx : World}, S wx → Below w0.heap.size w0 wx
theorem Holds.drew {S : World → Prop} {w0 : World} {n : Nat} (h : Holds S w0 n) {wx : World} (hs : S wx) : S wx.drew := h.call hs (Below.refl _ _).drew
theorem Holds.al {S : World → Prop} {w0 : World} {n : Nat} (h : Holds S w0 n) {wx : World} (hs : S wx) (o : Obj) : S (wx.alloc o) := h.call hs (below_al (Below.refl _ _) o)
theorem Holds.set2 {S : World → Prop} {w0 : World} {n : Nat} (h : Holds S w0 n) {wx : World} (hs : S wx) (k : Nat) (a b : Value) (hk : n ≤ k) : S ((wx.setCell ⟨k, 0, none⟩ a).setCell ⟨k, 1, none⟩ b) := h.set k 1 b (h.set k 0 a hs hk) hk
/-- all that was there stands -/
def Kp (w1 wx : World) : Prop := Below w1.heap.size w1 wx
theorem kp_holds (w1 : World) : Holds (Kp w1) w1 w1.heap.size where
  call := fun h hb => below_on h hb
  set := fun k j v h hk => below_sc h _ _ _ hk
  size := fun h => h.size
  below := fun h => h
theorem Kp.cell {w1 wx : World} (h : Kp w1 wx) {b j : Nat} {v : Value} (hc : w1.cell? ⟨b, j, none⟩ = some v) : wx.cell? ⟨b, j, none⟩ = some v := (Below.cell h (p := ⟨b, j, none⟩) (cell_lt hc)).trans hc
theorem Kp.new (w1 : World) : Kp w1 w1 := Below.refl _ _
end Go.Proofs.YtfhnjghjibklcaaDoor
