/-
  What a round that goes on keeps, where a map is filled: every row of cells.
-/
import Derived.RangeFuncNested
import Derived.RangeFuncBound
import Derived.RangeFuncCalls
import Derived.RangeFuncLeaves
import Derived.Shelf.Abstract
import Derived.Shelf.AbstractIn
import Derived.Shelf.RegionOpen
import Derived.WalkKit
import Derived.OwnWalkIn
import Derived.TacticsInMore
import Derived.LoopNIn
import Derived.LoopIn
import Derived.Test.YthnkbdjombiodaaGreatStAll
namespace Go.Proofs.YthnkbdjombiodaaGreat
open Go.RowKit Go.Shelf
set_option linter.unusedVariables false

/-- what a round that goes on keeps: every row of cells -/
def KpA (W W' : World) : Prop := ∀ (k : Nat) (o : Obj), W.heap[k]? = some o → o.isCells = true → W'.heap[k]? = some o
theorem kpa_t {A B C : World} (h : KpA A B) (k : KpA B C) : KpA A C := fun i o ho hc => k i o (h i o ho hc) hc
theorem kpa_b {w : World} (W : World) (l : Nat) (o o' : Obj) (hl : w.heap.size ≤ l) (h : W.heap[l]? = some o) (h1 : o.isCells = false) (h2 : o.isWalk = false) : KpA W (W.putObj l o') := fun k q hq hc => by
  have hne : k ≠ l := fun e => by
    subst e
    rw [hq] at h
    cases h
    rw [h1] at hc
    cases hc
  exact ((grownBy_putObj' W l o').block k (lt_of_block hq) (by simp; omega)).trans hq
theorem kpa_below {W W' : World} (h : Below W.heap.size W W') : KpA W W' := fun k o ho _ => (h.block k (lt_of_block ho)).trans ho
theorem cell_cells {W : World} {b j : Nat} {v : Value} (hc : W.cell? ⟨b, j, none⟩ = some v) : ∃ o, W.heap[b]? = some o ∧ o.isCells = true := by
  cases h : W.heap[b]? with
  | none => simp [World.cell?, h] at hc
  | some o =>
    refine ⟨o, rfl, ?_⟩
    cases o <;> simp [World.cell?, h] at hc <;> rfl
theorem KpA.cell {W W' : World} (h : KpA W W') {b j : Nat} {v : Value} (hc : W.cell? ⟨b, j, none⟩ = some v) : W'.cell? ⟨b, j, none⟩ = some v := by
  obtain ⟨o, h1, h2⟩ := cell_cells hc
  have h3 := h b o h1 h2
  unfold World.cell? at hc ⊢
  rw [h1] at hc
  rw [h3]
  exact hc
theorem keepsO_below {w w' : World} (hb : Below w.heap.size w w') : KeepsOthers w w' := KeepsOthers.of_grownBy (row := none) (grownBy_below (grownBy_refl w none) hb) (fun j o e => by cases e)
end Go.Proofs.YthnkbdjombiodaaGreat
