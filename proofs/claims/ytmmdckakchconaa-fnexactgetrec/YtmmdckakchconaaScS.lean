/-
  A cell written with what stands there: the same world.
-/
import Derived.Test.YtmmdckakchconaaBase
namespace Go.Proofs.Ytmmdckakchconaa
open Go.RowKit
set_option linter.unusedVariables false
theorem set_idemS {arr : Array Value} {j : Nat} {x : Value} (h : arr[j]? = some x) : arr.setIfInBounds j x = arr := by
  apply Array.ext
  · simp
  · intro i h1 h2
    rw [Array.getElem_setIfInBounds]
    split
    · rename_i e
      subst e
      rw [Array.getElem?_eq_getElem h2] at h
      exact (Option.some.inj h).symm
    · rfl
/-- a cell that is written with what stands there: nothing turns -/
theorem sc_same {w : World} {g j : Nat} {x : Value} (h : w.cell? ⟨g, j, none⟩ = some x) : w.setCell ⟨g, j, none⟩ x = w := by
  cases ho : w.heap[g]? with
  | none => simp [World.cell?, ho] at h
  | some o =>
    cases o with
    | cells cur t fr =>
      have hx : cur[j]? = some x := by simpa [World.cell?, ho] using h
      rw [setCell_eq_setRow w g j cur t fr x ho, set_idemS hx]
      exact setRow_self w g cur t fr ho
    | _ => simp [World.cell?, ho] at h
end Go.Proofs.Ytmmdckakchconaa
