/-
  An amount among the cells of what came in.
-/
import Derived.Test.YtplegginhmlfjaaOpenQ
namespace Go.Proofs.Ytplegginhmlfjaa
open Go.ChangeShapes Go.WideShapes Go.ChangeAt Go.RowKit Go.Deep
set_option linter.unusedVariables false

theorem cells_lr1 : Try.prog.cellsOf 102 = 2 := by kernel_rfl
set_option maxRecDepth 100000 in
theorem open_rescells {H : Type} {enc : TypeId × Value → H} {W : World} {base : Nat} {sp : Nat → Bool} {held : Bool} {fuel : Nat} {cs : List Value} {x : DataW H × List MemPlace}
    (h : DataW.trod enc Try.prog W base sp held fuel 102 cs = some x) :
    ∃ a b : Int, cs = [.int .i64 a, .int .i64 b] ∧ (Lit.int .i64 a).wf = true ∧ (Lit.int .i64 b).wf = true := by
  obtain ⟨xs, n, rfl, rfl, hlen, hxs, hf⟩ := DataW.trod_struct Try.underlying102 h
  rw [cells_lr1] at hlen
  have hxs : xs.length = 2 := hxs
  match cs, hlen, xs, hxs with
  | [c0, c1], _, [x0, x1], _ =>
    have h0 := hf 0 _ rfl
    have h1 := hf 1 _ rfl
    obtain ⟨d, e2, _, b2⟩ := DataW.trod_int Try.underlying3 h0
    obtain ⟨m, e3, _, b3⟩ := DataW.trod_int Try.underlying3 h1
    simp [cells_qi] at e2 e3
    subst e2 e3
    exact ⟨d, m, rfl, b2, b3⟩
end Go.Proofs.Ytplegginhmlfjaa
