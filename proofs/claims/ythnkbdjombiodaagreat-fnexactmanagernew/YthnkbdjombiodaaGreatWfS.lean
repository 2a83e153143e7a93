/-
  Numbers of applications and of containers' applications are those of an int.
-/
import Derived.Test.YthnkbdjombiodaaGreatAKey
namespace Go.Proofs.YthnkbdjombiodaaGreat
open Go.RowKit Go.Maps
set_option linter.unusedVariables false

/-- numbers that are numbers -/
def WfSt (s : St) : Prop := (∀ a ∈ s.apps, (Lit.int .i64 a.id).wf = true) ∧ (∀ c ∈ s.cs, (Lit.int .i64 c.app).wf = true)
theorem heads_wf {w : World} {hs : List AV} {l : List Appl} (hh : Heads w hs l) (h : ∀ a ∈ l, (Lit.int .i64 a.id).wf = true) : ∀ v ∈ hs, (Lit.int .i64 v.id).wf = true := fun v hv => by
  obtain ⟨i, hi, rfl⟩ := List.mem_iff_getElem.1 hv
  have hi' : i < l.length := by rw [← hh.1]; exact hi
  rw [(hh.2 i hi hi').1]
  exact h _ (List.getElem_mem _)
end Go.Proofs.YthnkbdjombiodaaGreat
