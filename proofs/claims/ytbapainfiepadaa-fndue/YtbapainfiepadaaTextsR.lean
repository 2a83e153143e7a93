/-
  Lists of texts: as rows.
-/
import Derived.Test.YtbapainfiepadaaSOwn
namespace Go.Proofs.Ytbapainfiepadaa
open Go.RowKit
set_option linter.unusedVariables false

theorem texts_none {B : Nat} {w : World} {v : Value} (h : Texts B w v []) : ∃ a cap, v = .slice a 0 cap := by
  rcases h.2 with ⟨rfl, _⟩ | ⟨g, cap, cur, rfl, _⟩
  · exact ⟨_, _, rfl⟩
  · exact ⟨_, _, rfl⟩
theorem texts_some {B : Nat} {w : World} {v : Value} {ps : List (List UInt8)} (h : Texts B w v ps) (hp : ps ≠ []) : ∃ g cap, v = .slice (some ⟨g, 0, none⟩) ps.length cap ∧ SS w g cap (ps.map bs) ∧ B ≤ g := by
  have hl : 0 < ps.length := List.length_pos_iff.2 hp
  obtain ⟨g, cap, h1, h2, h3⟩ := ss_of_owns h (by simp; omega)
  exact ⟨g, cap, by rw [h1]; simp, h2, h3⟩
theorem SS.text {w : World} {g cap : Nat} {ps : List (List UInt8)} (h : SS w g cap (ps.map bs)) {j : Nat} (hj : j < ps.length) : w.cell? ⟨g, j, none⟩ = some (.string (bs ps[j])) := by
  have := h.cell j (by simpa using hj)
  simpa using this
end Go.Proofs.Ytbapainfiepadaa
