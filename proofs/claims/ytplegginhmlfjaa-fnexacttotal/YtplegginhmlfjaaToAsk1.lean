/-
  The laws' own toAsk; a walk over the dump.
-/
import Derived.Test.YtplegginhmlfjaaAskV
import Derived.Test.YtplegginhmlfjaaToResX
namespace Go.Proofs.Ytplegginhmlfjaa
open Go.RowKit
set_option linter.unusedVariables false

set_option maxRecDepth 100000 in
set_option maxHeartbeats 1000000 in
theorem toAsk_any (q : Ask) (w : World) :
    Calls Try.prog 128 #[askv q] w fun e w' => e = .returned (askv q) ∧ Below w.heap.size w w' := by
  obtain ⟨x0, x1, x2, x3, x4⟩ := q
  go_enter Try.func128, Try.ntmps128
  go_wp2_with fail
  refine (toRes_ex _ _ _).mono ?_
  rintro e w1 ⟨rfl, o1, o2, o3, rfl⟩
  go_wp2
  refine bodyPost_ret (v := askv ⟨x0, x1, x2, x3, x4⟩) (by simp [results, Try.results128, go_sem]) rfl ⟨rfl, ?_⟩
  repeat (first | exact Below.refl _ _ | refine below_al ?_ _ | refine Below.drew ?_ | refine below_sc ?_ _ _ _ (by omega))
end Go.Proofs.Ytplegginhmlfjaa
