/-
  The laws' own toMachine; a walk over the dump.
-/
import Derived.Test.YtplegginhmlfjaaMacV
import Derived.Test.YtplegginhmlfjaaToResX
namespace Go.Proofs.Ytplegginhmlfjaa
open Go.RowKit
set_option linter.unusedVariables false

set_option maxRecDepth 100000 in
set_option maxHeartbeats 1000000 in
theorem toMachine_any (q : Mac) (w : World) :
    Calls Try.prog 81 #[macv q] w fun e w' => e = .returned (macv q) ∧ Below w.heap.size w w' := by
  obtain ⟨x0, x1, x2, x3⟩ := q
  go_enter Try.func81, Try.ntmps81
  go_wp2_with fail
  refine (toRes_ex _ _ _).mono ?_
  rintro e w1 ⟨rfl, o1, o2, o3, rfl⟩
  go_wp2
  refine bodyPost_ret (v := macv ⟨x0, x1, x2, x3⟩) (by simp [results, Try.results81, go_sem]) rfl ⟨rfl, ?_⟩
  repeat (first | exact Below.refl _ _ | refine below_al ?_ _ | refine Below.drew ?_ | refine below_sc ?_ _ _ _ (by omega))
end Go.Proofs.Ytplegginhmlfjaa
