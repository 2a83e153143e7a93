/-
  The laws' own eqMachine, at the same; a walk over the dump.
-/
import Derived.Test.YtplegginhmlfjaaMacV
import Derived.Test.YtplegginhmlfjaaToResX
namespace Go.Proofs.Ytplegginhmlfjaa
open Go.RowKit
set_option linter.unusedVariables false

set_option maxRecDepth 100000 in
set_option maxHeartbeats 1000000 in
theorem eqMachine_same (q : Mac) (w : World) :
    Calls Try.prog 94 #[macv q, macv q] w fun e w' => e = .returned (.bool true) ∧ Below w.heap.size w w' := by
  obtain ⟨x0, x1, x2, x3⟩ := q
  go_enter Try.func94, Try.ntmps94
  go_wp2_with fail
  refine (eqRes_ex _ _ _).mono ?_
  rintro e w1 ⟨rfl, o1, o2, n, rfl⟩
  go_wp2
  go_ret
  refine ⟨rfl, ?_⟩
  repeat (first | exact Below.refl _ _ | refine below_al ?_ _ | refine Below.drew ?_ | refine below_dn ?_ _ | refine below_sc ?_ _ _ _ (by omega))
end Go.Proofs.Ytplegginhmlfjaa
