/-
  What the program's ResOk answers; a walk over the dump.
-/
import Derived.Test.YtoejklldpceghaaDoorResI
namespace Go.Proofs.YtoejklldpceghaaDoor
open Go.RowKit
set_option linter.unusedVariables false

set_option maxRecDepth 100000 in
set_option maxHeartbeats 400000 in
theorem implResOk_any (a b : Int) (w : World) :
    Calls Tryd.prog 22 #[rv a b] w fun e w' => e = .returned (.bool (resOk a b)) ∧ Below w.heap.size w w' := by
  go_enter Tryd.func22, Tryd.ntmps22
  go_wp2_with (go_at_call 32; refine (ok_any _ _ _).mono ?_; rintro e w' ⟨rfl, rfl⟩)
  go_ret
  refine ⟨rfl, ?_⟩
  repeat (first | exact Below.refl _ _ | refine below_al ?_ _ | refine Below.drew ?_ | refine below_sc ?_ _ _ _ (by omega))
end Go.Proofs.YtoejklldpceghaaDoor
