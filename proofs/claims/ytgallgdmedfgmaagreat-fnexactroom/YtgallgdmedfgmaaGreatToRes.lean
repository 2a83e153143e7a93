/-
  The laws' own toRes; a walk over the dump.
-/
import Derived.Test.YtgallgdmedfgmaaGreatResV
namespace Go.Proofs.YtgallgdmedfgmaaGreat
open Go.RowKit
set_option linter.unusedVariables false

set_option maxRecDepth 100000 in
set_option maxHeartbeats 1000000 in
theorem toRes_any (a b : Int) (w : World) :
    Calls Tryz.prog 7 #[rv a b] w fun e w' => e = .returned (rv a b) ∧ Below w.heap.size w w' := by
  go_enter Tryz.func7, Tryz.ntmps7
  go_wp2
  refine bodyPost_ret (v := rv a b) (by simp [results, Tryz.results7, go_sem]) rfl ⟨rfl, ?_⟩
  repeat (first | exact Below.refl _ _ | refine below_al ?_ _ | refine Below.drew ?_ | refine below_sc ?_ _ _ _ (by omega))
end Go.Proofs.YtgallgdmedfgmaaGreat
