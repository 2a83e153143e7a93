/-
  Two amounts at once, and an amount or nothing; walks over the dump.
-/
import Derived.Test.YtbapainfiepadaaResI
namespace Go.Proofs.Ytbapainfiepadaa
open Go.RowKit
set_option linter.unusedVariables false

set_option maxRecDepth 100000 in
set_option maxHeartbeats 1000000 in
theorem pairOk_any (a b c d : Int) (w : World) :
    Calls Try.prog 42 #[pv a b c d] w fun e w' => e = .returned (.bool (resOk a b && resOk c d)) ∧ Below w.heap.size w w' := by
  cases h1 : resOk a b
  · go_enter Try.func42, Try.ntmps42
    go_wp2_with (go_at_call 58; refine (ok_any _ _ _).mono ?_; rintro e w' ⟨rfl, rfl⟩)
    go_ret
    refine ⟨rfl, ?_⟩
    repeat (first | exact Below.refl _ _ | refine below_al ?_ _ | refine Below.drew ?_ | refine below_sc ?_ _ _ _ (by omega))
  · go_enter Try.func42, Try.ntmps42
    go_wp2_with (go_at_call 58; refine (ok_any _ _ _).mono ?_; rintro e w' ⟨rfl, rfl⟩)
    go_ret
    refine ⟨rfl, ?_⟩
    repeat (first | exact Below.refl _ _ | refine below_al ?_ _ | refine Below.drew ?_ | refine below_sc ?_ _ _ _ (by omega))
end Go.Proofs.Ytbapainfiepadaa
