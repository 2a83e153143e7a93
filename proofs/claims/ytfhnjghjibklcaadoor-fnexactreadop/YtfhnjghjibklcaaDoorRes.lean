/-
  What the model's ResOk answers; a walk over the dump.
-/
import Derived.Test.YtfhnjghjibklcaaDoorIn
import Derived.Test.YtfhnjghjibklcaaDoorResV
namespace Go.Proofs.YtfhnjghjibklcaaDoor
open Go.RowKit
set_option linter.unusedVariables false

set_option maxRecDepth 100000 in
set_option maxHeartbeats 400000 in
theorem specResOk_any (a b : Int) (w : World) :
    Calls Tryd.prog 23 #[rv a b] w fun e w' => e = .returned (.bool (resOk a b)) ∧ w' = w.alloc (.cells #[.int .i64 a, .int .i64 b] 23) := by
  cases h1 : inB a 0 1000000000
  · go_enter Tryd.func23, Tryd.ntmps23
    go_wp2_with (go_at_call 12; refine (l01In_any _ _ _ _).mono ?_; rintro e w' ⟨rfl, rfl⟩)
    go_ret
    exact ⟨ret_bool (by simp [resOk, h1]), rfl⟩
  · go_enter Tryd.func23, Tryd.ntmps23
    go_wp2_with (go_at_call 12; refine (l01In_any _ _ _ _).mono ?_; rintro e w' ⟨rfl, rfl⟩)
    go_ret
    exact ⟨ret_bool (by simp [resOk, h1]), rfl⟩
theorem specResOk_bel (a b : Int) (w : World) :
    Calls Tryd.prog 23 #[rv a b] w fun e w' => e = .returned (.bool (resOk a b)) ∧ Below w.heap.size w w' :=
  (specResOk_any a b w).mono fun e w' h => ⟨h.1, by rw [h.2]; exact below_al (Below.refl _ _) _⟩
end Go.Proofs.YtfhnjghjibklcaaDoor
