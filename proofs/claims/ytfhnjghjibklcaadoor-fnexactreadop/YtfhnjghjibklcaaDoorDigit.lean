/-
  What the program's isDigit answers; a walk over the dump.
-/
import Derived.Test.YtfhnjghjibklcaaDoorIn
namespace Go.Proofs.YtfhnjghjibklcaaDoor
open Go.RowKit

set_option maxHeartbeats 400000 in
theorem isDigit_any (x : Int) (w : World) :
    Calls Tryd.prog 40 #[.int .u8 x] w fun e w' => e = .returned (.bool (inB x 48 57)) ∧ w' = w := by
  by_cases h1 : 48 ≤ x
  · by_cases h2 : x ≤ 57
    · go_enter Tryd.func40, Tryd.ntmps40
      go_wp2
      go_ret
      exact ⟨ret_bool (inB_true h1 h2).symm, rfl⟩
    · go_enter Tryd.func40, Tryd.ntmps40
      go_wp2
      go_ret
      exact ⟨ret_bool (inB_false (by omega)).symm, rfl⟩
  · go_enter Tryd.func40, Tryd.ntmps40
    go_wp2
    go_ret
    exact ⟨ret_bool (inB_false (by omega)).symm, rfl⟩
end Go.Proofs.YtfhnjghjibklcaaDoor
