/-
  What the program's isDigit answers; a walk over the dump.
-/
import Derived.Test.YtmmdckakchconaaIn
namespace Go.Proofs.Ytmmdckakchconaa
open Go.RowKit
set_option maxHeartbeats 400000 in
theorem isDigit_any (x : Int) (w : World) :
    Calls Try.prog 44 #[.int .u8 x] w fun e w' => e = .returned (.bool (inB x 48 57)) ∧ w' = w := by
  by_cases h1 : 48 ≤ x
  · by_cases h2 : x ≤ 57
    · go_enter Try.func44, Try.ntmps44
      go_wp2
      go_ret
      exact ⟨ret_bool (inB_true h1 h2).symm, rfl⟩
    · go_enter Try.func44, Try.ntmps44
      go_wp2
      go_ret
      exact ⟨ret_bool (inB_false (by omega)).symm, rfl⟩
  · go_enter Try.func44, Try.ntmps44
    go_wp2
    go_ret
    exact ⟨ret_bool (inB_false (by omega)).symm, rfl⟩
end Go.Proofs.Ytmmdckakchconaa
