/-
  What the model's l01In answers: whether a number lies between two.
-/
import Derived.Test.YtmmdckakchconaaBase
namespace Go.Proofs.Ytmmdckakchconaa
open Go.RowKit
set_option maxHeartbeats 400000 in
theorem l01In_any (x a b : Int) (w : World) :
    Calls Try.prog 35 #[.int .i64 x, .int .i64 a, .int .i64 b] w fun e w' => e = .returned (.bool (inB x a b)) ∧ w = w' := by
  by_cases h1 : a ≤ x
  · by_cases h2 : x ≤ b
    · go_enter Try.func35, Try.ntmps35
      go_wp2
      go_ret
      exact ⟨ret_bool (inB_true h1 h2).symm, rfl⟩
    · go_enter Try.func35, Try.ntmps35
      go_wp2
      go_ret
      exact ⟨ret_bool (inB_false (by omega)).symm, rfl⟩
  · go_enter Try.func35, Try.ntmps35
    go_wp2
    go_ret
    exact ⟨ret_bool (inB_false (by omega)).symm, rfl⟩
end Go.Proofs.Ytmmdckakchconaa
