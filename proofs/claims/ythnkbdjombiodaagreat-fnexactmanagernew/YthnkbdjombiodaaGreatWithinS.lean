/-
  Whether one amount is within another: what the model's Within answers; a walk over the dump.
-/
import Derived.Test.YthnkbdjombiodaaGreatWithM
import Derived.Test.YthnkbdjombiodaaGreatPackD
namespace Go.Proofs.YthnkbdjombiodaaGreat
open Go.RowKit
set_option linter.unusedVariables false

set_option maxRecDepth 100000 in
set_option maxHeartbeats 1000000 in
theorem specWithin_any (a b c d : Int) (w : World) :
    Calls Tryz.prog 69 #[rv a b, rv c d] w fun e w' => e = .returned (.bool (within a b c d)) ∧ Below w.heap.size w w' := by
  cases h1 : resOk a b
  · rw [show within a b c d = false by simp [within, h1]]
    go_enter Tryz.func69, Tryz.ntmps69
    go_wp2_with (go_at_call 68; refine (specResOk_any _ _ _).mono ?_; rintro e w' ⟨rfl, rfl⟩)
    go_ret
    refine ⟨rfl, ?_⟩
    repeat (first | exact Below.refl _ _ | refine below_al ?_ _ | refine Below.drew ?_ | refine below_sc ?_ _ _ _ (by omega))
  · cases h2 : resOk c d
    · rw [show within a b c d = false by simp [within, h2]]
      go_enter Tryz.func69, Tryz.ntmps69
      go_wp2_with (go_at_call 68; refine (specResOk_any _ _ _).mono ?_; rintro e w' ⟨rfl, rfl⟩)
      go_ret
      refine ⟨rfl, ?_⟩
      repeat (first | exact Below.refl _ _ | refine below_al ?_ _ | refine Below.drew ?_ | refine below_sc ?_ _ _ _ (by omega))
    · by_cases h3 : a ≤ c
      · by_cases h4 : b ≤ d
        · rw [show within a b c d = true by simp [within, h1, h2, h3, h4]]
          go_enter Tryz.func69, Tryz.ntmps69
          go_wp2_with (go_at_call 68; refine (specResOk_any _ _ _).mono ?_; rintro e w' ⟨rfl, rfl⟩)
          go_ret
          refine ⟨rfl, ?_⟩
          repeat (first | exact Below.refl _ _ | refine below_al ?_ _ | refine Below.drew ?_ | refine below_sc ?_ _ _ _ (by omega))
        · rw [show within a b c d = false by simp [within, h4]]
          go_enter Tryz.func69, Tryz.ntmps69
          go_wp2_with (go_at_call 68; refine (specResOk_any _ _ _).mono ?_; rintro e w' ⟨rfl, rfl⟩)
          go_ret
          refine ⟨ret_bool (decide_eq_false (by omega)), ?_⟩
          repeat (first | exact Below.refl _ _ | refine below_al ?_ _ | refine Below.drew ?_ | refine below_sc ?_ _ _ _ (by omega))
      · rw [show within a b c d = false by simp [within, h3]]
        go_enter Tryz.func69, Tryz.ntmps69
        go_wp2_with (go_at_call 68; refine (specResOk_any _ _ _).mono ?_; rintro e w' ⟨rfl, rfl⟩)
        go_ret
        refine ⟨rfl, ?_⟩
        repeat (first | exact Below.refl _ _ | refine below_al ?_ _ | refine Below.drew ?_ | refine below_sc ?_ _ _ _ (by omega))
end Go.Proofs.YthnkbdjombiodaaGreat
