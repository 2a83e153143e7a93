/-
  An amount, or nothing where it is none; a walk over the dump.
-/
import Derived.Test.YtfhnjghjibklcaaDoorResI
namespace Go.Proofs.YtfhnjghjibklcaaDoor
open Go.RowKit
set_option linter.unusedVariables false

def orV (a b : Int) : Value := if resOk a b then rv a b else rv 0 0
set_option maxRecDepth 100000 in
set_option maxHeartbeats 1000000 in
theorem or_any (a b : Int) (w : World) :
    Calls Tryd.prog 42 #[rv a b] w fun e w' => e = .returned (.tuple #[orV a b, .bool (resOk a b)]) ∧ Below w.heap.size w w' := by
  cases h1 : resOk a b
  · rw [show orV a b = rv 0 0 by simp [orV, h1]]
    go_enter Tryd.func42, Tryd.ntmps42
    go_wp2_with (go_at_call 48; refine (ok_any _ _ _).mono ?_; rintro e w' ⟨rfl, rfl⟩)
    refine bodyPost_ret (v := .tuple #[rv 0 0, .bool false]) (by simp [results, Tryd.results42, go_sem]) rfl ⟨rfl, ?_⟩
    repeat (first | exact Below.refl _ _ | refine below_al ?_ _ | refine Below.drew ?_ | refine below_sc ?_ _ _ _ (by omega))
  · rw [show orV a b = rv a b by simp [orV, h1]]
    go_enter Tryd.func42, Tryd.ntmps42
    go_wp2_with (go_at_call 48; refine (ok_any _ _ _).mono ?_; rintro e w' ⟨rfl, rfl⟩)
    refine bodyPost_ret (v := .tuple #[rv a b, .bool true]) (by simp [results, Tryd.results42, go_sem]) rfl ⟨rfl, ?_⟩
    repeat (first | exact Below.refl _ _ | refine below_al ?_ _ | refine Below.drew ?_ | refine below_sc ?_ _ _ _ (by omega))
end Go.Proofs.YtfhnjghjibklcaaDoor
