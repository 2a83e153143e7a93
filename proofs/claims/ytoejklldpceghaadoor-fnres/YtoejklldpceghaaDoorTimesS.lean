/-
  How many go into an amount: what the model's Times answers; a walk over the dump.
-/
import Derived.Test.YtoejklldpceghaaDoorRes
namespace Go.Proofs.YtoejklldpceghaaDoor
open Go.RowKit
set_option linter.unusedVariables false

/-- the lesser of n and how many of c go into a -/
def goIn (n a c : Int) : Int := if 0 < c ∧ a / c < n then a / c else n
def times (a b c d : Int) : Int := if resOk a b && resOk c d then goIn (goIn 1000 a c) b d else -1
theorem goIn_yes {n a c : Int} (h : 0 < c ∧ a / c < n) : goIn n a c = a / c := if_pos h
theorem goIn_no {n a c : Int} (h : ¬ (0 < c ∧ a / c < n)) : goIn n a c = n := if_neg h
set_option maxRecDepth 100000 in
set_option maxHeartbeats 1000000 in
theorem specTimes_any (a b c d : Int) (w : World) :
    Calls Tryd.prog 19 #[rv a b, rv c d] w fun e w' => e = .returned (.int .i64 (times a b c d)) ∧ Below w.heap.size w w' := by
  cases h1 : resOk a b
  · rw [show times a b c d = -1 by simp [times, h1]]
    go_enter Tryd.func19, Tryd.ntmps19
    go_wp2_with (go_at_call 23; refine (specResOk_any _ _ _).mono ?_; rintro e w' ⟨rfl, rfl⟩)
    go_ret
    refine ⟨rfl, ?_⟩
    repeat (first | exact Below.refl _ _ | refine below_al ?_ _ | refine Below.drew ?_ | refine below_sc ?_ _ _ _ (by omega))
  · cases h2 : resOk c d
    · rw [show times a b c d = -1 by simp [times, h2]]
      go_enter Tryd.func19, Tryd.ntmps19
      go_wp2_with (go_at_call 23; refine (specResOk_any _ _ _).mono ?_; rintro e w' ⟨rfl, rfl⟩)
      go_ret
      refine ⟨rfl, ?_⟩
      repeat (first | exact Below.refl _ _ | refine below_al ?_ _ | refine Below.drew ?_ | refine below_sc ?_ _ _ _ (by omega))
    · rw [show times a b c d = goIn (goIn 1000 a c) b d by simp [times, h1, h2]]
      obtain ⟨q1, q2, q3, q4⟩ := resOk_bd h1
      obtain ⟨q5, q6, q7, q8⟩ := resOk_bd h2
      have d1 := Int.ediv_nonneg q1 q5
      have d2 := Int.ediv_nonneg q3 q7
      have d3 : a / c ≤ a := Int.ediv_le_self _ q1
      have d4 : b / d ≤ b := Int.ediv_le_self _ q3
      by_cases c1 : 0 < c
      · by_cases c2 : a / c < 1000
        · rw [goIn_yes (n := 1000) ⟨c1, c2⟩]
          by_cases c3 : 0 < d
          · by_cases c4 : b / d < a / c
            · rw [goIn_yes ⟨c3, c4⟩]
              go_enter Tryd.func19, Tryd.ntmps19
              go_wp2_with (go_at_call 23; refine (specResOk_any _ _ _).mono ?_; rintro e w' ⟨rfl, rfl⟩)
              go_ret
              refine ⟨rfl, ?_⟩
              repeat (first | exact Below.refl _ _ | refine below_al ?_ _ | refine Below.drew ?_ | refine below_sc ?_ _ _ _ (by omega))
            · rw [goIn_no (fun h => c4 h.2)]
              go_enter Tryd.func19, Tryd.ntmps19
              go_wp2_with (go_at_call 23; refine (specResOk_any _ _ _).mono ?_; rintro e w' ⟨rfl, rfl⟩)
              go_ret
              refine ⟨rfl, ?_⟩
              repeat (first | exact Below.refl _ _ | refine below_al ?_ _ | refine Below.drew ?_ | refine below_sc ?_ _ _ _ (by omega))
          · rw [goIn_no (fun h => c3 h.1)]
            go_enter Tryd.func19, Tryd.ntmps19
            go_wp2_with (go_at_call 23; refine (specResOk_any _ _ _).mono ?_; rintro e w' ⟨rfl, rfl⟩)
            go_ret
            refine ⟨rfl, ?_⟩
            repeat (first | exact Below.refl _ _ | refine below_al ?_ _ | refine Below.drew ?_ | refine below_sc ?_ _ _ _ (by omega))
        · rw [goIn_no (n := 1000) (fun h => c2 h.2)]
          by_cases c3 : 0 < d
          · by_cases c4 : b / d < 1000
            · rw [goIn_yes ⟨c3, c4⟩]
              go_enter Tryd.func19, Tryd.ntmps19
              go_wp2_with (go_at_call 23; refine (specResOk_any _ _ _).mono ?_; rintro e w' ⟨rfl, rfl⟩)
              go_ret
              refine ⟨rfl, ?_⟩
              repeat (first | exact Below.refl _ _ | refine below_al ?_ _ | refine Below.drew ?_ | refine below_sc ?_ _ _ _ (by omega))
            · rw [goIn_no (fun h => c4 h.2)]
              go_enter Tryd.func19, Tryd.ntmps19
              go_wp2_with (go_at_call 23; refine (specResOk_any _ _ _).mono ?_; rintro e w' ⟨rfl, rfl⟩)
              go_ret
              refine ⟨rfl, ?_⟩
              repeat (first | exact Below.refl _ _ | refine below_al ?_ _ | refine Below.drew ?_ | refine below_sc ?_ _ _ _ (by omega))
          · rw [goIn_no (fun h => c3 h.1)]
            go_enter Tryd.func19, Tryd.ntmps19
            go_wp2_with (go_at_call 23; refine (specResOk_any _ _ _).mono ?_; rintro e w' ⟨rfl, rfl⟩)
            go_ret
            refine ⟨rfl, ?_⟩
            repeat (first | exact Below.refl _ _ | refine below_al ?_ _ | refine Below.drew ?_ | refine below_sc ?_ _ _ _ (by omega))
      · rw [goIn_no (n := 1000) (fun h => c1 h.1)]
        by_cases c3 : 0 < d
        · by_cases c4 : b / d < 1000
          · rw [goIn_yes ⟨c3, c4⟩]
            go_enter Tryd.func19, Tryd.ntmps19
            go_wp2_with (go_at_call 23; refine (specResOk_any _ _ _).mono ?_; rintro e w' ⟨rfl, rfl⟩)
            go_ret
            refine ⟨rfl, ?_⟩
            repeat (first | exact Below.refl _ _ | refine below_al ?_ _ | refine Below.drew ?_ | refine below_sc ?_ _ _ _ (by omega))
          · rw [goIn_no (fun h => c4 h.2)]
            go_enter Tryd.func19, Tryd.ntmps19
            go_wp2_with (go_at_call 23; refine (specResOk_any _ _ _).mono ?_; rintro e w' ⟨rfl, rfl⟩)
            go_ret
            refine ⟨rfl, ?_⟩
            repeat (first | exact Below.refl _ _ | refine below_al ?_ _ | refine Below.drew ?_ | refine below_sc ?_ _ _ _ (by omega))
        · rw [goIn_no (fun h => c3 h.1)]
          go_enter Tryd.func19, Tryd.ntmps19
          go_wp2_with (go_at_call 23; refine (specResOk_any _ _ _).mono ?_; rintro e w' ⟨rfl, rfl⟩)
          go_ret
          refine ⟨rfl, ?_⟩
          repeat (first | exact Below.refl _ _ | refine below_al ?_ _ | refine Below.drew ?_ | refine below_sc ?_ _ _ _ (by omega))
end Go.Proofs.YtoejklldpceghaaDoor
