/-
  Two amounts together, or one less the other: what the model's l02Both answers; a walk over the dump.
-/
import Derived.Test.YtgallgdmedfgmaaRes
import Derived.Test.YtgallgdmedfgmaaBothM
namespace Go.Proofs.Ytgallgdmedfgmaa
open Go.RowKit
set_option linter.unusedVariables false

set_option maxRecDepth 100000 in
set_option maxHeartbeats 1000000 in
theorem l02Both_any (a b c d s : Int) (w : World) (hs : s = 1 ∨ s = -1) :
    Calls Try.prog 70 #[rv a b, rv c d, .int .i64 s] w fun e w' => e = .returned (.tuple #[bothV s a b c d, .bool (bothOk s a b c d)]) ∧ Below w.heap.size w w' := by
  cases h1 : resOk a b
  · have hb : bothOk s a b c d = false := by simp [bothOk, h1]
    rw [both_no hb, hb]
    go_enter Try.func70, Try.ntmps70
    go_wp2_with (go_at_call 98; refine (specResOk_any _ _ _).mono ?_; rintro e w' ⟨rfl, rfl⟩)
    refine bodyPost_ret (v := .tuple #[rv 0 0, .bool false]) (by simp [results, Try.results70, go_sem]) rfl ⟨rfl, ?_⟩
    repeat (first | exact Below.refl _ _ | refine below_al ?_ _ | refine below_sc ?_ _ _ _ (by omega))
  · cases h2 : resOk c d
    · have hb : bothOk s a b c d = false := by simp [bothOk, h2]
      rw [both_no hb, hb]
      go_enter Try.func70, Try.ntmps70
      go_wp2_with (go_at_call 98; refine (specResOk_any _ _ _).mono ?_; rintro e w' ⟨rfl, rfl⟩)
      refine bodyPost_ret (v := .tuple #[rv 0 0, .bool false]) (by simp [results, Try.results70, go_sem]) rfl ⟨rfl, ?_⟩
      repeat (first | exact Below.refl _ _ | refine below_al ?_ _ | refine below_sc ?_ _ _ _ (by omega))
    · obtain ⟨q1, q2, q3, q4⟩ := resOk_bd h1
      obtain ⟨q5, q6, q7, q8⟩ := resOk_bd h2
      have m1 : IntKind.i64.wrap (s * c) = s * c := by rw [IntKind.wrap_i64]; rcases hs with rfl | rfl <;> omega
      have m2 : IntKind.i64.wrap (s * d) = s * d := by rw [IntKind.wrap_i64]; rcases hs with rfl | rfl <;> omega
      have m3 : IntKind.i64.wrap (a + s * c) = a + s * c := by rw [IntKind.wrap_i64]; rcases hs with rfl | rfl <;> omega
      have m4 : IntKind.i64.wrap (b + s * d) = b + s * d := by rw [IntKind.wrap_i64]; rcases hs with rfl | rfl <;> omega
      cases h3 : resOk (a + s * c) (b + s * d)
      · have hb : bothOk s a b c d = false := by simp [bothOk, h3]
        rw [both_no hb, hb]
        go_enter Try.func70, Try.ntmps70
        go_wp2_with (go_at_call 98; refine (specResOk_any _ _ _).mono ?_; rintro e w' ⟨rfl, rfl⟩)
        refine bodyPost_ret (v := .tuple #[rv 0 0, .bool false]) (by simp [results, Try.results70, go_sem]) rfl ⟨rfl, ?_⟩
        repeat (first | exact Below.refl _ _ | refine below_al ?_ _ | refine below_sc ?_ _ _ _ (by omega))
      · have hb : bothOk s a b c d = true := by simp [bothOk, h1, h2, h3]
        rw [both_yes hb, hb]
        go_enter Try.func70, Try.ntmps70
        go_wp2_with (go_at_call 98; refine (specResOk_any _ _ _).mono ?_; rintro e w' ⟨rfl, rfl⟩)
        refine bodyPost_ret (v := .tuple #[rv (a + s * c) (b + s * d), .bool true]) (by simp [results, Try.results70, go_sem]) rfl ⟨rfl, ?_⟩
        repeat (first | exact Below.refl _ _ | refine below_al ?_ _ | refine below_sc ?_ _ _ _ (by omega))
end Go.Proofs.Ytgallgdmedfgmaa
