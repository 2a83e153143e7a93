/-
  A share of an amount: what the program's Share answers; a walk over the dump.
-/
import Derived.Test.YtbapainfiepadaaShareS
import Derived.Test.YtbapainfiepadaaResI
namespace Go.Proofs.Ytbapainfiepadaa
open Go.RowKit
set_option linter.unusedVariables false

set_option maxRecDepth 100000 in
set_option maxHeartbeats 1000000 in
theorem implShare_any (a b n : Int) (w : World) :
    Calls Try.prog 60 #[rv a b, .int .i64 n] w fun e w' => e = .returned (rv (shareM a b n) (shareC a b n)) ∧ Below w.heap.size w w' := by
  cases h1 : resOk a b
  · rw [show shareM a b n = 0 by simp [shareM, shareOk, h1], show shareC a b n = 0 by simp [shareC, shareOk, h1]]
    go_enter Try.func60, Try.ntmps60
    go_wp2_with (go_at_call 58; refine (ok_any _ _ _).mono ?_; rintro e w' ⟨rfl, rfl⟩)
    refine bodyPost_ret (v := rv 0 0) (by simp [results, Try.results60, go_sem]) rfl ⟨rfl, ?_⟩
    repeat (first | exact Below.refl _ _ | refine below_al ?_ _ | refine Below.drew ?_ | refine below_sc ?_ _ _ _ (by omega))
  · cases h2 : inB n 0 10000
    · rw [show shareM a b n = 0 by simp [shareM, shareOk, h2], show shareC a b n = 0 by simp [shareC, shareOk, h2]]
      by_cases n0 : n < 0
      · go_enter Try.func60, Try.ntmps60
        go_wp2_with (go_at_call 58; refine (ok_any _ _ _).mono ?_; rintro e w' ⟨rfl, rfl⟩)
        refine bodyPost_ret (v := rv 0 0) (by simp [results, Try.results60, go_sem]) rfl ⟨rfl, ?_⟩
        repeat (first | exact Below.refl _ _ | refine below_al ?_ _ | refine Below.drew ?_ | refine below_sc ?_ _ _ _ (by omega))
      · have n1 : 10000 < n := by
          apply Int.not_le.1
          intro h
          have : inB n 0 10000 = true := inB_true (by omega) h
          rw [this] at h2; cases h2
        go_enter Try.func60, Try.ntmps60
        go_wp2_with (go_at_call 58; refine (ok_any _ _ _).mono ?_; rintro e w' ⟨rfl, rfl⟩)
        refine bodyPost_ret (v := rv 0 0) (by simp [results, Try.results60, go_sem]) rfl ⟨rfl, ?_⟩
        repeat (first | exact Below.refl _ _ | refine below_al ?_ _ | refine Below.drew ?_ | refine below_sc ?_ _ _ _ (by omega))
    · rw [show shareM a b n = a * n / 10000 by simp [shareM, shareOk, h1, h2], show shareC a b n = b * n / 10000 by simp [shareC, shareOk, h1, h2]]
      obtain ⟨q1, q2, q3, q4⟩ := resOk_bd h1
      have hn : 0 ≤ n ∧ n ≤ 10000 := by simpa [inB] using h2
      obtain ⟨m1, m2⟩ := mul_bd q1 q2 hn.1 hn.2
      obtain ⟨m3, m4⟩ := mul_bd q3 q4 hn.1 hn.2
      go_enter Try.func60, Try.ntmps60
      go_wp2_with (go_at_call 58; refine (ok_any _ _ _).mono ?_; rintro e w' ⟨rfl, rfl⟩)
      refine bodyPost_ret (v := rv (a * n / 10000) (b * n / 10000)) (by simp [results, Try.results60, go_sem]) rfl ⟨rfl, ?_⟩
      repeat (first | exact Below.refl _ _ | refine below_al ?_ _ | refine Below.drew ?_ | refine below_sc ?_ _ _ _ (by omega))
end Go.Proofs.Ytbapainfiepadaa
