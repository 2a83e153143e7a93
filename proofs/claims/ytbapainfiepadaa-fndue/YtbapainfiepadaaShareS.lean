/-
  A share of an amount: what the model's Share answers; a walk over the dump.
-/
import Derived.Test.YtbapainfiepadaaRes
namespace Go.Proofs.Ytbapainfiepadaa
open Go.RowKit
set_option linter.unusedVariables false

def shareOk (a b n : Int) : Bool := resOk a b && inB n 0 10000
def shareM (a b n : Int) : Int := if shareOk a b n then a * n / 10000 else 0
def shareC (a b n : Int) : Int := if shareOk a b n then b * n / 10000 else 0
theorem mul_bd {a n A N : Int} (h0 : 0 ≤ a) (h1 : a ≤ A) (h2 : 0 ≤ n) (h3 : n ≤ N) : 0 ≤ a * n ∧ a * n ≤ A * N :=
  ⟨Int.mul_nonneg h0 h2, Int.mul_le_mul h1 h3 h2 (Int.le_trans h0 h1)⟩
set_option maxRecDepth 100000 in
set_option maxHeartbeats 1000000 in
theorem specShare_any (a b n : Int) (w : World) :
    Calls Try.prog 61 #[rv a b, .int .i64 n] w fun e w' => e = .returned (rv (shareM a b n) (shareC a b n)) ∧ Below w.heap.size w w' := by
  cases h1 : resOk a b
  · rw [show shareM a b n = 0 by simp [shareM, shareOk, h1], show shareC a b n = 0 by simp [shareC, shareOk, h1]]
    go_enter Try.func61, Try.ntmps61
    go_wp2_with (first | (go_at_call 16; refine (specResOk_any _ _ _).mono ?_; rintro e w' ⟨rfl, rfl⟩) | (go_at_call 40; refine (l01In_any _ _ _ _).mono ?_; rintro e w' ⟨rfl, rfl⟩))
    refine bodyPost_ret (v := rv 0 0) (by simp [results, Try.results61, go_sem]) rfl ⟨rfl, ?_⟩
    repeat (first | exact Below.refl _ _ | refine below_al ?_ _ | refine Below.drew ?_ | refine below_sc ?_ _ _ _ (by omega))
  · cases h2 : inB n 0 10000
    · rw [show shareM a b n = 0 by simp [shareM, shareOk, h2], show shareC a b n = 0 by simp [shareC, shareOk, h2]]
      go_enter Try.func61, Try.ntmps61
      go_wp2_with (first | (go_at_call 16; refine (specResOk_any _ _ _).mono ?_; rintro e w' ⟨rfl, rfl⟩) | (go_at_call 40; refine (l01In_any _ _ _ _).mono ?_; rintro e w' ⟨rfl, rfl⟩))
      refine bodyPost_ret (v := rv 0 0) (by simp [results, Try.results61, go_sem]) rfl ⟨rfl, ?_⟩
      repeat (first | exact Below.refl _ _ | refine below_al ?_ _ | refine Below.drew ?_ | refine below_sc ?_ _ _ _ (by omega))
    · rw [show shareM a b n = a * n / 10000 by simp [shareM, shareOk, h1, h2], show shareC a b n = b * n / 10000 by simp [shareC, shareOk, h1, h2]]
      obtain ⟨q1, q2, q3, q4⟩ := resOk_bd h1
      have hn : 0 ≤ n ∧ n ≤ 10000 := by simpa [inB] using h2
      obtain ⟨m1, m2⟩ := mul_bd q1 q2 hn.1 hn.2
      obtain ⟨m3, m4⟩ := mul_bd q3 q4 hn.1 hn.2
      go_enter Try.func61, Try.ntmps61
      go_wp2_with (first | (go_at_call 16; refine (specResOk_any _ _ _).mono ?_; rintro e w' ⟨rfl, rfl⟩) | (go_at_call 40; refine (l01In_any _ _ _ _).mono ?_; rintro e w' ⟨rfl, rfl⟩))
      refine bodyPost_ret (v := rv (a * n / 10000) (b * n / 10000)) (by simp [results, Try.results61, go_sem]) rfl ⟨rfl, ?_⟩
      repeat (first | exact Below.refl _ _ | refine below_al ?_ _ | refine Below.drew ?_ | refine below_sc ?_ _ _ _ (by omega))
end Go.Proofs.Ytbapainfiepadaa
