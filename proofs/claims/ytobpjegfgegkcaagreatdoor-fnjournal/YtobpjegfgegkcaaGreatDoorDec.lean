/-
  What the model's DecText answers at every int: the decimal numeral; a walk over the dump.
-/
import Derived.Test.YtobpjegfgegkcaaGreatDoorDecM
namespace Go.Proofs.YtobpjegfgegkcaaGreatDoor
open Go.RowKit
set_option maxHeartbeats 800000 in
theorem specDecText_pos (N : Nat) (w : World) (hN : (N : Int) ≤ 9223372036854775807) :
    Calls Tryz.prog 42 #[.int .i64 (N : Int)] w fun e w' => e = .returned (.string (bs (Lib.itoa N))) ∧ w' = w := by
  by_cases h0 : N = 0
  · subst h0
    go_enter Tryz.func42, Tryz.ntmps42
    go_wp2
    go_ret
    exact ⟨ret_str (by rw [Lib.itoa_nonneg, Lib.decDigits]; rfl), rfl⟩
  · have hlen : (Lib.decDigits N).length ≤ 20 := by rw [Lib.decDigits_length]; exact Lib.nDigits_le20 N (by omega)
    have hne : ((N : Int) == 0) = false := by simp; omega
    have hit : Hid (dgs N = Lib.itoa N) := hide (by rw [dgs_pos h0, Lib.itoa_nonneg])
    have hlen2 : (dgs N).length ≤ 20 := by rw [dgs_pos h0]; exact hlen
    clear hlen
    go_enter Tryz.func42, Tryz.ntmps42
    go_wp2
    go_loop [3, 4, 5] (fun o m _ => ∃ (u : Nat) (l : List UInt8), u ≤ N ∧ m = .int .i64 (u : Int) ∧ o = .string (bs l) ∧ dgs u ++ l = dgs N) (fun _ m _ => (intOf m).toNat)
    case atStart => exact ⟨N, [], Nat.le_refl _, rfl, rfl, by simp⟩
    case round =>
      obtain ⟨u, l, hu, rfl, rfl, hcat⟩ := hrel
      have hl : l.length ≤ 20 := by have := congrArg List.length hcat; simp only [List.length_append] at this; omega
      have hl2 : (bs l).size ≤ 20 := by rw [bs_size]; exact hl
      have HC := hide hcat
      clear hcat hl
      by_cases hu0 : u = 0
      · subst hu0
        go_wp2
        go_ret
        exact ⟨ret_str (congrArg bs ((unhide HC).trans (unhide hit))), rfl⟩
      · go_wp2
        go_round
        case rel => exact ⟨u / 10, UInt8.ofNat (48 + u % 10) :: l, by omega, by go_num, str_eq (by rw [ten_cut _ (by omega), cons_bs]), by rw [← unhide HC, dgs_step hu0]; simp⟩
        case measure => simp [intOf]; omega

set_option maxHeartbeats 800000 in
theorem specDecText_neg (N : Nat) (w : World) (h0 : N ≠ 0) (hN : (N : Int) ≤ 9223372036854775808) :
    Calls Tryz.prog 42 #[.int .i64 (-(N : Int))] w fun e w' => e = .returned (.string (bs (Lib.itoa (-(N : Int))))) ∧ w' = w := by
  have hlen : (Lib.decDigits N).length ≤ 20 := by rw [Lib.decDigits_length]; exact Lib.nDigits_le20 N (by omega)
  have hne : ((-(N : Int)) == 0) = false := by simp; omega
  have hit : Hid (45 :: dgs N = Lib.itoa (-(N : Int))) := hide (by rw [dgs_pos h0, Lib.itoa_neg _ (by omega)])
  have hlen2 : (dgs N).length ≤ 20 := by rw [dgs_pos h0]; exact hlen
  clear hlen
  go_enter Tryz.func42, Tryz.ntmps42
  go_wp2
  go_loop [3, 4, 5] (fun o m _ => ∃ (u : Nat) (l : List UInt8), u ≤ N ∧ m = .int .i64 (-(u : Int)) ∧ o = .string (bs l) ∧ dgs u ++ l = dgs N) (fun _ m _ => (-(intOf m)).toNat)
  case atStart => exact ⟨N, [], Nat.le_refl _, rfl, rfl, by simp⟩
  case round =>
    obtain ⟨u, l, hu, rfl, rfl, hcat⟩ := hrel
    have hl : l.length ≤ 20 := by have := congrArg List.length hcat; simp only [List.length_append] at this; omega
    have hl2 : (bs l).size ≤ 20 := by rw [bs_size]; exact hl
    have HC := hide hcat
    clear hcat hl
    by_cases hu0 : u = 0
    · subst hu0
      go_wp2
      go_ret
      exact ⟨ret_str (by rw [cons_bs]; exact congrArg bs ((congrArg (fun t => 45 :: t) (unhide HC)).trans (unhide hit))), rfl⟩
    · go_wp2
      · go_round
        case rel => exact ⟨u / 10, UInt8.ofNat (48 + u % 10) :: l, by omega, by go_num, str_eq (by rw [ten_cut _ (by omega), cons_bs]), by rw [← unhide HC, dgs_step hu0]; simp⟩
        case measure => simp [intOf]; omega
      · have hd : (u : Int) % 10 ≤ 0 := by assumption
        go_round
        case rel => exact ⟨u / 10, UInt8.ofNat (48 + u % 10) :: l, by omega, by go_num, str_eq (by rw [show (-((u : Int) % 10)).toNat = u % 10 from by omega, show (-((u : Int) % 10) + 1).toNat = u % 10 + 1 from by omega, ten_cut _ (by omega), cons_bs]), by rw [← unhide HC, dgs_step hu0]; simp⟩
        case measure => simp [intOf]; omega

theorem specDecText_any (n : Int) (w : World) (h0 : -9223372036854775808 ≤ n) (h1 : n ≤ 9223372036854775807) :
    Calls Tryz.prog 42 #[.int .i64 n] w fun e w' => e = .returned (.string (bs (Lib.itoa n))) ∧ w' = w := by
  by_cases h : 0 ≤ n
  · obtain ⟨N, rfl⟩ := Int.eq_ofNat_of_zero_le h
    exact specDecText_pos N w h1
  · obtain ⟨N, hN⟩ := Int.eq_ofNat_of_zero_le (a := -n) (by omega)
    have e : n = -(N : Int) := by omega
    subst e
    exact specDecText_neg N w (by omega) (by omega)
end Go.Proofs.YtobpjegfgegkcaaGreatDoor
