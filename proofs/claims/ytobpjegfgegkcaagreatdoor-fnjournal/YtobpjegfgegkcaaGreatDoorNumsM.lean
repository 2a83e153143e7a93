/-
  A number and a text come back from their bytes, and no other bytes are theirs: plain mathematics.
-/
import Derived.Test.YtobpjegfgegkcaaGreatDoorGetText
import Derived.Test.YtobpjegfgegkcaaGreatDoorPackD
namespace Go.Proofs.YtobpjegfgegkcaaGreatDoor
set_option linter.unusedVariables false
theorem getNum_cases (l : List UInt8) (i : Int) : getNum l i = (0, -1) ∨ ∃ I j : Nat, i = I ∧ stop 5 (l.drop I) = some j ∧ putNum (dv ((l.drop I).take (j + 1)) : Int) = (l.drop I).take (j + 1) ∧ getNum l i = ((dv ((l.drop I).take (j + 1)) : Int), (I : Int) + j + 1) := by
  unfold getNum
  by_cases hi : i < 0
  · rw [if_pos hi]; exact .inl rfl
  · rw [if_neg hi]
    obtain ⟨I, rfl⟩ := Int.eq_ofNat_of_zero_le (a := i) (by omega)
    rw [Int.toNat_natCast]
    cases hs : stop 5 (l.drop I) with
    | none => exact .inl rfl
    | some j =>
      simp only
      by_cases hp : putNum (dv ((l.drop I).take (j + 1)) : Int) = (l.drop I).take (j + 1)
      · rw [if_pos hp]; exact .inr ⟨I, j, rfl, hs, hp, rfl⟩
      · rw [if_neg hp]; exact .inl rfl
theorem put_form : ∀ N : Nat, ∃ q b, put N = q ++ [b] ∧ q.all hi = true ∧ b.toNat < 128 ∧ dv (put N) = N := by
  intro N
  induction N using Nat.strongRecOn with
  | _ N ih =>
    by_cases h : N < 128
    · refine ⟨[], UInt8.ofNat N, by rw [put_small h]; rfl, rfl, by rw [UInt8.toNat_ofNat']; omega, ?_⟩
      rw [put_small h]; simp only [dv, UInt8.toNat_ofNat']; omega
    · obtain ⟨q, b, h1, h2, h3, h4⟩ := ih (N / 128) (by omega)
      refine ⟨UInt8.ofNat (128 + N % 128) :: q, b, by rw [put_step h, h1]; rfl, ?_, h3, ?_⟩
      · rw [List.all_cons, h2]; simp only [hi, UInt8.toNat_ofNat', Bool.and_true, decide_eq_true_eq]; omega
      · rw [put_step h]; simp only [dv, h4, UInt8.toNat_ofNat']; omega
/-- a number comes back, whatever stands behind its bytes -/
theorem getNum_put (N : Nat) (hN : N ≤ 4000000000) (c : UInt8) (t : List UInt8) : getNum (c :: (put N ++ t)) 1 = ((N : Int), ((1 + (put N).length : Nat) : Int)) := by
  obtain ⟨q, b, h1, h2, h3, h4⟩ := put_form N
  have h5 := put_le5 hN
  have hlen : (put N).length = q.length + 1 := by rw [h1]; simp
  have hl : c :: (put N ++ t) = c :: (q ++ b :: t) := by rw [h1]; simp
  have hp0 : pre (c :: (put N ++ t)) 1 q.length = q := by rw [hl]; simp [pre]
  have hp1 : pre (c :: (put N ++ t)) 1 (q.length + 1) = put N := by rw [hl, h1]; simp [pre, List.take_append, List.take_of_length_le]
  have hget : (c :: (put N ++ t))[1 + q.length]'(by simp; omega) = b := by
    simp only [hl]
    rw [List.getElem_cons]; simp
  have := getNum_stop (l := c :: (put N ++ t)) (I := 1) (j := q.length) (by omega) (by rw [hp0]; exact h2) (by simp; omega) (by rw [hget]; exact h3)
  have e : ((1 : Nat) : Int) = 1 := rfl
  rw [e] at this
  rw [this, hp1, h4]
  have hpn : putNum (N : Int) = put N := by rw [putNum, if_pos (by omega), Int.toNat_natCast]
  rw [if_pos hpn, hlen]
  simp; omega
end Go.Proofs.YtobpjegfgegkcaaGreatDoor
