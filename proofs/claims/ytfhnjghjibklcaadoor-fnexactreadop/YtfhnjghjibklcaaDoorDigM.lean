/-
  A number and its decimal text: one comes back from the other; in plain words.
-/
import Derived.Test.YtfhnjghjibklcaaDoorReadDecS
import Derived.Lib.ItoaLen
namespace Go.Proofs.YtfhnjghjibklcaaDoor
open Go.RowKit
set_option linter.unusedVariables false

theorem digs (u : Nat) : (Lib.decDigits u).all isD = true ∧ val (Lib.decDigits u) = u := by
  induction u using Nat.strongRecOn with
  | _ u ih =>
    rw [Lib.decDigits]
    by_cases h : u < 10
    · rw [dif_pos h]
      have e : (UInt8.ofNat (48 + u)).toNat = 48 + u := by rw [UInt8.toNat_ofNat']; omega
      refine ⟨?_, ?_⟩
      · rw [List.all_cons, List.all_nil, Bool.and_true, isD_iff, e]; omega
      · simp only [val, List.foldl_cons, List.foldl_nil, e]; omega
    · rw [dif_neg h]
      obtain ⟨i1, i2⟩ := ih (u / 10) (by omega)
      have e : (UInt8.ofNat (48 + u % 10)).toNat = 48 + u % 10 := by rw [UInt8.toNat_ofNat']; omega
      refine ⟨?_, ?_⟩
      · rw [List.all_append, i1, List.all_cons, List.all_nil, Bool.and_true, Bool.true_and, isD_iff, e]; omega
      · rw [val_snoc, i2, e]; omega
theorem nDigits_le : ∀ (k u : Nat), u < 10 ^ (k + 1) → Lib.nDigits u ≤ k + 1
  | 0, u, h => by rw [Lib.nDigits_small (by simpa using h)]; exact Nat.le_refl _
  | k + 1, u, h => by
    by_cases h10 : u < 10
    · rw [Lib.nDigits_small h10]; omega
    · rw [Lib.nDigits_big h10]
      have := nDigits_le k (u / 10) (by rw [Nat.pow_succ] at h; omega)
      omega
theorem readDec_itoa {a : Int} (h0 : 0 ≤ a) (h1 : a ≤ 1000000000) : readDec (Lib.itoa a) = a := by
  obtain ⟨u, rfl⟩ := Int.eq_ofNat_of_zero_le h0
  rw [Lib.itoa_nonneg]
  obtain ⟨d1, d2⟩ := digs u
  have hp := Lib.nDigits_pos u
  have hl := Lib.decDigits_length u
  have hz : noughtAhead (Lib.decDigits u) = false := (dec_val_iff (by omega) d1).1 (by rw [d2])
  have h10 : (Lib.decDigits u).length ≤ 10 := by
    rw [hl]
    exact nDigits_le 9 u (by omega)
  rw [readDec_yes (by omega) h10 d1 hz (by rw [d2]; omega), d2]
theorem itoa_readDec {l : List UInt8} (h : 0 ≤ readDec l) : Lib.itoa (readDec l) = l := by
  unfold readDec at *
  by_cases ho : readOk l = true
  · rw [if_pos ho] at *
    simp only [readOk, Bool.and_eq_true, decide_eq_true_eq, Bool.not_eq_true'] at ho
    obtain ⟨⟨⟨h1, h2⟩, h3⟩, h4⟩ := ho
    have h1' : 1 ≤ l.length := by simp only [inB, decide_eq_true_eq] at h1; omega
    rw [Lib.itoa_nonneg, (dec_val_iff h1' h2).2 h3]
  · rw [if_neg ho] at h; omega
/-- a number's text has digits alone -/
theorem itoa_digits {a : Int} (h0 : 0 ≤ a) : ∀ c ∈ Lib.itoa a, isD c = true := by
  obtain ⟨u, rfl⟩ := Int.eq_ofNat_of_zero_le h0
  rw [Lib.itoa_nonneg]
  exact fun c hc => List.all_eq_true.1 (digs u).1 c hc
end Go.Proofs.YtfhnjghjibklcaaDoor
