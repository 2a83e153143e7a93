/-
  Decimal digits, one by one.
-/
import Derived.Test.YtobpjegfgegkcaaGreatDoorPackA
import Derived.Lib.ItoaLen
namespace Go.Proofs.YtobpjegfgegkcaaGreatDoor
open Go.RowKit
/-- the digits of u, none for 0 -/
def dgs (u : Nat) : List UInt8 := if u = 0 then [] else Lib.decDigits u
theorem dgs_zero : dgs 0 = [] := rfl
theorem dgs_pos {u : Nat} (h : u ≠ 0) : dgs u = Lib.decDigits u := by rw [dgs, if_neg h]
theorem dgs_step {u : Nat} (h : u ≠ 0) : dgs u = dgs (u / 10) ++ [UInt8.ofNat (48 + u % 10)] := by
  rw [dgs_pos h, Lib.decDigits]
  by_cases h10 : u < 10
  · rw [dif_pos h10]
    have e : u / 10 = 0 := by omega
    rw [e, dgs_zero, Nat.mod_eq_of_lt h10]; rfl
  · rw [dif_neg h10, dgs_pos (by omega)]
/-- one digit cut out of the ten -/
theorem ten_cut : ∀ d : Nat, d < 10 → (ByteArray.mk #[48, 49, 50, 51, 52, 53, 54, 55, 56, 57]).extract d (d + 1) = ⟨#[UInt8.ofNat (48 + d)]⟩ := by
  intro d h
  match d, h with
  | 0, _ => rfl
  | 1, _ => rfl
  | 2, _ => rfl
  | 3, _ => rfl
  | 4, _ => rfl
  | 5, _ => rfl
  | 6, _ => rfl
  | 7, _ => rfl
  | 8, _ => rfl
  | 9, _ => rfl
  | d + 10, h => exact absurd h (by omega)
end Go.Proofs.YtobpjegfgegkcaaGreatDoor
