/-
  A number and a text come back from their bytes, and no other bytes are theirs: plain mathematics.
-/
import Derived.Test.YtmmdckakchconaaGetText
import Derived.Test.YtmmdckakchconaaPutText
namespace Go.Proofs.Ytmmdckakchconaa
set_option linter.unusedVariables false
theorem getNum_cases (l : List UInt8) (i : Int) : getNum l i = (0, -1) ∨ ∃ I j : Nat, i = I ∧ stop 5 (l.drop I) = some j ∧ putNum (dv ((l.drop I).take (j + 1)) : Int) = (l.drop I).take (j + 1) ∧ getNum l i = ((dv ((l.drop I).take (j + 1)) : Int), (I : Int) + j + 1) := by
  unfold getNum
  by_cases hi : i < 0
  · rw [if_pos hi]; exact .inl rfl
  · rw [if_neg hi]
    obtain ⟨I, rfl⟩ := Int.eq_ofNat_of_zero_le (a := i) (by omega)
    rw [Int.toNat_natCast]
    cases hs : stop 5 (l.drop I) with
    | none => exact .inl rfl
    | some j =>
      simp only
      by_cases hp : putNum (dv ((l.drop I).take (j + 1)) : Int) = (l.drop I).take (j + 1)
      · rw [if_pos hp]; exact .inr ⟨I, j, rfl, hs, hp, rfl⟩
      · rw [if_neg hp]; exact .inl rfl
end Go.Proofs.Ytmmdckakchconaa
