/-
  How many records are read of a log.
-/
import Derived.Test.YtgdndekmkaknlaaGreatPackW
namespace Go.Proofs.YtgdndekmkaknlaaGreat
open Go.RowKit
set_option linter.unusedVariables false
theorem readF_len (s : ByteArray) : ∀ (n i : Nat) (acc : List Rc), acc.length ≤ i → i ≤ s.size → (readF s n i acc).1.length ≤ s.size
  | 0, i, acc, h1, h2 => by rw [readF]; simp only; omega
  | n + 1, i, acc, h1, h2 => by
    by_cases hd : s.size ≤ i
    · rw [readF_done hd]; simp only; omega
    · cases hx : readEntry s i with
      | none => rw [readF_none hx]; simp only; omega
      | some y =>
        obtain ⟨r, j⟩ := y
        have he := entry_on hx
        rw [readF_some (by omega) hx]
        exact readF_len s n j.toNat _ (by simp; omega) (by omega)
theorem readV_len (s : ByteArray) : (readV s).1.length ≤ 60000 := by
  unfold readV
  split
  · simp
  · have := readF_len s (s.size + 1) 0 [] (by simp) (by omega)
    omega
end Go.Proofs.YtgdndekmkaknlaaGreat
