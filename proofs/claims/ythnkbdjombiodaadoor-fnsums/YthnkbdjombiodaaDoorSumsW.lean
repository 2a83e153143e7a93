/-
  The laws' own sameTexts; a walk over the dump.
-/
import Derived.Test.YthnkbdjombiodaaDoorStrS
import Derived.Test.YthnkbdjombiodaaDoorAt
import Derived.BigQuiet
import Derived.Deep.QuietTactic
namespace Go.Proofs.YthnkbdjombiodaaDoor
open Go.RowKit
set_option linter.unusedVariables false

set_option maxRecDepth 100000 in
set_option maxHeartbeats 1000000 in
theorem sameTexts_any (g1 c1 g2 c2 : Nat) (xs ys : List ByteArray) (w : World) (h1 : SS w g1 c1 xs) (h2 : SS w g2 c2 ys) (hl : xs.length ≤ 9000000000) (hl2 : ys.length ≤ 9000000000) (heq : xs = ys) :
    Calls Tryd.prog 22 #[.slice (some ⟨g1, 0, none⟩) xs.length c1, .slice (some ⟨g2, 0, none⟩) ys.length c2] w fun e w' => e = .returned (.bool true) ∧ ∃ n, w' = w.drewN n := by
  subst heq
  have hne : ((xs.length : Int) != (xs.length : Int)) = false := by simp
  go_enter Tryd.func22, Tryd.ntmps22
  go_wp2
  go_loopw [5] (fun i wr => ∃ k n : Nat, k ≤ xs.length ∧ i = .int .i64 k ∧ wr = w.drewN n) (fun i _ => xs.length - (intOf i).toNat)
  case atStart => exact ⟨0, 0, Nat.zero_le _, rfl, rfl⟩
  case round =>
    obtain ⟨k, n, hk, rfl, rfl⟩ := hrel
    by_cases hlt : k < xs.length
    · have a1 : w.cell? ⟨g1, k, none⟩ = some (.string xs[k]) := h1.cell k hlt
      have a2 : w.cell? ⟨g2, k, none⟩ = some (.string xs[k]) := h2.cell k hlt
      have hlt2 : (k : Int) < (xs.length : Int) := by omega
      go_wp2_with fail
      go_quiet (fail)
      go_wp2
      go_roundw
      case rel => exact ⟨k + 1, _, by omega, by go_num, rfl⟩
      case measure => simp [intOf]; omega
    · go_wp2
      go_ret
      exact ⟨rfl, n, rfl⟩
end Go.Proofs.YthnkbdjombiodaaDoor
