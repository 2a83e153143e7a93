/-
  The laws' own sameTexts and at; walks over the dump.
-/
import Derived.Test.YtmkaoiiempfheaaDoorStrS
import Derived.Test.YtmkaoiiempfheaaDoorCode
import Derived.BigQuiet
import Derived.Deep.QuietTactic
namespace Go.Proofs.YtmkaoiiempfheaaDoor
open Go.RowKit
set_option linter.unusedVariables false

set_option maxRecDepth 100000 in
set_option maxHeartbeats 1000000 in
theorem sameTexts_any (g1 c1 g2 c2 : Nat) (xs ys : List ByteArray) (w : World) (h1 : SS w g1 c1 xs) (h2 : SS w g2 c2 ys) (hl : xs.length ≤ 9000000000) (hl2 : ys.length ≤ 9000000000) (heq : xs = ys) :
    Calls Tryd.prog 16 #[.slice (some ⟨g1, 0, none⟩) xs.length c1, .slice (some ⟨g2, 0, none⟩) ys.length c2] w fun e w' => e = .returned (.bool true) ∧ ∃ n, w' = w.drewN n := by
  subst heq
  have hne : ((xs.length : Int) != (xs.length : Int)) = false := by simp
  go_enter Tryd.func16, Tryd.ntmps16
  go_wp2
  go_loopw [5] (fun i wr => ∃ k n : Nat, k ≤ xs.length ∧ i = .int .i64 k ∧ wr = w.drewN n) (fun i _ => xs.length - (intOf i).toNat)
  case atStart => exact ⟨0, 0, Nat.zero_le _, rfl, rfl⟩
  case round =>
    obtain ⟨k, n, hk, rfl, rfl⟩ := hrel
    by_cases hlt : k < xs.length
    · have a1 : w.cell? ⟨g1, k, none⟩ = some (.string xs[k]) := h1.cell k hlt
      have a2 : w.cell? ⟨g2, k, none⟩ = some (.string xs[k]) := h2.cell k hlt
      have hlt2 : (k : Int) < (xs.length : Int) := by omega
      go_wp2_with fail
      go_quiet (fail)
      go_wp2
      go_roundw
      case rel => exact ⟨k + 1, _, by omega, by go_num, rfl⟩
      case measure => simp [intOf]; omega
    · go_wp2
      go_ret
      exact ⟨rfl, n, rfl⟩

set_option maxRecDepth 100000 in
set_option maxHeartbeats 1000000 in
theorem at_any (B : Nat) (ao : Option Addr) (len cap : Nat) (i : Nat) (w : World) (hcode : Code w B ao len) (hi : i ≤ 100) :
    Calls Tryd.prog 21 #[.slice ao len cap, .int .i64 (i : Int)] w fun e w' => ∃ x : Int, e = .returned (.int .i64 x) ∧ 0 ≤ x ∧ x ≤ 255 ∧ w = w' := by
  have hl := hcode.2.1
  by_cases hlt : i < len
  · rcases hcode.2.2 with h0 | ⟨b, off, zs, rfl, hbB, hz, hzs⟩
    · omega
    have hcz := hz i hlt
    obtain ⟨hz0, hz1⟩ := hzs i
    have hlt2 : (i : Int) < (len : Int) := by omega
    clear hz hzs hcode
    go_enter Tryd.func21, Tryd.ntmps21
    go_wp2
    go_ret
    exact ⟨_, rfl, hz0, hz1, rfl⟩
  · clear hcode
    go_enter Tryd.func21, Tryd.ntmps21
    go_wp2
    go_ret
    exact ⟨_, rfl, by omega, by omega, rfl⟩
end Go.Proofs.YtmkaoiiempfheaaDoor
