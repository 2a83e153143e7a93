/-
  The laws' own at; a walk over the dump.
-/
import Derived.Test.YtobpjegfgegkcaaGreatDoorCode
namespace Go.Proofs.YtobpjegfgegkcaaGreatDoor
open Go.RowKit
set_option linter.unusedVariables false
set_option maxRecDepth 100000 in
set_option maxHeartbeats 1000000 in
theorem at_any (B : Nat) (ao : Option Addr) (len cap : Nat) (i : Nat) (w : World) (hcode : Code w B ao len) (hi : i ≤ 100) :
    Calls Tryz.prog 17 #[.slice ao len cap, .int .i64 (i : Int)] w fun e w' => ∃ x : Int, e = .returned (.int .i64 x) ∧ 0 ≤ x ∧ x ≤ 255 ∧ w = w' := by
  have hl := hcode.2.1
  by_cases hlt : i < len
  · rcases hcode.2.2 with h0 | ⟨b, off, zs, rfl, hbB, hz, hzs⟩
    · omega
    have hcz := hz i hlt
    obtain ⟨hz0, hz1⟩ := hzs i
    have hlt2 : (i : Int) < (len : Int) := by omega
    clear hz hzs hcode
    go_enter Tryz.func17, Tryz.ntmps17
    go_wp2
    go_ret
    exact ⟨_, rfl, hz0, hz1, rfl⟩
  · clear hcode
    go_enter Tryz.func17, Tryz.ntmps17
    go_wp2
    go_ret
    exact ⟨_, rfl, by omega, by omega, rfl⟩
end Go.Proofs.YtobpjegfgegkcaaGreatDoor
