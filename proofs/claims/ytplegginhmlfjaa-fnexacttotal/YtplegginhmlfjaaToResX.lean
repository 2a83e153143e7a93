/-
  The laws' own toRes and eqRes, with the world behind them; walks over the dump.
-/
import Derived.Test.YtplegginhmlfjaaKeptV
namespace Go.Proofs.Ytplegginhmlfjaa
open Go.RowKit
set_option linter.unusedVariables false

set_option maxRecDepth 100000 in
set_option maxHeartbeats 1000000 in
theorem toRes_ex (a b : Int) (w : World) :
    Calls Try.prog 109 #[rv a b] w fun e w' => e = .returned (rv a b) ∧ ∃ o1 o2 o3, w' = ((w.alloc o1).alloc o2).alloc o3 := by
  go_enter Try.func109, Try.ntmps109
  go_wp2
  exact bodyPost_ret (v := rv a b) (by simp [results, Try.results109, go_sem]) rfl ⟨rfl, _, _, _, rfl⟩
set_option maxRecDepth 100000 in
set_option maxHeartbeats 1000000 in
theorem eqRes_ex (a b : Int) (w : World) :
    Calls Try.prog 23 #[rv a b, rv a b] w fun e w' => e = .returned (.bool true) ∧ ∃ o1 o2 n, w' = ((w.alloc o1).alloc o2).drewN n := by
  go_enter Try.func23, Try.ntmps23
  go_wp2
  go_ret
  refine ⟨rfl, ?_⟩
  first | exact ⟨_, _, 0, rfl⟩ | exact ⟨_, _, 1, rfl⟩ | exact ⟨_, _, 2, rfl⟩ | exact ⟨_, _, 3, rfl⟩ | exact ⟨_, _, 4, rfl⟩
end Go.Proofs.Ytplegginhmlfjaa
