/-
  What the law on Read needs besides: how many records there are, rows without one, what a marked row leaves alone.
-/
import Derived.Test.YtmmdckakchconaaReadN
import Derived.Test.YtmmdckakchconaaRcEq
import Derived.Test.YtmmdckakchconaaMarkFJ
namespace Go.Proofs.Ytmmdckakchconaa
open Go.RowKit
set_option linter.unusedVariables false
theorem mkd_gby {g : Nat} {w w' : World} (h : Mkd g (g + 1) w w') : w.grownBy w' (some g) := ⟨h.os, h.tape, h.output, h.size, fun k hk hn => h.block k hk (by have : k ≠ g := fun e => hn (by rw [e]); omega)⟩
theorem jown_lt {w : World} {B : Nat} {v : Value} {l : List Rc} (h : JOwn B w v l) : ∀ g, v.ownBlock = some g → g < w.heap.size := fun g e => by
  rcases h.2 with ⟨rfl, _⟩ | ⟨g', cap, cur, rfl, _, h2, _⟩
  · simp [Value.ownBlock] at e
  · simp [Value.ownBlock] at e; rw [← e]; exact lt_of_block h2
theorem jown_kept {w w' : World} {B g : Nat} {v : Value} {l : List Rc} (h : JOwn B w v l) (hg : w.grownBy w' (some g)) (hn : v.ownBlock ≠ some g) : JOwn B w' v l := World.ownsRow.kept h hg (.inr hn)

set_option maxRecDepth 100000 in
set_option maxHeartbeats 1000000 in
theorem markRecS_zero (ao : Option Addr) (c : Nat) (k : Int) (w : World) :
    Calls Try.prog 11 #[.slice ao 0 c, .int .i64 k] w fun e w' => e = .returned (.int .i64 k) ∧ w = w' := by
  go_enter Try.func11, Try.ntmps11
  go_wp2
  go_loopw [1, 5] (fun s i wr => i = .int .i64 0 ∧ s = .int .i64 k ∧ wr = w) (fun _ _ _ => 0)
  case atStart => exact ⟨rfl, rfl, rfl⟩
  case round =>
    obtain ⟨rfl, rfl, rfl⟩ := hrel
    go_wp2
    go_ret
    exact ⟨rfl, rfl⟩
end Go.Proofs.Ytmmdckakchconaa
