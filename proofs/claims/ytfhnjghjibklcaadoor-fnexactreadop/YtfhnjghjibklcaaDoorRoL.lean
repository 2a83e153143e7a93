/-
  The laws' own markOp and heldOp at an event without containers; an event that was read has none.
-/
import Derived.Test.YtfhnjghjibklcaaDoorRoK
import Derived.Test.YtfhnjghjibklcaaDoorRoS
namespace Go.Proofs.YtfhnjghjibklcaaDoor
open Go.RowKit
set_option linter.unusedVariables false
set_option linter.unusedSimpArgs false

set_option maxRecDepth 100000 in
set_option maxHeartbeats 1000000 in
theorem markContS_nil (K : Int) (w : World) :
    Calls Tryd.prog 20 #[.slice none 0 0, .int .i64 K] w fun e w' => e = .returned (.int .i64 K) ∧ w = w' := by
  go_enter Tryd.func20, Tryd.ntmps20
  go_wp2
  go_loopw [1, 5] (fun s i wr => i = .int .i64 0 ∧ s = .int .i64 K ∧ wr = w) (fun _ _ _ => 0)
  case atStart => exact ⟨rfl, rfl, rfl⟩
  case round =>
    obtain ⟨rfl, rfl, rfl⟩ := hrel
    go_wp2
    go_ret
    exact ⟨rfl, rfl⟩
set_option maxRecDepth 100000 in
set_option maxHeartbeats 1000000 in
theorem heldContS_nil (K : Int) (w : World) :
    Calls Tryd.prog 21 #[.slice none 0 0, .int .i64 K] w fun e w' => e = .returned (.int .i64 K) ∧ w = w' := by
  go_enter Tryd.func21, Tryd.ntmps21
  go_wp2
  go_loopw [1, 5] (fun s i wr => i = .int .i64 0 ∧ s = .int .i64 K ∧ wr = w) (fun _ _ _ => 0)
  case atStart => exact ⟨rfl, rfl, rfl⟩
  case round =>
    obtain ⟨rfl, rfl, rfl⟩ := hrel
    go_wp2
    go_ret
    exact ⟨rfl, rfl⟩
set_option maxRecDepth 100000 in
set_option maxHeartbeats 1000000 in
theorem markOp_nil (o : Opv) (w : World) :
    Calls Tryd.prog 7 #[opv o none 0 0, .int .i64 1] w fun e w' => e = .returned (.int .i64 1) ∧ Below w.heap.size w w' := by
  have HB0 := hide (below_al (Below.refl _ w) (.cells (opc o none 0 0) 28))
  obtain ⟨kind, queue, app, ⟨am, ac, an, ad, ai⟩, cont, node, mem, cpu, conts⟩ := o
  go_enter Tryd.func7, Tryd.ntmps7
  go_wp2_with fail
  refine (markContS_nil 1 _).mono ?_
  rintro e w1 ⟨rfl, rfl⟩
  go_wp2
  go_ret
  exact ⟨rfl, unhide HB0⟩
set_option maxRecDepth 100000 in
set_option maxHeartbeats 1000000 in
theorem heldOp_nil (o : Opv) (w : World) :
    Calls Tryd.prog 8 #[opv o none 0 0, .int .i64 1] w fun e w' => e = .returned (.int .i64 1) ∧ Below w.heap.size w w' := by
  have HB0 := hide (below_al (Below.refl _ w) (.cells (opc o none 0 0) 28))
  obtain ⟨kind, queue, app, ⟨am, ac, an, ad, ai⟩, cont, node, mem, cpu, conts⟩ := o
  go_enter Tryd.func8, Tryd.ntmps8
  go_wp2_with fail
  refine (heldContS_nil 1 _).mono ?_
  rintro e w1 ⟨rfl, rfl⟩
  go_wp2
  go_ret
  exact ⟨rfl, unhide HB0⟩
theorem rdOp_conts (l : List UInt8) : (rdOp l).1.conts = [] := by
  have h : ∀ ws, (rdWords ws).1.conts = [] := fun ws => by
    match ws with
    | [] => rfl
    | [a] => rfl
    | [a, b] =>
      rw [rdWords, rdShort]
      repeat (split; rfl)
      rfl
    | [a, b, c] => rfl
    | [a, b, c, d] => rfl
    | [a, b, c, d, e] => rfl
    | a :: b :: c :: d :: e :: f :: r => rfl
  rw [rdOp, keepOp]
  split
  · exact h _
  · rfl
end Go.Proofs.YtfhnjghjibklcaaDoor
