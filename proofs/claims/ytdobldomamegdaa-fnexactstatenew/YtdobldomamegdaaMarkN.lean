/-
  The laws' own marks at a state that has nothing but queues; walks over the dump.
-/
import Derived.Test.YtdobldomamegdaaPackB
import Derived.Test.YtdobldomamegdaaStAll
import Derived.Test.YtdobldomamegdaaHeldK
namespace Go.Proofs.Ytdobldomamegdaa
open Go.RowKit
set_option linter.unusedVariables false

/-- a state of queues alone, as memory and as what it says -/
abbrev newX (qo : Option Addr) (n c : Nat) : Sls := ⟨qo, n, c, none, 0, 0, none, 0, 0, none, 0, 0⟩
abbrev newSt (l : List Q) (ep nx se : Int) : St := ⟨l, 0, ep, nx, se, [], [], []⟩
theorem new_row {w : World} {qo : Option Addr} {n c : Nat} {l : List Q} (ep nx se : Int) (h : QRow w qo n l) : SRow w (newX qo n c) (newSt l ep nx se) := ⟨h, ⟨rfl, .inl rfl⟩, ⟨rfl, .inl rfl⟩, ⟨rfl, .inl rfl⟩⟩
theorem new_fit {l : List Q} (ep nx se : Int) (h : FitQ l) : FitSt (newSt l ep nx se) := ⟨h, ⟨by simp, by simp⟩, ⟨by simp, by simp⟩, ⟨by simp, by simp⟩⟩

set_option maxRecDepth 100000 in
set_option maxHeartbeats 1000000 in
theorem markAppS_nil (K : Int) (w : World) :
    Calls Try.prog 23 #[.slice none 0 0, .int .i64 K] w fun e w' => e = .returned (.int .i64 K) ∧ w = w' := by
  go_enter Try.func23, Try.ntmps23
  go_wp2
  go_loopw [1, 5] (fun s i wr => i = .int .i64 0 ∧ s = .int .i64 K ∧ wr = w) (fun _ _ _ => 0)
  case atStart => exact ⟨rfl, rfl, rfl⟩
  case round =>
    obtain ⟨rfl, rfl, rfl⟩ := hrel
    go_wp2
    go_ret
    exact ⟨rfl, rfl⟩

set_option maxRecDepth 100000 in
set_option maxHeartbeats 1000000 in
theorem markMachineS_nil (K : Int) (w : World) :
    Calls Try.prog 24 #[.slice none 0 0, .int .i64 K] w fun e w' => e = .returned (.int .i64 K) ∧ w = w' := by
  go_enter Try.func24, Try.ntmps24
  go_wp2
  go_loopw [1, 5] (fun s i wr => i = .int .i64 0 ∧ s = .int .i64 K ∧ wr = w) (fun _ _ _ => 0)
  case atStart => exact ⟨rfl, rfl, rfl⟩
  case round =>
    obtain ⟨rfl, rfl, rfl⟩ := hrel
    go_wp2
    go_ret
    exact ⟨rfl, rfl⟩

set_option maxRecDepth 100000 in
set_option maxHeartbeats 1000000 in
theorem markContS_nil (K : Int) (w : World) :
    Calls Try.prog 25 #[.slice none 0 0, .int .i64 K] w fun e w' => e = .returned (.int .i64 K) ∧ w = w' := by
  go_enter Try.func25, Try.ntmps25
  go_wp2
  go_loopw [1, 5] (fun s i wr => i = .int .i64 0 ∧ s = .int .i64 K ∧ wr = w) (fun _ _ _ => 0)
  case atStart => exact ⟨rfl, rfl, rfl⟩
  case round =>
    obtain ⟨rfl, rfl, rfl⟩ := hrel
    go_wp2
    go_ret
    exact ⟨rfl, rfl⟩

set_option maxRecDepth 100000 in
set_option maxHeartbeats 1000000 in
theorem heldAppS_nil (K : Int) (w : World) :
    Calls Try.prog 27 #[.slice none 0 0, .int .i64 K] w fun e w' => e = .returned (.int .i64 K) ∧ w = w' := by
  go_enter Try.func27, Try.ntmps27
  go_wp2
  go_loopw [1, 5] (fun s i wr => i = .int .i64 0 ∧ s = .int .i64 K ∧ wr = w) (fun _ _ _ => 0)
  case atStart => exact ⟨rfl, rfl, rfl⟩
  case round =>
    obtain ⟨rfl, rfl, rfl⟩ := hrel
    go_wp2
    go_ret
    exact ⟨rfl, rfl⟩

set_option maxRecDepth 100000 in
set_option maxHeartbeats 1000000 in
theorem heldMachineS_nil (K : Int) (w : World) :
    Calls Try.prog 28 #[.slice none 0 0, .int .i64 K] w fun e w' => e = .returned (.int .i64 K) ∧ w = w' := by
  go_enter Try.func28, Try.ntmps28
  go_wp2
  go_loopw [1, 5] (fun s i wr => i = .int .i64 0 ∧ s = .int .i64 K ∧ wr = w) (fun _ _ _ => 0)
  case atStart => exact ⟨rfl, rfl, rfl⟩
  case round =>
    obtain ⟨rfl, rfl, rfl⟩ := hrel
    go_wp2
    go_ret
    exact ⟨rfl, rfl⟩

set_option maxRecDepth 100000 in
set_option maxHeartbeats 1000000 in
theorem heldContS_nil (K : Int) (w : World) :
    Calls Try.prog 29 #[.slice none 0 0, .int .i64 K] w fun e w' => e = .returned (.int .i64 K) ∧ w = w' := by
  go_enter Try.func29, Try.ntmps29
  go_wp2
  go_loopw [1, 5] (fun s i wr => i = .int .i64 0 ∧ s = .int .i64 K ∧ wr = w) (fun _ _ _ => 0)
  case atStart => exact ⟨rfl, rfl, rfl⟩
  case round =>
    obtain ⟨rfl, rfl, rfl⟩ := hrel
    go_wp2
    go_ret
    exact ⟨rfl, rfl⟩

set_option maxRecDepth 100000 in
set_option maxHeartbeats 2000000 in
theorem markState_new (qo : Option Addr) (n c : Nat) (l : List Q) (ep nx se K : Int) (hK : ¬ K < 0) (w : World) (R : World → World → Prop)
    (hR : ∀ wx w1, Below w.heap.size w wx → R wx w1 → ∀ arr t, Blk wx w.heap.size arr t → Blk w1 w.heap.size arr t)
    (h : ∀ wx, Below w.heap.size w wx → w.heap.size < wx.heap.size → Calls Try.prog 10 #[.slice qo n c, .int .i64 1] wx fun e w' => e = .returned (.int .i64 K) ∧ R wx w') :
    Calls Try.prog 11 #[sv (newX qo n c) (newSt l ep nx se), .int .i64 1] w fun e w' => e = .returned (.int .i64 K) ∧ R (boxW w (svc (newX qo n c) (newSt l ep nx se))) w' := by
  have HK := hide (fun w1 hp => hR _ w1 (boxW_below w (svc (newX qo n c) (newSt l ep nx se))) hp (svc (newX qo n c) (newSt l ep nx se)) 29)
  have h' := h _ (boxW_below w (svc (newX qo n c) (newSt l ep nx se))) (by rw [boxW_size]; omega)
  have P0 := hide (boxW_blk w (svc (newX qo n c) (newSt l ep nx se)))
  have HB0 := hide (boxW_below w (svc (newX qo n c) (newSt l ep nx se)))
  have C0 := hide h'
  clear h h' hR
  go_enter Try.func11, Try.ntmps11
  go_wp2_with fail
  refine (unhide C0).mono ?_
  rintro e w1 ⟨rfl, hp⟩
  have P1 := hide (unhide HK w1 hp (unhide P0))
  have HP := hide hp
  obtain ⟨p5, p6, p7⟩ : _ ∧ _ ∧ _ := ⟨(unhide P1).at 5, (unhide P1).at 6, (unhide P1).at 7⟩
  simp at p5 p6 p7
  clear hp C0 P0
  go_wp2_with fail
  refine (markAppS_nil K _).mono ?_
  rintro e w2 ⟨rfl, rfl⟩
  go_wp2_with fail
  refine (markMachineS_nil K _).mono ?_
  rintro e w2 ⟨rfl, rfl⟩
  go_wp2_with fail
  refine (markContS_nil K _).mono ?_
  rintro e w2 ⟨rfl, rfl⟩
  go_wp2
  go_ret
  exact ⟨rfl, unhide HP⟩

set_option maxRecDepth 100000 in
set_option maxHeartbeats 2000000 in
theorem heldState_new (qo : Option Addr) (n c : Nat) (l : List Q) (ep nx se K : Int) (hK : ¬ K < 0) (w : World) (R : World → World → Prop)
    (hR : ∀ wx w1, Below w.heap.size w wx → R wx w1 → ∀ arr t, Blk wx w.heap.size arr t → Blk w1 w.heap.size arr t)
    (h : ∀ wx, Below w.heap.size w wx → w.heap.size < wx.heap.size → Calls Try.prog 26 #[.slice qo n c, .int .i64 1] wx fun e w' => e = .returned (.int .i64 K) ∧ R wx w') :
    Calls Try.prog 12 #[sv (newX qo n c) (newSt l ep nx se), .int .i64 1] w fun e w' => e = .returned (.int .i64 K) ∧ R (boxW w (svc (newX qo n c) (newSt l ep nx se))) w' := by
  have HK := hide (fun w1 hp => hR _ w1 (boxW_below w (svc (newX qo n c) (newSt l ep nx se))) hp (svc (newX qo n c) (newSt l ep nx se)) 29)
  have h' := h _ (boxW_below w (svc (newX qo n c) (newSt l ep nx se))) (by rw [boxW_size]; omega)
  have P0 := hide (boxW_blk w (svc (newX qo n c) (newSt l ep nx se)))
  have HB0 := hide (boxW_below w (svc (newX qo n c) (newSt l ep nx se)))
  have C0 := hide h'
  clear h h' hR
  go_enter Try.func12, Try.ntmps12
  go_wp2_with fail
  refine (unhide C0).mono ?_
  rintro e w1 ⟨rfl, hp⟩
  have P1 := hide (unhide HK w1 hp (unhide P0))
  have HP := hide hp
  obtain ⟨p5, p6, p7⟩ : _ ∧ _ ∧ _ := ⟨(unhide P1).at 5, (unhide P1).at 6, (unhide P1).at 7⟩
  simp at p5 p6 p7
  clear hp C0 P0
  go_wp2_with fail
  refine (heldAppS_nil K _).mono ?_
  rintro e w2 ⟨rfl, rfl⟩
  go_wp2_with fail
  refine (heldMachineS_nil K _).mono ?_
  rintro e w2 ⟨rfl, rfl⟩
  go_wp2_with fail
  refine (heldContS_nil K _).mono ?_
  rintro e w2 ⟨rfl, rfl⟩
  go_wp2
  go_ret
  exact ⟨rfl, unhide HP⟩
end Go.Proofs.Ytdobldomamegdaa
