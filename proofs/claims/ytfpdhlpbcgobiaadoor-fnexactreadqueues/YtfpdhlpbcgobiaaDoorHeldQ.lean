/-
  The laws' own heldQueueS: the marks are found again; a walk over the dump.
-/
import Derived.Test.YtfpdhlpbcgobiaaDoorMarkH
import Derived.Test.YtfpdhlpbcgobiaaDoorEqQ
namespace Go.Proofs.YtfpdhlpbcgobiaaDoor
open Go.RowKit
set_option linter.unusedVariables false

/-- a queue stands at a place; of w0 nothing has turned -/
def QOne (w0 : World) (b p : Nat) (q : Q) (w : World) : Prop := QAt w b p q ∧ Below w0.heap.size w0 w
theorem QOne.call {w0 w w' : World} {b p : Nat} {q : Q} (h : QOne w0 b p q w) (hb : Below w.heap.size w w') : QOne w0 b p q w' := ⟨h.1.below hb, below_on h.2 hb⟩
theorem QOne.drew {w0 w : World} {b p : Nat} {q : Q} (h : QOne w0 b p q w) : QOne w0 b p q w.drew := h.call (Below.refl _ _).drew
theorem QOne.read (w0 : World) (b p : Nat) (q : Q) : ∀ wx, QOne w0 b p q wx → wx.cell? ⟨b, p, none⟩ = some (.string (bs q.name)) ∧ wx.cell? ⟨b, p + 1, none⟩ = some (.string (bs q.parent)) ∧ wx.cell? ⟨b, p + 2, none⟩ = some (.int .i64 q.due) ∧ wx.cell? ⟨b, p + 3, none⟩ = some (.int .i64 q.most) :=
  fun wx h => ⟨h.1.1, h.1.2.1, h.1.2.2.1, h.1.2.2.2⟩
set_option maxRecDepth 100000 in
set_option maxHeartbeats 2000000 in
theorem heldQueueS_any (g n c : Nat) (w : World) (h : QRow w (some ⟨g, 0, none⟩) n (marksQ n)) (hn : n ≤ 1048576) :
    Calls Tryd.prog 19 #[.slice (some ⟨g, 0, none⟩) n c, .int .i64 1] w fun e w' => e = .returned (.int .i64 (1 + 4 * (n : Int))) ∧ Below w.heap.size w w' := by
  have HR := hide h
  clear h
  go_enter Tryd.func19, Tryd.ntmps19
  go_wp2
  go_loopw [1, 5] (fun s i wr => ∃ (j : Nat) (k : Int), j ≤ n ∧ i = .int .i64 j ∧ s = .int .i64 k ∧ k = 1 + 4 * (j : Int) ∧ Hid (Below w.heap.size w wr)) (fun _ i _ => n - (intOf i).toNat)
  case atStart => exact ⟨0, 1, Nat.zero_le _, rfl, rfl, by omega, hide (Below.refl _ _)⟩
  case round =>
    obtain ⟨j, k, hj, rfl, rfl, hk, HB⟩ := hrel
    by_cases hlt : j < n
    · obtain ⟨b, off, e, hq⟩ := ((unhide HR).below (unhide HB)).at hlt
      simp only [Option.some.injEq, Addr.mk.injEq, and_true] at e
      obtain ⟨rfl, rfl⟩ := e
      have hqq := hq (by rw [marksQ_len]; exact hlt)
      rw [marksQ_at] at hqq
      have T0 : ∀ wx, Calls Tryd.prog 44 #[.int .i64 k] wx fun e w' => e = .returned (.string (bs (markQ j).name)) ∧ Below wx.heap.size wx w' := fun wx => by
        have := markText_int k wx (by omega) (by omega)
        rw [show k.toNat = 1 + 4 * j by omega] at this
        exact this
      have T1 : ∀ wx, Calls Tryd.prog 44 #[.int .i64 (k + 1)] wx fun e w' => e = .returned (.string (bs (markQ j).parent)) ∧ Below wx.heap.size wx w' := fun wx => by
        have := markText_int (k + 1) wx (by omega) (by omega)
        rw [show (k + 1).toNat = 1 + 4 * j + 1 by omega] at this
        exact this
      have hd : (markQ j).due = k + 1 + 1 := by rw [hk]; rfl
      have hm : (markQ j).most = k + 1 + 1 + 1 := by rw [hk]; rfl
      obtain ⟨q, hqe⟩ : ∃ q, markQ j = q := ⟨_, rfl⟩
      rw [hqe] at hqq T0 T1 hd hm
      have A0 := hide (show QOne w g (0 + j * 4) q wr from ⟨hqq, unhide HB⟩)
      have C0 := hide T0
      have C1 := hide T1
      have HK := hide hk
      have HD := hide hd
      have HM := hide hm
      have R := QOne.read w g (0 + j * 4) q
      simp only [Nat.zero_add] at A0 R
      have j0 : (0 : Int) ≤ j := by omega
      have j1 : (j : Int) < n := by omega
      have hk0 : 0 < k := by omega
      have hk1 : k ≤ 4194305 := by omega
      have hw1 : IntKind.i64.wrap (k + 1) = k + 1 := by rw [IntKind.wrap_i64]; omega
      clear hq hqq T0 T1 hqe hk hd hm
      go_wp2_with fail
      go_region_held3 (fun wx => QOne w g (j * 4) q wx)
        (first | (with_reducible assumption) | exact (unhide A0).drew | exact QOne.call (by assumption) (by assumption))
        (first
        | (go_at_call 44; refine (unhide C0 _).mono ?_; rintro e wt ⟨rfl, hb⟩; have SA := QOne.call (w0 := w) (b := g) (p := j * 4) (q := q) (by assumption) hb))
      have A1 := hide SA
      clear SA A0
      go_wp2_with fail
      go_region_held3 (fun wx => QOne w g (j * 4) q wx)
        (first | (with_reducible assumption) | exact (unhide A1).drew | exact QOne.call (by assumption) (by assumption))
        (first
        | (go_at_call 44; refine (unhide C1 _).mono ?_; rintro e wt2 ⟨rfl, hb⟩; have SA := QOne.call (w0 := w) (b := g) (p := j * 4) (q := q) (by assumption) hb))
      obtain ⟨_, _, r2, r3⟩ := R _ SA
      rw [unhide HD] at r2
      rw [unhide HM] at r3
      have HB2 := hide SA.2
      clear SA A1 R C0 C1
      go_wp2
      go_roundw
      case rel => exact ⟨j + 1, k + 1 + 1 + 1 + 1, by omega, by go_num, by go_num, by have := unhide HK; omega, HB2⟩
      case measure => simp [intOf]; omega
    · have hjn : j = n := by omega
      subst hjn
      go_wp2
      go_ret
      exact ⟨ret_int (by omega), unhide HB⟩
end Go.Proofs.YtfpdhlpbcgobiaaDoor
