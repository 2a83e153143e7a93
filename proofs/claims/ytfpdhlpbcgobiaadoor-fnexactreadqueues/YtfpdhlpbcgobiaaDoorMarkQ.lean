/-
  The laws' own markQueueS: it writes into the row that it is handed, and into nothing else; a walk over the dump.
-/
import Derived.Test.YtfpdhlpbcgobiaaDoorQBlk
import Derived.Test.YtfpdhlpbcgobiaaDoorMarkT
namespace Go.Proofs.YtfpdhlpbcgobiaaDoor
open Go.RowKit
set_option linter.unusedVariables false

/-- block g is a row of n queues -/
def QAny (w : World) (t : TypeId) (g n : Nat) : Prop := QBlk w t g n 0 []
theorem QBlk.any {w : World} {t : TypeId} {g n k : Nat} {l : List Q} (h : QBlk w t g n k l) : QAny w t g n := by
  obtain ⟨arr, h1, h2, _⟩ := h
  exact ⟨arr, h1, h2, fun i hi => absurd hi (by simp)⟩
theorem QAny.set {w : World} {t : TypeId} {g n : Nat} (h : QAny w t g n) (j : Nat) (v : Value) : QAny (w.setCell ⟨g, j, none⟩ v) t g n := by
  obtain ⟨arr, h1, h2, _⟩ := h
  exact ⟨_, heap_setCell_same w g j _ _ v h1, by simp [h2], fun i hi => absurd hi (by simp)⟩
set_option maxRecDepth 100000 in
set_option maxHeartbeats 2000000 in
theorem markQueueS_any (g n : Nat) (w : World) (h : QAny w 74 g n) (hn : n ≤ 1048576) :
    Calls Tryd.prog 18 #[.slice (some ⟨g, 0, none⟩) n n, .int .i64 1] w fun e w' => e = .returned (.int .i64 (1 + 4 * (n : Int))) ∧ w.grownBy w' (some g) := by
  have HQ0 := hide h
  clear h
  go_enter Tryd.func18, Tryd.ntmps18
  go_wp2
  go_loopw [1, 5] (fun s i wr => ∃ (j : Nat) (k : Int), j ≤ n ∧ i = .int .i64 j ∧ s = .int .i64 k ∧ k = 1 + 4 * (j : Int) ∧ Hid (QAny wr 74 g n) ∧ Hid (w.grownBy wr (some g))) (fun _ i _ => n - (intOf i).toNat)
  case atStart => exact ⟨0, 1, Nat.zero_le _, rfl, rfl, by omega, HQ0, hide (grownBy_refl _ _)⟩
  case round =>
    obtain ⟨j, k, hj, rfl, rfl, hk, HQ, HG⟩ := hrel
    by_cases hlt : j < n
    · have HK := hide hk
      have hk0 : 0 < k := by omega
      have hk1 : k ≤ 4194305 := by omega
      clear hk
      go_wp2_with fail
      refine (markText_int k _ hk0 (by omega)).mono ?_
      rintro e w1 ⟨rfl, hb⟩
      have HQ1 := hide (show QAny w1 74 g n from QBlk.below (unhide HQ) hb)
      have HG1 := hide (grownBy_below (unhide HG) hb)
      obtain ⟨v0, d0⟩ := QBlk.cell (unhide HQ1) (j := j * 4) (by omega)
      have f0 := QBlk.frozen (unhide HQ1) (j * 4)
      have HQ1' := hide ((unhide HQ1).set (j * 4) (.string (mk k.toNat)))
      have HG1' := hide (grownBy_set (unhide HG1) (j * 4) (.string (mk k.toNat)))
      clear hb HQ HG
      go_wp2_with fail
      refine (markText_int (k + 1) _ (by omega) (by omega)).mono ?_
      rintro e w2 ⟨rfl, hb⟩
      have HQ2 := hide (show QAny w2 74 g n from QBlk.below (unhide HQ1') hb)
      have HG2 := hide (grownBy_below (unhide HG1') hb)
      obtain ⟨v1, d1⟩ := QBlk.cell (unhide HQ2) (j := j * 4 + 1) (by omega)
      have f1 := QBlk.frozen (unhide HQ2) (j * 4 + 1)
      have HQ3 := hide ((unhide HQ2).set (j * 4 + 1) (.string (mk (k + 1).toNat)))
      have HG3 := hide (grownBy_set (unhide HG2) (j * 4 + 1) (.string (mk (k + 1).toNat)))
      obtain ⟨v2, d2⟩ := QBlk.cell (unhide HQ3) (j := j * 4 + 2) (by omega)
      have f2 := QBlk.frozen (unhide HQ3) (j * 4 + 2)
      have HQ4 := hide ((unhide HQ3).set (j * 4 + 2) (.int .i64 (k + 1 + 1)))
      have HG4 := hide (grownBy_set (unhide HG3) (j * 4 + 2) (.int .i64 (k + 1 + 1)))
      obtain ⟨v3, d3⟩ := QBlk.cell (unhide HQ4) (j := j * 4 + 3) (by omega)
      have f3 := QBlk.frozen (unhide HQ4) (j * 4 + 3)
      clear hb d0 f0 HQ1 HG1 HQ1' HG1' HQ2 HG2
      go_wp2
      go_roundw
      case rel => exact ⟨j + 1, k + 1 + 1 + 1 + 1, by omega, by go_num, by go_num, by have := unhide HK; omega, hide ((unhide HQ4).set _ _), hide (grownBy_set (unhide HG4) _ _)⟩
      case measure => simp [intOf]; omega
    · have hjn : j = n := by omega
      subst hjn
      go_wp2
      go_ret
      exact ⟨ret_int (by omega), unhide HG⟩
end Go.Proofs.YtfpdhlpbcgobiaaDoor
