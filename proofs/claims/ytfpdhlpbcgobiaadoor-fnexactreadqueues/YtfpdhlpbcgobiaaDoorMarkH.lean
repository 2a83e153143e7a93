/-
  The laws' own markQueueS and heldQueueS: what is marked in a row of queues, and found again; walks over the dump.
-/
import Derived.Test.YtfpdhlpbcgobiaaDoorMarkQ
import Derived.Deep.RegionHeld3
namespace Go.Proofs.YtfpdhlpbcgobiaaDoor
open Go.RowKit
set_option linter.unusedVariables false

/-- the queue of marks at place j -/
def markQ (j : Nat) : Q := ⟨109 :: dgs (1 + 4 * j), 109 :: dgs (1 + 4 * j + 1), 1 + 4 * (j : Int) + 1 + 1, 1 + 4 * (j : Int) + 1 + 1 + 1⟩
def marksQ (n : Nat) : List Q := (List.range n).map markQ
theorem marksQ_len (n : Nat) : (marksQ n).length = n := by simp [marksQ]
theorem marksQ_at (n j : Nat) (h : j < (marksQ n).length) : (marksQ n)[j] = markQ j := by simp [marksQ]
theorem QBlk.tail {w : World} {t : TypeId} {g n k : Nat} {l : List Q} (h : QBlk w t g n k l) {p : Nat} (hp : k * 4 ≤ p) (v : Value) : QBlk (w.setCell ⟨g, p, none⟩ v) t g n k l := by
  obtain ⟨arr, h1, h2, h3⟩ := h
  refine ⟨_, heap_setCell_same w g p _ _ v h1, by simp [h2], fun i hi hik => ?_⟩
  obtain ⟨a, b, c, d⟩ := h3 i hi hik
  refine ⟨?_, ?_, ?_, ?_⟩
  · rw [← a, Array.getElem?_setIfInBounds, if_neg (by omega)]
  · rw [← b, Array.getElem?_setIfInBounds, if_neg (by omega)]
  · rw [← c, Array.getElem?_setIfInBounds, if_neg (by omega)]
  · rw [← d, Array.getElem?_setIfInBounds, if_neg (by omega)]
theorem QBlk.next {w : World} {t : TypeId} {g n k : Nat} {l : List Q} (h : QBlk w t g n k l) (c : ∀ hk : k < l.length, QAt w g (k * 4) l[k]) : QBlk w t g n (k + 1) l := by
  obtain ⟨arr, h1, h2, h3⟩ := h
  refine ⟨arr, h1, h2, fun i hi hik => ?_⟩
  by_cases e : i = k
  · subst e
    obtain ⟨c0, c1, c2, c3⟩ := c hi
    simp [World.cell?, h1] at c0 c1 c2 c3
    exact ⟨c0, c1, c2, c3⟩
  · exact h3 i hi (by omega)
theorem QBlk.rowOf {w : World} {t : TypeId} {g c n : Nat} {l : List Q} (h : QBlk w t g c n l) (hl : n = l.length) : QRow w (some ⟨g, 0, none⟩) n l := by
  obtain ⟨arr, h1, h2, h3⟩ := h
  refine ⟨hl, .inr ⟨g, 0, rfl, fun i hi => ?_⟩⟩
  obtain ⟨a, b, c, d⟩ := h3 i hi (by omega)
  unfold QAt
  simp only [Nat.zero_add]
  exact ⟨by simp [World.cell?, h1, a], by simp [World.cell?, h1, b], by simp [World.cell?, h1, c], by simp [World.cell?, h1, d]⟩
theorem cell_keep {w : World} {g p q : Nat} {u v : Value} (h : w.cell? ⟨g, p, none⟩ = some u) (hne : q ≠ p) : (w.setCell ⟨g, q, none⟩ v).cell? ⟨g, p, none⟩ = some u :=
  (World.cell?_setCell_other _ _ _ _ (fun e => hne (congrArg Addr.off e))).trans h
theorem cell_bel {w w' : World} {g p : Nat} {u : Value} (h : w.cell? ⟨g, p, none⟩ = some u) (hb : Below w.heap.size w w') : w'.cell? ⟨g, p, none⟩ = some u := (hb.cell (cell_lt h)).trans h
set_option maxRecDepth 100000 in
set_option maxHeartbeats 2000000 in
theorem markQueueS_full (g n c : Nat) {d : Nat} (w : World) (h : QAny w 74 g c) (hc : n ≤ c) (hn : n ≤ 1048576) :
    Calls Tryd.prog 18 #[.slice (some ⟨g, 0, none⟩) n d, .int .i64 1] w fun e w' => e = .returned (.int .i64 (1 + 4 * (n : Int))) ∧ QBlk w' 74 g c n (marksQ n) ∧ w.grownBy w' (some g) := by
  have HQ0 := hide (show QBlk w 74 g c 0 (marksQ n) by obtain ⟨arr, h1, h2, _⟩ := h; exact ⟨arr, h1, h2, fun i _ h => absurd h (by omega)⟩)
  clear h
  go_enter Tryd.func18, Tryd.ntmps18
  go_wp2
  go_loopw [1, 5] (fun s i wr => ∃ (j : Nat) (k : Int), j ≤ n ∧ i = .int .i64 j ∧ s = .int .i64 k ∧ k = 1 + 4 * (j : Int) ∧ Hid (QBlk wr 74 g c j (marksQ n)) ∧ Hid (w.grownBy wr (some g))) (fun _ i _ => n - (intOf i).toNat)
  case atStart => exact ⟨0, 1, Nat.zero_le _, rfl, rfl, by omega, HQ0, hide (grownBy_refl _ _)⟩
  case round =>
    obtain ⟨j, k, hj, rfl, rfl, hk, HQ, HG⟩ := hrel
    by_cases hlt : j < n
    · have HK := hide hk
      have hk0 : 0 < k := by omega
      have hk1 : k ≤ 4194305 := by omega
      clear hk
      go_wp2_with fail
      refine (markText_int k _ hk0 (by omega)).mono ?_
      rintro e w1 ⟨rfl, hb⟩
      have HQ1 := hide ((unhide HQ).below hb)
      have HG1 := hide (grownBy_below (unhide HG) hb)
      obtain ⟨v0, d0⟩ := (unhide HQ1).cell (j := j * 4) (by omega)
      have f0 := (unhide HQ1).frozen (j * 4)
      have HQ1' := hide ((unhide HQ1).tail (p := j * 4) (by omega) (.string (mk k.toNat)))
      have X0 := hide (World.cell?_setCell_same w1 ⟨g, j * 4, none⟩ (.string (mk k.toNat)) d0)
      have HG1' := hide (grownBy_set (unhide HG1) (j * 4) (.string (mk k.toNat)))
      clear hb HQ HG
      go_wp2_with fail
      refine (markText_int (k + 1) _ (by omega) (by omega)).mono ?_
      rintro e w2 ⟨rfl, hb⟩
      have HQ2 := hide ((unhide HQ1').below hb)
      have HG2 := hide (grownBy_below (unhide HG1') hb)
      have X02 := hide (cell_bel (unhide X0) hb)
      obtain ⟨v1, d1⟩ := (unhide HQ2).cell (j := j * 4 + 1) (by omega)
      have f1 := (unhide HQ2).frozen (j * 4 + 1)
      have X1 := hide (World.cell?_setCell_same w2 ⟨g, j * 4 + 1, none⟩ (.string (mk (k + 1).toNat)) d1)
      have X03 := hide (cell_keep (q := j * 4 + 1) (v := .string (mk (k + 1).toNat)) (unhide X02) (by omega))
      have HQ3 := hide ((unhide HQ2).tail (p := j * 4 + 1) (by omega) (.string (mk (k + 1).toNat)))
      have HG3 := hide (grownBy_set (unhide HG2) (j * 4 + 1) (.string (mk (k + 1).toNat)))
      obtain ⟨v2, d2⟩ := (unhide HQ3).cell (j := j * 4 + 2) (by omega)
      have f2 := (unhide HQ3).frozen (j * 4 + 2)
      have X2 := hide (World.cell?_setCell_same _ ⟨g, j * 4 + 2, none⟩ (.int .i64 (k + 1 + 1)) d2)
      have X04 := hide (cell_keep (q := j * 4 + 2) (v := .int .i64 (k + 1 + 1)) (unhide X03) (by omega))
      have X14 := hide (cell_keep (q := j * 4 + 2) (v := .int .i64 (k + 1 + 1)) (unhide X1) (by omega))
      have HQ4 := hide ((unhide HQ3).tail (p := j * 4 + 2) (by omega) (.int .i64 (k + 1 + 1)))
      have HG4 := hide (grownBy_set (unhide HG3) (j * 4 + 2) (.int .i64 (k + 1 + 1)))
      obtain ⟨v3, d3⟩ := (unhide HQ4).cell (j := j * 4 + 3) (by omega)
      have f3 := (unhide HQ4).frozen (j * 4 + 3)
      have HN := hide (show QBlk _ 74 g c (j + 1) (marksQ n) from ((unhide HQ4).tail (p := j * 4 + 3) (by omega) (.int .i64 (k + 1 + 1 + 1))).next (fun hj' => by
        rw [marksQ_at]
        have e1 : k.toNat = 1 + 4 * j := by have := unhide HK; omega
        have e2 : (k + 1).toNat = 1 + 4 * j + 1 := by have := unhide HK; omega
        have e3 := unhide HK
        have y0 := cell_keep (q := j * 4 + 3) (v := .int .i64 (k + 1 + 1 + 1)) (unhide X04) (by omega)
        have y1 := cell_keep (q := j * 4 + 3) (v := .int .i64 (k + 1 + 1 + 1)) (unhide X14) (by omega)
        have y2 := cell_keep (q := j * 4 + 3) (v := .int .i64 (k + 1 + 1 + 1)) (unhide X2) (by omega)
        have y3 := World.cell?_setCell_same _ ⟨g, j * 4 + 3, none⟩ (.int .i64 (k + 1 + 1 + 1)) d3
        refine ⟨y0.trans ?_, y1.trans ?_, y2.trans ?_, y3.trans ?_⟩
        · rw [e1]; rfl
        · rw [e2]; rfl
        · rw [e3]; rfl
        · rw [e3]; rfl))
      clear hb d0 f0 HQ1 HG1 HQ1' HG1' HQ2 HG2 X0 X02 X1 X03 X2 X04 X14
      go_wp2
      go_roundw
      case rel => exact ⟨j + 1, k + 1 + 1 + 1 + 1, by omega, by go_num, by go_num, by have := unhide HK; omega, HN, hide (grownBy_set (unhide HG4) _ _)⟩
      case measure => simp [intOf]; omega
    · have hjn : j = n := by omega
      subst hjn
      go_wp2
      go_ret
      exact ⟨ret_int (by omega), unhide HQ, unhide HG⟩
end Go.Proofs.YtfpdhlpbcgobiaaDoor
