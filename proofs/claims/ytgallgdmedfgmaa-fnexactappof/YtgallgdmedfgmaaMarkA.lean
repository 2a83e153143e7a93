/-
  The laws' own markAskS, from any number on, and heldAskS: what is marked in a row of asks, and found again; walks over the dump.
-/
import Derived.Test.YtgallgdmedfgmaaCel
import Derived.Deep.RegionHeld3
namespace Go.Proofs.Ytgallgdmedfgmaa
open Go.RowKit
set_option linter.unusedVariables false

/-- the ask of marks at place j, from k on -/
def markA (k j : Nat) : Ask := ⟨(k : Int) + 5 * (j : Int), (k : Int) + 5 * (j : Int) + 1, (k : Int) + 5 * (j : Int) + 1 + 1, 109 :: dgs (k + 5 * j + 1 + 1 + 1), (k : Int) + 5 * (j : Int) + 1 + 1 + 1 + 1⟩
def marksA (k n : Nat) : List Ask := (List.range n).map (markA k)
theorem marksA_len (k n : Nat) : (marksA k n).length = n := by simp [marksA]
theorem marksA_at (k n j : Nat) (h : j < (marksA k n).length) : (marksA k n)[j] = markA k j := by simp [marksA]
theorem AskBlk.tail {w : World} {t : TypeId} {g n k : Nat} {l : List Ask} (h : AskBlk w t g n k l) {p : Nat} (hp : k * 5 ≤ p) (v : Value) : AskBlk (w.setCell ⟨g, p, none⟩ v) t g n k l := by
  obtain ⟨arr, h1, h2, h3⟩ := h
  refine ⟨_, heap_setCell_same w g p _ _ v h1, by simp [h2], fun i hi hik => ?_⟩
  obtain ⟨a, b, c, d, e⟩ := h3 i hi hik
  refine ⟨?_, ?_, ?_, ?_, ?_⟩
  · rw [← a, Array.getElem?_setIfInBounds, if_neg (by omega)]
  · rw [← b, Array.getElem?_setIfInBounds, if_neg (by omega)]
  · rw [← c, Array.getElem?_setIfInBounds, if_neg (by omega)]
  · rw [← d, Array.getElem?_setIfInBounds, if_neg (by omega)]
  · rw [← e, Array.getElem?_setIfInBounds, if_neg (by omega)]
theorem AskBlk.next {w : World} {t : TypeId} {g n k : Nat} {l : List Ask} (h : AskBlk w t g n k l) (c : ∀ hk : k < l.length, AskAt w g (k * 5) l[k]) : AskBlk w t g n (k + 1) l := by
  obtain ⟨arr, h1, h2, h3⟩ := h
  refine ⟨arr, h1, h2, fun i hi hik => ?_⟩
  by_cases e : i = k
  · subst e
    obtain ⟨c0, c1, c2, c3, c4⟩ := c hi
    simp [World.cell?, h1] at c0 c1 c2 c3 c4
    exact ⟨c0, c1, c2, c3, c4⟩
  · exact h3 i hi (by omega)
theorem AskBlk.rowOf {w : World} {t : TypeId} {g c n : Nat} {l : List Ask} (h : AskBlk w t g c n l) (hl : n = l.length) : AskRow w (some ⟨g, 0, none⟩) n l := by
  obtain ⟨arr, h1, h2, h3⟩ := h
  refine ⟨hl, .inr ⟨g, 0, rfl, fun i hi => ?_⟩⟩
  obtain ⟨a, b, c, d, e⟩ := h3 i hi (by omega)
  unfold AskAt
  simp only [Nat.zero_add]
  exact ⟨by simp [World.cell?, h1, a], by simp [World.cell?, h1, b], by simp [World.cell?, h1, c], by simp [World.cell?, h1, d], by simp [World.cell?, h1, e]⟩
theorem cellKeep {w : World} {g p q : Nat} {u v : Value} (h : w.cell? ⟨g, p, none⟩ = some u) (hne : q ≠ p) : (w.setCell ⟨g, q, none⟩ v).cell? ⟨g, p, none⟩ = some u :=
  (World.cell?_setCell_other _ _ _ _ (fun e => hne (congrArg Addr.off e))).trans h
theorem cellBel {w w' : World} {g p : Nat} {u : Value} (h : w.cell? ⟨g, p, none⟩ = some u) (hb : Below w.heap.size w w') : w'.cell? ⟨g, p, none⟩ = some u := (hb.cell (cell_lt h)).trans h

set_option maxRecDepth 100000 in
set_option maxHeartbeats 4000000 in
theorem markAskS_from (g n c K : Nat) {d : Nat} (w : World) (h : Cel w 30 g (c * 5)) (hc : n ≤ c) (hn : n ≤ 1048576) (h0 : 0 < K) (h1 : K ≤ 1000000000000000) :
    Calls Try.prog 55 #[.slice (some ⟨g, 0, none⟩) n d, .int .i64 (K : Int)] w fun e w' => e = .returned (.int .i64 ((K : Int) + 5 * (n : Int))) ∧ AskRow w' (some ⟨g, 0, none⟩) n (marksA K n) ∧ Mkd g (g + 1) w w' := by
  have HQ0 := hide (show AskBlk w 30 g c 0 (marksA K n) by obtain ⟨arr, h1, h2⟩ := h; exact ⟨arr, h1, h2, fun i _ h => absurd h (by omega)⟩)
  clear h
  go_enter Try.func55, Try.ntmps55
  go_wp2
  go_loopw [1, 5] (fun s i wr => ∃ (j : Nat) (k : Int), j ≤ n ∧ i = .int .i64 j ∧ s = .int .i64 k ∧ k = (K : Int) + 5 * (j : Int) ∧ Hid (AskBlk wr 30 g c j (marksA K n)) ∧ Hid (Mkd g (g + 1) w wr)) (fun _ i _ => n - (intOf i).toNat)
  case atStart => exact ⟨0, K, Nat.zero_le _, rfl, rfl, by omega, HQ0, hide (Mkd.refl _ _ _)⟩
  case round =>
    obtain ⟨j, k, hj, rfl, rfl, hk, HQ, HG⟩ := hrel
    by_cases hlt : j < n
    · have HK := hide hk
      have hk0 : 0 < k := by omega
      have hk1 : k ≤ 1000000010000000 := by omega
      clear hk
      obtain ⟨v0, d0⟩ := (unhide HQ).cell (j := j * 5) (by omega)
      have f0 := (unhide HQ).frozen (j * 5)
      have X0 := hide (World.cell?_setCell_same wr ⟨g, j * 5, none⟩ (.int .i64 k) d0)
      have HQ1 := hide ((unhide HQ).tail (p := j * 5) (by omega) (.int .i64 k))
      have HG1 := hide ((unhide HG).sc g (j * 5) (.int .i64 k) (Nat.le_refl _) (by omega))
      obtain ⟨v1, d1⟩ := (unhide HQ1).cell (j := j * 5 + 1) (by omega)
      have f1 := (unhide HQ1).frozen (j * 5 + 1)
      have X1 := hide (World.cell?_setCell_same _ ⟨g, j * 5 + 1, none⟩ (.int .i64 (k + 1)) d1)
      have X01 := hide (cellKeep (q := j * 5 + 1) (v := .int .i64 (k + 1)) (unhide X0) (by omega))
      have HQ2 := hide ((unhide HQ1).tail (p := j * 5 + 1) (by omega) (.int .i64 (k + 1)))
      have HG2 := hide ((unhide HG1).sc g (j * 5 + 1) (.int .i64 (k + 1)) (Nat.le_refl _) (by omega))
      obtain ⟨v2, d2⟩ := (unhide HQ2).cell (j := j * 5 + 2) (by omega)
      have f2 := (unhide HQ2).frozen (j * 5 + 2)
      have X2 := hide (World.cell?_setCell_same _ ⟨g, j * 5 + 2, none⟩ (.int .i64 (k + 1 + 1)) d2)
      have X02 := hide (cellKeep (q := j * 5 + 2) (v := .int .i64 (k + 1 + 1)) (unhide X01) (by omega))
      have X12 := hide (cellKeep (q := j * 5 + 2) (v := .int .i64 (k + 1 + 1)) (unhide X1) (by omega))
      have HQ3 := hide ((unhide HQ2).tail (p := j * 5 + 2) (by omega) (.int .i64 (k + 1 + 1)))
      have HG3 := hide ((unhide HG2).sc g (j * 5 + 2) (.int .i64 (k + 1 + 1)) (Nat.le_refl _) (by omega))
      clear X0 X1 X01 HQ HG
      go_wp2_with fail
      refine (markText_int (k + 1 + 1 + 1) _ (by omega) (by omega)).mono ?_
      rintro e w1 ⟨rfl, hb⟩
      have HQ4 := hide ((unhide HQ3).below hb)
      have HG4 := hide ((unhide HG3).on hb)
      have Y0 := hide (cellBel (unhide X02) hb)
      have Y1 := hide (cellBel (unhide X12) hb)
      have Y2 := hide (cellBel (unhide X2) hb)
      clear hb d0 f0 d1 f1 d2 f2 X2 X02 X12 HQ1 HQ2 HQ3 HG1 HG2 HG3
      obtain ⟨v3, d3⟩ := (unhide HQ4).cell (j := j * 5 + 3) (by omega)
      have f3 := (unhide HQ4).frozen (j * 5 + 3)
      have Z0 := hide (cellKeep (q := j * 5 + 3) (v := .string (mk (k + 1 + 1 + 1).toNat)) (unhide Y0) (by omega))
      have Z1 := hide (cellKeep (q := j * 5 + 3) (v := .string (mk (k + 1 + 1 + 1).toNat)) (unhide Y1) (by omega))
      have Z2 := hide (cellKeep (q := j * 5 + 3) (v := .string (mk (k + 1 + 1 + 1).toNat)) (unhide Y2) (by omega))
      have Z3 := hide (World.cell?_setCell_same w1 ⟨g, j * 5 + 3, none⟩ (.string (mk (k + 1 + 1 + 1).toNat)) d3)
      have HQ5 := hide ((unhide HQ4).tail (p := j * 5 + 3) (by omega) (.string (mk (k + 1 + 1 + 1).toNat)))
      have HG5 := hide ((unhide HG4).sc g (j * 5 + 3) (.string (mk (k + 1 + 1 + 1).toNat)) (Nat.le_refl _) (by omega))
      obtain ⟨v4, d4⟩ := (unhide HQ5).cell (j := j * 5 + 4) (by omega)
      have f4 := (unhide HQ5).frozen (j * 5 + 4)
      have HN := hide (show AskBlk _ 30 g c (j + 1) (marksA K n) from ((unhide HQ5).tail (p := j * 5 + 4) (by omega) (.int .i64 (k + 1 + 1 + 1 + 1))).next (fun hj' => by
        rw [marksA_at]
        have e1 : (k + 1 + 1 + 1).toNat = K + 5 * j + 1 + 1 + 1 := by have := unhide HK; omega
        have e3 := unhide HK
        have y0 := cellKeep (q := j * 5 + 4) (v := .int .i64 (k + 1 + 1 + 1 + 1)) (unhide Z0) (by omega)
        have y1 := cellKeep (q := j * 5 + 4) (v := .int .i64 (k + 1 + 1 + 1 + 1)) (unhide Z1) (by omega)
        have y2 := cellKeep (q := j * 5 + 4) (v := .int .i64 (k + 1 + 1 + 1 + 1)) (unhide Z2) (by omega)
        have y3 := cellKeep (q := j * 5 + 4) (v := .int .i64 (k + 1 + 1 + 1 + 1)) (unhide Z3) (by omega)
        have y4 := World.cell?_setCell_same _ ⟨g, j * 5 + 4, none⟩ (.int .i64 (k + 1 + 1 + 1 + 1)) d4
        refine ⟨y0.trans ?_, y1.trans ?_, y2.trans ?_, y3.trans ?_, y4.trans ?_⟩
        · rw [e3]; rfl
        · rw [e3]; rfl
        · rw [e3]; rfl
        · rw [e1]; rfl
        · rw [e3]; rfl))
      have HG6 := hide ((unhide HG5).sc g (j * 5 + 4) (.int .i64 (k + 1 + 1 + 1 + 1)) (Nat.le_refl _) (by omega))
      clear HQ4 HG4 HG5 Y0 Y1 Y2 Z0 Z1 Z2 Z3
      go_wp2
      go_roundw
      case rel => exact ⟨j + 1, k + 1 + 1 + 1 + 1 + 1, by omega, by go_num, by go_num, by have := unhide HK; omega, HN, HG6⟩
      case measure => simp [intOf]; omega
    · have hjn : j = n := by omega
      subst hjn
      go_wp2
      go_ret
      exact ⟨ret_int (by omega), (unhide HQ).rowOf (by rw [marksA_len]), unhide HG⟩

set_option maxRecDepth 100000 in
set_option maxHeartbeats 1000000 in
theorem markAskS_nil (K : Int) (w : World) :
    Calls Try.prog 55 #[.slice none 0 0, .int .i64 K] w fun e w' => e = .returned (.int .i64 K) ∧ Below w.heap.size w w' := by
  go_enter Try.func55, Try.ntmps55
  go_wp2
  go_loopw [1, 5] (fun s i wr => i = .int .i64 0 ∧ s = .int .i64 K ∧ Hid (Below w.heap.size w wr)) (fun _ _ _ => 0)
  case atStart => exact ⟨rfl, rfl, hide (Below.refl _ _)⟩
  case round =>
    obtain ⟨rfl, rfl, HB⟩ := hrel
    go_wp2
    go_ret
    exact ⟨rfl, unhide HB⟩

/-- an ask stands at a place; of w0 nothing has turned -/
def AskOne (w0 : World) (b p : Nat) (q : Ask) (w : World) : Prop := AskAt w b p q ∧ Below w0.heap.size w0 w
theorem AskOne.call {w0 w w' : World} {b p : Nat} {q : Ask} (h : AskOne w0 b p q w) (hb : Below w.heap.size w w') : AskOne w0 b p q w' := ⟨h.1.below hb, below_on h.2 hb⟩
theorem AskOne.drew {w0 w : World} {b p : Nat} {q : Ask} (h : AskOne w0 b p q w) : AskOne w0 b p q w.drew := h.call (Below.refl _ _).drew
theorem AskOne.read (w0 : World) (b p : Nat) (q : Ask) : ∀ wx, AskOne w0 b p q wx → wx.cell? ⟨b, p, none⟩ = some (.int .i64 q.mem) ∧ wx.cell? ⟨b, p + 1, none⟩ = some (.int .i64 q.cpu) ∧ wx.cell? ⟨b, p + 2, none⟩ = some (.int .i64 q.count) ∧ wx.cell? ⟨b, p + 3, none⟩ = some (.string (bs q.node)) ∧ wx.cell? ⟨b, p + 4, none⟩ = some (.int .i64 q.missed) :=
  fun wx h => h.1
set_option maxRecDepth 100000 in
set_option maxHeartbeats 2000000 in
theorem heldAskS_any (ao : Option Addr) (n c K : Nat) (w : World) (h : AskRow w ao n (marksA K n)) (hn : n ≤ 1048576) (h0 : 0 < K) (h1 : K ≤ 1000000000000000) :
    Calls Try.prog 56 #[.slice ao n c, .int .i64 (K : Int)] w fun e w' => e = .returned (.int .i64 ((K : Int) + 5 * (n : Int))) ∧ Below w.heap.size w w' := by
  have HR := hide h
  clear h
  go_enter Try.func56, Try.ntmps56
  go_wp2
  go_loopw [1, 5] (fun s i wr => ∃ (j : Nat) (k : Int), j ≤ n ∧ i = .int .i64 j ∧ s = .int .i64 k ∧ k = (K : Int) + 5 * (j : Int) ∧ Hid (Below w.heap.size w wr)) (fun _ i _ => n - (intOf i).toNat)
  case atStart => exact ⟨0, K, Nat.zero_le _, rfl, rfl, by omega, hide (Below.refl _ _)⟩
  case round =>
    obtain ⟨j, k, hj, rfl, rfl, hk, HB⟩ := hrel
    by_cases hlt : j < n
    · obtain ⟨b, off, rfl, hq⟩ := ((unhide HR).below (unhide HB)).at hlt
      have hqq := hq (by rw [marksA_len]; exact hlt)
      rw [marksA_at] at hqq
      have T0 : ∀ wx, Calls Try.prog 89 #[.int .i64 (k + 1 + 1 + 1)] wx fun e w' => e = .returned (.string (bs (markA K j).node)) ∧ Below wx.heap.size wx w' := fun wx => by
        have := markText_int (k + 1 + 1 + 1) wx (by omega) (by omega)
        rw [show (k + 1 + 1 + 1).toNat = K + 5 * j + 1 + 1 + 1 by omega] at this
        exact this
      have hd : (markA K j).mem = k := by rw [hk]; rfl
      have hm : (markA K j).cpu = k + 1 := by rw [hk]; rfl
      have hp : (markA K j).count = k + 1 + 1 := by rw [hk]; rfl
      have hr : (markA K j).missed = k + 1 + 1 + 1 + 1 := by rw [hk]; rfl
      obtain ⟨q, hqe⟩ : ∃ q, markA K j = q := ⟨_, rfl⟩
      rw [hqe] at hqq T0 hd hm hp hr
      have A0 := hide (show AskOne w b (off + j * 5) q wr from ⟨hqq, unhide HB⟩)
      have C0 := hide T0
      have HK := hide hk
      have HR4 := hide hr
      have R := AskOne.read w b (off + j * 5) q
      have R' := hide R
      obtain ⟨r0, r1, r2, _, _⟩ := R _ (unhide A0)
      rw [hd] at r0
      rw [hm] at r1
      rw [hp] at r2
      have j0 : (0 : Int) ≤ j := by omega
      have j1 : (j : Int) < n := by omega
      have hk0 : 0 < k := by omega
      have hk1 : k ≤ 1000000010000000 := by omega
      have hw1 : IntKind.i64.wrap (k + 1) = k + 1 := by rw [IntKind.wrap_i64]; omega
      have hw2 : IntKind.i64.wrap (k + 1 + 1) = k + 1 + 1 := by rw [IntKind.wrap_i64]; omega
      have hw3 : IntKind.i64.wrap (k + 1 + 1 + 1) = k + 1 + 1 + 1 := by rw [IntKind.wrap_i64]; omega
      clear hq hqq T0 hqe hk hd hm hp hr R
      go_wp2_with fail
      have R := unhide R'
      clear r0 r1 r2
      go_region_held3 (fun wx => AskOne w b (off + j * 5) q wx)
        (first | (with_reducible assumption) | exact (unhide A0).drew | exact AskOne.call (by assumption) (by assumption))
        (first
        | (go_at_call 89; refine (unhide C0 _).mono ?_; rintro e wt ⟨rfl, hb⟩; have SA := AskOne.call (w0 := w) (b := b) (p := off + j * 5) (q := q) (by assumption) hb))
      obtain ⟨_, _, _, _, r4⟩ := R _ SA
      rw [unhide HR4] at r4
      have HB2 := hide SA.2
      clear SA A0 R C0 R'
      go_wp2
      go_roundw
      case rel => exact ⟨j + 1, k + 1 + 1 + 1 + 1 + 1, by omega, by go_num, by go_num, by have := unhide HK; omega, HB2⟩
      case measure => simp [intOf]; omega
    · have hjn : j = n := by omega
      subst hjn
      go_wp2
      go_ret
      exact ⟨ret_int (by omega), unhide HB⟩
end Go.Proofs.Ytgallgdmedfgmaa
