/-
  The laws' own markRecS, from any number on, and heldRecS: what is marked in a row, and found again (gmf.py wrote this); walks over the dump.
-/
import Derived.Test.YtmmdckakchconaaCelV
import Derived.Test.YtmmdckakchconaaRcRow
import Derived.Test.YtmmdckakchconaaMarkT
import Derived.Deep.RegionHeld3
namespace Go.Proofs.Ytmmdckakchconaa
open Go.RowKit
set_option linter.unusedVariables false
set_option linter.unusedSimpArgs false
def markJ (k j : Nat) : Rc := ⟨(k : Int) + 3 * (j : Int), (k : Int) + 3 * (j : Int) + 1, 109 :: dgs (k + 3 * j + 1 + 1)⟩
def marksJ (k n : Nat) : List Rc := (List.range n).map (markJ k)
theorem marksJ_len (k n : Nat) : (marksJ k n).length = n := by simp [marksJ]
theorem marksJ_at (k n j : Nat) (h : j < (marksJ k n).length) : (marksJ k n)[j] = markJ k j := by simp [marksJ]
theorem RcBlk.tail {w : World} {t : TypeId} {g n k : Nat} {l : List Rc} (h : RcBlk w t g n k l) {p : Nat} (hp : k * 3 ≤ p) (v : Value) : RcBlk (w.setCell ⟨g, p, none⟩ v) t g n k l := by
  obtain ⟨arr, h1, h2, h3⟩ := h
  refine ⟨_, heap_setCell_same w g p _ _ v h1, by simp [h2], fun i hi hik => ?_⟩
  obtain ⟨a, b, c⟩ := h3 i hi hik
  refine ⟨?_, ?_, ?_⟩
  · rw [← a, Array.getElem?_setIfInBounds, if_neg (by omega)]
  · rw [← b, Array.getElem?_setIfInBounds, if_neg (by omega)]
  · rw [← c, Array.getElem?_setIfInBounds, if_neg (by omega)]
theorem RcBlk.next {w : World} {t : TypeId} {g n k : Nat} {l : List Rc} (h : RcBlk w t g n k l) (c : ∀ hk : k < l.length, RcAt w g (k * 3) l[k]) : RcBlk w t g n (k + 1) l := by
  obtain ⟨arr, h1, h2, h3⟩ := h
  refine ⟨arr, h1, h2, fun i hi hik => ?_⟩
  by_cases e : i = k
  · subst e
    obtain ⟨c0, c1, c2⟩ := c hi
    simp [World.cell?, h1] at c0 c1 c2
    exact ⟨c0, c1, c2⟩
  · exact h3 i hi (by omega)
theorem RcBlk.rowOf {w : World} {t : TypeId} {g c n : Nat} {l : List Rc} (h : RcBlk w t g c n l) (hl : n = l.length) : RcRow w (some ⟨g, 0, none⟩) n l := by
  obtain ⟨arr, h1, h2, h3⟩ := h
  refine ⟨hl, .inr ⟨g, 0, rfl, fun i hi => ?_⟩⟩
  obtain ⟨a, b, c⟩ := h3 i hi (by omega)
  unfold RcAt
  simp only [Nat.zero_add]
  exact ⟨by simp [World.cell?, h1, a], by simp [World.cell?, h1, b], by simp [World.cell?, h1, c]⟩
theorem cellKeepJ {w : World} {g p q : Nat} {u v : Value} (h : w.cell? ⟨g, p, none⟩ = some u) (hne : q ≠ p) : (w.setCell ⟨g, q, none⟩ v).cell? ⟨g, p, none⟩ = some u :=
  (World.cell?_setCell_other _ _ _ _ (fun e => hne (congrArg Addr.off e))).trans h
theorem cellBelJ {w w' : World} {g p : Nat} {u : Value} (h : w.cell? ⟨g, p, none⟩ = some u) (hb : Below w.heap.size w w') : w'.cell? ⟨g, p, none⟩ = some u := (hb.cell (cell_lt h)).trans h

set_option maxRecDepth 100000 in
set_option maxHeartbeats 4000000 in
theorem markRecS_full (g n c K : Nat) {d : Nat} (w : World) (h : Cel w 23 g (c * 3)) (hc : n ≤ c) (hn : n ≤ 1048576) (h0 : 0 < K) (h1 : K ≤ 1000000000000000) :
    Calls Try.prog 11 #[.slice (some ⟨g, 0, none⟩) n d, .int .i64 (K : Int)] w fun e w' => e = .returned (.int .i64 ((K : Int) + 3 * (n : Int))) ∧ RcRow w' (some ⟨g, 0, none⟩) n (marksJ K n) ∧ Mkd g (g + 1) w w' := by
  have HQ0 := hide (show RcBlk w 23 g c 0 (marksJ K n) by obtain ⟨arr, h1, h2⟩ := h; exact ⟨arr, h1, h2, fun i _ h => absurd h (by omega)⟩)
  clear h
  go_enter Try.func11, Try.ntmps11
  go_wp2
  go_loopw [1, 5] (fun s i wr => ∃ (j : Nat) (k : Int), j ≤ n ∧ i = .int .i64 j ∧ s = .int .i64 k ∧ k = (K : Int) + 3 * (j : Int) ∧ Hid (RcBlk wr 23 g c j (marksJ K n)) ∧ Hid (Mkd g (g + 1) w wr)) (fun _ i _ => n - (intOf i).toNat)
  case atStart => exact ⟨0, K, Nat.zero_le _, rfl, rfl, by omega, HQ0, hide (Mkd.refl _ _ _)⟩
  case round =>
    obtain ⟨j, k, hj, rfl, rfl, hk, HQ, HG⟩ := hrel
    by_cases hlt : j < n
    · have HK := hide hk
      have hk0 : 0 < k := by omega
      have hk1 : k ≤ 1000000010000000 := by omega
      clear hk
      obtain ⟨v0, d0⟩ := (unhide HQ).cell (j := j * 3) (by omega)
      have f0 := (unhide HQ).frozen (j * 3)
      have X0_1 := hide (World.cell?_setCell_same _ ⟨g, j * 3, none⟩ (.int .i64 (k)) d0)
      have HQ1 := hide ((unhide HQ).tail (p := j * 3) (by omega) (.int .i64 (k)))
      have HG1 := hide ((unhide HG).sc g (j * 3) (.int .i64 (k)) (Nat.le_refl _) (by omega))
      obtain ⟨v1, d1⟩ := (unhide HQ1).cell (j := j * 3 + 1) (by omega)
      have f1 := (unhide HQ1).frozen (j * 3 + 1)
      have X0_2 := hide (cellKeepJ (q := j * 3 + 1) (v := .int .i64 (k + 1)) (unhide X0_1) (by omega))
      have X1_3 := hide (World.cell?_setCell_same _ ⟨g, j * 3 + 1, none⟩ (.int .i64 (k + 1)) d1)
      have HQ2 := hide ((unhide HQ1).tail (p := j * 3 + 1) (by omega) (.int .i64 (k + 1)))
      have HG2 := hide ((unhide HG1).sc g (j * 3 + 1) (.int .i64 (k + 1)) (Nat.le_refl _) (by omega))
      clear HQ HG X0_1 HQ1 HG1
      go_wp2_with fail
      refine (markText_int (k + 1 + 1) _ (by omega) (by omega)).mono ?_
      rintro e w1 ⟨rfl, hb⟩
      have HQt := hide ((unhide HQ2).below hb)
      have HGt := hide ((unhide HG2).on hb)
      have Y0 := hide (cellBelJ (unhide X0_2) hb)
      have Y1 := hide (cellBelJ (unhide X1_3) hb)
      clear HQ2 HG2 X0_2 X1_3 hb d0 f0 d1 f1
      obtain ⟨v2, d2⟩ := (unhide HQt).cell (j := j * 3 + 2) (by omega)
      have f2 := (unhide HQt).frozen (j * 3 + 2)
      have HN := hide (show RcBlk _ 23 g c (j + 1) (marksJ K n) from ((unhide HQt).tail (p := j * 3 + 2) (by omega) (.string (mk (k + 1 + 1).toNat))).next (fun hj' => by
        rw [marksJ_at]
        have e1 : (k + 1 + 1).toNat = K + 3 * j + 1 + 1 := by have := unhide HK; omega
        have e3 := unhide HK
        have y0 := cellKeepJ (q := j * 3 + 2) (v := .string (mk (k + 1 + 1).toNat)) (unhide Y0) (by omega)
        have y1 := cellKeepJ (q := j * 3 + 2) (v := .string (mk (k + 1 + 1).toNat)) (unhide Y1) (by omega)
        have y2 := World.cell?_setCell_same _ ⟨g, j * 3 + 2, none⟩ (.string (mk (k + 1 + 1).toNat)) d2
        refine ⟨y0.trans ?_, y1.trans ?_, y2.trans ?_⟩
        · rw [e3]; rfl
        · rw [e3]; rfl
        · rw [e1]; rfl))
      have HGn := hide ((unhide HGt).sc g (j * 3 + 2) (.string (mk (k + 1 + 1).toNat)) (Nat.le_refl _) (by omega))
      clear HGt Y0 Y1
      go_wp2
      go_roundw
      case rel => exact ⟨j + 1, k + 1 + 1 + 1, by omega, by go_num, by go_num, by have := unhide HK; omega, HN, HGn⟩
      case measure => simp [intOf]; omega
    · have hjn : j = n := by omega
      subst hjn
      go_wp2
      go_ret
      exact ⟨ret_int (by omega), (unhide HQ).rowOf (by rw [marksJ_len]), unhide HG⟩

/-- one stands at a place; of w0 nothing has turned -/
def RcOne (w0 : World) (b p : Nat) (q : Rc) (w : World) : Prop := RcAt w b p q ∧ Below w0.heap.size w0 w
theorem RcOne.call {w0 w w' : World} {b p : Nat} {q : Rc} (h : RcOne w0 b p q w) (hb : Below w.heap.size w w') : RcOne w0 b p q w' := ⟨h.1.below hb, below_on h.2 hb⟩
theorem RcOne.drew {w0 w : World} {b p : Nat} {q : Rc} (h : RcOne w0 b p q w) : RcOne w0 b p q w.drew := h.call (Below.refl _ _).drew
theorem RcOne.read (w0 : World) (b p : Nat) (q : Rc) : ∀ wx, RcOne w0 b p q wx → wx.cell? ⟨b, p, none⟩ = some (.int .i64 q.kind) ∧ wx.cell? ⟨b, p + 1, none⟩ = some (.int .i64 q.app) ∧ wx.cell? ⟨b, p + 2, none⟩ = some (.string (bs q.queue)) := fun wx h => h.1
set_option maxRecDepth 100000 in
set_option maxHeartbeats 2000000 in
theorem heldRecS_any (ao : Option Addr) (n c K : Nat) (w : World) (h : RcRow w ao n (marksJ K n)) (hn : n ≤ 1048576) (h0 : 0 < K) (h1 : K ≤ 1000000000000000) :
    Calls Try.prog 12 #[.slice ao n c, .int .i64 (K : Int)] w fun e w' => e = .returned (.int .i64 ((K : Int) + 3 * (n : Int))) ∧ Below w.heap.size w w' := by
  have HR := hide h
  clear h
  go_enter Try.func12, Try.ntmps12
  go_wp2
  go_loopw [1, 5] (fun s i wr => ∃ (j : Nat) (k : Int), j ≤ n ∧ i = .int .i64 j ∧ s = .int .i64 k ∧ k = (K : Int) + 3 * (j : Int) ∧ Hid (Below w.heap.size w wr)) (fun _ i _ => n - (intOf i).toNat)
  case atStart => exact ⟨0, K, Nat.zero_le _, rfl, rfl, by omega, hide (Below.refl _ _)⟩
  case round =>
    obtain ⟨j, k, hj, rfl, rfl, hk, HB⟩ := hrel
    by_cases hlt : j < n
    · obtain ⟨b, off, rfl, hq⟩ := ((unhide HR).below (unhide HB)).at hlt
      have hqq := hq (by rw [marksJ_len]; exact hlt)
      rw [marksJ_at] at hqq
      have T0 : ∀ wx, Calls Try.prog 25 #[.int .i64 (k + 1 + 1)] wx fun e w' => e = .returned (.string (bs (markJ K j).queue)) ∧ Below wx.heap.size wx w' := fun wx => by
        have := markText_int (k + 1 + 1) wx (by omega) (by omega)
        rw [show (k + 1 + 1).toNat = K + 3 * j + 1 + 1 by omega] at this
        exact this
      have h_0 : (markJ K j).kind = k := by rw [hk]; rfl
      have h_1 : (markJ K j).app = k + 1 := by rw [hk]; rfl
      obtain ⟨q, hqe⟩ : ∃ q, markJ K j = q := ⟨_, rfl⟩
      rw [hqe] at hqq T0 h_0 h_1
      have A0 := hide (show RcOne w b (off + j * 3) q wr from ⟨hqq, unhide HB⟩)
      have C0 := hide T0
      have HK := hide hk
      have H_0 := hide h_0
      have H_1 := hide h_1
      have R := RcOne.read w b (off + j * 3) q
      have R' := hide R
      obtain ⟨r0, r1, _⟩ := R _ (unhide A0)
      rw [h_0] at r0
      rw [h_1] at r1
      have j0 : (0 : Int) ≤ j := by omega
      have j1 : (j : Int) < n := by omega
      have hk0 : 0 < k := by omega
      have hk1 : k ≤ 1000000010000000 := by omega
      have hw1 : IntKind.i64.wrap (k + 1) = k + 1 := by rw [IntKind.wrap_i64]; omega
      have hw2 : IntKind.i64.wrap (k + 1 + 1) = k + 1 + 1 := by rw [IntKind.wrap_i64]; omega
      clear hq hqq T0 hqe hk h_0 h_1 R
      go_wp2_with fail
      have R := unhide R'
      clear r0 r1
      go_region_held3 (fun wx => RcOne w b (off + j * 3) q wx)
        (first | (with_reducible assumption) | exact (unhide A0).drew | exact RcOne.call (by assumption) (by assumption))
        (first
        | (go_at_call 25; refine (unhide C0 _).mono ?_; rintro e wt ⟨rfl, hb⟩; have SA := RcOne.call (w0 := w) (b := b) (p := off + j * 3) (q := q) (by assumption) hb))
      obtain ⟨_, _, _⟩ := R _ SA
      have HB2 := hide SA.2
      clear SA A0 R C0 R'
      go_wp2
      go_roundw
      case rel => exact ⟨j + 1, k + 1 + 1 + 1, by omega, by go_num, by go_num, by have := unhide HK; omega, HB2⟩
      case measure => simp [intOf]; omega
    · have hjn : j = n := by omega
      subst hjn
      go_wp2
      go_ret
      exact ⟨ret_int (by omega), unhide HB⟩
end Go.Proofs.Ytmmdckakchconaa
