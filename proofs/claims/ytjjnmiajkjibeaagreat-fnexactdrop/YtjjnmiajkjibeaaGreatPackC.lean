/-
  Several texts of this claim in one: MarkX, MarkFM, MarkFC, MarkA (pack.py put them together); each says in its own remark what is proved.
-/
import Derived.Test.YtjjnmiajkjibeaaGreatPackB
import Derived.Deep.RegionHeld3
/-
  The laws' own markAppS and markState over what toState made: what they leave alone; walks over the dump.
-/
namespace Go.Proofs.YtjjnmiajkjibeaaGreat
open Go.RowKit
set_option linter.unusedVariables false

/-- block g is a row of n applications whose asks lie in blocks from B on to E -/
def AWh (w : World) (B E g n : Nat) : Prop := Cel w 95 g (n * 3) ∧ ∀ i, i < n → ∃ b len, w.cell? ⟨g, i * 3 + 2, none⟩ = some (.slice (some ⟨b, 0, none⟩) len len) ∧ Cel w 143 b (len * 5) ∧ len ≤ 1048576 ∧ B ≤ b ∧ b < E ∧ b ≠ g
theorem AWh.below {w w' : World} {B E g n : Nat} (h : AWh w B E g n) (hb : Below w.heap.size w w') : AWh w' B E g n :=
  ⟨h.1.below hb, fun i hi => let ⟨b, len, a, c, d⟩ := h.2 i hi; ⟨b, len, cellBel a hb, c.below hb, d⟩⟩
theorem AWh.sc {w : World} {B E g n : Nat} (h : AWh w B E g n) (j : Nat) (v : Value) (hj : ∀ i, j ≠ i * 3 + 2) : AWh (w.setCell ⟨g, j, none⟩ v) B E g n :=
  ⟨h.1.set _ _ _, fun i hi => let ⟨b, len, a, c, d⟩ := h.2 i hi; ⟨b, len, cellKeep a (hj i), c.set _ _ _, d⟩⟩
theorem AWh.mkd {w w' : World} {B E g n b : Nat} (h : AWh w B E g n) (hm : Mkd b (b + 1) w w') (hn : b ≠ g) : AWh w' B E g n :=
  ⟨hm.cel _ _ _ h.1, fun i hi => let ⟨b', len, a, c, d⟩ := h.2 i hi; ⟨b', len, (World.cell?_of_block (w := w) (a := ⟨g, i * 3 + 2, none⟩) (hm.block g h.1.lt (by omega))).trans a, hm.cel _ _ _ c, d⟩⟩
theorem ApplBlk.wh {w : World} {g n : Nat} {l : List Appl} (h : ApplBlk w 95 g n n l) (hl : n = l.length) (hk : ∀ q ∈ l, q.asks.length ≤ 1048576) : AWh w (g + 1) w.heap.size g n := by
  refine ⟨h.cel, fun i hi => ?_⟩
  obtain ⟨arr, h1, h2, h3⟩ := h
  have hil : i < l.length := by omega
  obtain ⟨_, _, ao, len, cap, e, ho⟩ := h3 i hil hi
  obtain ⟨b, rfl, rfl, hb⟩ := ho.2.2.2
  have hg := ho.2.2.1 b 0 rfl
  have hlen := hk l[i] (List.getElem_mem _)
  have := ho.1.1
  exact ⟨b, cap, by simp [World.cell?, h1, e], hb.cel, by omega, by omega, hb.lt, by omega⟩

set_option maxRecDepth 100000 in
set_option maxHeartbeats 2000000 in
theorem markAppS_from (B E g n : Nat) (k0 : Int) (w : World) (h : AWh w B E g n) (hB : B ≤ g) (hE : g < E) (hn : n ≤ 1048576) (h0 : 0 < k0) (h1 : k0 ≤ 100000000000000) :
    Calls Tryz.prog 44 #[.slice (some ⟨g, 0, none⟩) n n, .int .i64 k0] w fun e w' => ∃ k', e = .returned (.int .i64 k') ∧ k0 ≤ k' ∧ k' ≤ k0 + 5242882 * (n : Int) ∧ Mkd B E w w' := by
  have HQ0 := hide h
  clear h
  go_enter Tryz.func44, Tryz.ntmps44
  go_wp2
  go_loopw [1, 5] (fun s i wr => ∃ (j : Nat) (k : Int), j ≤ n ∧ i = .int .i64 j ∧ s = .int .i64 k ∧ k0 ≤ k ∧ k ≤ k0 + 5242882 * (j : Int) ∧ Hid (AWh wr B E g n) ∧ Hid (Mkd B E w wr)) (fun _ i _ => n - (intOf i).toNat)
  case atStart => exact ⟨0, k0, Nat.zero_le _, rfl, rfl, by omega, by omega, HQ0, hide (Mkd.refl _ _ _)⟩
  case round =>
    obtain ⟨j, k, hj, rfl, rfl, hk, hk', HQ, HG⟩ := hrel
    by_cases hlt : j < n
    · have hk0 : 0 < k := by omega
      have hk1 : k ≤ 105500000000000 := by omega
      have HK := hide hk'
      clear hk'
      obtain ⟨v0, d0⟩ := (unhide HQ).1.cell (j := j * 3) (by omega)
      have f0 := (unhide HQ).1.frozen (j * 3)
      have HQ1 := hide ((unhide HQ).sc (j * 3) (.int .i64 k) (by omega))
      have HG1 := hide ((unhide HG).sc g (j * 3) (.int .i64 k) hB hE)
      clear HQ HG
      go_wp2_with fail
      refine (markText_int (k + 1) _ (by omega) (by omega)).mono ?_
      rintro e w1 ⟨rfl, hb⟩
      have HQ2 := hide ((unhide HQ1).below hb)
      have HG2 := hide ((unhide HG1).on hb)
      clear hb d0 f0 HQ1 HG1
      obtain ⟨v1, d1⟩ := (unhide HQ2).1.cell (j := j * 3 + 1) (by omega)
      have f1 := (unhide HQ2).1.frozen (j * 3 + 1)
      have HQ3 := hide ((unhide HQ2).sc (j * 3 + 1) (.string (mk (k + 1).toNat)) (by omega))
      have HG3 := hide ((unhide HG2).sc g (j * 3 + 1) (.string (mk (k + 1).toNat)) hB hE)
      clear HQ2 HG2
      obtain ⟨b, len, d2, hcel, hlen, hb1, hb2, hbg⟩ := (unhide HQ3).2 j hlt
      obtain ⟨K, hK⟩ := Int.eq_ofNat_of_zero_le (a := k + 1 + 1) (by omega)
      have CA := hide (fun (e : k + 1 + 1 = (K : Int)) => by have := markAskS_from b len len K (d := len) _ hcel (Nat.le_refl _) hlen (by omega) (by omega); rw [← e] at this; exact this)
      have HKK := hide hK
      clear hcel hK
      go_wp2_with fail
      refine (unhide CA (unhide HKK)).mono ?_
      rintro e w2 ⟨rfl, _, hm⟩
      have HQ4 := hide ((unhide HQ3).mkd hm hbg)
      have HG4 := hide ((unhide HG3).trans (hm.mono hb1 (by omega)))
      clear hm CA HQ3 HG3 d1 f1 d2
      go_wp2
      go_roundw
      case rel => exact ⟨j + 1, k + 1 + 1 + 5 * (len : Int), by omega, by go_num, by go_num, by omega, by have := unhide HK; omega, HQ4, HG4⟩
      case measure => simp [intOf]; omega
    · have hjn : j = n := by omega
      subst hjn
      go_wp2
      go_ret
      exact ⟨k, rfl, hk, hk', unhide HG⟩

set_option maxRecDepth 100000 in
set_option maxHeartbeats 2000000 in
theorem markState_any (B E g1 g2 g3 g4 ql al ml cl : Nat) (s : St) (w : World) (hq : Cel w 99 g1 (ql * 4)) (ha : AWh w B E g2 al) (hm : Cel w 103 g3 (ml * 4)) (hc : Cel w 61 g4 (cl * 5))
    (b1 : B ≤ g1 ∧ g1 < g2 ∧ g2 < g3 ∧ g3 < g4 ∧ g4 < E) (hE : E ≤ w.heap.size) (hql : ql ≤ 1048576) (hal : al ≤ 1048576) (hml : ml ≤ 1048576) (hcl : cl ≤ 1048576) :
    Calls Tryz.prog 14 #[sv (own4 g1 g2 g3 g4 ql al ml cl) s, .int .i64 1] w fun e w' => ∃ k, e = .returned (.int .i64 k) ∧ 0 < k ∧ Mkd B E w w' := by
  have hb0 := below_al (Below.refl _ w) (.cells (svc (own4 g1 g2 g3 g4 ql al ml cl) s) 35)
  have P0 := hide (blk_new w (svc (own4 g1 g2 g3 g4 ql al ml cl) s) 35)
  have CQ := hide (hq.below hb0)
  have CA := hide (ha.below hb0)
  have CM := hide (hm.below hb0)
  have CC := hide (hc.below hb0)
  have HG0 := hide (show Mkd B E w _ from .of_below hb0)
  obtain ⟨qs, clock, epoch, next, serial, apps, ms, cs⟩ := s
  clear hq ha hm hc hb0
  go_enter Tryz.func14, Tryz.ntmps14
  go_wp2_with fail
  refine (markQueueS_from g1 ql ql 1 _ (unhide CQ) (Nat.le_refl _) hql (by omega) (by omega)).mono ?_
  rintro e w1 ⟨rfl, hm1⟩
  have P1 := hide (hm1.blk (unhide P0) (.inr (by omega)))
  have CA1 := hide ((unhide CA).mkd hm1 (by omega))
  have CM1 := hide (hm1.cel _ _ _ (unhide CM))
  have CC1 := hide (hm1.cel _ _ _ (unhide CC))
  have HG1 := hide ((unhide HG0).trans (hm1.mono b1.1 (by omega)))
  have p5 := (unhide P1).at 5
  simp at p5
  clear hm1 P0 CQ CA CM CC HG0
  go_wp2_with fail
  refine (markAppS_from B E g2 al (1 + 4 * (ql : Int)) _ (unhide CA1) (by omega) (by omega) hal (by omega) (by omega)).mono ?_
  rintro e w2 ⟨k2, rfl, hk2, hk2', hm2⟩
  have P2 := hide (hm2.blk (unhide P1) (.inr (by omega)))
  have CM2 := hide (hm2.cel _ _ _ (unhide CM1))
  have CC2 := hide (hm2.cel _ _ _ (unhide CC1))
  have HG2 := hide ((unhide HG1).trans hm2)
  have p6 := (unhide P2).at 6
  simp at p6
  have hk2a : 0 < k2 := by omega
  have hk2b : k2 ≤ 10000000000000 := by omega
  clear hm2 P1 CA1 CM1 CC1 HG1 p5 hk2 hk2'
  go_wp2_with fail
  refine (markMachineS_from g3 ml ml k2 _ (unhide CM2) (Nat.le_refl _) hml (by omega) (by omega)).mono ?_
  rintro e w3 ⟨rfl, hm3⟩
  have P3 := hide (hm3.blk (unhide P2) (.inr (by omega)))
  have CC3 := hide (hm3.cel _ _ _ (unhide CC2))
  have HG3 := hide ((unhide HG2).trans (hm3.mono (by omega) (by omega)))
  have p7 := (unhide P3).at 7
  simp at p7
  clear hm3 P2 CM2 CC2 HG2 p6
  go_wp2_with fail
  refine (markContS_from g4 cl cl (k2 + 4 * (ml : Int)) _ (unhide CC3) (Nat.le_refl _) hcl (by omega) (by omega)).mono ?_
  rintro e w4 ⟨rfl, hm4⟩
  have HG4 := hide ((unhide HG3).trans (hm4.mono (by omega) (by omega)))
  clear hm4 P3 CC3 HG3 p7
  go_wp2
  go_ret
  exact ⟨_, rfl, by omega, unhide HG4⟩
theorem AWh.mono {w : World} {B E B' E' g n : Nat} (h : AWh w B E g n) (h1 : B' ≤ B) (h2 : E ≤ E') : AWh w B' E' g n :=
  ⟨h.1, fun i hi => let ⟨b, len, a, c, d, e, f, k⟩ := h.2 i hi; ⟨b, len, a, c, d, by omega, by omega, k⟩⟩
theorem InBox.mkd {w wx wy : World} {x : Sls} {s : St} {B E : Nat} (h : InBox w x s wx) (hm : Mkd B E wx wy) (h1 : w.heap.size < B) (h2 : B ≤ wx.heap.size) : InBox w x s wy := ⟨hm.blk h.1 (.inl h1), h.2.trans ((hm.below h2).mono (by omega))⟩
theorem InBox.low {w wx wy : World} {x : Sls} {s : St} {B : Nat} (h : InBox w x s wx) (hm : Below B wx wy) (h1 : w.heap.size < B) : InBox w x s wy := ⟨(hm.block _ h1).trans h.1, h.2.trans (hm.mono (by omega))⟩
/-- both states stand, and all that was there in w9 -/
def InTwoB (w9 w : World) (x : Sls) (s : St) (g g1 g2 g3 g4 : Nat) (wx : World) : Prop := InTwo w x s g g1 g2 g3 g4 wx ∧ Below w9.heap.size w9 wx
theorem InTwoB.call {w9 w wx wy : World} {x : Sls} {s : St} {g g1 g2 g3 g4 : Nat} (h : InTwoB w9 w x s g g1 g2 g3 g4 wx) (hb : Below wx.heap.size wx wy) : InTwoB w9 w x s g g1 g2 g3 g4 wy := ⟨h.1.call hb, below_on h.2 hb⟩
theorem InTwoB.drew {w9 w wx : World} {x : Sls} {s : St} {g g1 g2 g3 g4 : Nat} (h : InTwoB w9 w x s g g1 g2 g3 g4 wx) : InTwoB w9 w x s g g1 g2 g3 g4 wx.drew := h.call (Below.refl _ _).drew
end Go.Proofs.YtjjnmiajkjibeaaGreat

/-
  The laws' own markMachineS, from any number on, and heldMachineS: what is marked in a row, and found again (gmf.py wrote this); walks over the dump.
-/
namespace Go.Proofs.YtjjnmiajkjibeaaGreat
open Go.RowKit
set_option linter.unusedVariables false
set_option linter.unusedSimpArgs false

def markM (k j : Nat) : Mac := ⟨109 :: dgs (k + 4 * j), (k : Int) + 4 * (j : Int) + 1, (k : Int) + 4 * (j : Int) + 1 + 1, (k : Int) + 4 * (j : Int) + 1 + 1 + 1⟩
def marksM (k n : Nat) : List Mac := (List.range n).map (markM k)
theorem marksM_len (k n : Nat) : (marksM k n).length = n := by simp [marksM]
theorem marksM_at (k n j : Nat) (h : j < (marksM k n).length) : (marksM k n)[j] = markM k j := by simp [marksM]
theorem MacBlk.tail {w : World} {t : TypeId} {g n k : Nat} {l : List Mac} (h : MacBlk w t g n k l) {p : Nat} (hp : k * 4 ≤ p) (v : Value) : MacBlk (w.setCell ⟨g, p, none⟩ v) t g n k l := by
  obtain ⟨arr, h1, h2, h3⟩ := h
  refine ⟨_, heap_setCell_same w g p _ _ v h1, by simp [h2], fun i hi hik => ?_⟩
  obtain ⟨a, b, c, d⟩ := h3 i hi hik
  refine ⟨?_, ?_, ?_, ?_⟩
  · rw [← a, Array.getElem?_setIfInBounds, if_neg (by omega)]
  · rw [← b, Array.getElem?_setIfInBounds, if_neg (by omega)]
  · rw [← c, Array.getElem?_setIfInBounds, if_neg (by omega)]
  · rw [← d, Array.getElem?_setIfInBounds, if_neg (by omega)]
theorem MacBlk.next {w : World} {t : TypeId} {g n k : Nat} {l : List Mac} (h : MacBlk w t g n k l) (c : ∀ hk : k < l.length, MacAt w g (k * 4) l[k]) : MacBlk w t g n (k + 1) l := by
  obtain ⟨arr, h1, h2, h3⟩ := h
  refine ⟨arr, h1, h2, fun i hi hik => ?_⟩
  by_cases e : i = k
  · subst e
    obtain ⟨c0, c1, c2, c3⟩ := c hi
    simp [World.cell?, h1] at c0 c1 c2 c3
    exact ⟨c0, c1, c2, c3⟩
  · exact h3 i hi (by omega)
theorem MacBlk.rowOf {w : World} {t : TypeId} {g c n : Nat} {l : List Mac} (h : MacBlk w t g c n l) (hl : n = l.length) : MacRow w (some ⟨g, 0, none⟩) n l := by
  obtain ⟨arr, h1, h2, h3⟩ := h
  refine ⟨hl, .inr ⟨g, 0, rfl, fun i hi => ?_⟩⟩
  obtain ⟨a, b, c, d⟩ := h3 i hi (by omega)
  unfold MacAt
  simp only [Nat.zero_add]
  exact ⟨by simp [World.cell?, h1, a], by simp [World.cell?, h1, b], by simp [World.cell?, h1, c], by simp [World.cell?, h1, d]⟩
theorem cellKeepM {w : World} {g p q : Nat} {u v : Value} (h : w.cell? ⟨g, p, none⟩ = some u) (hne : q ≠ p) : (w.setCell ⟨g, q, none⟩ v).cell? ⟨g, p, none⟩ = some u :=
  (World.cell?_setCell_other _ _ _ _ (fun e => hne (congrArg Addr.off e))).trans h
theorem cellBelM {w w' : World} {g p : Nat} {u : Value} (h : w.cell? ⟨g, p, none⟩ = some u) (hb : Below w.heap.size w w') : w'.cell? ⟨g, p, none⟩ = some u := (hb.cell (cell_lt h)).trans h

set_option maxRecDepth 100000 in
set_option maxHeartbeats 4000000 in
theorem markMachineS_full (g n c K : Nat) {d : Nat} (w : World) (h : Cel w 103 g (c * 4)) (hc : n ≤ c) (hn : n ≤ 1048576) (h0 : 0 < K) (h1 : K ≤ 1000000000000000) :
    Calls Tryz.prog 45 #[.slice (some ⟨g, 0, none⟩) n d, .int .i64 (K : Int)] w fun e w' => e = .returned (.int .i64 ((K : Int) + 4 * (n : Int))) ∧ MacRow w' (some ⟨g, 0, none⟩) n (marksM K n) ∧ Mkd g (g + 1) w w' := by
  have HQ0 := hide (show MacBlk w 103 g c 0 (marksM K n) by obtain ⟨arr, h1, h2⟩ := h; exact ⟨arr, h1, h2, fun i _ h => absurd h (by omega)⟩)
  clear h
  go_enter Tryz.func45, Tryz.ntmps45
  go_wp2
  go_loopw [1, 5] (fun s i wr => ∃ (j : Nat) (k : Int), j ≤ n ∧ i = .int .i64 j ∧ s = .int .i64 k ∧ k = (K : Int) + 4 * (j : Int) ∧ Hid (MacBlk wr 103 g c j (marksM K n)) ∧ Hid (Mkd g (g + 1) w wr)) (fun _ i _ => n - (intOf i).toNat)
  case atStart => exact ⟨0, K, Nat.zero_le _, rfl, rfl, by omega, HQ0, hide (Mkd.refl _ _ _)⟩
  case round =>
    obtain ⟨j, k, hj, rfl, rfl, hk, HQ, HG⟩ := hrel
    by_cases hlt : j < n
    · have HK := hide hk
      have hk0 : 0 < k := by omega
      have hk1 : k ≤ 1000000010000000 := by omega
      clear hk
      go_wp2_with fail
      refine (markText_int (k) _ (by omega) (by omega)).mono ?_
      rintro e w1 ⟨rfl, hb⟩
      have HQt := hide ((unhide HQ).below hb)
      have HGt := hide ((unhide HG).on hb)
      clear HQ HG hb
      obtain ⟨v0, d0⟩ := (unhide HQt).cell (j := j * 4) (by omega)
      have f0 := (unhide HQt).frozen (j * 4)
      have Z0_1 := hide (World.cell?_setCell_same _ ⟨g, j * 4, none⟩ (.string (mk (k).toNat)) d0)
      have HQ1z := hide ((unhide HQt).tail (p := j * 4) (by omega) (.string (mk (k).toNat)))
      have HG1z := hide ((unhide HGt).sc g (j * 4) (.string (mk (k).toNat)) (Nat.le_refl _) (by omega))
      obtain ⟨v1, d1⟩ := (unhide HQ1z).cell (j := j * 4 + 1) (by omega)
      have f1 := (unhide HQ1z).frozen (j * 4 + 1)
      have Z0_2 := hide (cellKeepM (q := j * 4 + 1) (v := .int .i64 (k + 1)) (unhide Z0_1) (by omega))
      have Z1_3 := hide (World.cell?_setCell_same _ ⟨g, j * 4 + 1, none⟩ (.int .i64 (k + 1)) d1)
      have HQ2z := hide ((unhide HQ1z).tail (p := j * 4 + 1) (by omega) (.int .i64 (k + 1)))
      have HG2z := hide ((unhide HG1z).sc g (j * 4 + 1) (.int .i64 (k + 1)) (Nat.le_refl _) (by omega))
      obtain ⟨v2, d2⟩ := (unhide HQ2z).cell (j := j * 4 + 2) (by omega)
      have f2 := (unhide HQ2z).frozen (j * 4 + 2)
      have Z0_4 := hide (cellKeepM (q := j * 4 + 2) (v := .int .i64 (k + 1 + 1)) (unhide Z0_2) (by omega))
      have Z1_5 := hide (cellKeepM (q := j * 4 + 2) (v := .int .i64 (k + 1 + 1)) (unhide Z1_3) (by omega))
      have Z2_6 := hide (World.cell?_setCell_same _ ⟨g, j * 4 + 2, none⟩ (.int .i64 (k + 1 + 1)) d2)
      have HQ3z := hide ((unhide HQ2z).tail (p := j * 4 + 2) (by omega) (.int .i64 (k + 1 + 1)))
      have HG3z := hide ((unhide HG2z).sc g (j * 4 + 2) (.int .i64 (k + 1 + 1)) (Nat.le_refl _) (by omega))
      obtain ⟨v3, d3⟩ := (unhide HQ3z).cell (j := j * 4 + 3) (by omega)
      have f3 := (unhide HQ3z).frozen (j * 4 + 3)
      have HN := hide (show MacBlk _ 103 g c (j + 1) (marksM K n) from ((unhide HQ3z).tail (p := j * 4 + 3) (by omega) (.int .i64 (k + 1 + 1 + 1))).next (fun hj' => by
        rw [marksM_at]
        have e1 : (k).toNat = K + 4 * j := by have := unhide HK; omega
        have e3 := unhide HK
        have y0 := cellKeepM (q := j * 4 + 3) (v := .int .i64 (k + 1 + 1 + 1)) (unhide Z0_4) (by omega)
        have y1 := cellKeepM (q := j * 4 + 3) (v := .int .i64 (k + 1 + 1 + 1)) (unhide Z1_5) (by omega)
        have y2 := cellKeepM (q := j * 4 + 3) (v := .int .i64 (k + 1 + 1 + 1)) (unhide Z2_6) (by omega)
        have y3 := World.cell?_setCell_same _ ⟨g, j * 4 + 3, none⟩ (.int .i64 (k + 1 + 1 + 1)) d3
        refine ⟨y0.trans ?_, y1.trans ?_, y2.trans ?_, y3.trans ?_⟩
        · rw [e1]; rfl
        · rw [e3]; rfl
        · rw [e3]; rfl
        · rw [e3]; rfl))
      have HGn := hide ((unhide HG3z).sc g (j * 4 + 3) (.int .i64 (k + 1 + 1 + 1)) (Nat.le_refl _) (by omega))
      clear HQt HGt Z0_1 HQ1z HG1z Z0_2 Z1_3 HQ2z HG2z HG3z Z0_4 Z1_5 Z2_6
      go_wp2
      go_roundw
      case rel => exact ⟨j + 1, k + 1 + 1 + 1 + 1, by omega, by go_num, by go_num, by have := unhide HK; omega, HN, HGn⟩
      case measure => simp [intOf]; omega
    · have hjn : j = n := by omega
      subst hjn
      go_wp2
      go_ret
      exact ⟨ret_int (by omega), (unhide HQ).rowOf (by rw [marksM_len]), unhide HG⟩

/-- one stands at a place; of w0 nothing has turned -/
def MacOne (w0 : World) (b p : Nat) (q : Mac) (w : World) : Prop := MacAt w b p q ∧ Below w0.heap.size w0 w
theorem MacOne.call {w0 w w' : World} {b p : Nat} {q : Mac} (h : MacOne w0 b p q w) (hb : Below w.heap.size w w') : MacOne w0 b p q w' := ⟨h.1.below hb, below_on h.2 hb⟩
theorem MacOne.drew {w0 w : World} {b p : Nat} {q : Mac} (h : MacOne w0 b p q w) : MacOne w0 b p q w.drew := h.call (Below.refl _ _).drew
theorem MacOne.read (w0 : World) (b p : Nat) (q : Mac) : ∀ wx, MacOne w0 b p q wx → wx.cell? ⟨b, p, none⟩ = some (.string (bs q.name)) ∧ wx.cell? ⟨b, p + 1, none⟩ = some (.int .i64 q.mem) ∧ wx.cell? ⟨b, p + 2, none⟩ = some (.int .i64 q.cpu) ∧ wx.cell? ⟨b, p + 3, none⟩ = some (.int .i64 q.seen) := fun wx h => h.1
set_option maxRecDepth 100000 in
set_option maxHeartbeats 2000000 in
theorem heldMachineS_any (ao : Option Addr) (n c K : Nat) (w : World) (h : MacRow w ao n (marksM K n)) (hn : n ≤ 1048576) (h0 : 0 < K) (h1 : K ≤ 1000000000000000) :
    Calls Tryz.prog 49 #[.slice ao n c, .int .i64 (K : Int)] w fun e w' => e = .returned (.int .i64 ((K : Int) + 4 * (n : Int))) ∧ Below w.heap.size w w' := by
  have HR := hide h
  clear h
  go_enter Tryz.func49, Tryz.ntmps49
  go_wp2
  go_loopw [1, 5] (fun s i wr => ∃ (j : Nat) (k : Int), j ≤ n ∧ i = .int .i64 j ∧ s = .int .i64 k ∧ k = (K : Int) + 4 * (j : Int) ∧ Hid (Below w.heap.size w wr)) (fun _ i _ => n - (intOf i).toNat)
  case atStart => exact ⟨0, K, Nat.zero_le _, rfl, rfl, by omega, hide (Below.refl _ _)⟩
  case round =>
    obtain ⟨j, k, hj, rfl, rfl, hk, HB⟩ := hrel
    by_cases hlt : j < n
    · obtain ⟨b, off, rfl, hq⟩ := ((unhide HR).below (unhide HB)).at hlt
      have hqq := hq (by rw [marksM_len]; exact hlt)
      rw [marksM_at] at hqq
      have T0 : ∀ wx, Calls Tryz.prog 46 #[.int .i64 (k)] wx fun e w' => e = .returned (.string (bs (markM K j).name)) ∧ Below wx.heap.size wx w' := fun wx => by
        have := markText_int (k) wx (by omega) (by omega)
        rw [show (k).toNat = K + 4 * j by omega] at this
        exact this
      have h_1 : (markM K j).mem = k + 1 := by rw [hk]; rfl
      have h_2 : (markM K j).cpu = k + 1 + 1 := by rw [hk]; rfl
      have h_3 : (markM K j).seen = k + 1 + 1 + 1 := by rw [hk]; rfl
      obtain ⟨q, hqe⟩ : ∃ q, markM K j = q := ⟨_, rfl⟩
      rw [hqe] at hqq T0 h_1 h_2 h_3
      have A0 := hide (show MacOne w b (off + j * 4) q wr from ⟨hqq, unhide HB⟩)
      have C0 := hide T0
      have HK := hide hk
      have H_1 := hide h_1
      have H_2 := hide h_2
      have H_3 := hide h_3
      have R := MacOne.read w b (off + j * 4) q
      have R' := hide R
      obtain ⟨_, _, _, _⟩ := R _ (unhide A0)
      have j0 : (0 : Int) ≤ j := by omega
      have j1 : (j : Int) < n := by omega
      have hk0 : 0 < k := by omega
      have hk1 : k ≤ 1000000010000000 := by omega
      clear hq hqq T0 hqe hk h_1 h_2 h_3 R
      go_wp2_with fail
      have R := unhide R'
      go_region_held3 (fun wx => MacOne w b (off + j * 4) q wx)
        (first | (with_reducible assumption) | exact (unhide A0).drew | exact MacOne.call (by assumption) (by assumption))
        (first
        | (go_at_call 46; refine (unhide C0 _).mono ?_; rintro e wt ⟨rfl, hb⟩; have SA := MacOne.call (w0 := w) (b := b) (p := off + j * 4) (q := q) (by assumption) hb))
      obtain ⟨_, r1, r2, r3⟩ := R _ SA
      rw [unhide H_1] at r1
      rw [unhide H_2] at r2
      rw [unhide H_3] at r3
      have HB2 := hide SA.2
      clear SA A0 R C0 R'
      go_wp2
      go_roundw
      case rel => exact ⟨j + 1, k + 1 + 1 + 1 + 1, by omega, by go_num, by go_num, by have := unhide HK; omega, HB2⟩
      case measure => simp [intOf]; omega
    · have hjn : j = n := by omega
      subst hjn
      go_wp2
      go_ret
      exact ⟨ret_int (by omega), unhide HB⟩
end Go.Proofs.YtjjnmiajkjibeaaGreat

/-
  The laws' own markContS, from any number on, and heldContS: what is marked in a row, and found again (gmf.py wrote this); walks over the dump.
-/
namespace Go.Proofs.YtjjnmiajkjibeaaGreat
open Go.RowKit
set_option linter.unusedVariables false
set_option linter.unusedSimpArgs false

def markC (k j : Nat) : Con := ⟨(k : Int) + 5 * (j : Int), (k : Int) + 5 * (j : Int) + 1, 109 :: dgs (k + 5 * j + 1 + 1), (k : Int) + 5 * (j : Int) + 1 + 1 + 1, (k : Int) + 5 * (j : Int) + 1 + 1 + 1 + 1⟩
def marksC (k n : Nat) : List Con := (List.range n).map (markC k)
theorem marksC_len (k n : Nat) : (marksC k n).length = n := by simp [marksC]
theorem marksC_at (k n j : Nat) (h : j < (marksC k n).length) : (marksC k n)[j] = markC k j := by simp [marksC]
theorem ConBlk.tail {w : World} {t : TypeId} {g n k : Nat} {l : List Con} (h : ConBlk w t g n k l) {p : Nat} (hp : k * 5 ≤ p) (v : Value) : ConBlk (w.setCell ⟨g, p, none⟩ v) t g n k l := by
  obtain ⟨arr, h1, h2, h3⟩ := h
  refine ⟨_, heap_setCell_same w g p _ _ v h1, by simp [h2], fun i hi hik => ?_⟩
  obtain ⟨a, b, c, d, e⟩ := h3 i hi hik
  refine ⟨?_, ?_, ?_, ?_, ?_⟩
  · rw [← a, Array.getElem?_setIfInBounds, if_neg (by omega)]
  · rw [← b, Array.getElem?_setIfInBounds, if_neg (by omega)]
  · rw [← c, Array.getElem?_setIfInBounds, if_neg (by omega)]
  · rw [← d, Array.getElem?_setIfInBounds, if_neg (by omega)]
  · rw [← e, Array.getElem?_setIfInBounds, if_neg (by omega)]
theorem ConBlk.next {w : World} {t : TypeId} {g n k : Nat} {l : List Con} (h : ConBlk w t g n k l) (c : ∀ hk : k < l.length, ConAt w g (k * 5) l[k]) : ConBlk w t g n (k + 1) l := by
  obtain ⟨arr, h1, h2, h3⟩ := h
  refine ⟨arr, h1, h2, fun i hi hik => ?_⟩
  by_cases e : i = k
  · subst e
    obtain ⟨c0, c1, c2, c3, c4⟩ := c hi
    simp [World.cell?, h1] at c0 c1 c2 c3 c4
    exact ⟨c0, c1, c2, c3, c4⟩
  · exact h3 i hi (by omega)
theorem ConBlk.rowOf {w : World} {t : TypeId} {g c n : Nat} {l : List Con} (h : ConBlk w t g c n l) (hl : n = l.length) : ConRow w (some ⟨g, 0, none⟩) n l := by
  obtain ⟨arr, h1, h2, h3⟩ := h
  refine ⟨hl, .inr ⟨g, 0, rfl, fun i hi => ?_⟩⟩
  obtain ⟨a, b, c, d, e⟩ := h3 i hi (by omega)
  unfold ConAt
  simp only [Nat.zero_add]
  exact ⟨by simp [World.cell?, h1, a], by simp [World.cell?, h1, b], by simp [World.cell?, h1, c], by simp [World.cell?, h1, d], by simp [World.cell?, h1, e]⟩
theorem cellKeepC {w : World} {g p q : Nat} {u v : Value} (h : w.cell? ⟨g, p, none⟩ = some u) (hne : q ≠ p) : (w.setCell ⟨g, q, none⟩ v).cell? ⟨g, p, none⟩ = some u :=
  (World.cell?_setCell_other _ _ _ _ (fun e => hne (congrArg Addr.off e))).trans h
theorem cellBelC {w w' : World} {g p : Nat} {u : Value} (h : w.cell? ⟨g, p, none⟩ = some u) (hb : Below w.heap.size w w') : w'.cell? ⟨g, p, none⟩ = some u := (hb.cell (cell_lt h)).trans h

set_option maxRecDepth 100000 in
set_option maxHeartbeats 4000000 in
theorem markContS_full (g n c K : Nat) {d : Nat} (w : World) (h : Cel w 61 g (c * 5)) (hc : n ≤ c) (hn : n ≤ 1048576) (h0 : 0 < K) (h1 : K ≤ 1000000000000000) :
    Calls Tryz.prog 16 #[.slice (some ⟨g, 0, none⟩) n d, .int .i64 (K : Int)] w fun e w' => e = .returned (.int .i64 ((K : Int) + 5 * (n : Int))) ∧ ConRow w' (some ⟨g, 0, none⟩) n (marksC K n) ∧ Mkd g (g + 1) w w' := by
  have HQ0 := hide (show ConBlk w 61 g c 0 (marksC K n) by obtain ⟨arr, h1, h2⟩ := h; exact ⟨arr, h1, h2, fun i _ h => absurd h (by omega)⟩)
  clear h
  go_enter Tryz.func16, Tryz.ntmps16
  go_wp2
  go_loopw [1, 5] (fun s i wr => ∃ (j : Nat) (k : Int), j ≤ n ∧ i = .int .i64 j ∧ s = .int .i64 k ∧ k = (K : Int) + 5 * (j : Int) ∧ Hid (ConBlk wr 61 g c j (marksC K n)) ∧ Hid (Mkd g (g + 1) w wr)) (fun _ i _ => n - (intOf i).toNat)
  case atStart => exact ⟨0, K, Nat.zero_le _, rfl, rfl, by omega, HQ0, hide (Mkd.refl _ _ _)⟩
  case round =>
    obtain ⟨j, k, hj, rfl, rfl, hk, HQ, HG⟩ := hrel
    by_cases hlt : j < n
    · have HK := hide hk
      have hk0 : 0 < k := by omega
      have hk1 : k ≤ 1000000010000000 := by omega
      clear hk
      obtain ⟨v0, d0⟩ := (unhide HQ).cell (j := j * 5) (by omega)
      have f0 := (unhide HQ).frozen (j * 5)
      have X0_1 := hide (World.cell?_setCell_same _ ⟨g, j * 5, none⟩ (.int .i64 (k)) d0)
      have HQ1 := hide ((unhide HQ).tail (p := j * 5) (by omega) (.int .i64 (k)))
      have HG1 := hide ((unhide HG).sc g (j * 5) (.int .i64 (k)) (Nat.le_refl _) (by omega))
      obtain ⟨v1, d1⟩ := (unhide HQ1).cell (j := j * 5 + 1) (by omega)
      have f1 := (unhide HQ1).frozen (j * 5 + 1)
      have X0_2 := hide (cellKeepC (q := j * 5 + 1) (v := .int .i64 (k + 1)) (unhide X0_1) (by omega))
      have X1_3 := hide (World.cell?_setCell_same _ ⟨g, j * 5 + 1, none⟩ (.int .i64 (k + 1)) d1)
      have HQ2 := hide ((unhide HQ1).tail (p := j * 5 + 1) (by omega) (.int .i64 (k + 1)))
      have HG2 := hide ((unhide HG1).sc g (j * 5 + 1) (.int .i64 (k + 1)) (Nat.le_refl _) (by omega))
      clear HQ HG X0_1 HQ1 HG1
      go_wp2_with fail
      refine (markText_int (k + 1 + 1) _ (by omega) (by omega)).mono ?_
      rintro e w1 ⟨rfl, hb⟩
      have HQt := hide ((unhide HQ2).below hb)
      have HGt := hide ((unhide HG2).on hb)
      have Y0 := hide (cellBelC (unhide X0_2) hb)
      have Y1 := hide (cellBelC (unhide X1_3) hb)
      clear HQ2 HG2 X0_2 X1_3 hb d0 f0 d1 f1
      obtain ⟨v2, d2⟩ := (unhide HQt).cell (j := j * 5 + 2) (by omega)
      have f2 := (unhide HQt).frozen (j * 5 + 2)
      have Z0_4 := hide (cellKeepC (q := j * 5 + 2) (v := .string (mk (k + 1 + 1).toNat)) (unhide Y0) (by omega))
      have Z1_5 := hide (cellKeepC (q := j * 5 + 2) (v := .string (mk (k + 1 + 1).toNat)) (unhide Y1) (by omega))
      have Z2_6 := hide (World.cell?_setCell_same _ ⟨g, j * 5 + 2, none⟩ (.string (mk (k + 1 + 1).toNat)) d2)
      have HQ3z := hide ((unhide HQt).tail (p := j * 5 + 2) (by omega) (.string (mk (k + 1 + 1).toNat)))
      have HG3z := hide ((unhide HGt).sc g (j * 5 + 2) (.string (mk (k + 1 + 1).toNat)) (Nat.le_refl _) (by omega))
      obtain ⟨v3, d3⟩ := (unhide HQ3z).cell (j := j * 5 + 3) (by omega)
      have f3 := (unhide HQ3z).frozen (j * 5 + 3)
      have Z0_7 := hide (cellKeepC (q := j * 5 + 3) (v := .int .i64 (k + 1 + 1 + 1)) (unhide Z0_4) (by omega))
      have Z1_8 := hide (cellKeepC (q := j * 5 + 3) (v := .int .i64 (k + 1 + 1 + 1)) (unhide Z1_5) (by omega))
      have Z2_9 := hide (cellKeepC (q := j * 5 + 3) (v := .int .i64 (k + 1 + 1 + 1)) (unhide Z2_6) (by omega))
      have Z3_10 := hide (World.cell?_setCell_same _ ⟨g, j * 5 + 3, none⟩ (.int .i64 (k + 1 + 1 + 1)) d3)
      have HQ4z := hide ((unhide HQ3z).tail (p := j * 5 + 3) (by omega) (.int .i64 (k + 1 + 1 + 1)))
      have HG4z := hide ((unhide HG3z).sc g (j * 5 + 3) (.int .i64 (k + 1 + 1 + 1)) (Nat.le_refl _) (by omega))
      obtain ⟨v4, d4⟩ := (unhide HQ4z).cell (j := j * 5 + 4) (by omega)
      have f4 := (unhide HQ4z).frozen (j * 5 + 4)
      have HN := hide (show ConBlk _ 61 g c (j + 1) (marksC K n) from ((unhide HQ4z).tail (p := j * 5 + 4) (by omega) (.int .i64 (k + 1 + 1 + 1 + 1))).next (fun hj' => by
        rw [marksC_at]
        have e1 : (k + 1 + 1).toNat = K + 5 * j + 1 + 1 := by have := unhide HK; omega
        have e3 := unhide HK
        have y0 := cellKeepC (q := j * 5 + 4) (v := .int .i64 (k + 1 + 1 + 1 + 1)) (unhide Z0_7) (by omega)
        have y1 := cellKeepC (q := j * 5 + 4) (v := .int .i64 (k + 1 + 1 + 1 + 1)) (unhide Z1_8) (by omega)
        have y2 := cellKeepC (q := j * 5 + 4) (v := .int .i64 (k + 1 + 1 + 1 + 1)) (unhide Z2_9) (by omega)
        have y3 := cellKeepC (q := j * 5 + 4) (v := .int .i64 (k + 1 + 1 + 1 + 1)) (unhide Z3_10) (by omega)
        have y4 := World.cell?_setCell_same _ ⟨g, j * 5 + 4, none⟩ (.int .i64 (k + 1 + 1 + 1 + 1)) d4
        refine ⟨y0.trans ?_, y1.trans ?_, y2.trans ?_, y3.trans ?_, y4.trans ?_⟩
        · rw [e3]; rfl
        · rw [e3]; rfl
        · rw [e1]; rfl
        · rw [e3]; rfl
        · rw [e3]; rfl))
      have HGn := hide ((unhide HG4z).sc g (j * 5 + 4) (.int .i64 (k + 1 + 1 + 1 + 1)) (Nat.le_refl _) (by omega))
      clear Y0 Y1 HQt HGt Z0_4 Z1_5 Z2_6 HQ3z HG3z HG4z Z0_7 Z1_8 Z2_9 Z3_10
      go_wp2
      go_roundw
      case rel => exact ⟨j + 1, k + 1 + 1 + 1 + 1 + 1, by omega, by go_num, by go_num, by have := unhide HK; omega, HN, HGn⟩
      case measure => simp [intOf]; omega
    · have hjn : j = n := by omega
      subst hjn
      go_wp2
      go_ret
      exact ⟨ret_int (by omega), (unhide HQ).rowOf (by rw [marksC_len]), unhide HG⟩

/-- one stands at a place; of w0 nothing has turned -/
def ConOne (w0 : World) (b p : Nat) (q : Con) (w : World) : Prop := ConAt w b p q ∧ Below w0.heap.size w0 w
theorem ConOne.call {w0 w w' : World} {b p : Nat} {q : Con} (h : ConOne w0 b p q w) (hb : Below w.heap.size w w') : ConOne w0 b p q w' := ⟨h.1.below hb, below_on h.2 hb⟩
theorem ConOne.drew {w0 w : World} {b p : Nat} {q : Con} (h : ConOne w0 b p q w) : ConOne w0 b p q w.drew := h.call (Below.refl _ _).drew
theorem ConOne.read (w0 : World) (b p : Nat) (q : Con) : ∀ wx, ConOne w0 b p q wx → wx.cell? ⟨b, p, none⟩ = some (.int .i64 q.id) ∧ wx.cell? ⟨b, p + 1, none⟩ = some (.int .i64 q.app) ∧ wx.cell? ⟨b, p + 2, none⟩ = some (.string (bs q.node)) ∧ wx.cell? ⟨b, p + 3, none⟩ = some (.int .i64 q.mem) ∧ wx.cell? ⟨b, p + 4, none⟩ = some (.int .i64 q.cpu) := fun wx h => h.1
set_option maxRecDepth 100000 in
set_option maxHeartbeats 2000000 in
theorem heldContS_any (ao : Option Addr) (n c K : Nat) (w : World) (h : ConRow w ao n (marksC K n)) (hn : n ≤ 1048576) (h0 : 0 < K) (h1 : K ≤ 1000000000000000) :
    Calls Tryz.prog 18 #[.slice ao n c, .int .i64 (K : Int)] w fun e w' => e = .returned (.int .i64 ((K : Int) + 5 * (n : Int))) ∧ Below w.heap.size w w' := by
  have HR := hide h
  clear h
  go_enter Tryz.func18, Tryz.ntmps18
  go_wp2
  go_loopw [1, 5] (fun s i wr => ∃ (j : Nat) (k : Int), j ≤ n ∧ i = .int .i64 j ∧ s = .int .i64 k ∧ k = (K : Int) + 5 * (j : Int) ∧ Hid (Below w.heap.size w wr)) (fun _ i _ => n - (intOf i).toNat)
  case atStart => exact ⟨0, K, Nat.zero_le _, rfl, rfl, by omega, hide (Below.refl _ _)⟩
  case round =>
    obtain ⟨j, k, hj, rfl, rfl, hk, HB⟩ := hrel
    by_cases hlt : j < n
    · obtain ⟨b, off, rfl, hq⟩ := ((unhide HR).below (unhide HB)).at hlt
      have hqq := hq (by rw [marksC_len]; exact hlt)
      rw [marksC_at] at hqq
      have T0 : ∀ wx, Calls Tryz.prog 46 #[.int .i64 (k + 1 + 1)] wx fun e w' => e = .returned (.string (bs (markC K j).node)) ∧ Below wx.heap.size wx w' := fun wx => by
        have := markText_int (k + 1 + 1) wx (by omega) (by omega)
        rw [show (k + 1 + 1).toNat = K + 5 * j + 1 + 1 by omega] at this
        exact this
      have h_0 : (markC K j).id = k := by rw [hk]; rfl
      have h_1 : (markC K j).app = k + 1 := by rw [hk]; rfl
      have h_3 : (markC K j).mem = k + 1 + 1 + 1 := by rw [hk]; rfl
      have h_4 : (markC K j).cpu = k + 1 + 1 + 1 + 1 := by rw [hk]; rfl
      obtain ⟨q, hqe⟩ : ∃ q, markC K j = q := ⟨_, rfl⟩
      rw [hqe] at hqq T0 h_0 h_1 h_3 h_4
      have A0 := hide (show ConOne w b (off + j * 5) q wr from ⟨hqq, unhide HB⟩)
      have C0 := hide T0
      have HK := hide hk
      have H_0 := hide h_0
      have H_1 := hide h_1
      have H_3 := hide h_3
      have H_4 := hide h_4
      have R := ConOne.read w b (off + j * 5) q
      have R' := hide R
      obtain ⟨r0, r1, _, _, _⟩ := R _ (unhide A0)
      rw [h_0] at r0
      rw [h_1] at r1
      have j0 : (0 : Int) ≤ j := by omega
      have j1 : (j : Int) < n := by omega
      have hk0 : 0 < k := by omega
      have hk1 : k ≤ 1000000010000000 := by omega
      have hw1 : IntKind.i64.wrap (k + 1) = k + 1 := by rw [IntKind.wrap_i64]; omega
      have hw2 : IntKind.i64.wrap (k + 1 + 1) = k + 1 + 1 := by rw [IntKind.wrap_i64]; omega
      clear hq hqq T0 hqe hk h_0 h_1 h_3 h_4 R
      go_wp2_with fail
      have R := unhide R'
      clear r0 r1
      go_region_held3 (fun wx => ConOne w b (off + j * 5) q wx)
        (first | (with_reducible assumption) | exact (unhide A0).drew | exact ConOne.call (by assumption) (by assumption))
        (first
        | (go_at_call 46; refine (unhide C0 _).mono ?_; rintro e wt ⟨rfl, hb⟩; have SA := ConOne.call (w0 := w) (b := b) (p := off + j * 5) (q := q) (by assumption) hb))
      obtain ⟨_, _, _, r3, r4⟩ := R _ SA
      rw [unhide H_3] at r3
      rw [unhide H_4] at r4
      have HB2 := hide SA.2
      clear SA A0 R C0 R'
      go_wp2
      go_roundw
      case rel => exact ⟨j + 1, k + 1 + 1 + 1 + 1 + 1, by omega, by go_num, by go_num, by have := unhide HK; omega, HB2⟩
      case measure => simp [intOf]; omega
    · have hjn : j = n := by omega
      subst hjn
      go_wp2
      go_ret
      exact ⟨ret_int (by omega), unhide HB⟩
end Go.Proofs.YtjjnmiajkjibeaaGreat

/-
  Whether the marks of asks stand: the laws' own heldAskS; walks over the dump.
-/
namespace Go.Proofs.YtjjnmiajkjibeaaGreat
open Go.RowKit
set_option linter.unusedVariables false

/-- an ask stands at a place; of w0 nothing has turned -/
def AskOne (w0 : World) (b p : Nat) (q : Ask) (w : World) : Prop := AskAt w b p q ∧ Below w0.heap.size w0 w
theorem AskOne.call {w0 w w' : World} {b p : Nat} {q : Ask} (h : AskOne w0 b p q w) (hb : Below w.heap.size w w') : AskOne w0 b p q w' := ⟨h.1.below hb, below_on h.2 hb⟩
theorem AskOne.drew {w0 w : World} {b p : Nat} {q : Ask} (h : AskOne w0 b p q w) : AskOne w0 b p q w.drew := h.call (Below.refl _ _).drew
theorem AskOne.read (w0 : World) (b p : Nat) (q : Ask) : ∀ wx, AskOne w0 b p q wx → wx.cell? ⟨b, p, none⟩ = some (.int .i64 q.mem) ∧ wx.cell? ⟨b, p + 1, none⟩ = some (.int .i64 q.cpu) ∧ wx.cell? ⟨b, p + 2, none⟩ = some (.int .i64 q.count) ∧ wx.cell? ⟨b, p + 3, none⟩ = some (.string (bs q.node)) ∧ wx.cell? ⟨b, p + 4, none⟩ = some (.int .i64 q.missed) :=
  fun wx h => h.1
set_option maxRecDepth 100000 in
set_option maxHeartbeats 2000000 in
theorem heldAskS_any (ao : Option Addr) (n c K : Nat) (w : World) (h : AskRow w ao n (marksA K n)) (hn : n ≤ 1048576) (h0 : 0 < K) (h1 : K ≤ 1000000000000000) :
    Calls Tryz.prog 86 #[.slice ao n c, .int .i64 (K : Int)] w fun e w' => e = .returned (.int .i64 ((K : Int) + 5 * (n : Int))) ∧ Below w.heap.size w w' := by
  have HR := hide h
  clear h
  go_enter Tryz.func86, Tryz.ntmps86
  go_wp2
  go_loopw [1, 5] (fun s i wr => ∃ (j : Nat) (k : Int), j ≤ n ∧ i = .int .i64 j ∧ s = .int .i64 k ∧ k = (K : Int) + 5 * (j : Int) ∧ Hid (Below w.heap.size w wr)) (fun _ i _ => n - (intOf i).toNat)
  case atStart => exact ⟨0, K, Nat.zero_le _, rfl, rfl, by omega, hide (Below.refl _ _)⟩
  case round =>
    obtain ⟨j, k, hj, rfl, rfl, hk, HB⟩ := hrel
    by_cases hlt : j < n
    · obtain ⟨b, off, rfl, hq⟩ := ((unhide HR).below (unhide HB)).at hlt
      have hqq := hq (by rw [marksA_len]; exact hlt)
      rw [marksA_at] at hqq
      have T0 : ∀ wx, Calls Tryz.prog 46 #[.int .i64 (k + 1 + 1 + 1)] wx fun e w' => e = .returned (.string (bs (markA K j).node)) ∧ Below wx.heap.size wx w' := fun wx => by
        have := markText_int (k + 1 + 1 + 1) wx (by omega) (by omega)
        rw [show (k + 1 + 1 + 1).toNat = K + 5 * j + 1 + 1 + 1 by omega] at this
        exact this
      have hd : (markA K j).mem = k := by rw [hk]; rfl
      have hm : (markA K j).cpu = k + 1 := by rw [hk]; rfl
      have hp : (markA K j).count = k + 1 + 1 := by rw [hk]; rfl
      have hr : (markA K j).missed = k + 1 + 1 + 1 + 1 := by rw [hk]; rfl
      obtain ⟨q, hqe⟩ : ∃ q, markA K j = q := ⟨_, rfl⟩
      rw [hqe] at hqq T0 hd hm hp hr
      have A0 := hide (show AskOne w b (off + j * 5) q wr from ⟨hqq, unhide HB⟩)
      have C0 := hide T0
      have HK := hide hk
      have HR4 := hide hr
      have R := AskOne.read w b (off + j * 5) q
      have R' := hide R
      obtain ⟨r0, r1, r2, _, _⟩ := R _ (unhide A0)
      rw [hd] at r0
      rw [hm] at r1
      rw [hp] at r2
      have j0 : (0 : Int) ≤ j := by omega
      have j1 : (j : Int) < n := by omega
      have hk0 : 0 < k := by omega
      have hk1 : k ≤ 1000000010000000 := by omega
      have hw1 : IntKind.i64.wrap (k + 1) = k + 1 := by rw [IntKind.wrap_i64]; omega
      have hw2 : IntKind.i64.wrap (k + 1 + 1) = k + 1 + 1 := by rw [IntKind.wrap_i64]; omega
      have hw3 : IntKind.i64.wrap (k + 1 + 1 + 1) = k + 1 + 1 + 1 := by rw [IntKind.wrap_i64]; omega
      clear hq hqq T0 hqe hk hd hm hp hr R
      go_wp2_with fail
      have R := unhide R'
      clear r0 r1 r2
      go_region_held3 (fun wx => AskOne w b (off + j * 5) q wx)
        (first | (with_reducible assumption) | exact (unhide A0).drew | exact AskOne.call (by assumption) (by assumption))
        (first
        | (go_at_call 46; refine (unhide C0 _).mono ?_; rintro e wt ⟨rfl, hb⟩; have SA := AskOne.call (w0 := w) (b := b) (p := off + j * 5) (q := q) (by assumption) hb))
      obtain ⟨_, _, _, _, r4⟩ := R _ SA
      rw [unhide HR4] at r4
      have HB2 := hide SA.2
      clear SA A0 R C0 R'
      go_wp2
      go_roundw
      case rel => exact ⟨j + 1, k + 1 + 1 + 1 + 1 + 1, by omega, by go_num, by go_num, by have := unhide HK; omega, HB2⟩
      case measure => simp [intOf]; omega
    · have hjn : j = n := by omega
      subst hjn
      go_wp2
      go_ret
      exact ⟨ret_int (by omega), unhide HB⟩
end Go.Proofs.YtjjnmiajkjibeaaGreat
