/-
  Queues that are drawn, and what is wrong with some of them: l03Queues; a walk over the dump.
-/
import Derived.Test.YtcplnodfcchdhaaGreatPackK
namespace Go.Proofs.YtcplnodfcchdhaaGreat
open Go.RowKit
set_option linter.unusedVariables false
def lenOf : Value → Nat
  | .slice _ n _ => n
  | _ => 0
theorem bs_z (l : List UInt8) : ({ data := #[122] } : ByteArray) ++ bs l = bs (122 :: l) := by
  apply ByteArray.ext
  simp [bs]
theorem QRow.gro {w w' : World} {b off len : Nat} {l : List Q} {row : Option Nat} (h : QRow w (some ⟨b, off, none⟩) len l) (hb : b < w.heap.size) (hg : w.grownBy w' row) (hr : row ≠ some b) : QRow w' (some ⟨b, off, none⟩) len l := by
  have hblk := hg.block b hb (fun e => hr e.symm)
  have hc : ∀ p, w'.cell? ⟨b, p, none⟩ = w.cell? ⟨b, p, none⟩ := fun p => by unfold World.cell?; rw [hblk]
  obtain ⟨h1, h2⟩ := h
  refine ⟨h1, ?_⟩
  rcases h2 with h2 | ⟨b', off', e, h4⟩
  · exact .inl h2
  · cases e
    exact .inr ⟨b, off, rfl, fun i hi => by obtain ⟨a0, a1, a2, a3⟩ := h4 i hi; exact ⟨(hc _).trans a0, (hc _).trans a1, (hc _).trans a2, (hc _).trans a3⟩⟩

set_option maxRecDepth 100000 in
set_option maxHeartbeats 4000000 in
theorem queues_st {w0 : World} {B g : Nat} {ao : Option Addr} {len cap : Nat} (w : World) (h : CSt w0 B g ao len cap w) :
    Calls Tryz.prog 45 #[.pointer (some ⟨g, 0, none⟩)] w fun e w' => ∃ qb n c' ls, e = .returned (.slice (some ⟨qb, 0, none⟩) n c') ∧ Hid (QRow w' (some ⟨qb, 0, none⟩) n ls) ∧ (g < qb ∧ 3 ≤ n) ∧ n ≤ c' ∧ n ≤ 1000 ∧ Hid (Brief ls) ∧ Hid (CSt w0 B g ao len cap w') := by
  obtain ⟨i0, hi, hz0, hz1, hz2⟩ := info_parts Tryz.infoQD
  have HS := hide h
  have hgl := h.1.lt
  have hw0 := h.2.2.1.size
  have hBg := h.2.2.2
  clear h
  go_enter Tryz.func45, Tryz.ntmps45
  go_wp2_with fail
  refine (right_st w (unhide HS)).mono ?_
  rintro e w1 ⟨v, ls, rfl, HQ, hn3, hn5, HBR, HS1⟩
  obtain ⟨qb, qc, cur, rfl, hrow, hqc, hwq, hblk⟩ := (unhide HQ).row (by intro e; rw [e] at hn3; simp at hn3)
  have hqb : qb < w1.heap.size := lt_of_block hblk
  have HROW := hide hrow
  have HBLK := hide hblk
  obtain ⟨n, hn⟩ : ∃ n, ls.length = n := ⟨_, rfl⟩
  have HN := hide hn
  rw [hn] at hn3 hn5 hqc HROW HQ ⊢
  clear hrow hblk hn HS
  go_wp2_with fail
  refine (below_st (n : Int) _ (unhide HS1) (by omega) (by omega)).mono ?_
  rintro e w2 ⟨x, rfl, hx0, hx1, hs2, hg2⟩
  obtain ⟨X, rfl⟩ := Int.eq_ofNat_of_zero_le hx0
  have HS2 := hide hs2
  have HR2 := hide ((unhide HROW).gro hqb hg2 (by intro e; cases e; omega))
  have HB2 := hide ((hg2.block qb hqb (by intro e; cases e; omega)).trans (unhide HBLK))
  have HQ2 := hide ((unhide HQ).kept hg2 (fun k e => by cases e; omega))
  have hs12 := hg2.size
  clear hs2 hg2 HROW HBLK HQ HS1
  go_wp2_with fail
  refine (below_st 16 _ (unhide HS2) (by decide) (by decide)).mono ?_
  rintro e w3 ⟨k, rfl, hk0, hk1, hs3, hg3⟩
  have HS3 := hide hs3
  have HR3 := hide ((unhide HR2).gro (by omega) hg3 (by intro e; cases e; omega))
  have HB3 := hide ((hg3.block qb (by omega) (by intro e; cases e; omega)).trans (unhide HB2))
  have HQ3 := hide ((unhide HQ2).kept hg3 (fun k e => by cases e; omega))
  have hs23 := hg3.size
  clear hs3 hg3 HR2 HB2 HQ2 HS2
  have hXl : X < n := by omega
  have hXls : X < ls.length := by have := unhide HN; omega
  have fin : ∀ (wy : World) (j : Nat) (val : Value) (q : Q), QRow wy (some ⟨qb, 0, none⟩) n ls → CSt w0 B g ao len cap wy → (q.name.length ≤ 1000 ∧ q.parent.length ≤ 1000) →
      ((j = 0 ∧ val = .string (bs q.name) ∧ q = { ls[X] with name := q.name }) ∨ (j = 1 ∧ val = .string (bs q.parent) ∧ q = { ls[X] with parent := q.parent }) ∨ (j = 2 ∧ val = .int .i64 q.due ∧ q = { ls[X] with due := q.due }) ∨ (j = 3 ∧ val = .int .i64 q.most ∧ q = { ls[X] with most := q.most })) →
      Hid (QRow (wy.setCell ⟨qb, 0 + X * 4 + j, none⟩ val) (some ⟨qb, 0, none⟩) n (ls.set X q)) ∧ Hid (Brief (ls.set X q)) ∧ Hid (CSt w0 B g ao len cap (wy.setCell ⟨qb, 0 + X * 4 + j, none⟩ val)) := fun wy j val q h1 h2 h3 h4 =>
    ⟨hide (h1.put X hXls q j val h4), hide ((unhide HBR).set X q h3), hide (h2.set qb _ val (by omega) (by omega) (by omega))⟩
  have FIN := hide fin
  have hnm := unhide HBR ls[X] (List.getElem_mem _)
  obtain ⟨⟨qn, qp, qd, qm⟩, hqX⟩ : ∃ q, ls[X] = q := ⟨_, rfl⟩
  rw [hqX] at hnm
  have HQX := hide hqX
  clear fin hqX
  simp only at hnm
  have X0 : (0 : Int) ≤ X := by omega
  have X1 : (X : Int) < n := by omega
  rcases (show k = 0 ∨ k = 1 ∨ k = 2 ∨ k = 3 ∨ k = 4 ∨ 5 ≤ k by omega) with rfl | rfl | rfl | rfl | rfl | hk5
  · go_wp2_with fail
    refine (name_st _ (unhide HS3).rebase).mono ?_
    rintro e w4 ⟨s, rfl, hsz, hs4⟩
    have HS4 := hide ((unhide HS3).step hs4.1 hs4.2.2.1)
    have HR4 := hide ((unhide HR3).gro (by omega) hs4.2.2.1 (by intro e; cases e; omega))
    have hb4 := (hs4.2.2.1.block qb (by omega) (by intro e; cases e; omega)).trans (unhide HB3)
    have cc := ((unhide HR4).at hXl)
    obtain ⟨b', off', e', hat⟩ := cc
    cases e'
    have c0 := (hat hXls).1
    have f0 : w4.frozen? ⟨qb, X * 4, none⟩ = false := by simp [World.frozen?, hb4]
    simp only [Nat.zero_add] at c0
    obtain ⟨nn, rfl⟩ : ∃ l, s = bs l := ⟨s.data.toList, by simp [bs]⟩
    rw [bs_size] at hsz
    obtain ⟨F1, F2, F3⟩ := unhide FIN w4 0 (.string (bs nn)) ⟨nn, qp, qd, qm⟩ (unhide HR4) (unhide HS4) ⟨by simp only; omega, hnm.2⟩ (.inl ⟨rfl, rfl, by rw [unhide HQX]⟩)
    simp only [Nat.zero_add, Nat.add_zero] at F1 F2 F3
    clear hs4 hb4 hat
    go_wp2
    go_ret
    exact ⟨qb, n, qc, _, rfl, F1, ⟨by omega, hn3⟩, hqc, by omega, F2, F3⟩
  · have hq := hide (pickt_alloc w3 9 [⟨#[]⟩, ⟨#[97]⟩, ⟨#[110, 111, 110, 101]⟩, ⟨#[98, 50]⟩] (by decide))
    go_wp2_with fail
    refine (pickS_st w3.heap.size 4 4 _ ((unhide HS3).alloc _).rebase (unhide hq) (by omega) (by decide) (by decide)).mono ?_
    rintro e w4 ⟨s, rfl, hsz, hs4⟩
    have hg4 := grownBy_trans (grownBy_below (grownBy_refl w3 (some g)) (below_al (Below.refl _ w3) _)) hs4.2.2.1
    have HS4 := hide ((unhide HS3).step hs4.1 hg4)
    have HR4 := hide ((unhide HR3).gro (by omega) hg4 (by intro e; cases e; omega))
    have hb4 := (hg4.block qb (by omega) (by intro e; cases e; omega)).trans (unhide HB3)
    obtain ⟨b', off', e', hat⟩ := ((unhide HR4).at hXl)
    cases e'
    have c0 := (hat hXls).2.1
    have f0 : w4.frozen? ⟨qb, X * 4 + 1, none⟩ = false := by simp [World.frozen?, hb4]
    simp only [Nat.zero_add] at c0
    obtain ⟨nn, rfl⟩ : ∃ l, s = bs l := ⟨s.data.toList, by simp [bs]⟩
    rw [bs_size] at hsz
    obtain ⟨F1, F2, F3⟩ := unhide FIN w4 1 (.string (bs nn)) ⟨qn, nn, qd, qm⟩ (unhide HR4) (unhide HS4) ⟨hnm.1, by simp only; omega⟩ (.inr (.inl ⟨rfl, rfl, by rw [unhide HQX]⟩))
    simp only [Nat.zero_add] at F1 F2 F3
    clear hs4 hb4 hat hg4 hq
    go_wp2
    go_ret
    exact ⟨qb, n, qc, _, rfl, F1, ⟨by omega, hn3⟩, hqc, by omega, F2, F3⟩
  · have hq := hide (ints_alloc w3 3 [-1, 10001, 9999, 0] (by decide))
    go_wp2_with fail
    refine (pick_st w3.heap.size 4 4 _ ((unhide HS3).alloc _).rebase (unhide hq) (by omega) (by decide) (by decide)).mono ?_
    rintro e w4 ⟨s, rfl, _, _, hs4⟩
    have hg4 := grownBy_trans (grownBy_below (grownBy_refl w3 (some g)) (below_al (Below.refl _ w3) _)) hs4.2.2.1
    have HS4 := hide ((unhide HS3).step hs4.1 hg4)
    have HR4 := hide ((unhide HR3).gro (by omega) hg4 (by intro e; cases e; omega))
    have hb4 := (hg4.block qb (by omega) (by intro e; cases e; omega)).trans (unhide HB3)
    obtain ⟨b', off', e', hat⟩ := ((unhide HR4).at hXl)
    cases e'
    have c0 := (hat hXls).2.2.1
    have f0 : w4.frozen? ⟨qb, X * 4 + 2, none⟩ = false := by simp [World.frozen?, hb4]
    simp only [Nat.zero_add] at c0
    obtain ⟨F1, F2, F3⟩ := unhide FIN w4 2 (.int .i64 s) ⟨qn, qp, s, qm⟩ (unhide HR4) (unhide HS4) hnm (.inr (.inr (.inl ⟨rfl, rfl, by rw [unhide HQX]⟩)))
    simp only [Nat.zero_add] at F1 F2 F3
    clear hs4 hb4 hat hg4 hq
    go_wp2
    go_ret
    exact ⟨qb, n, qc, _, rfl, F1, ⟨by omega, hn3⟩, hqc, by omega, F2, F3⟩
  · have hq := hide (ints_alloc w3 3 [-1, 10001, 0] (by decide))
    go_wp2_with fail
    refine (pick_st w3.heap.size 3 3 _ ((unhide HS3).alloc _).rebase (unhide hq) (by omega) (by decide) (by decide)).mono ?_
    rintro e w4 ⟨s, rfl, _, _, hs4⟩
    have hg4 := grownBy_trans (grownBy_below (grownBy_refl w3 (some g)) (below_al (Below.refl _ w3) _)) hs4.2.2.1
    have HS4 := hide ((unhide HS3).step hs4.1 hg4)
    have HR4 := hide ((unhide HR3).gro (by omega) hg4 (by intro e; cases e; omega))
    have hb4 := (hg4.block qb (by omega) (by intro e; cases e; omega)).trans (unhide HB3)
    obtain ⟨b', off', e', hat⟩ := ((unhide HR4).at hXl)
    cases e'
    have c0 := (hat hXls).2.2.2
    have f0 : w4.frozen? ⟨qb, X * 4 + 3, none⟩ = false := by simp [World.frozen?, hb4]
    simp only [Nat.zero_add] at c0
    obtain ⟨F1, F2, F3⟩ := unhide FIN w4 3 (.int .i64 s) ⟨qn, qp, qd, s⟩ (unhide HR4) (unhide HS4) hnm (.inr (.inr (.inr ⟨rfl, rfl, by rw [unhide HQX]⟩)))
    simp only [Nat.zero_add] at F1 F2 F3
    clear hs4 hb4 hat hg4 hq
    go_wp2
    go_ret
    exact ⟨qb, n, qc, _, rfl, F1, ⟨by omega, hn3⟩, hqc, by omega, F2, F3⟩
  · go_wp2
    go_loopw [3] (fun v wr => ∃ ls', v.ownBlock = v.ownBlock ∧ Hid (QDr w.heap.size wr v ls') ∧ 3 ≤ ls'.length ∧ ls'.length ≤ 21 ∧ Hid (Brief ls') ∧ Hid (CSt w0 B g ao len cap wr) ∧ w1.heap.size ≤ wr.heap.size) (fun v _ => 21 - lenOf v)
    case atStart => exact ⟨ls, rfl, HQ3, by have := unhide HN; omega, by have := unhide HN; omega, HBR, HS3, by omega⟩
    case round =>
      obtain ⟨ls', _, HQr, hl3, hl21, HBRr, HSr, hszr⟩ := hrel
      obtain ⟨qb', qc', cur', rfl, hrow, hqc', hwq', hblk⟩ := (unhide HQr).row (by intro e; rw [e] at hl3; simp at hl3)
      obtain ⟨m, hm⟩ : ∃ n, ls'.length = n := ⟨_, rfl⟩
      have HM := hide hm
      rw [hm] at hl3 hl21 hqc' HQr ⊢
      clear hrow hblk hm
      go_wp2_with fail
      refine (below_st 2 _ (unhide HSr) (by decide) (by decide)).mono ?_
      rintro e w5 ⟨y, rfl, hy0, hy1, hs5, hg5⟩
      have HS5 := hide hs5
      have HQ5 := hide ((unhide HQr).kept hg5 (fun k e => by cases e; omega))
      have hsz5 : wr.heap.size ≤ w5.heap.size := hg5.size
      clear hs5 hg5 HSr HQr
      by_cases hlt : (m : Int) < 20 + y
      · have hit := Lib.itoa_length_le (100 + (m : Int)) (by omega) (by omega)
        have CD := hide (fun wx => (specDecText_any (100 + (m : Int)) wx (by omega) (by omega)).mono (fun e w' (h : _ ∧ w' = wx) => (show _ ∧ wx = w' from ⟨h.1, h.2.symm⟩)))
        have hzz := bs_z (Lib.itoa (100 + (m : Int)))
        have hsi : (bs (Lib.itoa (100 + (m : Int)))).size ≤ 30 := by rw [bs_size]; omega
        have hnl : (122 :: Lib.itoa (100 + (m : Int))).length ≤ 1000 := by simp; omega
        obtain ⟨it, hite⟩ : ∃ l, Lib.itoa (100 + (m : Int)) = l := ⟨_, rfl⟩
        rw [hite] at CD hzz hsi hnl
        obtain ⟨nz, hnz⟩ : ∃ l, 122 :: it = l := ⟨_, rfl⟩
        rw [hnz] at hzz hnl
        have n1 : ¬ 9223372036854775807 < 1 + (bs it).size := by omega
        obtain ⟨sb, hsb⟩ : ∃ s, bs it = s := ⟨_, rfl⟩
        rw [hsb] at CD hzz hsi n1
        have hown : w5.ownsRow w.heap.size 59 4 _ ls'.length (dcells ls') := unhide HQ5
        rw [unhide HM] at hown
        have hs2 : w.heap.size ≤ w5.heap.size := by omega
        clear hit hite hnz hsb
        go_wp2_with (first
          | (go_at_call 92; refine (unhide CD _).mono ?_; rintro e w6 ⟨rfl, rfl⟩)
          | (at_builtin; refine wpList_append_own _ rfl _ _ 24 rfl w.heap.size 59 i0 (.agg #[.string ByteArray.empty, .string ByteArray.empty, .int .i64 0, .int .i64 0]) 4 48 Tryz.underlying24 hi hz0 hz1 hz2 rfl (by decide) _ _ _ rfl (hown.alloc _) ⟨w5.heap.size, 0, none⟩ 1 1 (dcell ⟨nz, [114, 111, 111, 116], 0, 5⟩) rfl rfl ?c1 ?c2 ?c3 ?c4 ?c5 ?_))
        case c1 =>
          intro j x hj
          match j, hj with
          | 0, hj => simp at hj; subst hj; simp [Addr.add]
          | 1, hj => simp at hj; subst hj; simp [Addr.add]; rfl
          | 2, hj => simp at hj; subst hj; simp [Addr.add]
          | 3, hj => simp at hj; subst hj; simp [Addr.add]
          | _ + 4, hj => simp at hj
        case c2 => intro x hx; simp at hx; rcases hx with rfl | rfl | rfl | rfl <;> rfl
        case c3 => unfold maxLen; omega
        case c4 => omega
        case c5 => simp at hs2 ⊢; omega
        intro v' w7 hown' hgrow _
        have HQ7 := hide (show QDr w.heap.size w7 v' (ls' ++ [⟨nz, [114, 111, 111, 116], 0, 5⟩]) by unfold QDr; rw [dcells_app, List.length_append, unhide HM]; exact hown')
        have HS7 := hide (((unhide HS5).alloc _).gro hgrow (fun k hk => by
          rcases (unhide HQ5).2 with ⟨e, _⟩ | ⟨q, _, _, e, hq, _⟩
          · rw [e] at hk; simp [Value.ownBlock] at hk
          · rw [e] at hk; simp [Value.ownBlock] at hk; omega))
        have hsz7 : w5.heap.size + 1 ≤ w7.heap.size := by have := hgrow.size; rwa [World.size_alloc] at this
        have hlen7 : lenOf v' = m + 1 := by
          rcases (unhide HQ7).2 with ⟨_, h0⟩ | ⟨a, b, c, e, _⟩
          · simp at h0
          · rw [e]; simp [lenOf, unhide HM]
        have HL7 := hide hlen7
        clear hown' hgrow hown hlen7
        go_wp2
        go_roundw
        case rel =>
          refine ⟨ls' ++ [⟨nz, [114, 111, 111, 116], 0, 5⟩], by trivial, HQ7, by simp; have := unhide HM; omega, by simp; have := unhide HM; omega, hide ?_, HS7, by omega⟩
          intro q hq
          rcases List.mem_append.1 hq with hq | hq
          · exact unhide HBRr q hq
          · have : q = ⟨nz, [114, 111, 111, 116], 0, 5⟩ := by simpa using hq
            rw [this]; exact ⟨hnl, by simp⟩
        case measure => rw [unhide HL7]; simp [lenOf]; omega
      · obtain ⟨HRW, hle⟩ : Hid (QRow w5 (some ⟨qb', 0, none⟩) m ls') ∧ m ≤ qc' := by
          obtain ⟨qb2, qc2, cur2, e2, hrow2, hqc2, _, _⟩ := (unhide HQ5).row (by intro e; have := unhide HM; rw [e] at this; simp at this; omega)
          rw [unhide HM] at e2 hrow2 hqc2
          cases e2
          exact ⟨hide hrow2, hqc2⟩
        go_wp2
        go_ret
        exact ⟨qb', m, qc', ls', rfl, HRW, ⟨by omega, hl3⟩, hle, by omega, HBRr, HS5⟩
  · have e0 : (k == 0) = false := by simp; omega
    have e1 : (k == 1) = false := by simp; omega
    have e2 : (k == 2) = false := by simp; omega
    have e3 : (k == 3) = false := by simp; omega
    have e4 : (k == 4) = false := by simp; omega
    go_wp2
    go_ret
    exact ⟨qb, n, qc, ls, rfl, HR3, ⟨by omega, hn3⟩, hqc, by omega, HBR, HS3⟩
theorem QRow.blk_lt {w : World} {b off n : Nat} {l : List Q} (h : QRow w (some ⟨b, off, none⟩) n l) (hn : 0 < n) : b < w.heap.size := by
  obtain ⟨b', off', e, hq⟩ := h.at hn
  cases e
  exact (hq (by have := h.1; omega)).lt
end Go.Proofs.YtcplnodfcchdhaaGreat
