/-
  Records and logs drawn: what the model's l08Rec, l08Log, DrawWrite and DrawGetRec answer, as to their size; walks over the dump (mkdrawj.py wrote this).
-/
import Derived.Test.YtobpjegfgegkcaaGreatDoorJouM
import Derived.Test.YtobpjegfgegkcaaGreatDoorPackE
namespace Go.Proofs.YtobpjegfgegkcaaGreatDoor
open Go.RowKit
set_option linter.unusedVariables false
set_option linter.unusedSimpArgs false
theorem st_rb {w0 w : World} {B g : Nat} {ao : Option Addr} {len cap : Nat} (h : CSt w0 B g ao len cap w) : CSt w B g ao len cap w := ⟨h.1, h.2.1, grownBy_refl w _, h.2.2.2⟩
theorem st_on {w0 w w' : World} {B g : Nat} {ao : Option Addr} {len cap : Nat} (h : CSt w0 B g ao len cap w) (k : CSt w B g ao len cap w') : CSt w0 B g ao len cap w' := h.step k.1 k.2.2.1
/-- a record that may be drawn -/
def RcD (r : Rc) : Prop := r.queue.length ≤ 12 ∧ I64 r.kind ∧ I64 r.app
theorem bs_len (s : ByteArray) (n : Nat) (h : s.size ≤ n) : s.data.toList.length ≤ n := by rw [len_eq]; exact h

set_option maxRecDepth 100000 in
set_option maxHeartbeats 4000000 in
theorem rec_st {w0 : World} {B g : Nat} {ao : Option Addr} {len cap : Nat} (w : World) (h0 : CSt w0 B g ao len cap w) :
    Calls Tryz.prog 20 #[.pointer (some ⟨g, 0, none⟩)] w fun e w' => ∃ r : Rc, e = .returned (rcv r) ∧ RcD r ∧ CSt w0 B g ao len cap w' := by
  have hgl : g < w.heap.size := h0.1.lt
  have hBg : B ≤ g := h0.2.2.2
  have H0 := hide h0
  have HS1 := hide ((st_rb h0).alloc (.cells #[.int .i64 0, .int .i64 0, .string ⟨#[]⟩] 25))
  have V1 := hide (blk_new w #[.int .i64 0, .int .i64 0, .string ⟨#[]⟩] 25)
  have hVg : w.heap.size ≠ g := by omega
  clear h0
  go_enter Tryz.func20, Tryz.ntmps20
  go_wp2_with fail
  refine (below_st 3 _ (unhide HS1) (by decide) (by decide)).mono ?_
  rintro e w2 ⟨x0, rfl, hx0, hx1, hs, hg⟩
  have HS2 := hide hs
  have V2 := hide ((unhide V1).gby hg hVg)
  have hz2 : g < w2.heap.size := hs.1.lt
  clear hs hg HS1 V1
  have HQ2 := hide (ints_alloc w2 3 [1001, 1002, 1003, 1999, 2000, 2001, 2002] (by decide))
  go_wp2_with fail
  refine (pickG_st w2.heap.size 7 7 _ ((unhide HS2).alloc _) (unhide HQ2) (by omega) (by decide) (by decide)).mono ?_
  rintro e w3 ⟨x1, rfl, hx2, hs, hg⟩
  have HS3 := hide hs
  have V3 := hide (((unhide V2).al _).gby hg hVg)
  have HX := hide hx2
  have hz3 : g < w3.heap.size := hs.1.lt
  clear hs hg HS2 V2 HQ2 hx2
  have HQ3 := hide (pickt_alloc w3 9 [⟨#[97]⟩, ⟨#[98]⟩, ⟨#[98, 49]⟩, ⟨#[114, 111, 111, 116]⟩] (by decide))
  go_wp2_with fail
  refine (pickS_st w3.heap.size 4 4 _ (st_rb ((unhide HS3).alloc _)) (unhide HQ3) (by omega) (by decide) (by decide)).mono ?_
  rintro e w4 ⟨s, rfl, hsz, hs⟩
  have HSb := hide (st_on ((unhide HS3).alloc _) hs)
  have Vb := hide (((unhide V3).al _).gby hs.2.2.1 hVg)
  have hz4 : g < w4.heap.size := hs.1.lt
  have hy4 : w.heap.size < w4.heap.size := (unhide Vb).lt
  clear hs HS3 V3 HQ3
  obtain ⟨k, hk⟩ : ∃ k, w4.heap.size = k := ⟨_, rfl⟩
  rw [hk] at hz4 hy4
  have hkg : k ≠ g := by omega
  have hkV : k ≠ w.heap.size := by omega
  have hVk : w.heap.size ≠ k := by omega
  have HK := hide hk
  clear hk
  rcases (show x0 = 0 ∨ x0 = 1 ∨ x0 = 2 by omega) with rfl | rfl | rfl
  · have HS4 := hide ((unhide HSb).alloc (.cells #[.int .i64 0, .int .i64 x1, .string s] 25))
    have V4 := hide ((unhide Vb).al (.cells #[.int .i64 0, .int .i64 x1, .string s] 25))
    have R4 := hide (blk_new w4 #[.int .i64 0, .int .i64 x1, .string s] 25)
    obtain ⟨W, hW⟩ : ∃ W, w4.alloc (.cells #[.int .i64 0, .int .i64 x1, .string s] 25) = W := ⟨_, rfl⟩
    rw [hW] at HS4 V4 R4
    rw [unhide HK] at R4
    have HW := hide hW
    clear hW HSb Vb
    go_wp2_with fail
    rw [unhide HW, unhide HK]
    refine (below_st 16 _ (unhide HS4) (by decide) (by decide)).mono ?_
    rintro e w5 ⟨z, rfl, hz0, hz1, hs, hg⟩
    have HS5 := hide hs
    have V5 := hide ((unhide V4).gby hg hVg)
    have R5 := hide ((unhide R4).gby hg hkg)
    have hz5 : g < w5.heap.size := hs.1.lt
    have hl5 : w.heap.size < w5.heap.size := (unhide V5).lt
    have hm5 : k < w5.heap.size := (unhide R5).lt
    clear hs hg
    by_cases c0 : z = 0
    · subst c0
      have HQ := hide (ints_alloc w5 3 [-1, 3] (by decide))
      go_wp2_with fail
      refine (pickG_st w5.heap.size 2 2 _ ((unhide HS5).alloc _) (unhide HQ) (by omega) (by decide) (by decide)).mono ?_
      rintro e w6 ⟨n, rfl, hn, hs, hg⟩
      have hn0 := hn
      have R6 := hide (((unhide R5).al _).gby hg hkg)
      have q0 := (unhide R6).at 0
      have q1 := (unhide R6).f 0
      simp at q0
      have V6 := hide ((((unhide V5).al _).gby hg hVg).other k 0 (.int .i64 n) hVk)
      have R7 := hide ((unhide R6).set 0 (.int .i64 n))
      have HS6 := hide (hs.set k 0 (.int .i64 n) (by omega) (by omega) hkg)
      clear hs hg HQ
      have r0 := (unhide R7).at 0
      have r1 := (unhide R7).at 1
      have r2 := (unhide R7).at 2
      have v0 := (unhide V6).at 0
      have v1 := (unhide V6).at 1
      have v2 := (unhide V6).at 2
      have g0 := (unhide V6).f 0
      have g1 := (unhide V6).f 1
      have g2 := (unhide V6).f 2
      simp at r0 r1 r2 v0 v1 v2
      have hV2 := (((unhide V6).set 0 (.int .i64 n)).set 1 (.int .i64 x1)).set 2 (.string s)
      simp at hV2
      have y0 := hV2.at 0
      have y1 := hV2.at 1
      have y2 := hV2.at 2
      simp at y0 y1 y2
      have HF := hide ((((unhide HS6).set w.heap.size 0 (.int .i64 n) (Nat.le_refl _) (by omega) hVg).set w.heap.size 1 (.int .i64 x1) (Nat.le_refl _) (by omega) hVg).set w.heap.size 2 (.string s) (Nat.le_refl _) (by omega) hVg)
      clear hV2
      go_wp2
      refine bodyPost_ret (v := rcv ⟨n, x1, s.data.toList⟩) (by simp [results, Tryz.results20, go_sem, y0, y1, y2, bs_back]) rfl ⟨⟨n, x1, s.data.toList⟩, rfl, ⟨bs_len _ _ hsz, hn0, unhide HX⟩, st_on (unhide H0) (unhide HF)⟩
    by_cases c1 : z = 1
    · subst c1
      have HQ := hide (ints_alloc w5 3 [0, 1000000000, 1000000001, 999999999] (by decide))
      go_wp2_with fail
      refine (pickG_st w5.heap.size 4 4 _ ((unhide HS5).alloc _) (unhide HQ) (by omega) (by decide) (by decide)).mono ?_
      rintro e w6 ⟨n, rfl, hn, hs, hg⟩
      have hn0 := hn
      have R6 := hide (((unhide R5).al _).gby hg hkg)
      have q0 := (unhide R6).at 1
      have q1 := (unhide R6).f 1
      simp at q0
      have V6 := hide ((((unhide V5).al _).gby hg hVg).other k 1 (.int .i64 n) hVk)
      have R7 := hide ((unhide R6).set 1 (.int .i64 n))
      have HS6 := hide (hs.set k 1 (.int .i64 n) (by omega) (by omega) hkg)
      clear hs hg HQ
      have r0 := (unhide R7).at 0
      have r1 := (unhide R7).at 1
      have r2 := (unhide R7).at 2
      have v0 := (unhide V6).at 0
      have v1 := (unhide V6).at 1
      have v2 := (unhide V6).at 2
      have g0 := (unhide V6).f 0
      have g1 := (unhide V6).f 1
      have g2 := (unhide V6).f 2
      simp at r0 r1 r2 v0 v1 v2
      have hV2 := (((unhide V6).set 0 (.int .i64 0)).set 1 (.int .i64 n)).set 2 (.string s)
      simp at hV2
      have y0 := hV2.at 0
      have y1 := hV2.at 1
      have y2 := hV2.at 2
      simp at y0 y1 y2
      have HF := hide ((((unhide HS6).set w.heap.size 0 (.int .i64 0) (Nat.le_refl _) (by omega) hVg).set w.heap.size 1 (.int .i64 n) (Nat.le_refl _) (by omega) hVg).set w.heap.size 2 (.string s) (Nat.le_refl _) (by omega) hVg)
      clear hV2
      go_wp2
      refine bodyPost_ret (v := rcv ⟨0, n, s.data.toList⟩) (by simp [results, Tryz.results20, go_sem, y0, y1, y2, bs_back]) rfl ⟨⟨0, n, s.data.toList⟩, rfl, ⟨bs_len _ _ hsz, (show I64 0 from ⟨by decide, by decide⟩), hn0⟩, st_on (unhide H0) (unhide HF)⟩
    by_cases c2 : z = 2
    · subst c2
      go_wp2_with fail
      refine (name_st _ (st_rb (unhide HS5))).mono ?_
      rintro e w6 ⟨t, rfl, ht, hs⟩
      have R6 := hide ((unhide R5).gby hs.2.2.1 hkg)
      have q0 := (unhide R6).at 2
      have q1 := (unhide R6).f 2
      simp at q0
      have V6 := hide (((unhide V5).gby hs.2.2.1 hVg).other k 2 (.string t) hVk)
      have R7 := hide ((unhide R6).set 2 (.string t))
      have HS6 := hide ((st_on (unhide HS5) hs).set k 2 (.string t) (by omega) (by omega) hkg)
      clear hs
      have r0 := (unhide R7).at 0
      have r1 := (unhide R7).at 1
      have r2 := (unhide R7).at 2
      have v0 := (unhide V6).at 0
      have v1 := (unhide V6).at 1
      have v2 := (unhide V6).at 2
      have g0 := (unhide V6).f 0
      have g1 := (unhide V6).f 1
      have g2 := (unhide V6).f 2
      simp at r0 r1 r2 v0 v1 v2
      have hV2 := (((unhide V6).set 0 (.int .i64 0)).set 1 (.int .i64 x1)).set 2 (.string t)
      simp at hV2
      have y0 := hV2.at 0
      have y1 := hV2.at 1
      have y2 := hV2.at 2
      simp at y0 y1 y2
      have HF := hide ((((unhide HS6).set w.heap.size 0 (.int .i64 0) (Nat.le_refl _) (by omega) hVg).set w.heap.size 1 (.int .i64 x1) (Nat.le_refl _) (by omega) hVg).set w.heap.size 2 (.string t) (Nat.le_refl _) (by omega) hVg)
      clear hV2
      go_wp2
      refine bodyPost_ret (v := rcv ⟨0, x1, t.data.toList⟩) (by simp [results, Tryz.results20, go_sem, y0, y1, y2, bs_back]) rfl ⟨⟨0, x1, t.data.toList⟩, rfl, ⟨bs_len _ _ ht, (show I64 0 from ⟨by decide, by decide⟩), unhide HX⟩, st_on (unhide H0) (unhide HF)⟩
    have r0 := (unhide R5).at 0
    have r1 := (unhide R5).at 1
    have r2 := (unhide R5).at 2
    have v0 := (unhide V5).at 0
    have v1 := (unhide V5).at 1
    have v2 := (unhide V5).at 2
    have g0 := (unhide V5).f 0
    have g1 := (unhide V5).f 1
    have g2 := (unhide V5).f 2
    simp at r0 r1 r2 v0 v1 v2
    have hV2 := (((unhide V5).set 0 (.int .i64 0)).set 1 (.int .i64 x1)).set 2 (.string s)
    simp at hV2
    have y0 := hV2.at 0
    have y1 := hV2.at 1
    have y2 := hV2.at 2
    simp at y0 y1 y2
    have HF := hide ((((unhide HS5).set w.heap.size 0 (.int .i64 0) (Nat.le_refl _) (by omega) hVg).set w.heap.size 1 (.int .i64 x1) (Nat.le_refl _) (by omega) hVg).set w.heap.size 2 (.string s) (Nat.le_refl _) (by omega) hVg)
    clear hV2
    go_wp2
    refine bodyPost_ret (v := rcv ⟨0, x1, s.data.toList⟩) (by simp [results, Tryz.results20, go_sem, y0, y1, y2, bs_back]) rfl ⟨⟨0, x1, s.data.toList⟩, rfl, ⟨bs_len _ _ hsz, (show I64 0 from ⟨by decide, by decide⟩), unhide HX⟩, st_on (unhide H0) (unhide HF)⟩
  · have HS4 := hide ((unhide HSb).alloc (.cells #[.int .i64 1, .int .i64 x1, .string ⟨#[]⟩] 25))
    have V4 := hide ((unhide Vb).al (.cells #[.int .i64 1, .int .i64 x1, .string ⟨#[]⟩] 25))
    have R4 := hide (blk_new w4 #[.int .i64 1, .int .i64 x1, .string ⟨#[]⟩] 25)
    obtain ⟨W, hW⟩ : ∃ W, w4.alloc (.cells #[.int .i64 1, .int .i64 x1, .string ⟨#[]⟩] 25) = W := ⟨_, rfl⟩
    rw [hW] at HS4 V4 R4
    rw [unhide HK] at R4
    have HW := hide hW
    clear hW HSb Vb
    go_wp2_with fail
    rw [unhide HW, unhide HK]
    refine (below_st 16 _ (unhide HS4) (by decide) (by decide)).mono ?_
    rintro e w5 ⟨z, rfl, hz0, hz1, hs, hg⟩
    have HS5 := hide hs
    have V5 := hide ((unhide V4).gby hg hVg)
    have R5 := hide ((unhide R4).gby hg hkg)
    have hz5 : g < w5.heap.size := hs.1.lt
    have hl5 : w.heap.size < w5.heap.size := (unhide V5).lt
    have hm5 : k < w5.heap.size := (unhide R5).lt
    clear hs hg
    by_cases c0 : z = 0
    · subst c0
      have HQ := hide (ints_alloc w5 3 [-1, 3] (by decide))
      go_wp2_with fail
      refine (pickG_st w5.heap.size 2 2 _ ((unhide HS5).alloc _) (unhide HQ) (by omega) (by decide) (by decide)).mono ?_
      rintro e w6 ⟨n, rfl, hn, hs, hg⟩
      have hn0 := hn
      have R6 := hide (((unhide R5).al _).gby hg hkg)
      have q0 := (unhide R6).at 0
      have q1 := (unhide R6).f 0
      simp at q0
      have V6 := hide ((((unhide V5).al _).gby hg hVg).other k 0 (.int .i64 n) hVk)
      have R7 := hide ((unhide R6).set 0 (.int .i64 n))
      have HS6 := hide (hs.set k 0 (.int .i64 n) (by omega) (by omega) hkg)
      clear hs hg HQ
      have r0 := (unhide R7).at 0
      have r1 := (unhide R7).at 1
      have r2 := (unhide R7).at 2
      have v0 := (unhide V6).at 0
      have v1 := (unhide V6).at 1
      have v2 := (unhide V6).at 2
      have g0 := (unhide V6).f 0
      have g1 := (unhide V6).f 1
      have g2 := (unhide V6).f 2
      simp at r0 r1 r2 v0 v1 v2
      have hV2 := (((unhide V6).set 0 (.int .i64 n)).set 1 (.int .i64 x1)).set 2 (.string ⟨#[]⟩)
      simp at hV2
      have y0 := hV2.at 0
      have y1 := hV2.at 1
      have y2 := hV2.at 2
      simp at y0 y1 y2
      have HF := hide ((((unhide HS6).set w.heap.size 0 (.int .i64 n) (Nat.le_refl _) (by omega) hVg).set w.heap.size 1 (.int .i64 x1) (Nat.le_refl _) (by omega) hVg).set w.heap.size 2 (.string ⟨#[]⟩) (Nat.le_refl _) (by omega) hVg)
      clear hV2
      go_wp2
      refine bodyPost_ret (v := rcv ⟨n, x1, []⟩) (by simp [results, Tryz.results20, go_sem, y0, y1, y2, bs_nil]) rfl ⟨⟨n, x1, []⟩, rfl, ⟨Nat.zero_le _, hn0, unhide HX⟩, st_on (unhide H0) (unhide HF)⟩
    by_cases c1 : z = 1
    · subst c1
      have HQ := hide (ints_alloc w5 3 [0, 1000000000, 1000000001, 999999999] (by decide))
      go_wp2_with fail
      refine (pickG_st w5.heap.size 4 4 _ ((unhide HS5).alloc _) (unhide HQ) (by omega) (by decide) (by decide)).mono ?_
      rintro e w6 ⟨n, rfl, hn, hs, hg⟩
      have hn0 := hn
      have R6 := hide (((unhide R5).al _).gby hg hkg)
      have q0 := (unhide R6).at 1
      have q1 := (unhide R6).f 1
      simp at q0
      have V6 := hide ((((unhide V5).al _).gby hg hVg).other k 1 (.int .i64 n) hVk)
      have R7 := hide ((unhide R6).set 1 (.int .i64 n))
      have HS6 := hide (hs.set k 1 (.int .i64 n) (by omega) (by omega) hkg)
      clear hs hg HQ
      have r0 := (unhide R7).at 0
      have r1 := (unhide R7).at 1
      have r2 := (unhide R7).at 2
      have v0 := (unhide V6).at 0
      have v1 := (unhide V6).at 1
      have v2 := (unhide V6).at 2
      have g0 := (unhide V6).f 0
      have g1 := (unhide V6).f 1
      have g2 := (unhide V6).f 2
      simp at r0 r1 r2 v0 v1 v2
      have hV2 := (((unhide V6).set 0 (.int .i64 1)).set 1 (.int .i64 n)).set 2 (.string ⟨#[]⟩)
      simp at hV2
      have y0 := hV2.at 0
      have y1 := hV2.at 1
      have y2 := hV2.at 2
      simp at y0 y1 y2
      have HF := hide ((((unhide HS6).set w.heap.size 0 (.int .i64 1) (Nat.le_refl _) (by omega) hVg).set w.heap.size 1 (.int .i64 n) (Nat.le_refl _) (by omega) hVg).set w.heap.size 2 (.string ⟨#[]⟩) (Nat.le_refl _) (by omega) hVg)
      clear hV2
      go_wp2
      refine bodyPost_ret (v := rcv ⟨1, n, []⟩) (by simp [results, Tryz.results20, go_sem, y0, y1, y2, bs_nil]) rfl ⟨⟨1, n, []⟩, rfl, ⟨Nat.zero_le _, (show I64 1 from ⟨by decide, by decide⟩), hn0⟩, st_on (unhide H0) (unhide HF)⟩
    by_cases c2 : z = 2
    · subst c2
      go_wp2_with fail
      refine (name_st _ (st_rb (unhide HS5))).mono ?_
      rintro e w6 ⟨t, rfl, ht, hs⟩
      have R6 := hide ((unhide R5).gby hs.2.2.1 hkg)
      have q0 := (unhide R6).at 2
      have q1 := (unhide R6).f 2
      simp at q0
      have V6 := hide (((unhide V5).gby hs.2.2.1 hVg).other k 2 (.string t) hVk)
      have R7 := hide ((unhide R6).set 2 (.string t))
      have HS6 := hide ((st_on (unhide HS5) hs).set k 2 (.string t) (by omega) (by omega) hkg)
      clear hs
      have r0 := (unhide R7).at 0
      have r1 := (unhide R7).at 1
      have r2 := (unhide R7).at 2
      have v0 := (unhide V6).at 0
      have v1 := (unhide V6).at 1
      have v2 := (unhide V6).at 2
      have g0 := (unhide V6).f 0
      have g1 := (unhide V6).f 1
      have g2 := (unhide V6).f 2
      simp at r0 r1 r2 v0 v1 v2
      have hV2 := (((unhide V6).set 0 (.int .i64 1)).set 1 (.int .i64 x1)).set 2 (.string t)
      simp at hV2
      have y0 := hV2.at 0
      have y1 := hV2.at 1
      have y2 := hV2.at 2
      simp at y0 y1 y2
      have HF := hide ((((unhide HS6).set w.heap.size 0 (.int .i64 1) (Nat.le_refl _) (by omega) hVg).set w.heap.size 1 (.int .i64 x1) (Nat.le_refl _) (by omega) hVg).set w.heap.size 2 (.string t) (Nat.le_refl _) (by omega) hVg)
      clear hV2
      go_wp2
      refine bodyPost_ret (v := rcv ⟨1, x1, t.data.toList⟩) (by simp [results, Tryz.results20, go_sem, y0, y1, y2, bs_back]) rfl ⟨⟨1, x1, t.data.toList⟩, rfl, ⟨bs_len _ _ ht, (show I64 1 from ⟨by decide, by decide⟩), unhide HX⟩, st_on (unhide H0) (unhide HF)⟩
    have r0 := (unhide R5).at 0
    have r1 := (unhide R5).at 1
    have r2 := (unhide R5).at 2
    have v0 := (unhide V5).at 0
    have v1 := (unhide V5).at 1
    have v2 := (unhide V5).at 2
    have g0 := (unhide V5).f 0
    have g1 := (unhide V5).f 1
    have g2 := (unhide V5).f 2
    simp at r0 r1 r2 v0 v1 v2
    have hV2 := (((unhide V5).set 0 (.int .i64 1)).set 1 (.int .i64 x1)).set 2 (.string ⟨#[]⟩)
    simp at hV2
    have y0 := hV2.at 0
    have y1 := hV2.at 1
    have y2 := hV2.at 2
    simp at y0 y1 y2
    have HF := hide ((((unhide HS5).set w.heap.size 0 (.int .i64 1) (Nat.le_refl _) (by omega) hVg).set w.heap.size 1 (.int .i64 x1) (Nat.le_refl _) (by omega) hVg).set w.heap.size 2 (.string ⟨#[]⟩) (Nat.le_refl _) (by omega) hVg)
    clear hV2
    go_wp2
    refine bodyPost_ret (v := rcv ⟨1, x1, []⟩) (by simp [results, Tryz.results20, go_sem, y0, y1, y2, bs_nil]) rfl ⟨⟨1, x1, []⟩, rfl, ⟨Nat.zero_le _, (show I64 1 from ⟨by decide, by decide⟩), unhide HX⟩, st_on (unhide H0) (unhide HF)⟩
  · have HS4 := hide ((unhide HSb).alloc (.cells #[.int .i64 2, .int .i64 0, .string ⟨#[]⟩] 25))
    have V4 := hide ((unhide Vb).al (.cells #[.int .i64 2, .int .i64 0, .string ⟨#[]⟩] 25))
    have R4 := hide (blk_new w4 #[.int .i64 2, .int .i64 0, .string ⟨#[]⟩] 25)
    obtain ⟨W, hW⟩ : ∃ W, w4.alloc (.cells #[.int .i64 2, .int .i64 0, .string ⟨#[]⟩] 25) = W := ⟨_, rfl⟩
    rw [hW] at HS4 V4 R4
    rw [unhide HK] at R4
    have HW := hide hW
    clear hW HSb Vb
    go_wp2_with fail
    rw [unhide HW, unhide HK]
    refine (below_st 16 _ (unhide HS4) (by decide) (by decide)).mono ?_
    rintro e w5 ⟨z, rfl, hz0, hz1, hs, hg⟩
    have HS5 := hide hs
    have V5 := hide ((unhide V4).gby hg hVg)
    have R5 := hide ((unhide R4).gby hg hkg)
    have hz5 : g < w5.heap.size := hs.1.lt
    have hl5 : w.heap.size < w5.heap.size := (unhide V5).lt
    have hm5 : k < w5.heap.size := (unhide R5).lt
    clear hs hg
    by_cases c0 : z = 0
    · subst c0
      have HQ := hide (ints_alloc w5 3 [-1, 3] (by decide))
      go_wp2_with fail
      refine (pickG_st w5.heap.size 2 2 _ ((unhide HS5).alloc _) (unhide HQ) (by omega) (by decide) (by decide)).mono ?_
      rintro e w6 ⟨n, rfl, hn, hs, hg⟩
      have hn0 := hn
      have R6 := hide (((unhide R5).al _).gby hg hkg)
      have q0 := (unhide R6).at 0
      have q1 := (unhide R6).f 0
      simp at q0
      have V6 := hide ((((unhide V5).al _).gby hg hVg).other k 0 (.int .i64 n) hVk)
      have R7 := hide ((unhide R6).set 0 (.int .i64 n))
      have HS6 := hide (hs.set k 0 (.int .i64 n) (by omega) (by omega) hkg)
      clear hs hg HQ
      have r0 := (unhide R7).at 0
      have r1 := (unhide R7).at 1
      have r2 := (unhide R7).at 2
      have v0 := (unhide V6).at 0
      have v1 := (unhide V6).at 1
      have v2 := (unhide V6).at 2
      have g0 := (unhide V6).f 0
      have g1 := (unhide V6).f 1
      have g2 := (unhide V6).f 2
      simp at r0 r1 r2 v0 v1 v2
      have hV2 := (((unhide V6).set 0 (.int .i64 n)).set 1 (.int .i64 0)).set 2 (.string ⟨#[]⟩)
      simp at hV2
      have y0 := hV2.at 0
      have y1 := hV2.at 1
      have y2 := hV2.at 2
      simp at y0 y1 y2
      have HF := hide ((((unhide HS6).set w.heap.size 0 (.int .i64 n) (Nat.le_refl _) (by omega) hVg).set w.heap.size 1 (.int .i64 0) (Nat.le_refl _) (by omega) hVg).set w.heap.size 2 (.string ⟨#[]⟩) (Nat.le_refl _) (by omega) hVg)
      clear hV2
      go_wp2
      refine bodyPost_ret (v := rcv ⟨n, 0, []⟩) (by simp [results, Tryz.results20, go_sem, y0, y1, y2, bs_nil]) rfl ⟨⟨n, 0, []⟩, rfl, ⟨Nat.zero_le _, hn0, (show I64 0 from ⟨by decide, by decide⟩)⟩, st_on (unhide H0) (unhide HF)⟩
    by_cases c1 : z = 1
    · subst c1
      have HQ := hide (ints_alloc w5 3 [0, 1000000000, 1000000001, 999999999] (by decide))
      go_wp2_with fail
      refine (pickG_st w5.heap.size 4 4 _ ((unhide HS5).alloc _) (unhide HQ) (by omega) (by decide) (by decide)).mono ?_
      rintro e w6 ⟨n, rfl, hn, hs, hg⟩
      have hn0 := hn
      have R6 := hide (((unhide R5).al _).gby hg hkg)
      have q0 := (unhide R6).at 1
      have q1 := (unhide R6).f 1
      simp at q0
      have V6 := hide ((((unhide V5).al _).gby hg hVg).other k 1 (.int .i64 n) hVk)
      have R7 := hide ((unhide R6).set 1 (.int .i64 n))
      have HS6 := hide (hs.set k 1 (.int .i64 n) (by omega) (by omega) hkg)
      clear hs hg HQ
      have r0 := (unhide R7).at 0
      have r1 := (unhide R7).at 1
      have r2 := (unhide R7).at 2
      have v0 := (unhide V6).at 0
      have v1 := (unhide V6).at 1
      have v2 := (unhide V6).at 2
      have g0 := (unhide V6).f 0
      have g1 := (unhide V6).f 1
      have g2 := (unhide V6).f 2
      simp at r0 r1 r2 v0 v1 v2
      have hV2 := (((unhide V6).set 0 (.int .i64 2)).set 1 (.int .i64 n)).set 2 (.string ⟨#[]⟩)
      simp at hV2
      have y0 := hV2.at 0
      have y1 := hV2.at 1
      have y2 := hV2.at 2
      simp at y0 y1 y2
      have HF := hide ((((unhide HS6).set w.heap.size 0 (.int .i64 2) (Nat.le_refl _) (by omega) hVg).set w.heap.size 1 (.int .i64 n) (Nat.le_refl _) (by omega) hVg).set w.heap.size 2 (.string ⟨#[]⟩) (Nat.le_refl _) (by omega) hVg)
      clear hV2
      go_wp2
      refine bodyPost_ret (v := rcv ⟨2, n, []⟩) (by simp [results, Tryz.results20, go_sem, y0, y1, y2, bs_nil]) rfl ⟨⟨2, n, []⟩, rfl, ⟨Nat.zero_le _, (show I64 2 from ⟨by decide, by decide⟩), hn0⟩, st_on (unhide H0) (unhide HF)⟩
    by_cases c2 : z = 2
    · subst c2
      go_wp2_with fail
      refine (name_st _ (st_rb (unhide HS5))).mono ?_
      rintro e w6 ⟨t, rfl, ht, hs⟩
      have R6 := hide ((unhide R5).gby hs.2.2.1 hkg)
      have q0 := (unhide R6).at 2
      have q1 := (unhide R6).f 2
      simp at q0
      have V6 := hide (((unhide V5).gby hs.2.2.1 hVg).other k 2 (.string t) hVk)
      have R7 := hide ((unhide R6).set 2 (.string t))
      have HS6 := hide ((st_on (unhide HS5) hs).set k 2 (.string t) (by omega) (by omega) hkg)
      clear hs
      have r0 := (unhide R7).at 0
      have r1 := (unhide R7).at 1
      have r2 := (unhide R7).at 2
      have v0 := (unhide V6).at 0
      have v1 := (unhide V6).at 1
      have v2 := (unhide V6).at 2
      have g0 := (unhide V6).f 0
      have g1 := (unhide V6).f 1
      have g2 := (unhide V6).f 2
      simp at r0 r1 r2 v0 v1 v2
      have hV2 := (((unhide V6).set 0 (.int .i64 2)).set 1 (.int .i64 0)).set 2 (.string t)
      simp at hV2
      have y0 := hV2.at 0
      have y1 := hV2.at 1
      have y2 := hV2.at 2
      simp at y0 y1 y2
      have HF := hide ((((unhide HS6).set w.heap.size 0 (.int .i64 2) (Nat.le_refl _) (by omega) hVg).set w.heap.size 1 (.int .i64 0) (Nat.le_refl _) (by omega) hVg).set w.heap.size 2 (.string t) (Nat.le_refl _) (by omega) hVg)
      clear hV2
      go_wp2
      refine bodyPost_ret (v := rcv ⟨2, 0, t.data.toList⟩) (by simp [results, Tryz.results20, go_sem, y0, y1, y2, bs_back]) rfl ⟨⟨2, 0, t.data.toList⟩, rfl, ⟨bs_len _ _ ht, (show I64 2 from ⟨by decide, by decide⟩), (show I64 0 from ⟨by decide, by decide⟩)⟩, st_on (unhide H0) (unhide HF)⟩
    have r0 := (unhide R5).at 0
    have r1 := (unhide R5).at 1
    have r2 := (unhide R5).at 2
    have v0 := (unhide V5).at 0
    have v1 := (unhide V5).at 1
    have v2 := (unhide V5).at 2
    have g0 := (unhide V5).f 0
    have g1 := (unhide V5).f 1
    have g2 := (unhide V5).f 2
    simp at r0 r1 r2 v0 v1 v2
    have hV2 := (((unhide V5).set 0 (.int .i64 2)).set 1 (.int .i64 0)).set 2 (.string ⟨#[]⟩)
    simp at hV2
    have y0 := hV2.at 0
    have y1 := hV2.at 1
    have y2 := hV2.at 2
    simp at y0 y1 y2
    have HF := hide ((((unhide HS5).set w.heap.size 0 (.int .i64 2) (Nat.le_refl _) (by omega) hVg).set w.heap.size 1 (.int .i64 0) (Nat.le_refl _) (by omega) hVg).set w.heap.size 2 (.string ⟨#[]⟩) (Nat.le_refl _) (by omega) hVg)
    clear hV2
    go_wp2
    refine bodyPost_ret (v := rcv ⟨2, 0, []⟩) (by simp [results, Tryz.results20, go_sem, y0, y1, y2, bs_nil]) rfl ⟨⟨2, 0, []⟩, rfl, ⟨Nat.zero_le _, (show I64 2 from ⟨by decide, by decide⟩), (show I64 0 from ⟨by decide, by decide⟩)⟩, st_on (unhide H0) (unhide HF)⟩
end Go.Proofs.YtobpjegfgegkcaaGreatDoor
