/-
  Several texts of this claim in one: DrawJ, DrawK, DrawV, ReadN, RcvL, Code, RegX, StoC (pack.py put them together); each says in its own remark what is proved.
-/
import Derived.Test.YtkpmocbfedgfhaaGreatPackP
import Derived.Test.YtkpmocbfedgfhaaGreatPackV
import Derived.Test.YtkpmocbfedgfhaaGreatPackQ
import Derived.Test.YtkpmocbfedgfhaaGreatPackT
import Derived.Test.YtkpmocbfedgfhaaGreatPackU
import Derived.OpenShut
import Derived.Lib.ItoaMem
import Derived.Test.YtkpmocbfedgfhaaGreatPackF
import Derived.Test.YtkpmocbfedgfhaaGreatPackN
import Derived.Test.YtkpmocbfedgfhaaGreatPackA
import Derived.Laws.Tables
import Derived.Deep.MidRow
/-
  Records and logs drawn: what the model's l08Rec, l08Log, DrawWrite and DrawGetRec answer, as to their size; walks over the dump (mkdrawj.py wrote this).
-/
namespace Go.Proofs.YtkpmocbfedgfhaaGreat
open Go.RowKit
set_option linter.unusedVariables false
set_option linter.unusedSimpArgs false
theorem st_rb {w0 w : World} {B g : Nat} {ao : Option Addr} {len cap : Nat} (h : CSt w0 B g ao len cap w) : CSt w B g ao len cap w := ⟨h.1, h.2.1, grownBy_refl w _, h.2.2.2⟩
theorem st_on {w0 w w' : World} {B g : Nat} {ao : Option Addr} {len cap : Nat} (h : CSt w0 B g ao len cap w) (k : CSt w B g ao len cap w') : CSt w0 B g ao len cap w' := h.step k.1 k.2.2.1
/-- a record that may be drawn -/
def RcD (r : Rc) : Prop := r.queue.length ≤ 12 ∧ I64 r.kind ∧ I64 r.app
theorem bs_len (s : ByteArray) (n : Nat) (h : s.size ≤ n) : s.data.toList.length ≤ n := by rw [len_eq]; exact h

set_option maxRecDepth 100000 in
set_option maxHeartbeats 4000000 in
theorem rec_st {w0 : World} {B g : Nat} {ao : Option Addr} {len cap : Nat} (w : World) (h0 : CSt w0 B g ao len cap w) :
    Calls Tryz.prog 46 #[.pointer (some ⟨g, 0, none⟩)] w fun e w' => ∃ r : Rc, e = .returned (rcv r) ∧ RcD r ∧ CSt w0 B g ao len cap w' := by
  have hgl : g < w.heap.size := h0.1.lt
  have hBg : B ≤ g := h0.2.2.2
  have H0 := hide h0
  have HS1 := hide ((st_rb h0).alloc (.cells #[.int .i64 0, .int .i64 0, .string ⟨#[]⟩] 41))
  have V1 := hide (blk_new w #[.int .i64 0, .int .i64 0, .string ⟨#[]⟩] 41)
  have hVg : w.heap.size ≠ g := by omega
  clear h0
  go_enter Tryz.func46, Tryz.ntmps46
  go_wp2_with fail
  refine (below_st 3 _ (unhide HS1) (by decide) (by decide)).mono ?_
  rintro e w2 ⟨x0, rfl, hx0, hx1, hs, hg⟩
  have HS2 := hide hs
  have V2 := hide ((unhide V1).gby hg hVg)
  have hz2 : g < w2.heap.size := hs.1.lt
  clear hs hg HS1 V1
  have HQ2 := hide (ints_alloc w2 3 [1001, 1002, 1003, 1999, 2000, 2001, 2002] (by decide))
  go_wp2_with fail
  refine (pickG_st w2.heap.size 7 7 _ ((unhide HS2).alloc _) (unhide HQ2) (by omega) (by decide) (by decide)).mono ?_
  rintro e w3 ⟨x1, rfl, hx2, hs, hg⟩
  have HS3 := hide hs
  have V3 := hide (((unhide V2).al _).gby hg hVg)
  have HX := hide hx2
  have hz3 : g < w3.heap.size := hs.1.lt
  clear hs hg HS2 V2 HQ2 hx2
  have HQ3 := hide (pickt_alloc w3 9 [⟨#[97]⟩, ⟨#[98]⟩, ⟨#[98, 49]⟩, ⟨#[114, 111, 111, 116]⟩] (by decide))
  go_wp2_with fail
  refine (pickS_st w3.heap.size 4 4 _ (st_rb ((unhide HS3).alloc _)) (unhide HQ3) (by omega) (by decide) (by decide)).mono ?_
  rintro e w4 ⟨s, rfl, hsz, hs⟩
  have HSb := hide (st_on ((unhide HS3).alloc _) hs)
  have Vb := hide (((unhide V3).al _).gby hs.2.2.1 hVg)
  have hz4 : g < w4.heap.size := hs.1.lt
  have hy4 : w.heap.size < w4.heap.size := (unhide Vb).lt
  clear hs HS3 V3 HQ3
  obtain ⟨k, hk⟩ : ∃ k, w4.heap.size = k := ⟨_, rfl⟩
  rw [hk] at hz4 hy4
  have hkg : k ≠ g := by omega
  have hkV : k ≠ w.heap.size := by omega
  have hVk : w.heap.size ≠ k := by omega
  have HK := hide hk
  clear hk
  rcases (show x0 = 0 ∨ x0 = 1 ∨ x0 = 2 by omega) with rfl | rfl | rfl
  · have HS4 := hide ((unhide HSb).alloc (.cells #[.int .i64 0, .int .i64 x1, .string s] 41))
    have V4 := hide ((unhide Vb).al (.cells #[.int .i64 0, .int .i64 x1, .string s] 41))
    have R4 := hide (blk_new w4 #[.int .i64 0, .int .i64 x1, .string s] 41)
    obtain ⟨W, hW⟩ : ∃ W, w4.alloc (.cells #[.int .i64 0, .int .i64 x1, .string s] 41) = W := ⟨_, rfl⟩
    rw [hW] at HS4 V4 R4
    rw [unhide HK] at R4
    have HW := hide hW
    clear hW HSb Vb
    go_wp2_with fail
    rw [unhide HW, unhide HK]
    refine (below_st 16 _ (unhide HS4) (by decide) (by decide)).mono ?_
    rintro e w5 ⟨z, rfl, hz0, hz1, hs, hg⟩
    have HS5 := hide hs
    have V5 := hide ((unhide V4).gby hg hVg)
    have R5 := hide ((unhide R4).gby hg hkg)
    have hz5 : g < w5.heap.size := hs.1.lt
    have hl5 : w.heap.size < w5.heap.size := (unhide V5).lt
    have hm5 : k < w5.heap.size := (unhide R5).lt
    clear hs hg
    by_cases c0 : z = 0
    · subst c0
      have HQ := hide (ints_alloc w5 3 [-1, 3] (by decide))
      go_wp2_with fail
      refine (pickG_st w5.heap.size 2 2 _ ((unhide HS5).alloc _) (unhide HQ) (by omega) (by decide) (by decide)).mono ?_
      rintro e w6 ⟨n, rfl, hn, hs, hg⟩
      have hn0 := hn
      have R6 := hide (((unhide R5).al _).gby hg hkg)
      have q0 := (unhide R6).at 0
      have q1 := (unhide R6).f 0
      simp at q0
      have V6 := hide ((((unhide V5).al _).gby hg hVg).other k 0 (.int .i64 n) hVk)
      have R7 := hide ((unhide R6).set 0 (.int .i64 n))
      have HS6 := hide (hs.set k 0 (.int .i64 n) (by omega) (by omega) hkg)
      clear hs hg HQ
      have r0 := (unhide R7).at 0
      have r1 := (unhide R7).at 1
      have r2 := (unhide R7).at 2
      have v0 := (unhide V6).at 0
      have v1 := (unhide V6).at 1
      have v2 := (unhide V6).at 2
      have g0 := (unhide V6).f 0
      have g1 := (unhide V6).f 1
      have g2 := (unhide V6).f 2
      simp at r0 r1 r2 v0 v1 v2
      have hV2 := (((unhide V6).set 0 (.int .i64 n)).set 1 (.int .i64 x1)).set 2 (.string s)
      simp at hV2
      have y0 := hV2.at 0
      have y1 := hV2.at 1
      have y2 := hV2.at 2
      simp at y0 y1 y2
      have HF := hide ((((unhide HS6).set w.heap.size 0 (.int .i64 n) (Nat.le_refl _) (by omega) hVg).set w.heap.size 1 (.int .i64 x1) (Nat.le_refl _) (by omega) hVg).set w.heap.size 2 (.string s) (Nat.le_refl _) (by omega) hVg)
      clear hV2
      go_wp2
      refine bodyPost_ret (v := rcv ⟨n, x1, s.data.toList⟩) (by simp [results, Tryz.results46, go_sem, y0, y1, y2, bs_back]) rfl ⟨⟨n, x1, s.data.toList⟩, rfl, ⟨bs_len _ _ hsz, hn0, unhide HX⟩, st_on (unhide H0) (unhide HF)⟩
    by_cases c1 : z = 1
    · subst c1
      have HQ := hide (ints_alloc w5 3 [0, 1000000000, 1000000001, 999999999] (by decide))
      go_wp2_with fail
      refine (pickG_st w5.heap.size 4 4 _ ((unhide HS5).alloc _) (unhide HQ) (by omega) (by decide) (by decide)).mono ?_
      rintro e w6 ⟨n, rfl, hn, hs, hg⟩
      have hn0 := hn
      have R6 := hide (((unhide R5).al _).gby hg hkg)
      have q0 := (unhide R6).at 1
      have q1 := (unhide R6).f 1
      simp at q0
      have V6 := hide ((((unhide V5).al _).gby hg hVg).other k 1 (.int .i64 n) hVk)
      have R7 := hide ((unhide R6).set 1 (.int .i64 n))
      have HS6 := hide (hs.set k 1 (.int .i64 n) (by omega) (by omega) hkg)
      clear hs hg HQ
      have r0 := (unhide R7).at 0
      have r1 := (unhide R7).at 1
      have r2 := (unhide R7).at 2
      have v0 := (unhide V6).at 0
      have v1 := (unhide V6).at 1
      have v2 := (unhide V6).at 2
      have g0 := (unhide V6).f 0
      have g1 := (unhide V6).f 1
      have g2 := (unhide V6).f 2
      simp at r0 r1 r2 v0 v1 v2
      have hV2 := (((unhide V6).set 0 (.int .i64 0)).set 1 (.int .i64 n)).set 2 (.string s)
      simp at hV2
      have y0 := hV2.at 0
      have y1 := hV2.at 1
      have y2 := hV2.at 2
      simp at y0 y1 y2
      have HF := hide ((((unhide HS6).set w.heap.size 0 (.int .i64 0) (Nat.le_refl _) (by omega) hVg).set w.heap.size 1 (.int .i64 n) (Nat.le_refl _) (by omega) hVg).set w.heap.size 2 (.string s) (Nat.le_refl _) (by omega) hVg)
      clear hV2
      go_wp2
      refine bodyPost_ret (v := rcv ⟨0, n, s.data.toList⟩) (by simp [results, Tryz.results46, go_sem, y0, y1, y2, bs_back]) rfl ⟨⟨0, n, s.data.toList⟩, rfl, ⟨bs_len _ _ hsz, (show I64 0 from ⟨by decide, by decide⟩), hn0⟩, st_on (unhide H0) (unhide HF)⟩
    by_cases c2 : z = 2
    · subst c2
      go_wp2_with fail
      refine (name_st _ (st_rb (unhide HS5))).mono ?_
      rintro e w6 ⟨t, rfl, ht, hs⟩
      have R6 := hide ((unhide R5).gby hs.2.2.1 hkg)
      have q0 := (unhide R6).at 2
      have q1 := (unhide R6).f 2
      simp at q0
      have V6 := hide (((unhide V5).gby hs.2.2.1 hVg).other k 2 (.string t) hVk)
      have R7 := hide ((unhide R6).set 2 (.string t))
      have HS6 := hide ((st_on (unhide HS5) hs).set k 2 (.string t) (by omega) (by omega) hkg)
      clear hs
      have r0 := (unhide R7).at 0
      have r1 := (unhide R7).at 1
      have r2 := (unhide R7).at 2
      have v0 := (unhide V6).at 0
      have v1 := (unhide V6).at 1
      have v2 := (unhide V6).at 2
      have g0 := (unhide V6).f 0
      have g1 := (unhide V6).f 1
      have g2 := (unhide V6).f 2
      simp at r0 r1 r2 v0 v1 v2
      have hV2 := (((unhide V6).set 0 (.int .i64 0)).set 1 (.int .i64 x1)).set 2 (.string t)
      simp at hV2
      have y0 := hV2.at 0
      have y1 := hV2.at 1
      have y2 := hV2.at 2
      simp at y0 y1 y2
      have HF := hide ((((unhide HS6).set w.heap.size 0 (.int .i64 0) (Nat.le_refl _) (by omega) hVg).set w.heap.size 1 (.int .i64 x1) (Nat.le_refl _) (by omega) hVg).set w.heap.size 2 (.string t) (Nat.le_refl _) (by omega) hVg)
      clear hV2
      go_wp2
      refine bodyPost_ret (v := rcv ⟨0, x1, t.data.toList⟩) (by simp [results, Tryz.results46, go_sem, y0, y1, y2, bs_back]) rfl ⟨⟨0, x1, t.data.toList⟩, rfl, ⟨bs_len _ _ ht, (show I64 0 from ⟨by decide, by decide⟩), unhide HX⟩, st_on (unhide H0) (unhide HF)⟩
    have r0 := (unhide R5).at 0
    have r1 := (unhide R5).at 1
    have r2 := (unhide R5).at 2
    have v0 := (unhide V5).at 0
    have v1 := (unhide V5).at 1
    have v2 := (unhide V5).at 2
    have g0 := (unhide V5).f 0
    have g1 := (unhide V5).f 1
    have g2 := (unhide V5).f 2
    simp at r0 r1 r2 v0 v1 v2
    have hV2 := (((unhide V5).set 0 (.int .i64 0)).set 1 (.int .i64 x1)).set 2 (.string s)
    simp at hV2
    have y0 := hV2.at 0
    have y1 := hV2.at 1
    have y2 := hV2.at 2
    simp at y0 y1 y2
    have HF := hide ((((unhide HS5).set w.heap.size 0 (.int .i64 0) (Nat.le_refl _) (by omega) hVg).set w.heap.size 1 (.int .i64 x1) (Nat.le_refl _) (by omega) hVg).set w.heap.size 2 (.string s) (Nat.le_refl _) (by omega) hVg)
    clear hV2
    go_wp2
    refine bodyPost_ret (v := rcv ⟨0, x1, s.data.toList⟩) (by simp [results, Tryz.results46, go_sem, y0, y1, y2, bs_back]) rfl ⟨⟨0, x1, s.data.toList⟩, rfl, ⟨bs_len _ _ hsz, (show I64 0 from ⟨by decide, by decide⟩), unhide HX⟩, st_on (unhide H0) (unhide HF)⟩
  · have HS4 := hide ((unhide HSb).alloc (.cells #[.int .i64 1, .int .i64 x1, .string ⟨#[]⟩] 41))
    have V4 := hide ((unhide Vb).al (.cells #[.int .i64 1, .int .i64 x1, .string ⟨#[]⟩] 41))
    have R4 := hide (blk_new w4 #[.int .i64 1, .int .i64 x1, .string ⟨#[]⟩] 41)
    obtain ⟨W, hW⟩ : ∃ W, w4.alloc (.cells #[.int .i64 1, .int .i64 x1, .string ⟨#[]⟩] 41) = W := ⟨_, rfl⟩
    rw [hW] at HS4 V4 R4
    rw [unhide HK] at R4
    have HW := hide hW
    clear hW HSb Vb
    go_wp2_with fail
    rw [unhide HW, unhide HK]
    refine (below_st 16 _ (unhide HS4) (by decide) (by decide)).mono ?_
    rintro e w5 ⟨z, rfl, hz0, hz1, hs, hg⟩
    have HS5 := hide hs
    have V5 := hide ((unhide V4).gby hg hVg)
    have R5 := hide ((unhide R4).gby hg hkg)
    have hz5 : g < w5.heap.size := hs.1.lt
    have hl5 : w.heap.size < w5.heap.size := (unhide V5).lt
    have hm5 : k < w5.heap.size := (unhide R5).lt
    clear hs hg
    by_cases c0 : z = 0
    · subst c0
      have HQ := hide (ints_alloc w5 3 [-1, 3] (by decide))
      go_wp2_with fail
      refine (pickG_st w5.heap.size 2 2 _ ((unhide HS5).alloc _) (unhide HQ) (by omega) (by decide) (by decide)).mono ?_
      rintro e w6 ⟨n, rfl, hn, hs, hg⟩
      have hn0 := hn
      have R6 := hide (((unhide R5).al _).gby hg hkg)
      have q0 := (unhide R6).at 0
      have q1 := (unhide R6).f 0
      simp at q0
      have V6 := hide ((((unhide V5).al _).gby hg hVg).other k 0 (.int .i64 n) hVk)
      have R7 := hide ((unhide R6).set 0 (.int .i64 n))
      have HS6 := hide (hs.set k 0 (.int .i64 n) (by omega) (by omega) hkg)
      clear hs hg HQ
      have r0 := (unhide R7).at 0
      have r1 := (unhide R7).at 1
      have r2 := (unhide R7).at 2
      have v0 := (unhide V6).at 0
      have v1 := (unhide V6).at 1
      have v2 := (unhide V6).at 2
      have g0 := (unhide V6).f 0
      have g1 := (unhide V6).f 1
      have g2 := (unhide V6).f 2
      simp at r0 r1 r2 v0 v1 v2
      have hV2 := (((unhide V6).set 0 (.int .i64 n)).set 1 (.int .i64 x1)).set 2 (.string ⟨#[]⟩)
      simp at hV2
      have y0 := hV2.at 0
      have y1 := hV2.at 1
      have y2 := hV2.at 2
      simp at y0 y1 y2
      have HF := hide ((((unhide HS6).set w.heap.size 0 (.int .i64 n) (Nat.le_refl _) (by omega) hVg).set w.heap.size 1 (.int .i64 x1) (Nat.le_refl _) (by omega) hVg).set w.heap.size 2 (.string ⟨#[]⟩) (Nat.le_refl _) (by omega) hVg)
      clear hV2
      go_wp2
      refine bodyPost_ret (v := rcv ⟨n, x1, []⟩) (by simp [results, Tryz.results46, go_sem, y0, y1, y2, bs_nil]) rfl ⟨⟨n, x1, []⟩, rfl, ⟨Nat.zero_le _, hn0, unhide HX⟩, st_on (unhide H0) (unhide HF)⟩
    by_cases c1 : z = 1
    · subst c1
      have HQ := hide (ints_alloc w5 3 [0, 1000000000, 1000000001, 999999999] (by decide))
      go_wp2_with fail
      refine (pickG_st w5.heap.size 4 4 _ ((unhide HS5).alloc _) (unhide HQ) (by omega) (by decide) (by decide)).mono ?_
      rintro e w6 ⟨n, rfl, hn, hs, hg⟩
      have hn0 := hn
      have R6 := hide (((unhide R5).al _).gby hg hkg)
      have q0 := (unhide R6).at 1
      have q1 := (unhide R6).f 1
      simp at q0
      have V6 := hide ((((unhide V5).al _).gby hg hVg).other k 1 (.int .i64 n) hVk)
      have R7 := hide ((unhide R6).set 1 (.int .i64 n))
      have HS6 := hide (hs.set k 1 (.int .i64 n) (by omega) (by omega) hkg)
      clear hs hg HQ
      have r0 := (unhide R7).at 0
      have r1 := (unhide R7).at 1
      have r2 := (unhide R7).at 2
      have v0 := (unhide V6).at 0
      have v1 := (unhide V6).at 1
      have v2 := (unhide V6).at 2
      have g0 := (unhide V6).f 0
      have g1 := (unhide V6).f 1
      have g2 := (unhide V6).f 2
      simp at r0 r1 r2 v0 v1 v2
      have hV2 := (((unhide V6).set 0 (.int .i64 1)).set 1 (.int .i64 n)).set 2 (.string ⟨#[]⟩)
      simp at hV2
      have y0 := hV2.at 0
      have y1 := hV2.at 1
      have y2 := hV2.at 2
      simp at y0 y1 y2
      have HF := hide ((((unhide HS6).set w.heap.size 0 (.int .i64 1) (Nat.le_refl _) (by omega) hVg).set w.heap.size 1 (.int .i64 n) (Nat.le_refl _) (by omega) hVg).set w.heap.size 2 (.string ⟨#[]⟩) (Nat.le_refl _) (by omega) hVg)
      clear hV2
      go_wp2
      refine bodyPost_ret (v := rcv ⟨1, n, []⟩) (by simp [results, Tryz.results46, go_sem, y0, y1, y2, bs_nil]) rfl ⟨⟨1, n, []⟩, rfl, ⟨Nat.zero_le _, (show I64 1 from ⟨by decide, by decide⟩), hn0⟩, st_on (unhide H0) (unhide HF)⟩
    by_cases c2 : z = 2
    · subst c2
      go_wp2_with fail
      refine (name_st _ (st_rb (unhide HS5))).mono ?_
      rintro e w6 ⟨t, rfl, ht, hs⟩
      have R6 := hide ((unhide R5).gby hs.2.2.1 hkg)
      have q0 := (unhide R6).at 2
      have q1 := (unhide R6).f 2
      simp at q0
      have V6 := hide (((unhide V5).gby hs.2.2.1 hVg).other k 2 (.string t) hVk)
      have R7 := hide ((unhide R6).set 2 (.string t))
      have HS6 := hide ((st_on (unhide HS5) hs).set k 2 (.string t) (by omega) (by omega) hkg)
      clear hs
      have r0 := (unhide R7).at 0
      have r1 := (unhide R7).at 1
      have r2 := (unhide R7).at 2
      have v0 := (unhide V6).at 0
      have v1 := (unhide V6).at 1
      have v2 := (unhide V6).at 2
      have g0 := (unhide V6).f 0
      have g1 := (unhide V6).f 1
      have g2 := (unhide V6).f 2
      simp at r0 r1 r2 v0 v1 v2
      have hV2 := (((unhide V6).set 0 (.int .i64 1)).set 1 (.int .i64 x1)).set 2 (.string t)
      simp at hV2
      have y0 := hV2.at 0
      have y1 := hV2.at 1
      have y2 := hV2.at 2
      simp at y0 y1 y2
      have HF := hide ((((unhide HS6).set w.heap.size 0 (.int .i64 1) (Nat.le_refl _) (by omega) hVg).set w.heap.size 1 (.int .i64 x1) (Nat.le_refl _) (by omega) hVg).set w.heap.size 2 (.string t) (Nat.le_refl _) (by omega) hVg)
      clear hV2
      go_wp2
      refine bodyPost_ret (v := rcv ⟨1, x1, t.data.toList⟩) (by simp [results, Tryz.results46, go_sem, y0, y1, y2, bs_back]) rfl ⟨⟨1, x1, t.data.toList⟩, rfl, ⟨bs_len _ _ ht, (show I64 1 from ⟨by decide, by decide⟩), unhide HX⟩, st_on (unhide H0) (unhide HF)⟩
    have r0 := (unhide R5).at 0
    have r1 := (unhide R5).at 1
    have r2 := (unhide R5).at 2
    have v0 := (unhide V5).at 0
    have v1 := (unhide V5).at 1
    have v2 := (unhide V5).at 2
    have g0 := (unhide V5).f 0
    have g1 := (unhide V5).f 1
    have g2 := (unhide V5).f 2
    simp at r0 r1 r2 v0 v1 v2
    have hV2 := (((unhide V5).set 0 (.int .i64 1)).set 1 (.int .i64 x1)).set 2 (.string ⟨#[]⟩)
    simp at hV2
    have y0 := hV2.at 0
    have y1 := hV2.at 1
    have y2 := hV2.at 2
    simp at y0 y1 y2
    have HF := hide ((((unhide HS5).set w.heap.size 0 (.int .i64 1) (Nat.le_refl _) (by omega) hVg).set w.heap.size 1 (.int .i64 x1) (Nat.le_refl _) (by omega) hVg).set w.heap.size 2 (.string ⟨#[]⟩) (Nat.le_refl _) (by omega) hVg)
    clear hV2
    go_wp2
    refine bodyPost_ret (v := rcv ⟨1, x1, []⟩) (by simp [results, Tryz.results46, go_sem, y0, y1, y2, bs_nil]) rfl ⟨⟨1, x1, []⟩, rfl, ⟨Nat.zero_le _, (show I64 1 from ⟨by decide, by decide⟩), unhide HX⟩, st_on (unhide H0) (unhide HF)⟩
  · have HS4 := hide ((unhide HSb).alloc (.cells #[.int .i64 2, .int .i64 0, .string ⟨#[]⟩] 41))
    have V4 := hide ((unhide Vb).al (.cells #[.int .i64 2, .int .i64 0, .string ⟨#[]⟩] 41))
    have R4 := hide (blk_new w4 #[.int .i64 2, .int .i64 0, .string ⟨#[]⟩] 41)
    obtain ⟨W, hW⟩ : ∃ W, w4.alloc (.cells #[.int .i64 2, .int .i64 0, .string ⟨#[]⟩] 41) = W := ⟨_, rfl⟩
    rw [hW] at HS4 V4 R4
    rw [unhide HK] at R4
    have HW := hide hW
    clear hW HSb Vb
    go_wp2_with fail
    rw [unhide HW, unhide HK]
    refine (below_st 16 _ (unhide HS4) (by decide) (by decide)).mono ?_
    rintro e w5 ⟨z, rfl, hz0, hz1, hs, hg⟩
    have HS5 := hide hs
    have V5 := hide ((unhide V4).gby hg hVg)
    have R5 := hide ((unhide R4).gby hg hkg)
    have hz5 : g < w5.heap.size := hs.1.lt
    have hl5 : w.heap.size < w5.heap.size := (unhide V5).lt
    have hm5 : k < w5.heap.size := (unhide R5).lt
    clear hs hg
    by_cases c0 : z = 0
    · subst c0
      have HQ := hide (ints_alloc w5 3 [-1, 3] (by decide))
      go_wp2_with fail
      refine (pickG_st w5.heap.size 2 2 _ ((unhide HS5).alloc _) (unhide HQ) (by omega) (by decide) (by decide)).mono ?_
      rintro e w6 ⟨n, rfl, hn, hs, hg⟩
      have hn0 := hn
      have R6 := hide (((unhide R5).al _).gby hg hkg)
      have q0 := (unhide R6).at 0
      have q1 := (unhide R6).f 0
      simp at q0
      have V6 := hide ((((unhide V5).al _).gby hg hVg).other k 0 (.int .i64 n) hVk)
      have R7 := hide ((unhide R6).set 0 (.int .i64 n))
      have HS6 := hide (hs.set k 0 (.int .i64 n) (by omega) (by omega) hkg)
      clear hs hg HQ
      have r0 := (unhide R7).at 0
      have r1 := (unhide R7).at 1
      have r2 := (unhide R7).at 2
      have v0 := (unhide V6).at 0
      have v1 := (unhide V6).at 1
      have v2 := (unhide V6).at 2
      have g0 := (unhide V6).f 0
      have g1 := (unhide V6).f 1
      have g2 := (unhide V6).f 2
      simp at r0 r1 r2 v0 v1 v2
      have hV2 := (((unhide V6).set 0 (.int .i64 n)).set 1 (.int .i64 0)).set 2 (.string ⟨#[]⟩)
      simp at hV2
      have y0 := hV2.at 0
      have y1 := hV2.at 1
      have y2 := hV2.at 2
      simp at y0 y1 y2
      have HF := hide ((((unhide HS6).set w.heap.size 0 (.int .i64 n) (Nat.le_refl _) (by omega) hVg).set w.heap.size 1 (.int .i64 0) (Nat.le_refl _) (by omega) hVg).set w.heap.size 2 (.string ⟨#[]⟩) (Nat.le_refl _) (by omega) hVg)
      clear hV2
      go_wp2
      refine bodyPost_ret (v := rcv ⟨n, 0, []⟩) (by simp [results, Tryz.results46, go_sem, y0, y1, y2, bs_nil]) rfl ⟨⟨n, 0, []⟩, rfl, ⟨Nat.zero_le _, hn0, (show I64 0 from ⟨by decide, by decide⟩)⟩, st_on (unhide H0) (unhide HF)⟩
    by_cases c1 : z = 1
    · subst c1
      have HQ := hide (ints_alloc w5 3 [0, 1000000000, 1000000001, 999999999] (by decide))
      go_wp2_with fail
      refine (pickG_st w5.heap.size 4 4 _ ((unhide HS5).alloc _) (unhide HQ) (by omega) (by decide) (by decide)).mono ?_
      rintro e w6 ⟨n, rfl, hn, hs, hg⟩
      have hn0 := hn
      have R6 := hide (((unhide R5).al _).gby hg hkg)
      have q0 := (unhide R6).at 1
      have q1 := (unhide R6).f 1
      simp at q0
      have V6 := hide ((((unhide V5).al _).gby hg hVg).other k 1 (.int .i64 n) hVk)
      have R7 := hide ((unhide R6).set 1 (.int .i64 n))
      have HS6 := hide (hs.set k 1 (.int .i64 n) (by omega) (by omega) hkg)
      clear hs hg HQ
      have r0 := (unhide R7).at 0
      have r1 := (unhide R7).at 1
      have r2 := (unhide R7).at 2
      have v0 := (unhide V6).at 0
      have v1 := (unhide V6).at 1
      have v2 := (unhide V6).at 2
      have g0 := (unhide V6).f 0
      have g1 := (unhide V6).f 1
      have g2 := (unhide V6).f 2
      simp at r0 r1 r2 v0 v1 v2
      have hV2 := (((unhide V6).set 0 (.int .i64 2)).set 1 (.int .i64 n)).set 2 (.string ⟨#[]⟩)
      simp at hV2
      have y0 := hV2.at 0
      have y1 := hV2.at 1
      have y2 := hV2.at 2
      simp at y0 y1 y2
      have HF := hide ((((unhide HS6).set w.heap.size 0 (.int .i64 2) (Nat.le_refl _) (by omega) hVg).set w.heap.size 1 (.int .i64 n) (Nat.le_refl _) (by omega) hVg).set w.heap.size 2 (.string ⟨#[]⟩) (Nat.le_refl _) (by omega) hVg)
      clear hV2
      go_wp2
      refine bodyPost_ret (v := rcv ⟨2, n, []⟩) (by simp [results, Tryz.results46, go_sem, y0, y1, y2, bs_nil]) rfl ⟨⟨2, n, []⟩, rfl, ⟨Nat.zero_le _, (show I64 2 from ⟨by decide, by decide⟩), hn0⟩, st_on (unhide H0) (unhide HF)⟩
    by_cases c2 : z = 2
    · subst c2
      go_wp2_with fail
      refine (name_st _ (st_rb (unhide HS5))).mono ?_
      rintro e w6 ⟨t, rfl, ht, hs⟩
      have R6 := hide ((unhide R5).gby hs.2.2.1 hkg)
      have q0 := (unhide R6).at 2
      have q1 := (unhide R6).f 2
      simp at q0
      have V6 := hide (((unhide V5).gby hs.2.2.1 hVg).other k 2 (.string t) hVk)
      have R7 := hide ((unhide R6).set 2 (.string t))
      have HS6 := hide ((st_on (unhide HS5) hs).set k 2 (.string t) (by omega) (by omega) hkg)
      clear hs
      have r0 := (unhide R7).at 0
      have r1 := (unhide R7).at 1
      have r2 := (unhide R7).at 2
      have v0 := (unhide V6).at 0
      have v1 := (unhide V6).at 1
      have v2 := (unhide V6).at 2
      have g0 := (unhide V6).f 0
      have g1 := (unhide V6).f 1
      have g2 := (unhide V6).f 2
      simp at r0 r1 r2 v0 v1 v2
      have hV2 := (((unhide V6).set 0 (.int .i64 2)).set 1 (.int .i64 0)).set 2 (.string t)
      simp at hV2
      have y0 := hV2.at 0
      have y1 := hV2.at 1
      have y2 := hV2.at 2
      simp at y0 y1 y2
      have HF := hide ((((unhide HS6).set w.heap.size 0 (.int .i64 2) (Nat.le_refl _) (by omega) hVg).set w.heap.size 1 (.int .i64 0) (Nat.le_refl _) (by omega) hVg).set w.heap.size 2 (.string t) (Nat.le_refl _) (by omega) hVg)
      clear hV2
      go_wp2
      refine bodyPost_ret (v := rcv ⟨2, 0, t.data.toList⟩) (by simp [results, Tryz.results46, go_sem, y0, y1, y2, bs_back]) rfl ⟨⟨2, 0, t.data.toList⟩, rfl, ⟨bs_len _ _ ht, (show I64 2 from ⟨by decide, by decide⟩), (show I64 0 from ⟨by decide, by decide⟩)⟩, st_on (unhide H0) (unhide HF)⟩
    have r0 := (unhide R5).at 0
    have r1 := (unhide R5).at 1
    have r2 := (unhide R5).at 2
    have v0 := (unhide V5).at 0
    have v1 := (unhide V5).at 1
    have v2 := (unhide V5).at 2
    have g0 := (unhide V5).f 0
    have g1 := (unhide V5).f 1
    have g2 := (unhide V5).f 2
    simp at r0 r1 r2 v0 v1 v2
    have hV2 := (((unhide V5).set 0 (.int .i64 2)).set 1 (.int .i64 0)).set 2 (.string ⟨#[]⟩)
    simp at hV2
    have y0 := hV2.at 0
    have y1 := hV2.at 1
    have y2 := hV2.at 2
    simp at y0 y1 y2
    have HF := hide ((((unhide HS5).set w.heap.size 0 (.int .i64 2) (Nat.le_refl _) (by omega) hVg).set w.heap.size 1 (.int .i64 0) (Nat.le_refl _) (by omega) hVg).set w.heap.size 2 (.string ⟨#[]⟩) (Nat.le_refl _) (by omega) hVg)
    clear hV2
    go_wp2
    refine bodyPost_ret (v := rcv ⟨2, 0, []⟩) (by simp [results, Tryz.results46, go_sem, y0, y1, y2, bs_nil]) rfl ⟨⟨2, 0, []⟩, rfl, ⟨Nat.zero_le _, (show I64 2 from ⟨by decide, by decide⟩), (show I64 0 from ⟨by decide, by decide⟩)⟩, st_on (unhide H0) (unhide HF)⟩
end Go.Proofs.YtkpmocbfedgfhaaGreat

/-
  Logs drawn, and what DrawWrite and DrawGetRec answer, as to their size; walks over the dump.
-/
namespace Go.Proofs.YtkpmocbfedgfhaaGreat
open Go.RowKit
set_option linter.unusedVariables false
set_option linter.unusedSimpArgs false
theorem wrote_len (l : List UInt8) (r : Rc) : (wrote l r).1.length ≤ l.length + 30 := by
  have := entry_len r
  unfold wrote
  split
  · simp
  · simp; omega
set_option maxRecDepth 100000 in
set_option maxHeartbeats 2000000 in
theorem log_st {w0 : World} {B g : Nat} {ao : Option Addr} {len cap : Nat} (w : World) (h : CSt w0 B g ao len cap w) :
    Calls Tryz.prog 16 #[.pointer (some ⟨g, 0, none⟩)] w fun e w' => ∃ t : ByteArray, e = .returned (.string t) ∧ t.size ≤ 400 ∧ CSt w0 B g ao len cap w' := by
  have HS := hide h
  clear h
  go_enter Tryz.func16, Tryz.ntmps16
  go_wp2_with fail
  refine (below_st 10 _ (unhide HS) (by decide) (by decide)).mono ?_
  rintro e w1 ⟨n, rfl, hn0, hn1, hs, hg⟩
  obtain ⟨N, rfl⟩ := Int.eq_ofNat_of_zero_le hn0
  have HS1 := hide hs
  clear hs hg HS
  go_wp2
  go_loopw [3, 5] (fun x j wr => ∃ (i : Nat) (l : List UInt8), i ≤ N ∧ j = .int .i64 (i : Int) ∧ x = .string (bs l) ∧ l.length ≤ 30 * i ∧ Hid (CSt w0 B g ao len cap wr)) (fun _ j _ => N - (intOf j).toNat)
  case atStart => exact ⟨0, [], Nat.zero_le _, rfl, rfl, by simp, HS1⟩
  case round =>
    obtain ⟨i, l, hi, rfl, rfl, hl, HSr⟩ := hrel
    by_cases hlt : i < N
    · go_wp2_with fail
      refine (rec_st _ (unhide HSr)).mono ?_
      rintro e w2 ⟨r, rfl, hr, hs⟩
      have HS2 := hide hs
      have C := hide (specWrite_any l r w2 (by omega) (by have := hr.1; omega))
      have hwl := wrote_len l r
      obtain ⟨⟨o, b⟩, ho⟩ : ∃ o, wrote l r = o := ⟨_, rfl⟩
      rw [ho] at C hwl
      simp only at C hwl
      clear hs hr ho
      go_wp2_with fail
      refine (unhide C).mono ?_
      rintro e w3 ⟨rfl, hb⟩
      have HS3 := hide ((unhide HS2).below hb)
      clear hb
      go_wp2
      go_roundw
      case rel => exact ⟨i + 1, o, by omega, by go_num, rfl, by omega, HS3⟩
      case measure => simp [intOf]; omega
    · have hz := bs_size l
      go_wp2_with fail
      refine (spoil_st _ _ (unhide HSr) (by omega)).mono ?_
      rintro e w2 ⟨t, rfl, ht, hs⟩
      have HS2 := hide hs
      have HT := hide (show t.size ≤ 400 by omega)
      clear hs ht
      go_wp2
      go_ret
      exact ⟨t, rfl, unhide HT, unhide HS2⟩

end Go.Proofs.YtkpmocbfedgfhaaGreat

/-
  Queues and a log, drawn: DrawRecover; a walk over the dump.
-/
namespace Go.Proofs.YtkpmocbfedgfhaaGreat
open Go.RowKit
set_option linter.unusedVariables false
set_option maxRecDepth 100000 in
set_option maxHeartbeats 2000000 in
theorem drawRecover_any (B : Nat) (ao : Option Addr) (len cap : Nat) (w : World) (hcode : Code w B ao len) :
    Calls Tryz.prog 5 #[.slice ao len cap] w fun e w' => ∃ qb n c ls t, e = .returned (.tuple #[.slice (some ⟨qb, 0, none⟩) n c, .string t]) ∧ Hid (QRow w' (some ⟨qb, 0, none⟩) n ls ∧ n ≤ c ∧ n ≤ 1000 ∧ Brief ls ∧ t.size ≤ 400 ∧ Below w.heap.size w w') := by
  have HC := hide hcode
  clear hcode
  go_enter Tryz.func5, Tryz.ntmps5
  go_wp2_with fail
  refine (new_st B ao len cap _ (unhide HC)).mono ?_
  rintro e w1 ⟨rfl, hs1⟩
  have HS1 := hide hs1
  have hsz1 := hs1.1.lt
  clear hs1 HC
  go_wp2_with fail
  refine (queues_st w1 (unhide HS1).rebase).mono ?_
  rintro e w2 ⟨qb, n, c, ls, rfl, HR, ⟨hgq, hn3⟩, hnc, hnk, HBR, HSq⟩
  have HS2 := hide ((unhide HS1).step (unhide HSq).1 (unhide HSq).2.2.1)
  have hqb := (unhide HR).blk_lt (by omega)
  clear HS1 HSq
  go_wp2_with fail
  refine (log_st w2 (unhide HS2).rebase).mono ?_
  rintro e w3 ⟨t, rfl, ht, hs3⟩
  have hg3 := hs3.2.2.1
  have HS3 := hide ((unhide HS2).step hs3.1 hg3)
  have HR3 := hide ((unhide HR).gro hqb hg3 (by intro e; cases e; omega))
  have HT := hide ht
  clear hs3 hg3 HS2 HR ht
  go_wp2
  go_ret2
  exact ⟨qb, n, c, ls, t, rfl, hide ⟨unhide HR3, hnc, hnk, unhide HBR, unhide HT, (unhide HS3).done (by omega)⟩⟩
end Go.Proofs.YtkpmocbfedgfhaaGreat

/-
  How many records are read of a log.
-/
namespace Go.Proofs.YtkpmocbfedgfhaaGreat
open Go.RowKit
set_option linter.unusedVariables false
theorem readF_len (s : ByteArray) : ∀ (n i : Nat) (acc : List Rc), acc.length ≤ i → i ≤ s.size → (readF s n i acc).1.length ≤ s.size
  | 0, i, acc, h1, h2 => by rw [readF]; simp only; omega
  | n + 1, i, acc, h1, h2 => by
    by_cases hd : s.size ≤ i
    · rw [readF_done hd]; simp only; omega
    · cases hx : readEntry s i with
      | none => rw [readF_none hx]; simp only; omega
      | some y =>
        obtain ⟨r, j⟩ := y
        have he := entry_on hx
        rw [readF_some (by omega) hx]
        exact readF_len s n j.toNat _ (by simp; omega) (by omega)
theorem readV_len (s : ByteArray) : (readV s).1.length ≤ 60000 := by
  unfold readV
  split
  · simp
  · have := readF_len s (s.size + 1) 0 [] (by simp) (by omega)
    omega
end Go.Proofs.YtkpmocbfedgfhaaGreat

/-
  What FnRecover holds: a state in a box, what is true of it.
-/
namespace Go.Proofs.YtkpmocbfedgfhaaGreat
open Go.RowKit
set_option linter.unusedVariables false
/-- a box bears a state -/
structure StB (w : World) (b : Nat) (y : Sls) (s : St) : Prop where
  box : Blk w b (svc y s) 31
  row : SRow w y s
  cap : y.ql ≤ y.qc
theorem StB.below {w w' : World} {b : Nat} {y : Sls} {s : St} (h : StB w b y s) (hb : Below w.heap.size w w') : StB w' b y s := ⟨h.box.below hb, h.row.below hb, h.cap⟩
theorem StB.new {B : Nat} {w : World} {y : Sls} {s : St} {hs : List AV} (h : SHas B w y s hs) : StB (w.alloc (.cells (svc y s) 31)) w.heap.size y s := ⟨blk_new _ _ _, h.ans.row.below (below_al (Below.refl _ w) _), h.cap.q⟩
theorem StB.read {w : World} {b : Nat} {y : Sls} {s : St} (h : StB w b y s) : w.cell? ⟨b, 0, none⟩ = some (.slice y.qa y.ql y.qc) ∧ w.cell? ⟨b, 1, none⟩ = some (.int .i64 s.clock) ∧ w.cell? ⟨b, 2, none⟩ = some (.int .i64 s.epoch) ∧ w.cell? ⟨b, 3, none⟩ = some (.int .i64 s.next) ∧ w.cell? ⟨b, 4, none⟩ = some (.int .i64 s.serial) ∧ w.cell? ⟨b, 5, none⟩ = some (.slice y.aa y.al y.ac) ∧ w.cell? ⟨b, 6, none⟩ = some (.slice y.ma y.ml y.mc) ∧ w.cell? ⟨b, 7, none⟩ = some (.slice y.ca y.cl y.cc) :=
  ⟨h.box.at 0, h.box.at 1, h.box.at 2, h.box.at 3, h.box.at 4, h.box.at 5, h.box.at 6, h.box.at 7⟩
theorem wf_small {x : Int} (h0 : -1000000000000 ≤ x) (h1 : x ≤ 1000000000000) : (Lit.int .i64 x).wf = true := by
  simp only [Lit.wf, Bool.and_eq_true, decide_eq_true_eq]
  exact ⟨Int.le_trans (by decide) h0, Int.le_trans h1 (by decide)⟩
theorem apps_wf {l : List Q} {nx : Int} (hn : nx ≤ 1000000000) : ∀ (t : List Appl) (last : Int), 0 ≤ last → appsFrom l nx last t = true → ∀ a ∈ t, (Lit.int .i64 a.id).wf = true
  | [], _, _, _ => by simp
  | a :: t, last, h0, h1 => by
    simp only [appsFrom, Bool.and_eq_true, decide_eq_true_eq] at h1
    intro x hx
    rcases List.mem_cons.1 hx with rfl | hx
    · exact wf_small (by omega) (by omega)
    · exact apps_wf hn t a.id (by omega) h1.2.2.2.2 x hx
theorem rinv_wf {l : List Q} {s : St} (h : RInv l s) : WfSt s := by
  refine ⟨apps_wf (l := l) (nx := s.next) (by have := h.n2; have := h.e2; omega) s.apps 0 (Int.le_refl _) h.ap, ?_⟩
  rw [h.cs]
  simp
theorem rec_wf {r : Rc} (h : recOk r = true) : (Lit.int .i64 r.app).wf = true := by
  unfold recOk at h
  split at h
  · simp [inB] at h; exact wf_small (by omega) (by omega)
  · split at h
    · simp [inB] at h; exact wf_small (by omega) (by omega)
    · split at h
      · simp at h; exact wf_small (by omega) (by omega)
      · cases h
end Go.Proofs.YtkpmocbfedgfhaaGreat

/-
  The code that a law takes: a slice of bytes that came in.
-/
namespace Go.Proofs.YtkpmocbfedgfhaaGreat
open Go.RowKit
set_option linter.unusedVariables false
/-- nil, or a row of cap cells of which the first len are its elements -/
def IsRow (w : World) (a : Option Addr) (len cap : Nat) (zs : List Int) : Prop :=
  (a = none ∧ len = 0 ∧ cap = 0 ∧ zs = []) ∨
  ∃ x, a = some x ∧ len ≤ cap ∧ cap ≤ maxLen ∧ zs.length = cap ∧ (∀ i, i < zs.length → w.cell? (x.add i) = some (.int .u8 (zs.getD i 0))) ∧ ∀ n ∈ zs, (Lit.int .u8 n).wf = true
theorem IsRow.len {w : World} {a : Option Addr} {len cap : Nat} {zs : List Int} (h : IsRow w a len cap zs) : len ≤ 9223372036854775807 := by
  rcases h with ⟨_, h0, _⟩ | ⟨x, rfl, h1, h2, _⟩
  · omega
  · unfold maxLen at h2; omega
theorem code_of {w : World} {a : Option Addr} {len cap : Nat} {zs : List Int} (h : IsRow w a len cap zs) (hl : len ≤ 1048576) : Code w w.heap.size a len := by
  refine ⟨Nat.le_refl _, hl, ?_⟩
  rcases h with ⟨_, h0, _⟩ | ⟨x, rfl, h1, h2, h3, h4, h5⟩
  · exact .inl h0
  · by_cases h0 : len = 0
    · exact .inl h0
    · refine .inr ?_
      obtain ⟨b, off, spot⟩ := x
      have hc0 := h4 0 (by omega)
      have hspot : spot = none := by simpa [Addr.add] using World.cell?_spot hc0
      subst hspot
      rw [Lib.add_plain] at hc0
      refine ⟨b, off, fun j => (zs.getD j 0), rfl, cell_lt hc0, fun j hj => ?_, fun j => ?_⟩
      · have := h4 j (by omega)
        rw [Lib.add_plain] at this
        exact this
      · by_cases hj : j < zs.length
        · have hw := h5 zs[j] (List.getElem_mem hj)
          have hb := bounds_u8 hw
          simp only [List.getD_eq_getElem?_getD, List.getElem?_eq_getElem hj, Option.getD_some]
          omega
        · simp only [List.getD_eq_getElem?_getD, List.getElem?_eq_none (Nat.le_of_not_lt hj), Option.getD_none]; omega
def bigB (len : Nat) : Bool := decide (1048576 < (len : Int))
set_option maxHeartbeats 400000 in
theorem big_any (a : Option Addr) (len cap : Nat) (w : World) (h : len ≤ 9223372036854775807) :
    Calls Tryz.prog 4 #[.slice a len cap] w fun e w' => e = .returned (.bool (bigB len)) ∧ w = w' := by
  go_enter Tryz.func4, Tryz.ntmps4
  go_wp2
  go_ret
  exact ⟨rfl, rfl⟩
end Go.Proofs.YtkpmocbfedgfhaaGreat

/-
  A region that draws its order: a part of what is held of the world is asked for only until one operation, X, has come up: so a cell that is loaded ahead of X may be stored into behind it.
-/
namespace Go.Proofs.YtkpmocbfedgfhaaGreat
open Go.RowKit
set_option linter.unusedVariables false

/-- behind each operation S holds, and ahead of X also T -/
def wpAnyX (P : Program) (md : Region.Mode) (ops : Array Oper) (Q : Exit → Act → World → Prop) (X : Nat) (S T : World → Prop) : Nat → Array Bool → Act → World → Prop
  | 0, listed, a, w => Region.ready md ops listed = [] ∧ Q .normal a w
  | fuel + 1, listed, a, w => (Region.ready md ops listed = [] → Q .normal a w) ∧
    ∀ i ∈ Region.ready md ops listed, wpOp P ops Q i (fun a' w' => S w' ∧ ((listed.setIfInBounds i true).getD X false = false → T w') ∧ wpAnyX P md ops Q X S T fuel (listed.setIfInBounds i true) a' w') a w
section
variable {P : Program} {ops : Array Oper} {Q : Exit → Act → World → Prop} {md : Region.Mode} {X : Nat} {S T : World → Prop}
theorem wpAny_of_x : ∀ (fuel : Nat) (listed : Array Bool) (a : Act) (w : World), wpAnyX P md ops Q X S T fuel listed a w → wpAny P md ops Q fuel listed a w
  | 0, _, _, _, h => h
  | fuel + 1, _, _, _, h => ⟨h.1, fun i hi => wpOp_mono (fun a' w' h' => wpAny_of_x fuel _ a' w' h'.2.2) (h.2 i hi)⟩
theorem wp_region_x {id : Nat} {a : Act} {w : World} (X : Nat) (S T : World → Prop) (hm : P.follows .mixedOrders = true) (h1 : S w.drew) (h2 : T w.drew)
    (h : S w.drew → T w.drew → wpAnyX P .any ops Q X S T ops.size (Array.replicate ops.size false) a w.drew) : (Code.region id ops true).wp P Q a w :=
  wp_region_any hm (wpAny_of_x _ _ _ _ (h h1 h2))
/-- behind X what is held is S alone -/
theorem wpAnyX_on : ∀ (fuel : Nat) (listed : Array Bool) (a : Act) (w : World), listed.getD X false = true → wpAnyH P md ops Q S fuel listed a w → wpAnyX P md ops Q X S T fuel listed a w
  | 0, _, _, _, _, h => h
  | fuel + 1, _, _, _, hX, h => ⟨h.1, fun i hi => wpOp_mono (fun a' w' h' => ⟨h'.1, (fun e => by rw [getD_set_true hX] at e; cases e), wpAnyX_on fuel _ a' w' (getD_set_true hX) h'.2⟩) (h.2 i hi)⟩
theorem wpAnyX_first {i : Nat} {oi : Oper} {v : Value} {U : World → Prop} (hi : ops[i]? = some oi) (hsel : ∀ (j : Nat) (o : Oper) cs b, ops[j]? = some o → o.op ≠ .select cs b) (hXi : i ≠ X)
    (hQ : ∀ c a w, Q (.panic c) (a.put oi.dst v) w → Q (.panic c) a w)
    (c : Bool) (hU1 : c = true → ∀ w, S w → U w) (hU2 : c = false → (∀ w, T w → U w) ∧ ∃ ox, ops[X]? = some ox ∧ ∃ e ∈ ox.after, Region.binds md e = true ∧ e.on = i) :
    ∀ (fuel : Nat) (listed : Array Bool) (a : Act) (w : World),
      (∀ j oj, ops[j]? = some oj → j ≠ i → listed.getD j true = false → (∀ e ∈ oj.after, Region.binds md e = true → e.on ≠ i) → oi.apart ops oj = true) →
      i ∈ Region.ready md ops listed → YieldsIf P ops U oi v a → (c = false → listed.getD X false = false) → S w → (listed.getD X false = false → T w) →
      wpAnyX P md ops Q X S T fuel (listed.setIfInBounds i true) (a.put oi.dst v) w → wpAnyX P md ops Q X S T (fuel + 1) listed a w := by
  have hw : ∀ (listed : Array Bool) w, (c = false → listed.getD X false = false) → S w → (listed.getD X false = false → T w) → U w := fun listed w h0 h1 h2 => by
    cases c
    · exact (hU2 rfl).1 w (h2 (h0 rfl))
    · exact hU1 rfl w h1
  intro fuel
  induction fuel with
  | zero =>
    intro listed a w _ hr hy hX h1 h2 H
    refine ⟨fun h => (by rw [h] at hr; cases hr), fun j hj => ?_⟩
    by_cases hji : j = i
    · subst hji; exact hy.wpOp hi (hw listed w hX h1 h2) ⟨h1, fun e => h2 (by rwa [getD_set_ne false hXi] at e), H⟩
    · have := ready_mono hj hji
      rw [H.1] at this
      cases this
  | succ fuel ih =>
    intro listed a w hfree hr hy hX h1 h2 H
    refine ⟨fun h => (by rw [h] at hr; cases hr), fun j hj => ?_⟩
    by_cases hji : j = i
    · subst hji; exact hy.wpOp hi (hw listed w hX h1 h2) ⟨h1, fun e => h2 (by rwa [getD_set_ne false hXi] at e), H⟩
    · have k1 := H.2 j (ready_mono hj hji)
      obtain ⟨hjun, oj, hoj, hall⟩ := mem_ready.1 hj
      have hnot : ∀ e ∈ oj.after, Region.binds md e = true → e.on ≠ i := fun e he hb heq => by
        have q1 := hall e he hb
        have q0 := (mem_ready.1 hr).1
        rw [heq] at q1
        rcases Nat.lt_or_ge i listed.size with h' | h'
        · simp [h'] at q0 q1; rw [q0] at q1; cases q1
        · simp [Array.getElem?_eq_none h'] at q1
      have k2 := wpOp_putIf hoj (hfree j oj hoj hji hjun hnot) (fun cs b => hsel i oi cs b hi) (fun cs b => hsel j oj cs b hoj) hQ hy k1
      have hfree' : ∀ k ok, ops[k]? = some ok → k ≠ i → (listed.setIfInBounds j true).getD k true = false →
          (∀ e ∈ ok.after, Region.binds md e = true → e.on ≠ i) → oi.apart ops ok = true := fun k ok hk hki hun hno => by
        refine hfree k ok hk hki ?_ hno
        by_cases hjk : j = k
        · subst hjk; exact hjun
        · rw [getD_set_ne true hjk] at hun; exact hun
      refine wpOp_mono (fun a' w' h3 => ?_) k2
      obtain ⟨y1, s1, t1, H1⟩ := h3
      rw [Array.setIfInBounds_comm _ _ (Ne.symm hji)] at H1
      have t2 : (listed.setIfInBounds j true).getD X false = false → T w' := fun e => by
        refine t1 ?_
        by_cases hjX : j = X
        · subst hjX
          rw [Array.setIfInBounds_comm _ _ (Ne.symm hji), getD_set_ne false hXi]
          exact e
        · rw [getD_set_ne false hjX, getD_set_ne false hXi]
          rw [getD_set_ne false hjX] at e
          exact e
      refine ⟨s1, t2, ih (listed.setIfInBounds j true) a' w' hfree' (ready_mono hr (Ne.symm hji)) y1 (fun hc => ?_) s1 t2 H1⟩
      have hjX : j ≠ X := fun e => by
        subst e
        obtain ⟨_, ox, hox, e, he, hb, heq⟩ := hU2 hc
        rw [hox] at hoj
        cases hoj
        exact hnot e he hb heq
      rw [getD_set_ne false hjX]
      exact hX hc
/-- does X wait for i -/
def waitsOn (md : Region.Mode) (ops : Array Oper) (X i : Nat) : Bool := ((ops[X]?).map fun o => o.after.any fun e => Region.binds md e && e.on == i).getD false
theorem waits_spec {i : Nat} (h : waitsOn md ops X i = true) : ∃ ox, ops[X]? = some ox ∧ ∃ e ∈ ox.after, Region.binds md e = true ∧ e.on = i := by
  unfold waitsOn at h
  cases ho : ops[X]? with
  | none => rw [ho] at h; simp at h
  | some o =>
    rw [ho] at h
    simp only [Option.map_some, Option.getD_some] at h
    obtain ⟨e, he, hb⟩ := Array.any_eq_true'.1 h
    simp only [Bool.and_eq_true, beq_iff_eq] at hb
    exact ⟨o, rfl, e, he, hb.1, hb.2⟩
/-- one that yields wherever S holds is taken first -/
theorem takeXS {oi : Oper} {fuel : Nat} {listed : Array Bool} {a : Act} {w : World} (i d : Nat) (v : Value) (hi : ops[i]? = some oi) (hd : oi.dst = some d) (hS : S w) (hT : T w)
    (h : wpAnyX P md ops Q X S T fuel (listed.setIfInBounds i true) (a.put (some d) v) w)
    (hy : YieldsIf P ops S oi v a := by exact Or.inl ⟨by rfl, fun wz hz => by (go_simp; try with_reducible rfl)⟩)
    (hs : Region.noSelect ops = true := by kernel_rfl) (hf : Region.free md ops listed i = true := by kernel_rfl) (hr : (Region.ready md ops listed).contains i = true := by kernel_rfl) (hX : (i != X) = true := by kernel_rfl)
    (hQ : ∀ c a w, Q (.panic c) (a.put (some d) v) w → Q (.panic c) a w := by exact fun _ _ _ h => h) : wpAnyX P md ops Q X S T (fuel + 1) listed a w := by
  rw [← hd] at h hQ
  exact wpAnyX_first hi (Region.noSelect_spec hs) (by simpa using hX) hQ true (fun _ _ h => h) (fun e => by cases e) fuel listed a w (Region.free_spec hi hf) (by simpa using hr) hy (fun e => by cases e) hS (fun _ => hT) h
/-- one that yields wherever T holds, and that X waits for, is taken first -/
theorem takeXT {oi : Oper} {fuel : Nat} {listed : Array Bool} {a : Act} {w : World} (i d : Nat) (v : Value) (hi : ops[i]? = some oi) (hd : oi.dst = some d) (hS : S w) (hT : T w)
    (h : wpAnyX P md ops Q X S T fuel (listed.setIfInBounds i true) (a.put (some d) v) w)
    (hy : YieldsIf P ops T oi v a := by exact Or.inl ⟨by rfl, fun wz hz => by (go_simp; try with_reducible rfl)⟩)
    (hs : Region.noSelect ops = true := by kernel_rfl) (hf : Region.free md ops listed i = true := by kernel_rfl) (hr : (Region.ready md ops listed).contains i = true := by kernel_rfl) (hX : (i != X) = true := by kernel_rfl)
    (hw : waitsOn md ops X i = true := by kernel_rfl) (hl : listed.getD X false = false := by kernel_rfl)
    (hQ : ∀ c a w, Q (.panic c) (a.put (some d) v) w → Q (.panic c) a w := by exact fun _ _ _ h => h) : wpAnyX P md ops Q X S T (fuel + 1) listed a w := by
  rw [← hd] at h hQ
  exact wpAnyX_first hi (Region.noSelect_spec hs) (by simpa using hX) hQ false (fun e => by cases e) (fun _ => ⟨fun _ h => h, waits_spec hw⟩) fuel listed a w (Region.free_spec hi hf) (by simpa using hr) hy (fun _ => hl) hS (fun _ => hT) h
def AllReadyX (P : Program) (md : Region.Mode) (ops : Array Oper) (Q : Exit → Act → World → Prop) (X : Nat) (S T : World → Prop) (fuel : Nat) (listed : Array Bool) (a : Act) (w : World) (rs : List Nat) : Prop :=
  ∀ i ∈ rs, wpOp P ops Q i (fun a' w' => S w' ∧ ((listed.setIfInBounds i true).getD X false = false → T w') ∧ wpAnyX P md ops Q X S T fuel (listed.setIfInBounds i true) a' w') a w
theorem AllReadyX.nil {fuel : Nat} {listed : Array Bool} {a : Act} {w : World} : AllReadyX P md ops Q X S T fuel listed a w [] := fun _ h => by cases h
theorem AllReadyX.cons {fuel : Nat} {listed : Array Bool} {a : Act} {w : World} {i : Nat} {o : Oper} {rs : List Nat} (ho : ops[i]? = some o)
    (h : ∀ K' : Act → World → Prop, Shut (∀ a w, S w → ((listed.setIfInBounds i true).getD X false = false → T w) → wpAnyX P md ops Q X S T fuel (listed.setIfInBounds i true) a w → K' a w) → if Region.wanted o (yielded ops a.tmps) = true then Oper.wp P o a w K' Q else K' (a.put o.dst undef) w)
    (hs : AllReadyX P md ops Q X S T fuel listed a w rs) : AllReadyX P md ops Q X S T fuel listed a w (i :: rs) := fun j hj => by
  rcases List.mem_cons.1 hj with rfl | hj
  · exact wpOp_step ho (fun K' hK => h K' (fun a w h1 h2 h3 => hK a w ⟨h1, h2, h3⟩))
  · exact hs j hj
theorem wpAnyX_ready {fuel : Nat} {listed : Array Bool} {a : Act} {w : World} (rs : List Nat) (h : AllReadyX P md ops Q X S T fuel listed a w rs) (hr : Region.ready md ops listed = rs := by kernel_rfl) (hne : (rs != []) = true := by kernel_rfl) : wpAnyX P md ops Q X S T (fuel + 1) listed a w :=
  ⟨fun h0 => absurd (hr ▸ h0) (by simpa using hne), hr ▸ h⟩
/-- an operation whose run is known -/
theorem readyV {o : Oper} {a : Act} {w w' : World} {K : Act → World → Prop} {v : Value} (d : Nat) (hw : Region.wanted o (yielded ops a.tmps) = true) (hd : o.dst = some d) (hr : (execOp a.eval o).run P w = .ok (.value v) w') (h : K (a.put (some d) v) w') : if Region.wanted o (yielded ops a.tmps) = true then Oper.wp P o a w K Q else K (a.put o.dst undef) w := by
  rw [← hd] at h
  rw [if_pos hw]
  unfold Oper.wp
  rw [hr]
  exact h
theorem readyU {o : Oper} {a : Act} {w w' : World} {K : Act → World → Prop} (hw : Region.wanted o (yielded ops a.tmps) = true) (hd : o.dst = none) (hr : (execOp a.eval o).run P w = .ok .skip w') (h : K (a.put none undef) w') : if Region.wanted o (yielded ops a.tmps) = true then Oper.wp P o a w K Q else K (a.put o.dst undef) w := by
  rw [← hd] at h
  rw [if_pos hw]
  unfold Oper.wp
  rw [hr]
  exact h
theorem exec_append {a : Act} {o : Oper} {w w' : World} {s x : Operand} {t : TypeId} {v vs vx : Value} (ho : o.op = .call { callee := .builtin .append, args := #[s, x], argTypes := #[t, t] }) (hs : a.eval s = vs) (hx : a.eval x = vx) (hrun : (Builtin.append_ #[t, t] o.type #[vs, vx]).run P w = .ok v w') : (execOp a.eval o).run P w = .ok (.value v) w' := by
  simp [execOp, ho, resolve, invoke, builtin, hs, hx, hrun, Result.andThen]
end
end Go.Proofs.YtkpmocbfedgfhaaGreat

/-
  A store into one cell of a block that is known, and of a whole struct into its variable: what they leave.
-/
namespace Go.Proofs.YtkpmocbfedgfhaaGreat
open Go.RowKit
theorem put_cell {P : Program} {w : World} {b j : Nat} {arr : Array Value} {t : TypeId} (ty : TypeId) (v : Value) (h : Blk w b arr t) (hj : j < arr.size) (hi : (P.info? ty).map (·.size) = some 1) (h1 : v.oneCell' = true) :
    (Instr.storeAt ty (.pointer (some ⟨b, j, none⟩)) v).run P w = .ok () (w.setCell ⟨b, j, none⟩ v) := by
  have c1 : w.cell? ⟨b, j, none⟩ = some arr[j] := by rw [h.at]; simp [hj]
  have f1 := h.f j
  have hs := run_storeCells_cells (P := P) b j [v] 0 w (fun i hi => by simp at hi; subst hi; simp [c1]) (fun i hi => by simp at hi; subst hi; simpa using f1) (fun u hu => by simp at hu; subst hu; exact h1)
  simp only [Nat.add_zero] at hs
  have hc : v.cells = #[v] := by cases v <;> first | rfl | cases h1
  cases hq : P.info? ty with
  | none => simp [hq] at hi
  | some i =>
    have hz : i.size = 1 := by simpa [hq] using hi
    simp [Instr.storeAt, Instr.sureAddr, storeVar, sizeOf, typeInfo, hq, hc, hz, hs]
    rfl
theorem blk_store {P : Program} {w : World} {b : Nat} {old arr : Array Value} {t : TypeId} (ty : TypeId) (h : Blk w b old t) (hi : (P.info? ty).map (·.size) = some arr.size) (ho : old.size = arr.size) (h1 : arr.all (·.oneCell') = true) :
    (Instr.storeAt ty (.pointer (some ⟨b, 0, none⟩)) (.agg arr)).run P w = .ok () (w.setRow b arr) := by
  simp only [Instr.storeAt, Instr.sureAddr, Sem.run_bind, Sem.run_pure, Result.andThen]
  exact run_storeVar_row w b t ty old arr h hi ho h1
end Go.Proofs.YtkpmocbfedgfhaaGreat
