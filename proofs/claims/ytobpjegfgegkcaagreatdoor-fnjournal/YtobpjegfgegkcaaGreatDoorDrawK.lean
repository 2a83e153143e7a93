/-
  Logs drawn, and what DrawWrite and DrawGetRec answer, as to their size; walks over the dump.
-/
import Derived.Test.YtobpjegfgegkcaaGreatDoorDrawJ
namespace Go.Proofs.YtobpjegfgegkcaaGreatDoor
open Go.RowKit
set_option linter.unusedVariables false
set_option linter.unusedSimpArgs false
theorem wrote_len (l : List UInt8) (r : Rc) : (wrote l r).1.length ≤ l.length + 30 := by
  have := entry_len r
  unfold wrote
  split
  · simp
  · simp; omega
theorem putRec_small (r : Rc) : (bs (putRec r)).size ≤ 21 := by rw [bs_size]; exact putRec_len

set_option maxRecDepth 100000 in
set_option maxHeartbeats 2000000 in
theorem log_st {w0 : World} {B g : Nat} {ao : Option Addr} {len cap : Nat} (w : World) (h : CSt w0 B g ao len cap w) :
    Calls Tryz.prog 19 #[.pointer (some ⟨g, 0, none⟩)] w fun e w' => ∃ t : ByteArray, e = .returned (.string t) ∧ t.size ≤ 400 ∧ CSt w0 B g ao len cap w' := by
  have HS := hide h
  clear h
  go_enter Tryz.func19, Tryz.ntmps19
  go_wp2_with fail
  refine (below_st 10 _ (unhide HS) (by decide) (by decide)).mono ?_
  rintro e w1 ⟨n, rfl, hn0, hn1, hs, hg⟩
  obtain ⟨N, rfl⟩ := Int.eq_ofNat_of_zero_le hn0
  have HS1 := hide hs
  clear hs hg HS
  go_wp2
  go_loopw [3, 5] (fun x j wr => ∃ (i : Nat) (l : List UInt8), i ≤ N ∧ j = .int .i64 (i : Int) ∧ x = .string (bs l) ∧ l.length ≤ 30 * i ∧ Hid (CSt w0 B g ao len cap wr)) (fun _ j _ => N - (intOf j).toNat)
  case atStart => exact ⟨0, [], Nat.zero_le _, rfl, rfl, by simp, HS1⟩
  case round =>
    obtain ⟨i, l, hi, rfl, rfl, hl, HSr⟩ := hrel
    by_cases hlt : i < N
    · go_wp2_with fail
      refine (rec_st _ (unhide HSr)).mono ?_
      rintro e w2 ⟨r, rfl, hr, hs⟩
      have HS2 := hide hs
      have C := hide (specWrite_any l r w2 (by omega) (by have := hr.1; omega))
      have hwl := wrote_len l r
      obtain ⟨⟨o, b⟩, ho⟩ : ∃ o, wrote l r = o := ⟨_, rfl⟩
      rw [ho] at C hwl
      simp only at C hwl
      clear hs hr ho
      go_wp2_with fail
      refine (unhide C).mono ?_
      rintro e w3 ⟨rfl, hb⟩
      have HS3 := hide ((unhide HS2).below hb)
      clear hb
      go_wp2
      go_roundw
      case rel => exact ⟨i + 1, o, by omega, by go_num, rfl, by omega, HS3⟩
      case measure => simp [intOf]; omega
    · have hz := bs_size l
      go_wp2_with fail
      refine (spoil_st _ _ (unhide HSr) (by omega)).mono ?_
      rintro e w2 ⟨t, rfl, ht, hs⟩
      have HS2 := hide hs
      have HT := hide (show t.size ≤ 400 by omega)
      clear hs ht
      go_wp2
      go_ret
      exact ⟨t, rfl, unhide HT, unhide HS2⟩

set_option maxRecDepth 100000 in
set_option maxHeartbeats 2000000 in
theorem drawGetRec_any (B : Nat) (ao : Option Addr) (len cap : Nat) (w : World) (hcode : Code w B ao len) (hB : B ≤ w.heap.size) :
    Calls Tryz.prog 9 #[.slice ao len cap] w fun e w' => ∃ t : ByteArray, e = .returned (.string t) ∧ t.size ≤ 400 ∧ Below w.heap.size w w' := by
  have C0 := hide (new_st B ao len cap w hcode)
  clear hcode
  go_enter Tryz.func9, Tryz.ntmps9
  go_wp2_with fail
  refine (unhide C0).mono ?_
  rintro e w1 ⟨rfl, hs⟩
  have HS1 := hide hs
  clear hs
  go_wp2_with fail
  refine (rec_st _ (unhide HS1)).mono ?_
  rintro e w2 ⟨r, rfl, hr, hs⟩
  have HS2 := hide hs
  have C := hide (specPutRec_any r w2 (by have := hr.1; omega))
  have hz := putRec_small r
  obtain ⟨o, ho⟩ : ∃ o, bs (putRec r) = o := ⟨_, rfl⟩
  rw [ho] at C hz
  clear hs hr ho
  go_wp2_with fail
  refine (unhide C).mono ?_
  rintro e w3 ⟨rfl, hb⟩
  have HS3 := hide ((unhide HS2).below hb)
  clear hb
  go_wp2_with fail
  refine (spoil_st _ _ (unhide HS3) (by omega)).mono ?_
  rintro e w4 ⟨t, rfl, ht, hs⟩
  have HB := hide (hs.done (Nat.le_refl _))
  have HT := hide (show t.size ≤ 400 by omega)
  clear hs ht
  go_wp2
  go_ret
  exact ⟨t, rfl, unhide HT, unhide HB⟩

set_option maxRecDepth 100000 in
set_option maxHeartbeats 2000000 in
theorem drawWrite_any (B : Nat) (ao : Option Addr) (len cap : Nat) (w : World) (hcode : Code w B ao len) (hB : B ≤ w.heap.size) :
    Calls Tryz.prog 5 #[.slice ao len cap] w fun e w' => ∃ (t : ByteArray) (r : Rc), e = .returned (.tuple #[.string t, rcv r]) ∧ t.size ≤ 400 ∧ RcD r ∧ Below w.heap.size w w' := by
  have C0 := hide (new_st B ao len cap (w.alloc (.cells #[.int .i64 0, .int .i64 0, .string ⟨#[]⟩] 25)) (hcode.below (below_al (Below.refl _ w) _) hB))
  have V0 := hide (blk_new w #[.int .i64 0, .int .i64 0, .string ⟨#[]⟩] 25)
  have HB0 := hide (below_al (Below.refl _ w) (.cells #[.int .i64 0, .int .i64 0, .string ⟨#[]⟩] 25))
  simp only [al_size] at C0
  clear hcode
  go_enter Tryz.func5, Tryz.ntmps5
  go_wp2_with fail
  refine (unhide C0).mono ?_
  rintro e w1 ⟨rfl, hs⟩
  have HS1 := hide hs
  clear hs
  go_wp2_with fail
  refine (log_st _ (unhide HS1)).mono ?_
  rintro e w2 ⟨t, rfl, ht, hs⟩
  have HS2 := hide hs
  have HT := hide ht
  clear hs ht
  go_wp2_with fail
  refine (rec_st _ (unhide HS2)).mono ?_
  rintro e w3 ⟨r, rfl, hr, hs⟩
  have HR := hide hr
  have V3 := hide ((unhide V0).gby hs.2.2.1 (by omega))
  have HB3 := hide (below_on (unhide HB0) (hs.done (by simp)))
  obtain ⟨rk, ra, rq⟩ := r
  have v0 := (unhide V3).at 0
  have v1 := (unhide V3).at 1
  have v2 := (unhide V3).at 2
  have g0 := (unhide V3).f 0
  have g1 := (unhide V3).f 1
  have g2 := (unhide V3).f 2
  simp at v0 v1 v2
  have hV2 := (((unhide V3).set 0 (.int .i64 rk)).set 1 (.int .i64 ra)).set 2 (.string (bs rq))
  simp at hV2
  have y0 := hV2.at 0
  have y1 := hV2.at 1
  have y2 := hV2.at 2
  simp at y0 y1 y2
  clear hs hr hV2
  go_wp2
  refine bodyPost_ret (v := .tuple #[.string t, rcv ⟨rk, ra, rq⟩]) (by simp [results, Tryz.results5, go_sem, y0, y1, y2]) rfl ⟨t, ⟨rk, ra, rq⟩, rfl, unhide HT, unhide HR, ?_⟩
  exact below_sc (below_sc (below_sc (unhide HB3) _ _ _ (Nat.le_refl _)) _ _ _ (Nat.le_refl _)) _ _ _ (Nat.le_refl _)
end Go.Proofs.YtobpjegfgegkcaaGreatDoor
