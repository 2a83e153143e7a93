/-
  What all machines can together, by the program: Total; walks over the dump.
-/
import Derived.Test.YtgallgdmedfgmaaSumI4
import Derived.Test.YtgallgdmedfgmaaCaps
namespace Go.Proofs.Ytgallgdmedfgmaa
open Go.RowKit
set_option linter.unusedVariables false

set_option maxRecDepth 100000 in
set_option maxHeartbeats 2000000 in
theorem caps_any (x : Sls) (s : St) (w : World) (h : MacRow w x.ma x.ml s.ms) (hl : x.ml ≤ 1048576) :
    Calls Try.prog 65 #[sv x s] w fun e w' => e = .returned (.tuple #[rv (sumR (capsOf s.ms)).1 (sumR (capsOf s.ms)).2.1, .bool (sumR (capsOf s.ms)).2.2]) ∧ Below w.heap.size w w' := by
  obtain ⟨i0, hi, hz0, hz1, hz2⟩ := info_parts Try.infoR
  obtain ⟨qa, ql, qc, aa, al, ac, ma, ml, mc, ca, cl, cc⟩ := x
  obtain ⟨qs, clock, epoch, next, serial, apps, ms, cs⟩ := s
  simp only at h hl ⊢
  have HR := hide h
  have HL := hide h.1
  obtain ⟨c, hc⟩ : ∃ c : Array Value, #[.slice qa ql qc, .int .i64 clock, .int .i64 epoch, .int .i64 next, .int .i64 serial, .slice aa al ac, .slice ma ml mc, .slice ca cl cc] = c := ⟨_, rfl⟩
  have HC := hide hc
  have HB0 := hide (capW_below w c)
  have V0 := hide (capW_var w c)
  have hW := capW_size w c
  have HW := hide hW
  clear h hc hW
  obtain ⟨⟨sx, sy, so⟩, hs⟩ : ∃ s, sumR (capsOf ms) = s := ⟨_, rfl⟩
  have HS := hide hs
  rw [hs]
  clear hs
  go_enter Try.func65, Try.ntmps65
  go_wp2
  go_loopw [4, 10] (fun v i wr => ∃ (k : Nat), k ≤ ml ∧ i = .int .i64 k ∧ Hid (ROwn (capW w c).heap.size wr v (capsOf (ms.take k))) ∧ Hid (Below (capW w c).heap.size (capW w c) wr)) (fun _ i _ => ml - (intOf i).toNat)
  case atStart =>
    obtain rfl := unhide HC
    exact ⟨0, Nat.zero_le _, rfl, hide (by simpa [capsOf] using rown_nil _ _), hide (Below.refl _ _)⟩
  case round =>
    obtain ⟨k, hk, rfl, HO, HB⟩ := hrel
    by_cases hlt : k < ml
    · obtain ⟨b, off, rfl, hq⟩ := (((unhide HR).below (unhide HB0)).below (unhide HB)).at hlt
      have hkl : k < ms.length := by have := unhide HL; omega
      have hst := hide (capsOf_step hkl)
      obtain ⟨c0, c1, c2, c3⟩ := hq hkl
      obtain ⟨m, hs⟩ : ∃ q, ms[k] = q := ⟨_, rfl⟩
      rw [hs] at c0 c1 c2 c3 hst
      have hal : (capsOf (ms.take k)).length ≤ 1048576 := by simp [capsOf]; omega
      obtain ⟨acc, hacc⟩ : ∃ a, capsOf (ms.take k) = a := ⟨_, rfl⟩
      rw [hacc] at hst hal HO
      obtain ⟨nm, me, cp, se⟩ := m
      simp only at c0 c1 c2 c3 hst
      have HB2 := hide (below_al (unhide HB) (macobj ⟨nm, me, cp, se⟩))
      have HO2 := hide ((unhide HO).below (below_al (Below.refl _ wr) (macobj ⟨nm, me, cp, se⟩)))
      have hs2 : (capW w c).heap.size ≤ (wr.alloc (macobj ⟨nm, me, cp, se⟩)).heap.size := (unhide HB2).size
      have hown : (wr.alloc (macobj ⟨nm, me, cp, se⟩)).ownsRow (capW w c).heap.size 28 2 _ acc.length (rcells acc) := unhide HO2
      clear hq hs hkl hacc HO HB
      go_wp2_with (at_builtin; refine wpList_append_own _ rfl _ _ 96 rfl (capW w c).heap.size 28 i0 (.agg #[.int .i64 0, .int .i64 0]) 2 16 Try.underlying96 hi hz0 hz1 hz2 rfl (by decide) _ _ _ rfl (hown.alloc _) ⟨wr.heap.size + 1, 0, none⟩ 1 1 (rcell (me, cp)) rfl rfl ?c1 ?c2 ?c3 ?c4 ?c5 ?_)
      case c1 =>
        intro j x hj
        match j, hj with
        | 0, hj => simp at hj; subst hj; simp [Addr.add]
        | 1, hj => simp at hj; subst hj; simp [Addr.add]
        | _ + 2, hj => simp at hj
      case c2 => intro x hx; simp at hx; rcases hx with rfl | rfl <;> rfl
      case c3 => unfold maxLen; omega
      case c4 => omega
      case c5 => simp at hs2 ⊢; omega
      intro v' w3 hown' hgrow _
      have R := rown_step (q := (me, cp)) (unhide HB2) (unhide HO2) hown' hgrow hs2
      have HR3 := hide R
      clear hown' hgrow hown c0 c1 c2 c3 R
      go_wp2
      go_roundw
      case rel => exact ⟨k + 1, by omega, by go_num, hide (by rw [unhide hst]; exact (unhide HR3).1), hide (unhide HR3).2⟩
      case measure => simp [intOf]; omega
    · have htk : ms.take k = ms := List.take_of_length_le (by have := unhide HL; omega)
      rw [htk] at HO
      obtain ⟨ao, cp, rfl, hrow, hcp⟩ := (unhide HO).row
      have hlc : (capsOf ms).length ≤ 1048576 := by have := unhide HL; simp [capsOf]; omega
      have CT := hide (together_any ao _ cp (capsOf ms) wr hrow hlc)
      rw [unhide HS] at CT
      obtain ⟨n, hn⟩ : ∃ n, (capsOf ms).length = n := ⟨_, rfl⟩
      rw [hn] at CT ⊢
      clear hrow hn htk hcp hlc HO
      go_wp2_with fail
      refine (unhide CT).mono ?_
      rintro e w1 ⟨rfl, hb⟩
      have hsz : w.heap.size + 1 < (capW w c).heap.size := by have := unhide HW; omega
      have V1 : Var w1 28 (w.heap.size + 1) 0 0 := Var.below ((unhide HB).block _ hsz |>.trans (unhide V0)) hb
      have HB1 := hide (below_on (below_on (unhide HB0) (unhide HB)) hb)
      have t0 := V1.c0
      have t1 := V1.c1
      have f0 := V1.f 0
      have f1 := V1.f 1
      have k4 := V1.s0 (.int .i64 sx)
      have k5 := V1.s1 (.int .i64 sx) (.int .i64 sy)
      clear hb V1 CT HB HB0
      go_wp2
      refine bodyPost_ret (v := .tuple #[rv sx sy, .bool so]) (by simp [results, Try.results65, go_sem, k4, k5]) rfl ⟨rfl, ?_⟩
      repeat (first | exact unhide HB1 | refine below_sc ?_ _ _ _ (by omega))
end Go.Proofs.Ytgallgdmedfgmaa
