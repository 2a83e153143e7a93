/-
  What is on a machine, by the model: l04On; a walk over the dump.
-/
import Derived.Test.YtfbphoppgmganaaGreatPackF
import Derived.Test.YtfbphoppgmganaaGreatPackE
namespace Go.Proofs.YtfbphoppgmganaaGreat
open Go.RowKit
set_option linter.unusedVariables false

set_option maxRecDepth 100000 in
set_option maxHeartbeats 2000000 in
theorem l04On_any (x : Sls) (s : St) (nd : List UInt8) (w : World) (h : ConRow w x.ca x.cl s.cs) (hl : x.cl ≤ 1048576) :
    Calls Tryz.prog 183 #[sv x s, .string (bs nd)] w fun e w' => ∃ v, e = .returned v ∧ ROwn w.heap.size w' v (usedL (fun q => decide (q.node = nd)) s.cs) ∧ Below w.heap.size w w' := by
  obtain ⟨i0, hi, hz0, hz1, hz2⟩ := info_parts Tryz.infoR
  obtain ⟨qa, ql, qc, aa, al, ac, ma, ml, mc, ca, cl, cc⟩ := x
  obtain ⟨qs, clock, epoch, next, serial, apps, ms, cs⟩ := s
  simp only at h hl ⊢
  have HR := hide h
  have HL := hide h.1
  have HB0 := hide (boxW_below w #[.slice qa ql qc, .int .i64 clock, .int .i64 epoch, .int .i64 next, .int .i64 serial, .slice aa al ac, .slice ma ml mc, .slice ca cl cc])
  have P0 := hide (boxW_blk w #[.slice qa ql qc, .int .i64 clock, .int .i64 epoch, .int .i64 next, .int .i64 serial, .slice aa al ac, .slice ma ml mc, .slice ca cl cc])
  have HW := hide (boxW_size w #[.slice qa ql qc, .int .i64 clock, .int .i64 epoch, .int .i64 next, .int .i64 serial, .slice aa al ac, .slice ma ml mc, .slice ca cl cc])
  have HO0 := hide (rown_empty (boxW w #[.slice qa ql qc, .int .i64 clock, .int .i64 epoch, .int .i64 next, .int .i64 serial, .slice aa al ac, .slice ma ml mc, .slice ca cl cc]))
  obtain ⟨c, hc⟩ : ∃ c : Array Value, #[.slice qa ql qc, .int .i64 clock, .int .i64 epoch, .int .i64 next, .int .i64 serial, .slice aa al ac, .slice ma ml mc, .slice ca cl cc] = c := ⟨_, rfl⟩
  rw [hc] at HB0 HW HO0
  have P0 := hide (show Blk (boxW w c) w.heap.size #[.slice qa ql qc, .int .i64 clock, .int .i64 epoch, .int .i64 next, .int .i64 serial, .slice aa al ac, .slice ma ml mc, .slice ca cl cc] 40 by rw [hc]; exact boxW_blk w c)
  have HC := hide hc
  clear h hc
  go_enter Tryz.func183, Tryz.ntmps183
  go_wp2
  go_loopw [5, 6] (fun v i wr => ∃ (k : Nat), k ≤ cl ∧ i = .int .i64 k ∧ Hid (ROwn (boxW w c).heap.size wr v (usedL (fun q => decide (q.node = nd)) (cs.take k))) ∧ Hid (Below (boxW w c).heap.size (boxW w c) wr)) (fun _ i _ => cl - (intOf i).toNat)
  case atStart =>
    obtain rfl := unhide HC
    have h1 := unhide HW
    refine ⟨0, Nat.zero_le _, rfl, hide ?_, hide (below_al (Below.refl _ _) _)⟩
    have := unhide HO0
    rw [h1] at this
    rw [h1]
    exact this
  case round =>
    obtain ⟨k, hk, rfl, HO, HB⟩ := hrel
    have hn1 : w.heap.size < (boxW w c).heap.size := by have := unhide HW; omega
    have p7 := Blk.at (show Blk wr w.heap.size _ 40 from ((unhide HB).block _ hn1).trans (unhide P0)) 7
    simp at p7
    by_cases hlt : k < cl
    · obtain ⟨b, off, rfl, hq⟩ := (((unhide HR).below (unhide HB0)).below (unhide HB)).at hlt
      have hkl : k < cs.length := by have := unhide HL; omega
      have hst := usedL_step (p := fun q => decide (q.node = nd)) hkl
      obtain ⟨c0, c1, c2, c3, c4⟩ := hq hkl
      obtain ⟨m, hs⟩ : ∃ q, cs[k] = q := ⟨_, rfl⟩
      rw [hs] at c0 c1 c2 c3 c4 hst
      have hal : (usedL (fun q => decide (q.node = nd)) (cs.take k)).length ≤ 1048576 := by have : (usedL (fun q : Con => decide (q.node = nd)) (cs.take k)).length ≤ (cs.take k).length := (by simp only [usedL, List.length_map]; exact List.length_filter_le _ _); simp at this; omega
      obtain ⟨acc, hacc⟩ : ∃ a, usedL (fun q => decide (q.node = nd)) (cs.take k) = a := ⟨_, rfl⟩
      rw [hacc] at hst hal HO
      obtain ⟨id, ap, no, me, cp⟩ := m
      simp only at c0 c1 c2 c3 c4 hst
      have hs2 : (boxW w c).heap.size ≤ wr.heap.size := (unhide HB).size
      have hown : wr.ownsRow (boxW w c).heap.size 30 2 _ acc.length (rcells acc) := unhide HO
      have hbe := bs_eq no nd
      clear hq hs hkl hacc
      by_cases hnd : no = nd
      · rw [decide_eq_true hnd] at hbe hst
        have HST := hide (show usedL (fun q => decide (q.node = nd)) (cs.take (k + 1)) = acc ++ [(me, cp)] by have := hst; rw [if_pos rfl] at this; exact this)
        clear hst hnd
        go_wp2_with (at_builtin; refine wpList_append_own _ rfl _ _ 234 rfl (boxW w c).heap.size 30 i0 (.agg #[.int .i64 0, .int .i64 0]) 2 16 Tryz.underlying234 hi hz0 hz1 hz2 rfl (by decide) _ _ _ rfl (hown.alloc _) ⟨wr.heap.size, 0, none⟩ 1 1 (rcell (me, cp)) rfl rfl ?c1 ?c2 ?c3 ?c4 ?c5 ?_)
        case c1 =>
          intro j x hj
          match j, hj with
          | 0, hj => simp at hj; subst hj; simp [Addr.add]
          | 1, hj => simp at hj; subst hj; simp [Addr.add]
          | _ + 2, hj => simp at hj
        case c2 => intro x hx; simp at hx; rcases hx with rfl | rfl <;> rfl
        case c3 => unfold maxLen; omega
        case c4 => omega
        case c5 => simp at hs2 ⊢; omega
        intro v' w3 hown' hgrow _
        have R := rown_step (q := (me, cp)) (unhide HB) (unhide HO) hown' hgrow hs2
        have HR3 := hide R
        clear hown' hgrow hown c0 c1 c2 c3 c4 R p7
        go_wp2
        go_roundw
        case rel => exact ⟨k + 1, by omega, by go_num, hide (by rw [unhide HST]; exact (unhide HR3).1), hide (unhide HR3).2⟩
        case measure => simp [intOf]; omega
      · rw [decide_eq_false hnd] at hbe hst
        have HST := hide (show usedL (fun q => decide (q.node = nd)) (cs.take (k + 1)) = acc by have := hst; rw [if_neg (by simp)] at this; exact this)
        clear hst hnd hown
        go_wp2
        go_roundw
        case rel => exact ⟨k + 1, by omega, by go_num, hide (by rw [unhide HST]; exact unhide HO), HB⟩
        case measure => simp [intOf]; omega
    · have htk : cs.take k = cs := List.take_of_length_le (by have := unhide HL; omega)
      rw [htk] at HO
      go_wp2
      go_ret
      exact ⟨_, rfl, (unhide HO).base (by omega), below_on (unhide HB0) (unhide HB)⟩

end Go.Proofs.YtfbphoppgmganaaGreat
