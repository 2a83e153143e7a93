/-
  What the machines can, by the model: l04Caps; a walk over the dump.
-/
import Derived.Test.YthnkbdjombiodaaGreatSumS4
import Derived.Test.YthnkbdjombiodaaGreatStAll
import Derived.Test.YthnkbdjombiodaaGreatPackD
namespace Go.Proofs.YthnkbdjombiodaaGreat
open Go.RowKit
set_option linter.unusedVariables false

set_option maxRecDepth 100000 in
set_option maxHeartbeats 2000000 in
theorem l04Caps_any (x : Sls) (s : St) (w : World) (h : MacRow w x.ma x.ml s.ms) (hl : x.ml ≤ 1048576) :
    Calls Tryz.prog 70 #[sv x s] w fun e w' => ∃ v, e = .returned v ∧ ROwn w.heap.size w' v (capsOf s.ms) ∧ Below w.heap.size w w' := by
  obtain ⟨i0, hi, hz0, hz1, hz2⟩ := info_parts Tryz.infoR
  obtain ⟨qa, ql, qc, aa, al, ac, ma, ml, mc, ca, cl, cc⟩ := x
  obtain ⟨qs, clock, epoch, next, serial, apps, ms, cs⟩ := s
  simp only at h hl ⊢
  have HR := hide h
  have HL := hide h.1
  have HB0 := hide (boxW_below w #[.slice qa ql qc, .int .i64 clock, .int .i64 epoch, .int .i64 next, .int .i64 serial, .slice aa al ac, .slice ma ml mc, .slice ca cl cc])
  have P0 := hide (boxW_blk w #[.slice qa ql qc, .int .i64 clock, .int .i64 epoch, .int .i64 next, .int .i64 serial, .slice aa al ac, .slice ma ml mc, .slice ca cl cc])
  have HW := hide (boxW_size w #[.slice qa ql qc, .int .i64 clock, .int .i64 epoch, .int .i64 next, .int .i64 serial, .slice aa al ac, .slice ma ml mc, .slice ca cl cc])
  have HO0 := hide (rown_empty (boxW w #[.slice qa ql qc, .int .i64 clock, .int .i64 epoch, .int .i64 next, .int .i64 serial, .slice aa al ac, .slice ma ml mc, .slice ca cl cc]))
  obtain ⟨c, hc⟩ : ∃ c : Array Value, #[.slice qa ql qc, .int .i64 clock, .int .i64 epoch, .int .i64 next, .int .i64 serial, .slice aa al ac, .slice ma ml mc, .slice ca cl cc] = c := ⟨_, rfl⟩
  rw [hc] at HB0 HW HO0
  have P0 := hide (show Blk (boxW w c) w.heap.size #[.slice qa ql qc, .int .i64 clock, .int .i64 epoch, .int .i64 next, .int .i64 serial, .slice aa al ac, .slice ma ml mc, .slice ca cl cc] 29 by rw [hc]; exact boxW_blk w c)
  have HC := hide hc
  clear h hc
  go_enter Tryz.func70, Tryz.ntmps70
  go_wp2
  go_loopw [3, 4] (fun v i wr => ∃ (k : Nat), k ≤ ml ∧ i = .int .i64 k ∧ Hid (ROwn (boxW w c).heap.size wr v (capsOf (ms.take k))) ∧ Hid (Below (boxW w c).heap.size (boxW w c) wr)) (fun _ i _ => ml - (intOf i).toNat)
  case atStart =>
    obtain rfl := unhide HC
    have h1 := unhide HW
    refine ⟨0, Nat.zero_le _, rfl, hide ?_, hide (below_al (Below.refl _ _) _)⟩
    have := unhide HO0
    rw [h1] at this
    rw [h1]
    exact this
  case round =>
    obtain ⟨k, hk, rfl, HO, HB⟩ := hrel
    have hn1 : w.heap.size < (boxW w c).heap.size := by have := unhide HW; omega
    have p6 := Blk.at (show Blk wr w.heap.size _ 29 from ((unhide HB).block _ hn1).trans (unhide P0)) 6
    simp at p6
    by_cases hlt : k < ml
    · obtain ⟨b, off, rfl, hq⟩ := (((unhide HR).below (unhide HB0)).below (unhide HB)).at hlt
      have hkl : k < ms.length := by have := unhide HL; omega
      have hst := hide (capsOf_step hkl)
      obtain ⟨c0, c1, c2, c3⟩ := hq hkl
      obtain ⟨m, hs⟩ : ∃ q, ms[k] = q := ⟨_, rfl⟩
      rw [hs] at c0 c1 c2 c3 hst
      have hal : (capsOf (ms.take k)).length ≤ 1048576 := by simp [capsOf]; omega
      obtain ⟨acc, hacc⟩ : ∃ a, capsOf (ms.take k) = a := ⟨_, rfl⟩
      rw [hacc] at hst hal HO
      obtain ⟨nm, me, cp, se⟩ := m
      simp only at c0 c1 c2 c3 hst
      have hs2 : (boxW w c).heap.size ≤ wr.heap.size := (unhide HB).size
      have hown : wr.ownsRow (boxW w c).heap.size 71 2 _ acc.length (rcells acc) := unhide HO
      clear hq hs hkl hacc
      go_wp2_with (at_builtin; refine wpList_append_own _ rfl _ _ 96 rfl (boxW w c).heap.size 71 i0 (.agg #[.int .i64 0, .int .i64 0]) 2 16 Tryz.underlying96 hi hz0 hz1 hz2 rfl (by decide) _ _ _ rfl (hown.alloc _) ⟨wr.heap.size, 0, none⟩ 1 1 (rcell (me, cp)) rfl rfl ?c1 ?c2 ?c3 ?c4 ?c5 ?_)
      case c1 =>
        intro j x hj
        match j, hj with
        | 0, hj => simp at hj; subst hj; simp [Addr.add]
        | 1, hj => simp at hj; subst hj; simp [Addr.add]
        | _ + 2, hj => simp at hj
      case c2 => intro x hx; simp at hx; rcases hx with rfl | rfl <;> rfl
      case c3 => unfold maxLen; omega
      case c4 => omega
      case c5 => simp at hs2 ⊢; omega
      intro v' w3 hown' hgrow _
      have R := rown_step (q := (me, cp)) (unhide HB) (unhide HO) hown' hgrow hs2
      have HR3 := hide R
      clear hown' hgrow hown c0 c1 c2 c3 R p6
      go_wp2
      go_roundw
      case rel => exact ⟨k + 1, by omega, by go_num, hide (by rw [unhide hst]; exact (unhide HR3).1), hide (unhide HR3).2⟩
      case measure => simp [intOf]; omega
    · have htk : ms.take k = ms := List.take_of_length_le (by have := unhide HL; omega)
      rw [htk] at HO
      go_wp2
      go_ret
      exact ⟨_, rfl, (unhide HO).base (by omega), below_on (unhide HB0) (unhide HB)⟩

end Go.Proofs.YthnkbdjombiodaaGreat
