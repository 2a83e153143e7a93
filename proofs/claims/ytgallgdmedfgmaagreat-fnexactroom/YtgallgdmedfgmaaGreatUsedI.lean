/-
  What those containers have together that count, by the program: used, UsedOn; walks over the dump.
-/
import Derived.Test.YtgallgdmedfgmaaGreatPackB
import Derived.Test.YtgallgdmedfgmaaGreatPackA
import Derived.Shelf.Abstract
namespace Go.Proofs.YtgallgdmedfgmaaGreat
open Go.RowKit
set_option linter.unusedVariables false

abbrev conobj (m : Con) : Obj := .cells #[.int .i64 m.id, .int .i64 m.app, .string (bs m.node), .int .i64 m.mem, .int .i64 m.cpu] 86
theorem used_len {p : Con → Bool} (l : List Con) : (usedL p l).length ≤ l.length := by simp [usedL]; exact List.length_filter_le _ _

set_option maxRecDepth 100000 in
set_option maxHeartbeats 4000000 in
theorem used_any (g : Nat) (lb : Array Value) (eg : ∀ args w, (callFunc g args).run Tryz.prog w = .ok (.enter g args) w) (p : Con → Bool) (x : Sls) (s : St) (w : World) (h : ConRow w x.ca x.cl s.cs) (hl : x.cl ≤ 1048576)
    (hp : ∀ wx q, Below w.heap.size w wx → Calls Tryz.prog g (#[conv q] ++ lb) wx fun e w' => e = .returned (.bool (p q)) ∧ Below wx.heap.size wx w') :
    Calls Tryz.prog 72 #[sv x s, .func (.func g) #[] lb] w fun e w' => e = .returned (rv (sumR (usedL p s.cs)).1 (sumR (usedL p s.cs)).2.1) ∧ Below w.heap.size w w' := by
  obtain ⟨i0, hi, hz0, hz1, hz2⟩ := info_parts Tryz.infoR
  obtain ⟨qa, ql, qc, aa, al, ac, ma, ml, mc, ca, cl, cc⟩ := x
  obtain ⟨qs, clock, epoch, next, serial, apps, ms, cs⟩ := s
  simp only at h hl ⊢
  have HR := hide h
  have HL := hide h.1
  have HP := hide hp
  obtain ⟨c, hc⟩ : ∃ c : Array Value, #[.slice qa ql qc, .int .i64 clock, .int .i64 epoch, .int .i64 next, .int .i64 serial, .slice aa al ac, .slice ma ml mc, .slice ca cl cc] = c := ⟨_, rfl⟩
  have HC := hide hc
  have HB0 := hide (capW_below w c)
  have V0 := hide (capW_var w c)
  have HW := hide (capW_size w c)
  clear h hc hp
  obtain ⟨⟨sx, sy, so⟩, hs⟩ : ∃ s, sumR (usedL p cs) = s := ⟨_, rfl⟩
  have HS := hide hs
  rw [hs]
  clear hs
  go_enter Tryz.func72, Tryz.ntmps72
  go_wp2
  go_loopw [5, 13] (fun v i wr => ∃ (k : Nat), k ≤ cl ∧ i = .int .i64 k ∧ Hid (ROwn (capW w c).heap.size wr v (usedL p (cs.take k))) ∧ Hid (Below (capW w c).heap.size (capW w c) wr)) (fun _ i _ => cl - (intOf i).toNat)
  case atStart =>
    obtain rfl := unhide HC
    exact ⟨0, Nat.zero_le _, rfl, hide (by simpa [usedL] using rown_nil _ _), hide (Below.refl _ _)⟩
  case round =>
    obtain ⟨k, hk, rfl, HO, HB⟩ := hrel
    by_cases hlt : k < cl
    · obtain ⟨b, off, rfl, hq⟩ := (((unhide HR).below (unhide HB0)).below (unhide HB)).at hlt
      have hkl : k < cs.length := by have := unhide HL; omega
      have hst := usedL_step (p := p) hkl
      obtain ⟨c0, c1, c2, c3, c4⟩ := hq hkl
      obtain ⟨m, hs⟩ : ∃ q, cs[k] = q := ⟨_, rfl⟩
      rw [hs] at c0 c1 c2 c3 c4 hst
      have hal : (usedL p (cs.take k)).length ≤ 1048576 := by have := used_len (p := p) (cs.take k); simp at this; omega
      obtain ⟨acc, hacc⟩ : ∃ a, usedL p (cs.take k) = a := ⟨_, rfl⟩
      rw [hacc] at hst hal HO
      obtain ⟨id, ap, nd, me, cp⟩ := m
      simp only at c0 c1 c2 c3 c4 hst
      have HBA := hide (below_al (Below.refl _ wr) (conobj ⟨id, ap, nd, me, cp⟩))
      have HCL := hide (unhide HP (wr.alloc (conobj ⟨id, ap, nd, me, cp⟩)) ⟨id, ap, nd, me, cp⟩ (below_on (below_on (unhide HB0) (unhide HB)) (unhide HBA)))
      have KB := hide (blk_new wr #[.int .i64 id, .int .i64 ap, .string (bs nd), .int .i64 me, .int .i64 cp] 86)
      clear hq hs hkl hacc
      cases hpq : p ⟨id, ap, nd, me, cp⟩ with
      | true =>
        rw [hpq] at HCL
        rw [hpq, if_pos rfl] at hst
        have HST := hide hst
        clear hpq hst
        go_wp2_with (first
          | (go_at_fn g; refine (unhide HCL).mono ?_; rintro e w1 ⟨rfl, hb⟩; have HB1 := hide (below_on (below_on (unhide HB) (unhide HBA)) hb); have HO1 := hide (((unhide HO).below (unhide HBA)).below hb); have b1 := (unhide KB).below hb; have q3 := b1.at 3; have q4 := b1.at 4; simp at q3 q4; have hs2 : (capW w c).heap.size ≤ w1.heap.size := (unhide HB1).size; have hown : w1.ownsRow (capW w c).heap.size 39 2 _ acc.length (rcells acc) := unhide HO1; clear b1 hb HCL c0 c1 c2 c3 c4 HO HB)
          | (at_builtin; refine wpList_append_own _ rfl _ _ 81 rfl (capW w c).heap.size 39 i0 (.agg #[.int .i64 0, .int .i64 0]) 2 16 Tryz.underlying81 hi hz0 hz1 hz2 rfl (by decide) _ _ _ rfl (hown.alloc _) ⟨w1.heap.size, 0, none⟩ 1 1 (rcell (me, cp)) rfl rfl ?c1 ?c2 ?c3 ?c4 ?c5 ?_))
        case c1 =>
          intro j x hj
          match j, hj with
          | 0, hj => simp at hj; subst hj; simp [Addr.add]
          | 1, hj => simp at hj; subst hj; simp [Addr.add]
          | _ + 2, hj => simp at hj
        case c2 => intro x hx; simp at hx; rcases hx with rfl | rfl <;> rfl
        case c3 => unfold maxLen; omega
        case c4 => omega
        case c5 => simp at hs2 ⊢; omega
        intro v' w3 hown' hgrow _
        have R := rown_step (q := (me, cp)) (unhide HB1) (unhide HO1) hown' hgrow hs2
        have HR3 := hide R
        clear hown' hgrow hown R q3 q4
        go_wp2
        go_roundw
        case rel => exact ⟨k + 1, by omega, by go_num, hide (by rw [unhide HST]; exact (unhide HR3).1), hide (unhide HR3).2⟩
        case measure => simp [intOf]; omega
      | false =>
        rw [hpq] at HCL
        rw [hpq, if_neg (by simp)] at hst
        have HST := hide hst
        clear hpq hst
        go_wp2_with (go_at_fn g; refine (unhide HCL).mono ?_; rintro e w1 ⟨rfl, hb⟩; have HB1 := hide (below_on (below_on (unhide HB) (unhide HBA)) hb); have HO1 := hide (((unhide HO).below (unhide HBA)).below hb); clear hb HCL c0 c1 c2 c3 c4 HO HB)
        go_roundw
        case rel => exact ⟨k + 1, by omega, by go_num, hide (by rw [unhide HST]; exact unhide HO1), HB1⟩
        case measure => simp [intOf]; omega
    · have htk : cs.take k = cs := List.take_of_length_le (by have := unhide HL; omega)
      rw [htk] at HO
      obtain ⟨ao, cp, rfl, hrow, hcp⟩ := (unhide HO).row
      have hlc : (usedL p cs).length ≤ 1048576 := by have := used_len (p := p) cs; have := unhide HL; omega
      have CT := hide (together_any ao _ cp (usedL p cs) wr hrow hlc)
      rw [unhide HS] at CT
      obtain ⟨n, hn⟩ : ∃ n, (usedL p cs).length = n := ⟨_, rfl⟩
      rw [hn] at CT ⊢
      clear hrow hn htk hcp hlc HO
      go_wp2_with fail
      refine (unhide CT).mono ?_
      rintro e w1 ⟨rfl, hb⟩
      have hsz : w.heap.size + 1 < (capW w c).heap.size := by have := unhide HW; omega
      have V1 : Var w1 39 (w.heap.size + 1) 0 0 := Var.below ((unhide HB).block _ hsz |>.trans (unhide V0)) hb
      have HB1 := hide (below_on (below_on (unhide HB0) (unhide HB)) hb)
      have V2 := V1.al (.cells #[.int .i64 sx, .int .i64 sy] 39)
      have t0 := V2.c0
      have t1 := V2.c1
      have f0 := V2.f 0
      have f1 := V2.f 1
      have VG := V2.set sx sy
      have k6 := VG.c0
      have k7 := VG.c1
      clear hb V1 V2 VG CT HB HB0
      go_wp2
      refine bodyPost_ret (v := rv sx sy) (by simp [results, Tryz.results72, go_sem, k6, k7]) rfl ⟨rfl, ?_⟩
      repeat (first | exact unhide HB1 | refine below_al ?_ _ | refine below_sc ?_ _ _ _ (by omega))
end Go.Proofs.YtgallgdmedfgmaaGreat
