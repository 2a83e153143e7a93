/-
  What a queue uses, by the model: UsedBy; a walk over the dump.
-/
import Derived.Test.YtgallgdmedfgmaaGreatPackA
import Derived.Test.YtgallgdmedfgmaaGreatPackB
import Derived.Test.YtgallgdmedfgmaaGreatPathS
import Derived.Test.YtgallgdmedfgmaaGreatHeld
import Derived.Deep.RegionHeld3
import Derived.Deep.RegionWith
import Derived.Deep.QuietTactic
import Derived.Deep.CutRange
namespace Go.Proofs.YtgallgdmedfgmaaGreat
open Go.RowKit Go.Maps
set_option linter.unusedVariables false

theorem usedS_len {p : Con → Bool} (l : List Con) : (usedL p l).length ≤ l.length := by simp [usedL]; exact List.length_filter_le _ _
theorem path_short (l : List Q) (nm : List UInt8) (h : l.length ≤ 1048575) : (path l nm).length ≤ 1048576 := by
  have key : ∀ (n : Nat) (p : Int), (pathAt l n p).length ≤ n := by
    intro n
    induction n with
    | zero => intro p; simp [pathAt]
    | succ n ih =>
      intro p
      rw [pathAt]
      split
      · simp; exact ih _
      · simp
  rw [path]
  split
  · exact Nat.le_trans (key _ _) (by omega)
  · simp

set_option maxRecDepth 100000 in
set_option maxHeartbeats 4000000 in
theorem specUsedBy_any (x : Sls) (s : St) (nm : List UInt8) (w : World) (h : SRow w x s) (hf : FitSt s) :
    Calls Tryz.prog 17 #[sv x s, .string (bs nm)] w fun e w' => e = .returned (rv (usedByV s nm).1 (usedByV s nm).2) ∧ Below w.heap.size w w' := by
  obtain ⟨i0, hi, hz0, hz1, hz2⟩ := info_parts Tryz.infoR
  have hql : x.ql ≤ 1048576 := by have := h.len.1; have := hf.1.1; omega
  have hal : x.al ≤ 1048576 := by have := h.len.2.1; have := hf.2.1.1; omega
  have hcl : x.cl ≤ 1048576 := by have := h.len.2.2.2; have := hf.2.2.2.1; omega
  have HR := hide h.2.2.2
  have HL := hide h.2.2.2.1
  have HAR := hide h.2.1
  have HAL := hide h.2.1.1
  have CA := hide (fun wx (hb : Below w.heap.size w wx) (id : Int) => l04App_any x s id wx (h.2.1.below hb) hal)
  have CP := hide (fun wx (hb : Below w.heap.size w wx) (qu : List UInt8) => specPath_any x.qa x.ql x.qc s.qs qu wx (h.1.below hb) hql (fun q hq => (hf.1.2 q hq).1))
  have HPL := hide (fun qu : List UInt8 => show (path s.qs qu).length ≤ 1048576 by
    cases ho : queuesOk s.qs with
    | false => simp [path, ho]
    | true =>
      refine path_short _ _ ?_
      have h2 := (okT_iff.1 (by have := queuesOk_okT s.qs; rw [ho] at this; simp at this; exact this.1)).2.2
      omega)
  obtain ⟨⟨⟨sx, sy, so⟩, hsum⟩, hlc⟩ : (∃ y, sumR (usedL (byQ s nm) s.cs) = y) ∧ (usedL (byQ s nm) s.cs).length ≤ 1048576 := ⟨⟨_, rfl⟩, by have := usedS_len (p := byQ s nm) s.cs; have := h.len.2.2.2; omega⟩
  have CS := hide (fun ao cap wx (h : RRow wx ao (usedL (byQ s nm) s.cs).length (usedL (byQ s nm) s.cs)) => by have := l04Sum_any ao _ cap (usedL (byQ s nm) s.cs) wx h hlc; rw [hsum] at this; exact this)
  have HBQ := hide (fun q : Con => show byQ s nm q = match findAp q.app s.apps with | none => false | some a => (path s.qs a.queue).any (fun x => decide (x = nm)) from rfl)
  rw [show (usedByV s nm).1 = sx by rw [usedByV, hsum], show (usedByV s nm).2 = sy by rw [usedByV, hsum]]
  have HFP := hide (fun id : Int => apAt_find id s.apps)
  obtain ⟨p, hp⟩ : ∃ p, byQ s nm = p := ⟨_, rfl⟩
  rw [hp] at HBQ CS
  have HLC := hide (fun k => show (usedL p (s.cs.take k)).length ≤ 1048576 by have := usedS_len (p := p) (s.cs.take k); have := h.len.2.2.2; simp only [List.length_take] at *; omega)
  clear h hf hsum hp hlc
  obtain ⟨qa, ql, qc, aa, al, ac, ma, ml, mc, ca, cl, cc⟩ := x
  obtain ⟨qs, clock, epoch, next, serial, apps, ms, cs⟩ := s
  simp only at CA CP CS HBQ HR HL HAR HAL HLC HFP HPL hql hal hcl
  have HB0 := hide (capW_below w (svc ⟨qa, ql, qc, aa, al, ac, ma, ml, mc, ca, cl, cc⟩ ⟨qs, clock, epoch, next, serial, apps, ms, cs⟩))
  have V0 := hide (capW_var w (svc ⟨qa, ql, qc, aa, al, ac, ma, ml, mc, ca, cl, cc⟩ ⟨qs, clock, epoch, next, serial, apps, ms, cs⟩))
  have P0 := hide ((boxW_blk w (svc ⟨qa, ql, qc, aa, al, ac, ma, ml, mc, ca, cl, cc⟩ ⟨qs, clock, epoch, next, serial, apps, ms, cs⟩)).al (.cells #[.int .i64 0, .int .i64 0] 39))
  have HO0 := hide (rown_empty (capW w (svc ⟨qa, ql, qc, aa, al, ac, ma, ml, mc, ca, cl, cc⟩ ⟨qs, clock, epoch, next, serial, apps, ms, cs⟩)))
  obtain ⟨W0, hW0⟩ : ∃ W, capW w (svc ⟨qa, ql, qc, aa, al, ac, ma, ml, mc, ca, cl, cc⟩ ⟨qs, clock, epoch, next, serial, apps, ms, cs⟩) = W := ⟨_, rfl⟩
  have P0 := hide (show Blk W0 w.heap.size (svc ⟨qa, ql, qc, aa, al, ac, ma, ml, mc, ca, cl, cc⟩ ⟨qs, clock, epoch, next, serial, apps, ms, cs⟩) 37 by rw [← hW0]; exact unhide P0)
  have hsz0 : W0.heap.size = w.heap.size + 1 + 1 := by rw [← hW0]; exact capW_size _ _
  rw [hW0] at HB0 V0 HO0
  have HW0 := hide hW0
  have HSZ := hide hsz0
  clear hW0 hsz0
  go_enter Tryz.func17, Tryz.ntmps17
  go_wp2
  go_loopw [5, 6] (fun v i wr => ∃ (k : Nat), k ≤ cl ∧ i = .int .i64 k ∧ Hid (ROwn W0.heap.size wr v (usedL p (cs.take k))) ∧ Hid (Below W0.heap.size W0 wr)) (fun _ i _ => cl - (intOf i).toNat)
  case atStart =>
    obtain rfl := unhide HW0
    refine ⟨0, Nat.zero_le _, rfl, hide ?_, hide (below_al (Below.refl _ _) _)⟩
    have := unhide HO0
    rw [unhide HSZ] at this ⊢
    exact this
  case round =>
    obtain ⟨k, hk, rfl, HO, HB⟩ := hrel
    have PB := (unhide P0).below (unhide HB)
    have HPB := hide PB
    obtain ⟨q0, q1, q2, q3, q4, q5, q6, q7⟩ : _ ∧ _ ∧ _ ∧ _ ∧ _ ∧ _ ∧ _ ∧ _ := ⟨PB.at 0, PB.at 1, PB.at 2, PB.at 3, PB.at 4, PB.at 5, PB.at 6, PB.at 7⟩
    simp at q0 q1 q2 q3 q4 q5 q6 q7
    have HBw := hide (below_on (unhide HB0) (unhide HB))
    clear PB
    by_cases hlt : k < cl
    · obtain ⟨b, off, rfl, hq⟩ := ((unhide HR).below (unhide HBw)).at hlt
      have hkl : k < cs.length := by have := unhide HL; omega
      have hst := usedL_step (p := p) hkl
      have HQ := hide (hq hkl)
      obtain ⟨m, hs⟩ : ∃ q, cs[k] = q := ⟨_, rfl⟩
      rw [hs] at HQ hst
      have hal2 := unhide HLC k
      obtain ⟨acc, hacc⟩ : ∃ a, usedL p (cs.take k) = a := ⟨_, rfl⟩
      rw [hacc] at hst hal2 HO
      obtain ⟨id, ap, no, me, cp⟩ := m
      obtain ⟨c0, c1, c2, c3, c4⟩ := unhide HQ
      simp only at c0 c1 c2 c3 c4
      have hbq := unhide HBQ ⟨id, ap, no, me, cp⟩
      simp only at hbq
      have hfp := unhide HFP ap
      obtain ⟨at0, ha⟩ : ∃ a, apAt apps ap = a := ⟨_, rfl⟩
      have CAk := hide (fun wx (hb : Below w.heap.size w wx) => by have := unhide CA wx hb ap; rw [ha] at this; exact this)
      rw [ha] at hfp
      have k0 : (0 : Int) ≤ k := by omega
      have k1 : (k : Int) < cl := by omega
      have HFP2 := hide hfp
      have HBQ2 := hide hbq
      have HST := hide hst
      have R : ∀ wx, Kp wr wx → wx.cell? ⟨w.heap.size, 0, none⟩ = some (.slice qa ql qc) ∧ wx.cell? ⟨w.heap.size, 1, none⟩ = some (.int .i64 clock) ∧ wx.cell? ⟨w.heap.size, 2, none⟩ = some (.int .i64 epoch) ∧ wx.cell? ⟨w.heap.size, 3, none⟩ = some (.int .i64 next) ∧ wx.cell? ⟨w.heap.size, 4, none⟩ = some (.int .i64 serial) ∧ wx.cell? ⟨w.heap.size, 5, none⟩ = some (.slice aa al ac) ∧ wx.cell? ⟨w.heap.size, 6, none⟩ = some (.slice ma ml mc) ∧ wx.cell? ⟨w.heap.size, 7, none⟩ = some (.slice (some ⟨b, off, none⟩) cl cc) ∧ wx.cell? ⟨b, off + k * 5 + 1, none⟩ = some (.int .i64 ap) := fun wx h =>
        ⟨h.cell q0, h.cell q1, h.cell q2, h.cell q3, h.cell q4, h.cell q5, h.cell q6, h.cell q7, h.cell c1⟩
      have A0 := hide (Kp.new wr)
      have HS := hide (kp_holds wr)
      clear hq hs hkl hacc ha hfp hbq hst
      go_wp2_with fail
      go_cut [7] from 18 to 25 (fun v7 wx => v7 = .int .i64 at0 ∧ Kp wr wx)
      case first =>
        go_region_held3 (fun wx => Kp wr wx)
          (first | (with_reducible assumption) | exact unhide SA | exact (unhide HS).drew (unhide A0) | exact (unhide HS).call (by assumption) (by assumption))
          (first
          | (go_at_call 39; refine (unhide CAk _ ?_).mono ?_; (exact below_on (unhide HBw) ((unhide HS).below (by assumption))); rintro e wt ⟨rfl, hb⟩; have SA := hide ((unhide HS).call (by assumption) hb)))
        all_goals
          go_wp2_with fail
          go_meet
          exact ⟨rfl, by first | assumption | exact unhide SA⟩
      case rest =>
        obtain ⟨rfl, hA⟩ := hcut
        obtain ⟨w4, rfl⟩ : ∃ w4, w4 = wc := ⟨wc, rfl⟩
        have HAw := hide (below_on (unhide HBw) hA)
        have HAk := hide hA
        have g0 := hA.cell q0
        have g5 := hA.cell q5
        have g7 := hA.cell q7
        have d3 := hA.cell c3
        have d4 := hA.cell c4
        have HO4 := hide ((unhide HO).below hA)
        have HB4 := hide (below_on (unhide HB) hA)
        clear A0 R HS CAk q0 q1 q2 q3 q4 q5 q6 q7 c0 c1 c2 c3 c4 hA HO HB HQ
        have HS := hide (kp_holds w4)
        have A0 := hide (Kp.new w4)
        obtain ⟨pv, hpv⟩ : ∃ o, p ⟨id, ap, no, me, cp⟩ = o := ⟨_, rfl⟩
        rw [hpv] at HST HBQ2
        clear hpv
        go_wp2_with fail
        go_cut [40] from 26 to 39 (fun v40 wx => v40 = .bool pv ∧ Kp w4 wx)
        case first =>
          rcases unhide HFP2 with ⟨hfn, rfl⟩ | ⟨j, hj, hfn, rfl⟩
          · rw [hfn] at HBQ2
            obtain rfl : pv = false := unhide HBQ2
            clear hfn
            go_quiet (fail)
            all_goals
              go_wp2_with fail
              go_meet
              exact ⟨rfl, below_dn (Below.refl _ _) _⟩
          · rw [hfn] at HBQ2
            have hjl : j < al := by have := unhide HAL; omega
            obtain ⟨ab, ao, rfl, hq⟩ := ((unhide HAR).below (unhide HAw)).at hjl
            obtain ⟨xo, xl, xc, hxx⟩ := hq hj
            have e1 := hxx.2.1
            obtain ⟨⟨ai, qu, asks⟩, hs⟩ : ∃ a, apps[j] = a := ⟨_, rfl⟩
            rw [hs] at e1 HBQ2
            simp only at e1
            have HPQ := hide (unhide HPL qu)
            have HBQ3 := hide (show pv = (path qs qu).any (fun x => decide (x = nm)) from unhide HBQ2)
            have CPq := hide (fun wx hb => unhide CP wx hb qu)
            obtain ⟨ps, hps⟩ : ∃ ps, path qs qu = ps := ⟨_, rfl⟩
            rw [hps] at HPQ HBQ3 CPq
            have CH := hide (fun (v : Value) (B : Nat) wx (h : Texts B wx v ps) => by have := l04Has_any v ps nm B wx h (unhide HPQ); rw [← unhide HBQ3] at this; exact this)
            have j0 : (0 : Int) ≤ j := by omega
            have j1 : (j : Int) < al := by omega
            have R : ∀ wx, Kp w4 wx → wx.cell? ⟨w.heap.size, 0, none⟩ = some (.slice qa ql qc) ∧ wx.cell? ⟨w.heap.size, 5, none⟩ = some (.slice (some ⟨ab, ao, none⟩) al ac) ∧ wx.cell? ⟨ab, ao + j * 3 + 1, none⟩ = some (.string (bs qu)) := fun wx h => ⟨h.cell g0, h.cell g5, h.cell e1⟩
            clear hfn hq hxx hs hps e1 hj
            go_region_held3 (fun wx => Kp w4 wx)
              (first | (with_reducible assumption) | exact unhide SA | exact (unhide HS).drew (unhide A0) | exact (unhide HS).call (by assumption) (by assumption))
              (first
              | (go_at_call 14; refine (unhide CPq _ ?_).mono ?_; (exact below_on (unhide HAw) ((unhide HS).below (by assumption))); rintro e wt ⟨v, rfl, htx, hb⟩; have HTX := hide htx; have SA := hide ((unhide HS).call (by assumption) hb))
              | (go_at_call 40; refine (unhide CH _ _ _ (unhide HTX)).mono ?_; rintro e wt2 ⟨rfl, rfl⟩))
            all_goals
              go_wp2_with fail
              go_meet
              exact ⟨rfl, by first | assumption | exact unhide SA⟩
        case rest =>
          obtain ⟨rfl, hA⟩ := hcut
          obtain ⟨w5, rfl⟩ : ∃ w5, w5 = wc := ⟨wc, rfl⟩
          have z7 := hA.cell g7
          have z3 := hA.cell d3
          have z4 := hA.cell d4
          have HO5 := hide ((unhide HO4).below hA)
          have HB5 := hide (below_on (unhide HB4) hA)
          clear g0 g5 g7 d3 d4 hA HO4 HB4 HS A0 HAk HAw HFP2 HBQ2
          cases pv with
          | true =>
            rw [if_pos rfl] at HST
            have hs2 : W0.heap.size ≤ w5.heap.size := (unhide HB5).size
            have hown : w5.ownsRow W0.heap.size 39 2 _ acc.length (rcells acc) := unhide HO5
            go_wp2_with (at_builtin; refine wpList_append_own _ rfl _ _ 81 rfl W0.heap.size 39 i0 (.agg #[.int .i64 0, .int .i64 0]) 2 16 Tryz.underlying81 hi hz0 hz1 hz2 rfl (by decide) _ _ _ rfl (hown.alloc _) ⟨w5.heap.size, 0, none⟩ 1 1 (rcell (me, cp)) rfl rfl ?c1 ?c2 ?c3 ?c4 ?c5 ?_)
            case c1 =>
              intro j x hj
              match j, hj with
              | 0, hj => simp at hj; subst hj; simp [Addr.add]
              | 1, hj => simp at hj; subst hj; simp [Addr.add]
              | _ + 2, hj => simp at hj
            case c2 => intro x hx; simp at hx; rcases hx with rfl | rfl <;> rfl
            case c3 => unfold maxLen; omega
            case c4 => omega
            case c5 => simp at hs2 ⊢; omega
            intro v' w6 hown' hgrow _
            have R := rown_step (q := (me, cp)) (unhide HB5) (unhide HO5) hown' hgrow hs2
            have HR3 := hide R
            clear hown' hgrow hown R z3 z4 z7
            go_wp2
            go_roundw
            case rel => exact ⟨k + 1, by omega, by go_num, hide (by rw [unhide HST]; exact (unhide HR3).1), hide (unhide HR3).2⟩
            case measure => simp [intOf]; omega
          | false =>
            rw [if_neg (by simp)] at HST
            go_wp2
            go_roundw
            case rel => exact ⟨k + 1, by omega, by go_num, hide (by rw [unhide HST]; exact unhide HO5), HB5⟩
            case measure => simp [intOf]; omega
    · have htk : cs.take k = cs := List.take_of_length_le (by have := unhide HL; omega)
      rw [htk] at HO
      obtain ⟨so', scp, rfl, hrow, _⟩ := (unhide HO).row
      have HROW := hide hrow
      have HV1 := hide ((unhide V0).below (unhide HB))
      obtain ⟨n, hn⟩ : ∃ n, (usedL p cs).length = n := ⟨_, rfl⟩
      rw [hn] at CS HROW ⊢
      clear hrow hn htk HO HB q0 q1 q2 q3 q4 q5 q6
      go_wp2_with fail
      refine (unhide CS _ _ _ (unhide HROW)).mono ?_
      rintro e w2 ⟨rfl, hb⟩
      have V1 := (unhide HV1).below hb
      have HB2 := hide (below_on (unhide HBw) hb)
      have V2 := V1.al (.cells #[.int .i64 sx, .int .i64 sy] 39)
      have t0 := V2.c0
      have t1 := V2.c1
      have f0 := V2.f 0
      have f1 := V2.f 1
      have VG := V2.set sx sy
      have k6 := VG.c0
      have k7 := VG.c1
      clear hb V1 V2 VG CS HV1 HROW
      go_wp2
      refine bodyPost_ret (v := rv sx sy) (by simp [results, Tryz.results17, go_sem, k6, k7]) rfl ⟨rfl, ?_⟩
      repeat (first | exact unhide HB2 | refine below_al ?_ _ | refine below_sc ?_ _ _ _ (by omega))
end Go.Proofs.YtgallgdmedfgmaaGreat
