/-
  Several texts of this claim in one: UsedByS, OfSD, BefS, StvO (pack.py put them together); each says in its own remark what is proved.
-/
import Derived.Test.YtfbphoppgmganaaGreatPackE
import Derived.Test.YtfbphoppgmganaaGreatPackF
import Derived.Test.YtfbphoppgmganaaGreatPackP
import Derived.Test.YtfbphoppgmganaaGreatPackG
import Derived.Test.YtfbphoppgmganaaGreatPackK
import Derived.Deep.RegionHeld3
import Derived.Deep.RegionWith
import Derived.Deep.QuietTactic
import Derived.Deep.CutRange
import Derived.Test.YtfbphoppgmganaaGreatPackJ
import Derived.Test.YtfbphoppgmganaaGreatPackB
import Derived.Test.YtfbphoppgmganaaGreatPackA
import Derived.Sort.Walk0
/-
  What a queue uses, by the model: UsedBy; a walk over the dump.
-/
namespace Go.Proofs.YtfbphoppgmganaaGreat
open Go.RowKit Go.Maps
set_option linter.unusedVariables false

theorem usedS_len {p : Con → Bool} (l : List Con) : (usedL p l).length ≤ l.length := by simp [usedL]; exact List.length_filter_le _ _
theorem path_short (l : List Q) (nm : List UInt8) (h : l.length ≤ 1048575) : (path l nm).length ≤ 1048576 := by
  have key : ∀ (n : Nat) (p : Int), (pathAt l n p).length ≤ n := by
    intro n
    induction n with
    | zero => intro p; simp [pathAt]
    | succ n ih =>
      intro p
      rw [pathAt]
      split
      · simp; exact ih _
      · simp
  rw [path]
  split
  · exact Nat.le_trans (key _ _) (by omega)
  · simp

set_option maxRecDepth 100000 in
set_option maxHeartbeats 4000000 in
theorem specUsedBy_any (x : Sls) (s : St) (nm : List UInt8) (w : World) (h : SRow w x s) (hf : FitSt s) :
    Calls Tryz.prog 141 #[sv x s, .string (bs nm)] w fun e w' => e = .returned (rv (usedByV s nm).1 (usedByV s nm).2) ∧ Below w.heap.size w w' := by
  obtain ⟨i0, hi, hz0, hz1, hz2⟩ := info_parts Tryz.infoR
  have hql : x.ql ≤ 1048576 := by have := h.len.1; have := hf.1.1; omega
  have hal : x.al ≤ 1048576 := by have := h.len.2.1; have := hf.2.1.1; omega
  have hcl : x.cl ≤ 1048576 := by have := h.len.2.2.2; have := hf.2.2.2.1; omega
  have HR := hide h.2.2.2
  have HL := hide h.2.2.2.1
  have HAR := hide h.2.1
  have HAL := hide h.2.1.1
  have CA := hide (fun wx (hb : Below w.heap.size w wx) (id : Int) => l04App_any x s id wx (h.2.1.below hb) hal)
  have CP := hide (fun wx (hb : Below w.heap.size w wx) (qu : List UInt8) => specPath_any x.qa x.ql x.qc s.qs qu wx (h.1.below hb) hql (fun q hq => (hf.1.2 q hq).1))
  have HPL := hide (fun qu : List UInt8 => show (path s.qs qu).length ≤ 1048576 by
    cases ho : queuesOk s.qs with
    | false => simp [path, ho]
    | true =>
      refine path_short _ _ ?_
      have h2 := (okT_iff.1 (by have := queuesOk_okT s.qs; rw [ho] at this; simp at this; exact this.1)).2.2
      omega)
  obtain ⟨⟨⟨sx, sy, so⟩, hsum⟩, hlc⟩ : (∃ y, sumR (usedL (byQ s nm) s.cs) = y) ∧ (usedL (byQ s nm) s.cs).length ≤ 1048576 := ⟨⟨_, rfl⟩, by have := usedS_len (p := byQ s nm) s.cs; have := h.len.2.2.2; omega⟩
  have CS := hide (fun ao cap wx (h : RRow wx ao (usedL (byQ s nm) s.cs).length (usedL (byQ s nm) s.cs)) => by have := l04Sum_any ao _ cap (usedL (byQ s nm) s.cs) wx h hlc; rw [hsum] at this; exact this)
  have HBQ := hide (fun q : Con => show byQ s nm q = match findAp q.app s.apps with | none => false | some a => (path s.qs a.queue).any (fun x => decide (x = nm)) from rfl)
  rw [show (usedByV s nm).1 = sx by rw [usedByV, hsum], show (usedByV s nm).2 = sy by rw [usedByV, hsum]]
  have HFP := hide (fun id : Int => apAt_find id s.apps)
  obtain ⟨p, hp⟩ : ∃ p, byQ s nm = p := ⟨_, rfl⟩
  rw [hp] at HBQ CS
  have HLC := hide (fun k => show (usedL p (s.cs.take k)).length ≤ 1048576 by have := usedS_len (p := p) (s.cs.take k); have := h.len.2.2.2; simp only [List.length_take] at *; omega)
  clear h hf hsum hp hlc
  obtain ⟨qa, ql, qc, aa, al, ac, ma, ml, mc, ca, cl, cc⟩ := x
  obtain ⟨qs, clock, epoch, next, serial, apps, ms, cs⟩ := s
  simp only at CA CP CS HBQ HR HL HAR HAL HLC HFP HPL hql hal hcl
  have HB0 := hide (capW_below w (svc ⟨qa, ql, qc, aa, al, ac, ma, ml, mc, ca, cl, cc⟩ ⟨qs, clock, epoch, next, serial, apps, ms, cs⟩))
  have V0 := hide (capW_var w (svc ⟨qa, ql, qc, aa, al, ac, ma, ml, mc, ca, cl, cc⟩ ⟨qs, clock, epoch, next, serial, apps, ms, cs⟩))
  have P0 := hide ((boxW_blk w (svc ⟨qa, ql, qc, aa, al, ac, ma, ml, mc, ca, cl, cc⟩ ⟨qs, clock, epoch, next, serial, apps, ms, cs⟩)).al (.cells #[.int .i64 0, .int .i64 0] 30))
  have HO0 := hide (rown_empty (capW w (svc ⟨qa, ql, qc, aa, al, ac, ma, ml, mc, ca, cl, cc⟩ ⟨qs, clock, epoch, next, serial, apps, ms, cs⟩)))
  obtain ⟨W0, hW0⟩ : ∃ W, capW w (svc ⟨qa, ql, qc, aa, al, ac, ma, ml, mc, ca, cl, cc⟩ ⟨qs, clock, epoch, next, serial, apps, ms, cs⟩) = W := ⟨_, rfl⟩
  have P0 := hide (show Blk W0 w.heap.size (svc ⟨qa, ql, qc, aa, al, ac, ma, ml, mc, ca, cl, cc⟩ ⟨qs, clock, epoch, next, serial, apps, ms, cs⟩) 40 by rw [← hW0]; exact unhide P0)
  have hsz0 : W0.heap.size = w.heap.size + 1 + 1 := by rw [← hW0]; exact capW_size _ _
  rw [hW0] at HB0 V0 HO0
  have HW0 := hide hW0
  have HSZ := hide hsz0
  clear hW0 hsz0
  go_enter Tryz.func141, Tryz.ntmps141
  go_wp2
  go_loopw [5, 6] (fun v i wr => ∃ (k : Nat), k ≤ cl ∧ i = .int .i64 k ∧ Hid (ROwn W0.heap.size wr v (usedL p (cs.take k))) ∧ Hid (Below W0.heap.size W0 wr)) (fun _ i _ => cl - (intOf i).toNat)
  case atStart =>
    obtain rfl := unhide HW0
    refine ⟨0, Nat.zero_le _, rfl, hide ?_, hide (below_al (Below.refl _ _) _)⟩
    have := unhide HO0
    rw [unhide HSZ] at this ⊢
    exact this
  case round =>
    obtain ⟨k, hk, rfl, HO, HB⟩ := hrel
    have PB := (unhide P0).below (unhide HB)
    have HPB := hide PB
    obtain ⟨q0, q1, q2, q3, q4, q5, q6, q7⟩ : _ ∧ _ ∧ _ ∧ _ ∧ _ ∧ _ ∧ _ ∧ _ := ⟨PB.at 0, PB.at 1, PB.at 2, PB.at 3, PB.at 4, PB.at 5, PB.at 6, PB.at 7⟩
    simp at q0 q1 q2 q3 q4 q5 q6 q7
    have HBw := hide (below_on (unhide HB0) (unhide HB))
    clear PB
    by_cases hlt : k < cl
    · obtain ⟨b, off, rfl, hq⟩ := ((unhide HR).below (unhide HBw)).at hlt
      have hkl : k < cs.length := by have := unhide HL; omega
      have hst := usedL_step (p := p) hkl
      have HQ := hide (hq hkl)
      obtain ⟨m, hs⟩ : ∃ q, cs[k] = q := ⟨_, rfl⟩
      rw [hs] at HQ hst
      have hal2 := unhide HLC k
      obtain ⟨acc, hacc⟩ : ∃ a, usedL p (cs.take k) = a := ⟨_, rfl⟩
      rw [hacc] at hst hal2 HO
      obtain ⟨id, ap, no, me, cp⟩ := m
      obtain ⟨c0, c1, c2, c3, c4⟩ := unhide HQ
      simp only at c0 c1 c2 c3 c4
      have hbq := unhide HBQ ⟨id, ap, no, me, cp⟩
      simp only at hbq
      have hfp := unhide HFP ap
      obtain ⟨at0, ha⟩ : ∃ a, apAt apps ap = a := ⟨_, rfl⟩
      have CAk := hide (fun wx (hb : Below w.heap.size w wx) => by have := unhide CA wx hb ap; rw [ha] at this; exact this)
      rw [ha] at hfp
      have k0 : (0 : Int) ≤ k := by omega
      have k1 : (k : Int) < cl := by omega
      have HFP2 := hide hfp
      have HBQ2 := hide hbq
      have HST := hide hst
      have R : ∀ wx, Kp wr wx → wx.cell? ⟨w.heap.size, 0, none⟩ = some (.slice qa ql qc) ∧ wx.cell? ⟨w.heap.size, 1, none⟩ = some (.int .i64 clock) ∧ wx.cell? ⟨w.heap.size, 2, none⟩ = some (.int .i64 epoch) ∧ wx.cell? ⟨w.heap.size, 3, none⟩ = some (.int .i64 next) ∧ wx.cell? ⟨w.heap.size, 4, none⟩ = some (.int .i64 serial) ∧ wx.cell? ⟨w.heap.size, 5, none⟩ = some (.slice aa al ac) ∧ wx.cell? ⟨w.heap.size, 6, none⟩ = some (.slice ma ml mc) ∧ wx.cell? ⟨w.heap.size, 7, none⟩ = some (.slice (some ⟨b, off, none⟩) cl cc) ∧ wx.cell? ⟨b, off + k * 5 + 1, none⟩ = some (.int .i64 ap) := fun wx h =>
        ⟨h.cell q0, h.cell q1, h.cell q2, h.cell q3, h.cell q4, h.cell q5, h.cell q6, h.cell q7, h.cell c1⟩
      have A0 := hide (Kp.new wr)
      have HS := hide (kp_holds wr)
      clear hq hs hkl hacc ha hfp hbq hst
      go_wp2_with fail
      go_cut [7] from 18 to 25 (fun v7 wx => v7 = .int .i64 at0 ∧ Kp wr wx)
      case first =>
        go_region_held3 (fun wx => Kp wr wx)
          (first | (with_reducible assumption) | exact unhide SA | exact (unhide HS).drew (unhide A0) | exact (unhide HS).call (by assumption) (by assumption))
          (first
          | (go_at_call 87; refine (unhide CAk _ ?_).mono ?_; (exact below_on (unhide HBw) ((unhide HS).below (by assumption))); rintro e wt ⟨rfl, hb⟩; have SA := hide ((unhide HS).call (by assumption) hb)))
        all_goals
          go_wp2_with fail
          go_meet
          exact ⟨rfl, by first | assumption | exact unhide SA⟩
      case rest =>
        obtain ⟨rfl, hA⟩ := hcut
        obtain ⟨w4, rfl⟩ : ∃ w4, w4 = wc := ⟨wc, rfl⟩
        have HAw := hide (below_on (unhide HBw) hA)
        have HAk := hide hA
        have g0 := hA.cell q0
        have g5 := hA.cell q5
        have g7 := hA.cell q7
        have d3 := hA.cell c3
        have d4 := hA.cell c4
        have HO4 := hide ((unhide HO).below hA)
        have HB4 := hide (below_on (unhide HB) hA)
        clear A0 R HS CAk q0 q1 q2 q3 q4 q5 q6 q7 c0 c1 c2 c3 c4 hA HO HB HQ
        have HS := hide (kp_holds w4)
        have A0 := hide (Kp.new w4)
        obtain ⟨pv, hpv⟩ : ∃ o, p ⟨id, ap, no, me, cp⟩ = o := ⟨_, rfl⟩
        rw [hpv] at HST HBQ2
        clear hpv
        go_wp2_with fail
        go_cut [40] from 26 to 39 (fun v40 wx => v40 = .bool pv ∧ Kp w4 wx)
        case first =>
          rcases unhide HFP2 with ⟨hfn, rfl⟩ | ⟨j, hj, hfn, rfl⟩
          · rw [hfn] at HBQ2
            obtain rfl : pv = false := unhide HBQ2
            clear hfn
            go_quiet (fail)
            all_goals
              go_wp2_with fail
              go_meet
              exact ⟨rfl, below_dn (Below.refl _ _) _⟩
          · rw [hfn] at HBQ2
            have hjl : j < al := by have := unhide HAL; omega
            obtain ⟨ab, ao, rfl, hq⟩ := ((unhide HAR).below (unhide HAw)).at hjl
            obtain ⟨xo, xl, xc, hxx⟩ := hq hj
            have e1 := hxx.2.1
            obtain ⟨⟨ai, qu, asks⟩, hs⟩ : ∃ a, apps[j] = a := ⟨_, rfl⟩
            rw [hs] at e1 HBQ2
            simp only at e1
            have HPQ := hide (unhide HPL qu)
            have HBQ3 := hide (show pv = (path qs qu).any (fun x => decide (x = nm)) from unhide HBQ2)
            have CPq := hide (fun wx hb => unhide CP wx hb qu)
            obtain ⟨ps, hps⟩ : ∃ ps, path qs qu = ps := ⟨_, rfl⟩
            rw [hps] at HPQ HBQ3 CPq
            have CH := hide (fun (v : Value) (B : Nat) wx (h : Texts B wx v ps) => by have := l04Has_any v ps nm B wx h (unhide HPQ); rw [← unhide HBQ3] at this; exact this)
            have j0 : (0 : Int) ≤ j := by omega
            have j1 : (j : Int) < al := by omega
            have R : ∀ wx, Kp w4 wx → wx.cell? ⟨w.heap.size, 0, none⟩ = some (.slice qa ql qc) ∧ wx.cell? ⟨w.heap.size, 5, none⟩ = some (.slice (some ⟨ab, ao, none⟩) al ac) ∧ wx.cell? ⟨ab, ao + j * 3 + 1, none⟩ = some (.string (bs qu)) := fun wx h => ⟨h.cell g0, h.cell g5, h.cell e1⟩
            clear hfn hq hxx hs hps e1 hj
            go_region_held3 (fun wx => Kp w4 wx)
              (first | (with_reducible assumption) | exact unhide SA | exact (unhide HS).drew (unhide A0) | exact (unhide HS).call (by assumption) (by assumption))
              (first
              | (go_at_call 215; refine (unhide CPq _ ?_).mono ?_; (exact below_on (unhide HAw) ((unhide HS).below (by assumption))); rintro e wt ⟨v, rfl, htx, hb⟩; have HTX := hide htx; have SA := hide ((unhide HS).call (by assumption) hb))
              | (go_at_call 69; refine (unhide CH _ _ _ (unhide HTX)).mono ?_; rintro e wt2 ⟨rfl, rfl⟩))
            all_goals
              go_wp2_with fail
              go_meet
              exact ⟨rfl, by first | assumption | exact unhide SA⟩
        case rest =>
          obtain ⟨rfl, hA⟩ := hcut
          obtain ⟨w5, rfl⟩ : ∃ w5, w5 = wc := ⟨wc, rfl⟩
          have z7 := hA.cell g7
          have z3 := hA.cell d3
          have z4 := hA.cell d4
          have HO5 := hide ((unhide HO4).below hA)
          have HB5 := hide (below_on (unhide HB4) hA)
          clear g0 g5 g7 d3 d4 hA HO4 HB4 HS A0 HAk HAw HFP2 HBQ2
          cases pv with
          | true =>
            rw [if_pos rfl] at HST
            have hs2 : W0.heap.size ≤ w5.heap.size := (unhide HB5).size
            have hown : w5.ownsRow W0.heap.size 30 2 _ acc.length (rcells acc) := unhide HO5
            go_wp2_with (at_builtin; refine wpList_append_own _ rfl _ _ 234 rfl W0.heap.size 30 i0 (.agg #[.int .i64 0, .int .i64 0]) 2 16 Tryz.underlying234 hi hz0 hz1 hz2 rfl (by decide) _ _ _ rfl (hown.alloc _) ⟨w5.heap.size, 0, none⟩ 1 1 (rcell (me, cp)) rfl rfl ?c1 ?c2 ?c3 ?c4 ?c5 ?_)
            case c1 =>
              intro j x hj
              match j, hj with
              | 0, hj => simp at hj; subst hj; simp [Addr.add]
              | 1, hj => simp at hj; subst hj; simp [Addr.add]
              | _ + 2, hj => simp at hj
            case c2 => intro x hx; simp at hx; rcases hx with rfl | rfl <;> rfl
            case c3 => unfold maxLen; omega
            case c4 => omega
            case c5 => simp at hs2 ⊢; omega
            intro v' w6 hown' hgrow _
            have R := rown_step (q := (me, cp)) (unhide HB5) (unhide HO5) hown' hgrow hs2
            have HR3 := hide R
            clear hown' hgrow hown R z3 z4 z7
            go_wp2
            go_roundw
            case rel => exact ⟨k + 1, by omega, by go_num, hide (by rw [unhide HST]; exact (unhide HR3).1), hide (unhide HR3).2⟩
            case measure => simp [intOf]; omega
          | false =>
            rw [if_neg (by simp)] at HST
            go_wp2
            go_roundw
            case rel => exact ⟨k + 1, by omega, by go_num, hide (by rw [unhide HST]; exact unhide HO5), HB5⟩
            case measure => simp [intOf]; omega
    · have htk : cs.take k = cs := List.take_of_length_le (by have := unhide HL; omega)
      rw [htk] at HO
      obtain ⟨so', scp, rfl, hrow, _⟩ := (unhide HO).row
      have HROW := hide hrow
      have HV1 := hide ((unhide V0).below (unhide HB))
      obtain ⟨n, hn⟩ : ∃ n, (usedL p cs).length = n := ⟨_, rfl⟩
      rw [hn] at CS HROW ⊢
      clear hrow hn htk HO HB q0 q1 q2 q3 q4 q5 q6
      go_wp2_with fail
      refine (unhide CS _ _ _ (unhide HROW)).mono ?_
      rintro e w2 ⟨rfl, hb⟩
      have V1 := (unhide HV1).below hb
      have HB2 := hide (below_on (unhide HBw) hb)
      have V2 := V1.al (.cells #[.int .i64 sx, .int .i64 sy] 30)
      have t0 := V2.c0
      have t1 := V2.c1
      have f0 := V2.f 0
      have f1 := V2.f 1
      have VG := V2.set sx sy
      have k6 := VG.c0
      have k7 := VG.c1
      clear hb V1 V2 VG CS HV1 HROW
      go_wp2
      refine bodyPost_ret (v := rv sx sy) (by simp [results, Tryz.results141, go_sem, k6, k7]) rfl ⟨rfl, ?_⟩
      repeat (first | exact unhide HB2 | refine below_al ?_ _ | refine below_sc ?_ _ _ _ (by omega))
end Go.Proofs.YtfbphoppgmganaaGreat

/-
  What is due to a queue of a total, and the most that it may have: what the model's l03Of, DueOf and MostOf answer; walks over the dump.
-/
namespace Go.Proofs.YtfbphoppgmganaaGreat
open Go.RowKit
set_option linter.unusedVariables false

set_option maxRecDepth 100000 in
set_option maxHeartbeats 4000000 in
theorem l03Of_any (ao : Option Addr) (len cap : Nat) (l : List Q) (nm : List UInt8) (a b : Int) (most : Bool) (w : World) (h : QRow w ao len l) (hl : len ≤ 1048576) (hn : ∀ q ∈ l, q.name.length ≤ 1048576) :
    Calls Tryz.prog 216 #[.slice ao len cap, .string (bs nm), rv a b, .bool most] w fun e w' => e = .returned (rv (ofR l nm a b most).1 (ofR l nm a b most).2) ∧ Below w.heap.size w w' := by
  have HR := hide h
  have HV1 := hide ((var_new w 30 a b).al (.cells #[.int .i64 0, .int .i64 0] 30))
  have HV2 := hide (var_new2 w 30 30 a b 0 0)
  have HB0 := hide (below_al (below_al (Below.refl _ w) (.cells #[.int .i64 a, .int .i64 b] 30)) (.cells #[.int .i64 0, .int .i64 0] 30))
  have CPath := hide (specPath_any ao len cap l nm _ (h.below (unhide HB0)) hl hn)
  have CP := hide (fun (x : List UInt8) wx (hb : Below w.heap.size w wx) => l03Place_any ao len cap l x wx (h.below hb) hl)
  have CK := hide (specResOk_bel a b)
  have hpl := path_len l nm
  have HPL := hide (show (path l nm).length ≤ len + 1 by have := h.1; omega)
  have HNM := hide (path_names (l := l) (nm := nm))
  obtain ⟨ps, hps⟩ : ∃ ps, path l nm = ps := ⟨_, rfl⟩
  obtain ⟨ok, hok⟩ : ∃ ok, resOk a b = ok := ⟨_, rfl⟩
  rw [hps] at CPath HPL HNM
  rw [hok] at CK
  obtain ⟨⟨x, y⟩, hxy⟩ : ∃ p, ofR l nm a b most = p := ⟨_, rfl⟩
  rw [hxy]
  have HXY := hide (show (if ps = [] ∨ ok = false then ((0 : Int), (0 : Int)) else ofP l most (a, b) ps) = (x, y) by rw [← hxy, ofR, hps, hok])
  have HLL := hide h.1
  clear h hn hps hok hxy hpl
  go_enter Tryz.func216, Tryz.ntmps216
  go_wp2_with fail
  refine (unhide CPath).mono ?_
  rintro e w1 ⟨v, rfl, ht, hb⟩
  have V1 := hide ((unhide HV1).below hb)
  have V2 := hide ((unhide HV2).below hb)
  have HB1 := hide (below_on (unhide HB0) hb)
  have HT := hide ht
  clear ht hb HV1 HV2 HB0 CPath
  by_cases hp : ps = []
  · subst hp
    obtain ⟨va, vc, rfl⟩ := texts_none (unhide HT)
    have hz : (x, y) = ((0 : Int), (0 : Int)) := by rw [← unhide HXY, if_pos (.inl rfl)]
    simp only [Prod.mk.injEq] at hz
    obtain ⟨rfl, rfl⟩ := hz
    have k0 := (unhide V2).c0
    have k1 := (unhide V2).c1
    have k2 := (unhide V2).f 0
    have k3 := (unhide V2).f 1
    have k4 := (unhide V2).s0 (.int .i64 0)
    have k5 := (unhide V2).s1 (.int .i64 0) (.int .i64 0)
    go_wp2
    refine bodyPost_ret (v := rv 0 0) (by simp [results, Tryz.results216, go_sem, k4, k5]) rfl ⟨rfl, ?_⟩
    repeat (first | exact unhide HB1 | refine below_al ?_ _ | refine Below.drew ?_ | refine below_sc ?_ _ _ _ (by omega))
  · obtain ⟨g, gc, rfl, hss, hg⟩ := texts_some (unhide HT) hp
    have HSS := hide hss
    have hlp : 0 < ps.length := List.length_pos_iff.2 hp
    have HPN := hide hp
    have hln : ((ps.length : Int) == 0) = false := by simp; exact hp
    have a0 := (unhide V1).c0
    have a1 := (unhide V1).c1
    have hpl2 : ps.length ≤ 1048577 := by have := unhide HPL; omega
    clear hss hp HT
    go_wp2_with fail
    refine (unhide CK _).mono ?_
    rintro e w2 ⟨rfl, hb⟩
    have HSS2 := hide ((unhide HSS).below hb (unhide HSS).lt)
    have W1 := hide ((unhide V1).below hb)
    have W2 := hide ((unhide V2).below hb)
    have HB2 := hide (below_on (unhide HB1) hb)
    have hs1 : w.heap.size + 1 < w2.heap.size := (unhide W2).lt
    clear hb a0 a1 HSS V1 V2 HB1 CK
    have hgl : g < w2.heap.size := (unhide HSS2).lt
    cases ok with
    | false =>
      have hz : (x, y) = ((0 : Int), (0 : Int)) := by rw [← unhide HXY, if_pos (.inr rfl)]
      simp only [Prod.mk.injEq] at hz
      obtain ⟨rfl, rfl⟩ := hz
      have k0 := (unhide W2).c0
      have k1 := (unhide W2).c1
      have k2 := (unhide W2).f 0
      have k3 := (unhide W2).f 1
      have k4 := (unhide W2).s0 (.int .i64 0)
      have k5 := (unhide W2).s1 (.int .i64 0) (.int .i64 0)
      go_wp2
      refine bodyPost_ret (v := rv 0 0) (by simp [results, Tryz.results216, go_sem, k4, k5]) rfl ⟨rfl, ?_⟩
      repeat (first | exact unhide HB2 | refine below_al ?_ _ | refine Below.drew ?_ | refine below_sc ?_ _ _ _ (by omega))
    | true =>
      have HF := hide (show ofP l most (a, b) ps = (x, y) by have := unhide HXY; rw [if_neg (by simp; exact unhide HPN)] at this; exact this)
      have a0 := (unhide W1).c0
      have a1 := (unhide W1).c1
      have hw2 := (unhide HB2).size
      clear HXY
      go_wp2
      clear a0 a1
      go_loopw [11] (fun i wr => ∃ (j u v : Int), i = .int .i64 j ∧ -1 ≤ j ∧ j + 2 ≤ ps.length ∧ Hid (ofP l most (a, b) (ps.drop (j + 1).toNat) = (u, v)) ∧ Hid (Var wr 30 w2.heap.size u v) ∧ Hid (SS wr g gc (ps.map bs)) ∧ Hid (Var wr 30 (w.heap.size + 1) 0 0) ∧ Hid (Below w.heap.size w wr)) (fun i _ => (intOf i + 1).toNat)
      case atStart =>
        refine ⟨(ps.length : Int) - 2, a, b, by go_num, by omega, by omega, hide ?_, hide (var_new _ _ _ _), hide ((unhide HSS2).below (below_al (Below.refl _ _) _) hgl), hide ((unhide W2).al _), hide (below_al (unhide HB2) _)⟩
        rw [show ((ps.length : Int) - 2 + 1).toNat = ps.length - 1 by omega]
        exact ofP_last l most (a, b) (unhide HPN)
      case round =>
        obtain ⟨j, u, v, rfl, hj1, hj2, HO, HU, HS, HT, HB⟩ := hrel
        by_cases h0 : 0 ≤ j
        · obtain ⟨k, rfl⟩ : ∃ k : Nat, j = k := ⟨j.toNat, by omega⟩
          have hk1 : k + 1 < ps.length := by omega
          obtain ⟨kk, hkk, hpk, hbn⟩ := unhide HNM ps[k] (List.getElem_mem _)
          have hkl : kk < len := by have := unhide HLL; omega
          obtain ⟨rb, off, rfl, hq⟩ := ((unhide HR).below (unhide HB)).at hkl
          have hqq := hq hkk
          have hst := ofP_step l most (a, b) hk1
          rw [hbn] at hst
          obtain ⟨q, hs⟩ : ∃ q, l[kk] = q := ⟨_, rfl⟩
          rw [hs] at hqq hst
          have e0 : ofP l most (a, b) (ps.drop (k + 1)) = (u, v) := by have := unhide HO; rw [show ((k : Int) + 1).toNat = k + 1 by omega] at this; exact this
          rw [e0] at hst
          simp only at hst
          obtain ⟨c0, c1, c2, c3⟩ := hqq
          have ct := (unhide HS).text (show k < ps.length by omega)
          have u0 := ((unhide HU).al (.cells #[.string (bs q.name), .string (bs q.parent), .int .i64 q.due, .int .i64 q.most] 160)).c0
          have u1 := ((unhide HU).al (.cells #[.string (bs q.name), .string (bs q.parent), .int .i64 q.due, .int .i64 q.most] 160)).c1
          obtain ⟨u', hu'⟩ : ∃ z, shareM u v (fieldOf most q) = z := ⟨_, rfl⟩
          obtain ⟨v', hv'⟩ : ∃ z, shareC u v (fieldOf most q) = z := ⟨_, rfl⟩
          rw [hu', hv'] at hst
          have HNEW := hide (show ofP l most (a, b) (ps.drop ((k : Int) - 1 + 1).toNat) = (u', v') by rw [show ((k : Int) - 1 + 1).toNat = k by omega]; exact hst)
          have hsh : ∀ wx, Calls Tryz.prog 271 #[rv u v, .int .i64 (fieldOf most q)] wx fun e w' => e = .returned (rv u' v') ∧ Below wx.heap.size wx w' := fun wx => by have := specShare_any u v (fieldOf most q) wx; rw [hu', hv'] at this; exact this
          have k00 : (0 : Int) ≤ kk := by omega
          have k01 : (kk : Int) < len := by omega
          have p00 : (0 : Int) ≤ k := by omega
          have p01 : (k : Int) < ps.length := by omega
          clear hq hbn hs hst e0 hu' hv' hkk HO
          cases most with
          | true =>
            have CSh := hide (show ∀ wx, Calls Tryz.prog 271 #[rv u v, .int .i64 q.most] wx fun e w' => e = .returned (rv u' v') ∧ Below wx.heap.size wx w' from hsh)
            clear hsh
            go_wp2_with fail
            refine (unhide CP ps[k] _ (unhide HB)).mono ?_
            rintro e w4 ⟨rfl, rfl⟩
            rw [hpk]
            go_wp2_with fail
            refine (unhide CSh _).mono ?_
            rintro e w5 ⟨rfl, hb⟩
            have U := ((unhide HU).al (.cells #[.string (bs q.name), .string (bs q.parent), .int .i64 q.due, .int .i64 q.most] 160)).below hb
            have HU5 := hide U
            have T := hide (((unhide HT).al (.cells #[.string (bs q.name), .string (bs q.parent), .int .i64 q.due, .int .i64 q.most] 160)).below hb)
            have S5 := hide (((unhide HS).below (below_al (Below.refl _ _) (.cells #[.string (bs q.name), .string (bs q.parent), .int .i64 q.due, .int .i64 q.most] 160)) (unhide HS).lt).below hb (by have := (unhide HS).lt; simp; omega))
            have HB5 := hide (below_on (below_al (unhide HB) (.cells #[.string (bs q.name), .string (bs q.parent), .int .i64 q.due, .int .i64 q.most] 160)) hb)
            have k0 := U.c0
            have k1 := U.c1
            have k2 := U.f 0
            have k3 := U.f 1
            clear hb U c0 c1 c2 c3 ct u0 u1
            go_wp2
            go_roundw
            case rel => exact ⟨(k : Int) - 1, u', v', by go_num, by omega, by omega, HNEW, hide ((unhide HU5).set u' v'), hide (((unhide S5).same (heap_setCell_other _ ⟨w2.heap.size, 0, none⟩ g _ (by simp; omega))).same (heap_setCell_other _ ⟨w2.heap.size, 1, none⟩ g _ (by simp; omega))), hide (((unhide T).other w2.heap.size 0 _ (by omega)).other w2.heap.size 1 _ (by omega)), hide (below_sc (below_sc (unhide HB5) _ _ _ (by omega)) _ _ _ (by omega))⟩
            case measure => simp [intOf]
          | false =>
            have CSh := hide (show ∀ wx, Calls Tryz.prog 271 #[rv u v, .int .i64 q.due] wx fun e w' => e = .returned (rv u' v') ∧ Below wx.heap.size wx w' from hsh)
            clear hsh
            go_wp2_with fail
            refine (unhide CP ps[k] _ (unhide HB)).mono ?_
            rintro e w4 ⟨rfl, rfl⟩
            rw [hpk]
            go_wp2_with fail
            refine (unhide CSh _).mono ?_
            rintro e w5 ⟨rfl, hb⟩
            have U := ((unhide HU).al (.cells #[.string (bs q.name), .string (bs q.parent), .int .i64 q.due, .int .i64 q.most] 160)).below hb
            have HU5 := hide U
            have T := hide (((unhide HT).al (.cells #[.string (bs q.name), .string (bs q.parent), .int .i64 q.due, .int .i64 q.most] 160)).below hb)
            have S5 := hide (((unhide HS).below (below_al (Below.refl _ _) (.cells #[.string (bs q.name), .string (bs q.parent), .int .i64 q.due, .int .i64 q.most] 160)) (unhide HS).lt).below hb (by have := (unhide HS).lt; simp; omega))
            have HB5 := hide (below_on (below_al (unhide HB) (.cells #[.string (bs q.name), .string (bs q.parent), .int .i64 q.due, .int .i64 q.most] 160)) hb)
            have k0 := U.c0
            have k1 := U.c1
            have k2 := U.f 0
            have k3 := U.f 1
            clear hb U c0 c1 c2 c3 ct u0 u1
            go_wp2
            go_roundw
            case rel => exact ⟨(k : Int) - 1, u', v', by go_num, by omega, by omega, HNEW, hide ((unhide HU5).set u' v'), hide (((unhide S5).same (heap_setCell_other _ ⟨w2.heap.size, 0, none⟩ g _ (by simp; omega))).same (heap_setCell_other _ ⟨w2.heap.size, 1, none⟩ g _ (by simp; omega))), hide (((unhide T).other w2.heap.size 0 _ (by omega)).other w2.heap.size 1 _ (by omega)), hide (below_sc (below_sc (unhide HB5) _ _ _ (by omega)) _ _ _ (by omega))⟩
            case measure => simp [intOf]
        · have hjm : j = -1 := by omega
          subst hjm
          have hxx : (u, v) = (x, y) := by rw [← unhide HO, ← unhide HF]; simp
          simp only [Prod.mk.injEq] at hxx
          obtain ⟨rfl, rfl⟩ := hxx
          have u0 := (unhide HU).c0
          have u1 := (unhide HU).c1
          have k0 := (unhide HT).c0
          have k1 := (unhide HT).c1
          have k2 := (unhide HT).f 0
          have k3 := (unhide HT).f 1
          have k4 := (unhide HT).s0 (.int .i64 u)
          have k5 := (unhide HT).s1 (.int .i64 u) (.int .i64 v)
          go_wp2
          refine bodyPost_ret (v := rv u v) (by simp [results, Tryz.results216, go_sem, k4, k5]) rfl ⟨rfl, ?_⟩
          repeat (first | exact unhide HB | refine below_al ?_ _ | refine Below.drew ?_ | refine below_sc ?_ _ _ _ (by omega))

set_option maxRecDepth 100000 in
set_option maxHeartbeats 1000000 in
theorem specDueOf_any (ao : Option Addr) (len cap : Nat) (l : List Q) (nm : List UInt8) (a b : Int) (w : World) (h : QRow w ao len l) (hl : len ≤ 1048576) (hn : ∀ q ∈ l, q.name.length ≤ 1048576) :
    Calls Tryz.prog 142 #[.slice ao len cap, .string (bs nm), rv a b] w fun e w' => e = .returned (rv (ofR l nm a b false).1 (ofR l nm a b false).2) ∧ Below w.heap.size w w' := by
  have HB0 := hide (below_al (below_al (Below.refl _ w) (.cells #[.int .i64 a, .int .i64 b] 30)) (.cells #[.int .i64 0, .int .i64 0] 30))
  have HV2 := hide (var_new2 w 30 30 a b 0 0)
  have C := hide (l03Of_any ao len cap l nm a b false _ (h.below (unhide HB0)) hl hn)
  obtain ⟨⟨x, y⟩, hxy⟩ : ∃ p, ofR l nm a b false = p := ⟨_, rfl⟩
  rw [hxy] at C ⊢
  clear hxy h hn
  go_enter Tryz.func142, Tryz.ntmps142
  go_wp2_with fail
  refine (unhide C).mono ?_
  rintro e w1 ⟨rfl, hb⟩
  have V2 := (unhide HV2).below hb
  have k0 := V2.c0
  have k1 := V2.c1
  have k2 := V2.f 0
  have k3 := V2.f 1
  have k4 := V2.s0 (.int .i64 x)
  have k5 := V2.s1 (.int .i64 x) (.int .i64 y)
  have HB := hide (below_on (unhide HB0) hb)
  clear hb V2 HV2 HB0 C
  go_wp2
  refine bodyPost_ret (v := rv x y) (by simp [results, Tryz.results142, go_sem, k4, k5]) rfl ⟨rfl, ?_⟩
  repeat (first | exact unhide HB | refine below_al ?_ _ | refine Below.drew ?_ | refine below_sc ?_ _ _ _ (by omega))
end Go.Proofs.YtfbphoppgmganaaGreat

/-
  Which of two leaves comes ahead, by the model: l05Before; a walk over the dump.
-/
namespace Go.Proofs.YtfbphoppgmganaaGreat
open Go.RowKit Go.Maps
set_option linter.unusedVariables false
set_option linter.unusedSimpArgs false

def BFr (w w1 : World) (na nb : List UInt8) (ux uy dx dy vx vy fx fy tx ty : Int) (gt : Nat) (qa : Option Addr) (ql qc : Nat) (aa : Option Addr) (al ac : Nat) (ma : Option Addr) (ml mc : Nat) (ca : Option Addr) (cl cc : Nat) (qs : List Q) (clock epoch next serial : Int) (apps : List Appl) (ms : List Mac) (cs : List Con) (c : Nat) (fs : List Bool) (us : List Nat) : Act := { tmps := #[sv ⟨qa, ql, qc, aa, al, ac, ma, ml, mc, ca, cl, cc⟩ ⟨qs, clock, epoch, next, serial, apps, ms, cs⟩, .string (bs na), .string (bs nb), .pointer (some ⟨w.heap.size, 0, none⟩), undef, undef, .bool false, .pointer (some ⟨gt, 0, none⟩), mkPtr (fs.getD 0 false) (us.getD 0 0), mkPtr (fs.getD 1 false) (us.getD 1 0), mkPtr (fs.getD 2 false) (us.getD 2 0), mkPtr (fs.getD 3 false) (us.getD 3 0), .agg #[.slice qa ql qc, .int .i64 clock, .int .i64 epoch, .int .i64 next, .int .i64 serial, .slice aa al ac, .slice ma ml mc, .slice ca cl cc], rv tx ty, .agg #[.slice qa ql qc, .int .i64 clock, .int .i64 epoch, .int .i64 next, .int .i64 serial, .slice aa al ac, .slice ma ml mc, .slice ca cl cc], .string (bs na), mkRes (Nat.ble 1 c) (rv ux uy), .pointer (some ⟨w.heap.size, 0, none⟩), .slice qa ql qc, .string (bs na), rv tx ty, mkRes (Nat.ble 2 c) (rv dx dy), .agg #[.slice qa ql qc, .int .i64 clock, .int .i64 epoch, .int .i64 next, .int .i64 serial, .slice aa al ac, .slice ma ml mc, .slice ca cl cc], .string (bs nb), mkRes (Nat.ble 3 c) (rv vx vy), .pointer (some ⟨w.heap.size, 0, none⟩), .slice qa ql qc, .string (bs nb), rv tx ty, mkRes (Nat.ble 4 c) (rv fx fy), undef, undef, undef, undef, undef, undef, undef, undef, undef, undef, undef, undef, undef, undef, undef, undef], defers := [] }
def BFM : Mul := ⟨24, [2, 7, 10, 15], [16, 17, 18, 19], [20, 21, 22, 23], [true, true, false, true, true, true, true, false, true, true, false, true, true, true, true, false, false, false, false, false, false, false, false, false]⟩

set_option maxRecDepth 100000 in
set_option maxHeartbeats 32000000 in
theorem before_any (x : Sls) (s : St) (na nb : List UInt8) (w : World) (h : SRow w x s) (hf : FitSt s) :
    Calls Tryz.prog 217 #[sv x s, .string (bs na), .string (bs nb)] w fun e w' => e = .returned (.bool (befN s na nb)) ∧ Below w.heap.size w w' := by
  have hql : x.ql ≤ 1048576 := h.ql hf
  have hml : x.ml ≤ 1048576 := h.ml hf
  have CT := hide (fun wx (hb : Below w.heap.size w wx) => show Calls Tryz.prog 140 #[sv x s] wx (fun e w' => e = .returned (rv (totalV s).1 (totalV s).2) ∧ Below wx.heap.size wx w') from specTotal_any x s wx (h.2.2.1.below hb) hml)
  have CD := fun nm wx (hb : Below w.heap.size w wx) => show Calls Tryz.prog 142 #[.slice x.qa x.ql x.qc, .string (bs nm), rv (totalV s).1 (totalV s).2] wx (fun e w' => e = .returned (rv (dueV s nm).1 (dueV s nm).2) ∧ Below wx.heap.size wx w') from specDueOf_any x.qa x.ql x.qc s.qs nm (totalV s).1 (totalV s).2 wx (h.1.below hb) hql (fun q hq => (hf.1.2 q hq).1)
  have CU := fun nm wx (hb : Below w.heap.size w wx) => specUsedBy_any x s nm wx (h.below hb) hf
  have CU1 := hide (CU na)
  have CU2 := hide (CU nb)
  have CD1 := hide (CD na)
  have CD2 := hide (CD nb)
  have HA := hide (show befN s na nb = (lessR (usedByV s na).1 (usedByV s na).2 (dueV s na).1 (dueV s na).2 (usedByV s nb).1 (usedByV s nb).2 (dueV s nb).1 (dueV s nb).2 || (!lessR (usedByV s nb).1 (usedByV s nb).2 (dueV s nb).1 (dueV s nb).2 (usedByV s na).1 (usedByV s na).2 (dueV s na).1 (dueV s na).2 && Op.bytesLess na nb)) from rfl)
  obtain ⟨⟨tx, ty⟩, ht⟩ : ∃ t, totalV s = t := ⟨_, rfl⟩
  obtain ⟨⟨dx, dy⟩, hd⟩ : ∃ t, dueV s na = t := ⟨_, rfl⟩
  obtain ⟨⟨ux, uy⟩, hu⟩ : ∃ t, usedByV s na = t := ⟨_, rfl⟩
  obtain ⟨⟨fx, fy⟩, hd2⟩ : ∃ t, dueV s nb = t := ⟨_, rfl⟩
  obtain ⟨⟨vx, vy⟩, hu2⟩ : ∃ t, usedByV s nb = t := ⟨_, rfl⟩
  rw [ht] at CT
  rw [ht, hd] at CD1
  rw [ht, hd2] at CD2
  rw [hu] at CU1
  rw [hu2] at CU2
  rw [hd, hu, hd2, hu2] at HA
  obtain ⟨o, ho⟩ : ∃ o, befN s na nb = o := ⟨_, rfl⟩
  rw [ho] at HA ⊢
  simp only at HA CD1 CD2 CU1 CU2 CT
  obtain ⟨l1, hl1⟩ : ∃ z, lessR ux uy dx dy vx vy fx fy = z := ⟨_, rfl⟩
  obtain ⟨l2, hl2⟩ : ∃ z, lessR vx vy fx fy ux uy dx dy = z := ⟨_, rfl⟩
  have CL1 := hide (fun wx => by have := specLessRatio_any ux uy dx dy vx vy fx fy wx; rw [hl1] at this; exact this)
  have CL2 := hide (fun wx => by have := specLessRatio_any vx vy fx fy ux uy dx dy wx; rw [hl2] at this; exact this)
  rw [hl1, hl2] at HA
  clear h hf CD CU ht hd hu hd2 hu2 ho hl1 hl2
  obtain ⟨qa, ql, qc, aa, al, ac, ma, ml, mc, ca, cl, cc⟩ := x
  obtain ⟨qs, clock, epoch, next, serial, apps, ms, cs⟩ := s
  simp only at CT CD1 CD2 CU1 CU2 hql hml
  have HB0 := hide (below_al (Below.refl _ w) (.cells (svc ⟨qa, ql, qc, aa, al, ac, ma, ml, mc, ca, cl, cc⟩ ⟨qs, clock, epoch, next, serial, apps, ms, cs⟩) 40))
  have P0 := hide (blk_new w (svc ⟨qa, ql, qc, aa, al, ac, ma, ml, mc, ca, cl, cc⟩ ⟨qs, clock, epoch, next, serial, apps, ms, cs⟩) 40)
  go_enter Tryz.func217, Tryz.ntmps217
  go_wp2_with fail
  refine (unhide CT _ (unhide HB0)).mono ?_
  rintro e w0 ⟨rfl, hb⟩
  have HB1 := hide (below_al (below_on (unhide HB0) hb) (.cells #[.int .i64 tx, .int .i64 ty] 30))
  have P1 := hide (((unhide P0).below hb).al (.cells #[.int .i64 tx, .int .i64 ty] 30))
  have T1 := hide (var_new w0 30 tx ty)
  clear hb HB0 P0 CT
  obtain ⟨gt, hgt⟩ : ∃ g, w0.heap.size = g := ⟨_, rfl⟩
  rw [hgt] at T1
  go_wp2_with fail
  try rw [hgt]
  obtain ⟨w1, hw1⟩ : ∃ W, w0.alloc (.cells #[.int .i64 tx, .int .i64 ty] 30) = W := ⟨_, rfl⟩
  rw [hw1] at HB1 P1 T1 ⊢
  clear hgt hw1
  obtain ⟨q0, q1, q2, q3, q4, q5, q6, q7⟩ : _ ∧ _ ∧ _ ∧ _ ∧ _ ∧ _ ∧ _ ∧ _ := ⟨(unhide P1).at 0, (unhide P1).at 1, (unhide P1).at 2, (unhide P1).at 3, (unhide P1).at 4, (unhide P1).at 5, (unhide P1).at 6, (unhide P1).at 7⟩
  simp at q0 q1 q2 q3 q4 q5 q6 q7
  have R : ∀ wx, Kp w1 wx → wx.cell? ⟨w.heap.size, 0, none⟩ = some (.slice qa ql qc) ∧ wx.cell? ⟨w.heap.size, 1, none⟩ = some (.int .i64 clock) ∧ wx.cell? ⟨w.heap.size, 2, none⟩ = some (.int .i64 epoch) ∧ wx.cell? ⟨w.heap.size, 3, none⟩ = some (.int .i64 next) ∧ wx.cell? ⟨w.heap.size, 4, none⟩ = some (.int .i64 serial) ∧ wx.cell? ⟨w.heap.size, 5, none⟩ = some (.slice aa al ac) ∧ wx.cell? ⟨w.heap.size, 6, none⟩ = some (.slice ma ml mc) ∧ wx.cell? ⟨w.heap.size, 7, none⟩ = some (.slice ca cl cc) ∧ wx.cell? ⟨gt, 0, none⟩ = some (.int .i64 tx) ∧ wx.cell? ⟨gt, 1, none⟩ = some (.int .i64 ty) := fun wx h =>
    ⟨h.cell q0, h.cell q1, h.cell q2, h.cell q3, h.cell q4, h.cell q5, h.cell q6, h.cell q7, h.cell (unhide T1).c0, h.cell (unhide T1).c1⟩
  have A0 := hide (Kp.new w1)
  have HS := hide (kp_holds w1)
  clear P1 T1 q0 q1 q2 q3 q4 q5 q6 q7
  go_cut [8, 9, 10, 11] from 14 to 29 (fun v8 v9 v10 v11 wx => ∃ g8 g9 g10 g11, v8 = .pointer (some ⟨g8, 0, none⟩) ∧ v9 = .pointer (some ⟨g9, 0, none⟩) ∧ v10 = .pointer (some ⟨g10, 0, none⟩) ∧ v11 = .pointer (some ⟨g11, 0, none⟩) ∧ Var wx 30 g8 ux uy ∧ Var wx 30 g9 dx dy ∧ Var wx 30 g10 vx vy ∧ Var wx 30 g11 fx fy ∧ w1.heap.size ≤ g8 ∧ w1.heap.size ≤ g9 ∧ w1.heap.size ≤ g10 ∧ w1.heap.size ≤ g11 ∧ Kp w1 wx)
  case first =>
    refine wp_region_held_drew (S := fun wx => Kp w1 wx) (by kernel_rfl) ((unhide HS).drew (unhide A0)) (fun S0 => ?_)
    refine takeD (i := 0) (d := some 14) (v := _) rfl rfl (by kernel_rfl) (by kernel_rfl) (by kernel_rfl) (fun _ _ _ h => h) (Or.inl ⟨by rfl, fun wz hz => by (go_simp; try with_reducible rfl)⟩) S0 ?_
    try simp only [Act.put, List.setIfInBounds_toArray, List.set_cons_zero, List.set_cons_succ]
    refine takeD (i := 1) (d := some 15) (v := _) rfl rfl (by kernel_rfl) (by kernel_rfl) (by kernel_rfl) (fun _ _ _ h => h) (Or.inl ⟨by rfl, fun wz hz => by (go_simp; try with_reducible rfl)⟩) S0 ?_
    try simp only [Act.put, List.setIfInBounds_toArray, List.set_cons_zero, List.set_cons_succ]
    refine takeD (i := 3) (d := some 17) (v := _) rfl rfl (by kernel_rfl) (by kernel_rfl) (by kernel_rfl) (fun _ _ _ h => h) (Or.inl ⟨by rfl, fun wz hz => by (go_simp; try with_reducible rfl)⟩) S0 ?_
    try simp only [Act.put, List.setIfInBounds_toArray, List.set_cons_zero, List.set_cons_succ]
    refine takeD (i := 4) (d := some 18) (v := _) rfl rfl (by kernel_rfl) (by kernel_rfl) (by kernel_rfl) (fun _ _ _ h => h) (Or.inl ⟨by rfl, fun wz hz => by (go_simp; try with_reducible rfl)⟩) S0 ?_
    try simp only [Act.put, List.setIfInBounds_toArray, List.set_cons_zero, List.set_cons_succ]
    refine takeD (i := 5) (d := some 19) (v := _) rfl rfl (by kernel_rfl) (by kernel_rfl) (by kernel_rfl) (fun _ _ _ h => h) (Or.inl ⟨by rfl, fun wz hz => by (go_simp; try with_reducible rfl)⟩) S0 ?_
    try simp only [Act.put, List.setIfInBounds_toArray, List.set_cons_zero, List.set_cons_succ]
    refine takeD (i := 6) (d := some 20) (v := _) rfl rfl (by kernel_rfl) (by kernel_rfl) (by kernel_rfl) (fun _ _ _ h => h) (Or.inl ⟨by rfl, fun wz hz => by (go_simp; try with_reducible rfl)⟩) S0 ?_
    try simp only [Act.put, List.setIfInBounds_toArray, List.set_cons_zero, List.set_cons_succ]
    refine takeD (i := 8) (d := some 22) (v := _) rfl rfl (by kernel_rfl) (by kernel_rfl) (by kernel_rfl) (fun _ _ _ h => h) (Or.inl ⟨by rfl, fun wz hz => by (go_simp; try with_reducible rfl)⟩) S0 ?_
    try simp only [Act.put, List.setIfInBounds_toArray, List.set_cons_zero, List.set_cons_succ]
    refine takeD (i := 9) (d := some 23) (v := _) rfl rfl (by kernel_rfl) (by kernel_rfl) (by kernel_rfl) (fun _ _ _ h => h) (Or.inl ⟨by rfl, fun wz hz => by (go_simp; try with_reducible rfl)⟩) S0 ?_
    try simp only [Act.put, List.setIfInBounds_toArray, List.set_cons_zero, List.set_cons_succ]
    refine takeD (i := 11) (d := some 25) (v := _) rfl rfl (by kernel_rfl) (by kernel_rfl) (by kernel_rfl) (fun _ _ _ h => h) (Or.inl ⟨by rfl, fun wz hz => by (go_simp; try with_reducible rfl)⟩) S0 ?_
    try simp only [Act.put, List.setIfInBounds_toArray, List.set_cons_zero, List.set_cons_succ]
    refine takeD (i := 12) (d := some 26) (v := _) rfl rfl (by kernel_rfl) (by kernel_rfl) (by kernel_rfl) (fun _ _ _ h => h) (Or.inl ⟨by rfl, fun wz hz => by (go_simp; try with_reducible rfl)⟩) S0 ?_
    try simp only [Act.put, List.setIfInBounds_toArray, List.set_cons_zero, List.set_cons_succ]
    refine takeD (i := 13) (d := some 27) (v := _) rfl rfl (by kernel_rfl) (by kernel_rfl) (by kernel_rfl) (fun _ _ _ h => h) (Or.inl ⟨by rfl, fun wz hz => by (go_simp; try with_reducible rfl)⟩) S0 ?_
    try simp only [Act.put, List.setIfInBounds_toArray, List.set_cons_zero, List.set_cons_succ]
    refine takeD (i := 14) (d := some 28) (v := _) rfl rfl (by kernel_rfl) (by kernel_rfl) (by kernel_rfl) (fun _ _ _ h => h) (Or.inl ⟨by rfl, fun wz hz => by (go_simp; try with_reducible rfl)⟩) S0 ?_
    try simp only [Act.put, List.setIfInBounds_toArray, List.set_cons_zero, List.set_cons_succ]
    refine wpAnyH_is (n' := 4 + 4 + 4) (l' := BFM.lst 0 [false, false, false, false] 0) (a' := BFr w w1 na nb ux uy dx dy vx vy fx fy tx ty gt qa ql qc aa al ac ma ml mc ca cl cc qs clock epoch next serial apps ms cs 0 [false, false, false, false] [0, 0, 0, 0]) rfl (by kernel_rfl) rfl ?_
    refine region_multi (w1 := w1) BFM (BFr w w1 na nb ux uy dx dy vx vy fx fy tx ty gt qa ql qc aa al ac ma ml mc ca cl cc qs clock epoch next serial apps ms cs) [(ux, uy), (dx, dy), (vx, vy), (fx, fy)] rfl (by as_aux_lemma => kernel_rfl) ?call ?al ?st ?fin _ S0
    case call =>
      intro c f us wz K hc hf hu kp hK
      obtain ⟨f0, f1, f2, f3, rfl⟩ := list4 hf
      obtain ⟨g8, g9, g10, g11, rfl⟩ := list4 hu
      have hc4 : c < 4 := hc
      match c, hc4, hK with
      | 0, _, hK =>
        show Mul.step _ _ _ 2 _ _ _
        refine ⟨_, rfl, ?_⟩
        simp only [BFr, List.getD_cons_zero, List.getD_cons_succ]
        go_simp
        refine (unhide CU1 _ (below_on (unhide HB1) kp)).mono ?_
        rintro e w2 ⟨rfl, hb⟩
        go_wp2_with fail
        first | exact hb | exact hK _ hb
      | 1, _, hK =>
        show Mul.step _ _ _ 7 _ _ _
        refine ⟨_, rfl, ?_⟩
        simp only [BFr, List.getD_cons_zero, List.getD_cons_succ]
        go_simp
        refine (unhide CD1 _ (below_on (unhide HB1) kp)).mono ?_
        rintro e w2 ⟨rfl, hb⟩
        go_wp2_with fail
        first | exact hb | exact hK _ hb
      | 2, _, hK =>
        show Mul.step _ _ _ 10 _ _ _
        refine ⟨_, rfl, ?_⟩
        simp only [BFr, List.getD_cons_zero, List.getD_cons_succ]
        go_simp
        refine (unhide CU2 _ (below_on (unhide HB1) kp)).mono ?_
        rintro e w2 ⟨rfl, hb⟩
        go_wp2_with fail
        first | exact hb | exact hK _ hb
      | 3, _, hK =>
        show Mul.step _ _ _ 15 _ _ _
        refine ⟨_, rfl, ?_⟩
        simp only [BFr, List.getD_cons_zero, List.getD_cons_succ]
        go_simp
        refine (unhide CD2 _ (below_on (unhide HB1) kp)).mono ?_
        rintro e w2 ⟨rfl, hb⟩
        go_wp2_with fail
        first | exact hb | exact hK _ hb
    case al =>
      intro j c f us wz K hc hf hu hj hK
      obtain ⟨f0, f1, f2, f3, rfl⟩ := list4 hf
      obtain ⟨g8, g9, g10, g11, rfl⟩ := list4 hu
      match j, hj, hK with
      | 0, hj, hK =>
        show Mul.step _ _ _ 16 _ _ _
        refine ⟨_, rfl, ?_⟩
        simp only [BFr, List.getD_cons_zero, List.getD_cons_succ]
        go_simp
        go_wp2_with fail
        exact hK
      | 1, hj, hK =>
        show Mul.step _ _ _ 17 _ _ _
        refine ⟨_, rfl, ?_⟩
        simp only [BFr, List.getD_cons_zero, List.getD_cons_succ]
        go_simp
        go_wp2_with fail
        exact hK
      | 2, hj, hK =>
        show Mul.step _ _ _ 18 _ _ _
        refine ⟨_, rfl, ?_⟩
        simp only [BFr, List.getD_cons_zero, List.getD_cons_succ]
        go_simp
        go_wp2_with fail
        exact hK
      | 3, hj, hK =>
        show Mul.step _ _ _ 19 _ _ _
        refine ⟨_, rfl, ?_⟩
        simp only [BFr, List.getD_cons_zero, List.getD_cons_succ]
        go_simp
        go_wp2_with fail
        exact hK
      | j + 4, hj, _ => simp at hj
    case st =>
      intro s us wz K hs hu hv hK
      obtain ⟨g8, g9, g10, g11, rfl⟩ := list4 hu
      have hs4 : s < 4 := hs
      match s, hs4, hv, hK with
      | 0, _, hv, hK =>
        replace hv : Var wz 30 g8 0 0 := hv
        have y0 := hv.c0
        have y1 := hv.c1
        have y2 := hv.f 0
        have y3 := hv.f 1
        show Mul.step _ _ _ 20 { tmps := #[sv ⟨qa, ql, qc, aa, al, ac, ma, ml, mc, ca, cl, cc⟩ ⟨qs, clock, epoch, next, serial, apps, ms, cs⟩, .string (bs na), .string (bs nb), .pointer (some ⟨w.heap.size, 0, none⟩), undef, undef, .bool false, .pointer (some ⟨gt, 0, none⟩), .pointer (some ⟨g8, 0, none⟩), .pointer (some ⟨g9, 0, none⟩), .pointer (some ⟨g10, 0, none⟩), .pointer (some ⟨g11, 0, none⟩), .agg #[.slice qa ql qc, .int .i64 clock, .int .i64 epoch, .int .i64 next, .int .i64 serial, .slice aa al ac, .slice ma ml mc, .slice ca cl cc], rv tx ty, .agg #[.slice qa ql qc, .int .i64 clock, .int .i64 epoch, .int .i64 next, .int .i64 serial, .slice aa al ac, .slice ma ml mc, .slice ca cl cc], .string (bs na), rv ux uy, .pointer (some ⟨w.heap.size, 0, none⟩), .slice qa ql qc, .string (bs na), rv tx ty, rv dx dy, .agg #[.slice qa ql qc, .int .i64 clock, .int .i64 epoch, .int .i64 next, .int .i64 serial, .slice aa al ac, .slice ma ml mc, .slice ca cl cc], .string (bs nb), rv vx vy, .pointer (some ⟨w.heap.size, 0, none⟩), .slice qa ql qc, .string (bs nb), rv tx ty, rv fx fy, undef, undef, undef, undef, undef, undef, undef, undef, undef, undef, undef, undef, undef, undef, undef, undef], defers := [] } _ _
        refine ⟨_, rfl, ?_⟩
        simp only [BFr, List.getD_cons_zero, List.getD_cons_succ]
        go_simp
        go_wp2_with fail
        exact hK
      | 1, _, hv, hK =>
        replace hv : Var wz 30 g9 0 0 := hv
        have y0 := hv.c0
        have y1 := hv.c1
        have y2 := hv.f 0
        have y3 := hv.f 1
        show Mul.step _ _ _ 21 { tmps := #[sv ⟨qa, ql, qc, aa, al, ac, ma, ml, mc, ca, cl, cc⟩ ⟨qs, clock, epoch, next, serial, apps, ms, cs⟩, .string (bs na), .string (bs nb), .pointer (some ⟨w.heap.size, 0, none⟩), undef, undef, .bool false, .pointer (some ⟨gt, 0, none⟩), .pointer (some ⟨g8, 0, none⟩), .pointer (some ⟨g9, 0, none⟩), .pointer (some ⟨g10, 0, none⟩), .pointer (some ⟨g11, 0, none⟩), .agg #[.slice qa ql qc, .int .i64 clock, .int .i64 epoch, .int .i64 next, .int .i64 serial, .slice aa al ac, .slice ma ml mc, .slice ca cl cc], rv tx ty, .agg #[.slice qa ql qc, .int .i64 clock, .int .i64 epoch, .int .i64 next, .int .i64 serial, .slice aa al ac, .slice ma ml mc, .slice ca cl cc], .string (bs na), rv ux uy, .pointer (some ⟨w.heap.size, 0, none⟩), .slice qa ql qc, .string (bs na), rv tx ty, rv dx dy, .agg #[.slice qa ql qc, .int .i64 clock, .int .i64 epoch, .int .i64 next, .int .i64 serial, .slice aa al ac, .slice ma ml mc, .slice ca cl cc], .string (bs nb), rv vx vy, .pointer (some ⟨w.heap.size, 0, none⟩), .slice qa ql qc, .string (bs nb), rv tx ty, rv fx fy, undef, undef, undef, undef, undef, undef, undef, undef, undef, undef, undef, undef, undef, undef, undef, undef], defers := [] } _ _
        refine ⟨_, rfl, ?_⟩
        simp only [BFr, List.getD_cons_zero, List.getD_cons_succ]
        go_simp
        go_wp2_with fail
        exact hK
      | 2, _, hv, hK =>
        replace hv : Var wz 30 g10 0 0 := hv
        have y0 := hv.c0
        have y1 := hv.c1
        have y2 := hv.f 0
        have y3 := hv.f 1
        show Mul.step _ _ _ 22 { tmps := #[sv ⟨qa, ql, qc, aa, al, ac, ma, ml, mc, ca, cl, cc⟩ ⟨qs, clock, epoch, next, serial, apps, ms, cs⟩, .string (bs na), .string (bs nb), .pointer (some ⟨w.heap.size, 0, none⟩), undef, undef, .bool false, .pointer (some ⟨gt, 0, none⟩), .pointer (some ⟨g8, 0, none⟩), .pointer (some ⟨g9, 0, none⟩), .pointer (some ⟨g10, 0, none⟩), .pointer (some ⟨g11, 0, none⟩), .agg #[.slice qa ql qc, .int .i64 clock, .int .i64 epoch, .int .i64 next, .int .i64 serial, .slice aa al ac, .slice ma ml mc, .slice ca cl cc], rv tx ty, .agg #[.slice qa ql qc, .int .i64 clock, .int .i64 epoch, .int .i64 next, .int .i64 serial, .slice aa al ac, .slice ma ml mc, .slice ca cl cc], .string (bs na), rv ux uy, .pointer (some ⟨w.heap.size, 0, none⟩), .slice qa ql qc, .string (bs na), rv tx ty, rv dx dy, .agg #[.slice qa ql qc, .int .i64 clock, .int .i64 epoch, .int .i64 next, .int .i64 serial, .slice aa al ac, .slice ma ml mc, .slice ca cl cc], .string (bs nb), rv vx vy, .pointer (some ⟨w.heap.size, 0, none⟩), .slice qa ql qc, .string (bs nb), rv tx ty, rv fx fy, undef, undef, undef, undef, undef, undef, undef, undef, undef, undef, undef, undef, undef, undef, undef, undef], defers := [] } _ _
        refine ⟨_, rfl, ?_⟩
        simp only [BFr, List.getD_cons_zero, List.getD_cons_succ]
        go_simp
        go_wp2_with fail
        exact hK
      | 3, _, hv, hK =>
        replace hv : Var wz 30 g11 0 0 := hv
        have y0 := hv.c0
        have y1 := hv.c1
        have y2 := hv.f 0
        have y3 := hv.f 1
        show Mul.step _ _ _ 23 { tmps := #[sv ⟨qa, ql, qc, aa, al, ac, ma, ml, mc, ca, cl, cc⟩ ⟨qs, clock, epoch, next, serial, apps, ms, cs⟩, .string (bs na), .string (bs nb), .pointer (some ⟨w.heap.size, 0, none⟩), undef, undef, .bool false, .pointer (some ⟨gt, 0, none⟩), .pointer (some ⟨g8, 0, none⟩), .pointer (some ⟨g9, 0, none⟩), .pointer (some ⟨g10, 0, none⟩), .pointer (some ⟨g11, 0, none⟩), .agg #[.slice qa ql qc, .int .i64 clock, .int .i64 epoch, .int .i64 next, .int .i64 serial, .slice aa al ac, .slice ma ml mc, .slice ca cl cc], rv tx ty, .agg #[.slice qa ql qc, .int .i64 clock, .int .i64 epoch, .int .i64 next, .int .i64 serial, .slice aa al ac, .slice ma ml mc, .slice ca cl cc], .string (bs na), rv ux uy, .pointer (some ⟨w.heap.size, 0, none⟩), .slice qa ql qc, .string (bs na), rv tx ty, rv dx dy, .agg #[.slice qa ql qc, .int .i64 clock, .int .i64 epoch, .int .i64 next, .int .i64 serial, .slice aa al ac, .slice ma ml mc, .slice ca cl cc], .string (bs nb), rv vx vy, .pointer (some ⟨w.heap.size, 0, none⟩), .slice qa ql qc, .string (bs nb), rv tx ty, rv fx fy, undef, undef, undef, undef, undef, undef, undef, undef, undef, undef, undef, undef, undef, undef, undef, undef], defers := [] } _ _
        refine ⟨_, rfl, ?_⟩
        simp only [BFr, List.getD_cons_zero, List.getD_cons_succ]
        go_simp
        go_wp2_with fail
        exact hK
    case fin =>
      intro us wz hu hV kp
      obtain ⟨g8, g9, g10, g11, rfl⟩ := list4 hu
      have v8 : VB w1 wz g8 ux uy := hV 0 (by decide)
      have v9 : VB w1 wz g9 dx dy := hV 1 (by decide)
      have v10 : VB w1 wz g10 vx vy := hV 2 (by decide)
      have v11 : VB w1 wz g11 fx fy := hV 3 (by decide)
      go_wp2_with fail
      go_meet
      exact ⟨g8, g9, g10, g11, rfl, rfl, rfl, rfl, v8.2, v9.2, v10.2, v11.2, v8.1, v9.1, v10.1, v11.1, kp⟩
  case rest =>
    obtain ⟨g8, g9, g10, g11, rfl, rfl, rfl, rfl, v8, v9, v10, v11, _, _, _, _, hA⟩ := hcut
    obtain ⟨w4, rfl⟩ : ∃ w4, w4 = wc := ⟨wc, rfl⟩
    have V8 := hide v8
    have V9 := hide v9
    have V10 := hide v10
    have V11 := hide v11
    have HB4 := hide (below_on (unhide HB1) hA)
    have a0 := v8.c0; have a1 := v8.c1; have b0 := v9.c0; have b1 := v9.c1; have c0 := v10.c0; have c1 := v10.c1; have d0 := v11.c0; have d1 := v11.c1
    clear v8 v9 v10 v11 hA R A0 HS HB1 CU1 CU2 CD1 CD2
    go_wp2_with fail
    refine (unhide CL1 _).mono ?_
    rintro e w5 ⟨rfl, hb⟩
    have HB5 := hide (below_on (unhide HB4) hb)
    have X8 := (unhide V8).below hb
    have X9 := (unhide V9).below hb
    have X10 := (unhide V10).below hb
    have X11 := (unhide V11).below hb
    clear a0 a1 b0 b1 c0 c1 d0 d1 hb V8 V9 V10 V11 CL1 HB4
    have a0 := X8.c0; have a1 := X8.c1; have b0 := X9.c0; have b1 := X9.c1; have c0 := X10.c0; have c1 := X10.c1; have d0 := X11.c0; have d1 := X11.c1
    cases l1
    case true =>
      go_wp2
      go_ret
      exact ⟨ret_bool (by rw [unhide HA]; rfl), unhide HB5⟩
    clear X8 X9 X10 X11
    go_wp2_with fail
    refine (unhide CL2 _).mono ?_
    rintro e w6 ⟨rfl, hb⟩
    have HB6 := hide (below_on (unhide HB5) hb)
    clear a0 a1 b0 b1 c0 c1 d0 d1 hb CL2 HB5
    cases l2
    case true =>
      go_wp2
      go_ret
      exact ⟨ret_bool (by rw [unhide HA]; rfl), unhide HB6⟩
    obtain ⟨bl, hbl⟩ : ∃ z, Op.bytesLess (bs na).toList (bs nb).toList = z := ⟨_, rfl⟩
    have HBL := hide (show Op.bytesLess na nb = bl by rw [← hbl]; simp [bs])
    go_wp2
    go_ret
    exact ⟨ret_bool (by rw [unhide HA, unhide HBL]; rfl), unhide HB6⟩
end Go.Proofs.YtfbphoppgmganaaGreat

/-
  Names put in their places one by one are the names in order.
-/
namespace Go.Proofs.YtfbphoppgmganaaGreat
open Go.RowKit
set_option linter.unusedVariables false

theorem sorted_of_pairwise {α : Type} {le : α → α → Prop} : ∀ l : List α, l.Pairwise le → HeapM.Sorted le l
  | [], _ => trivial
  | x :: t, h => ⟨(List.pairwise_cons.1 h).1, sorted_of_pairwise t (List.pairwise_cons.1 h).2⟩
theorem bl_le (x y : List UInt8) : Op.bytesLess y x = false ↔ x ≤ y := by
  rw [bytesLess_eq]
  simp
theorem bl_asym (a b : List UInt8) (h : Op.bytesLess a b = true) : Op.bytesLess b a = false := by
  cases hb : Op.bytesLess b a with
  | false => rfl
  | true => have := bl_trans _ _ _ h hb; rw [bl_irr] at this; exact absurd this (by simp)
theorem bl_ntrans (a b c : List UInt8) (h : Op.bytesLess b a = false) (k : Op.bytesLess c b = false) : Op.bytesLess c a = false := by
  rw [bl_le] at *
  exact List.le_trans h k
/-- names put in their places, one by one -/
def insAll (l : List (List UInt8)) (o : List (List UInt8)) : List (List UInt8) := l.foldl (fun o x => OrdM.ins Op.bytesLess x o) o
theorem insAll_perm : ∀ (l o : List (List UInt8)), (insAll l o).Perm (l ++ o)
  | [], o => List.Perm.refl _
  | x :: t, o => by
    refine (insAll_perm t (OrdM.ins Op.bytesLess x o)).trans ?_
    refine (List.Perm.append_left t (OrdM.ins_perm _ x o)).trans ?_
    exact List.perm_middle
theorem insAll_sorted : ∀ (l o : List (List UInt8)), HeapM.Sorted (fun a b => Op.bytesLess b a = false) o → HeapM.Sorted (fun a b => Op.bytesLess b a = false) (insAll l o)
  | [], o, h => h
  | x :: t, o, h => insAll_sorted t _ (OrdM.ins_sorted bl_asym bl_ntrans x o h)
theorem insAll_eq (l : List (List UInt8)) : insAll l [] = l.mergeSort fun x y => decide (x ≤ y) := by
  refine HeapM.sorted_unique (le := fun a b => Op.bytesLess b a = false) ?_ _ _ (insAll_sorted l [] trivial) ?_ ?_
  · intro x y h k
    apply Classical.byContradiction
    intro e
    have := bl_tri _ _ h (fun h => e h.symm)
    rw [k] at this
    exact absurd this (by simp)
  · refine sorted_of_pairwise _ ?_
    refine (List.pairwise_mergeSort (le := fun x y => decide (x ≤ y)) ?_ ?_ l).imp ?_
    · intro a b c h k
      simp only [decide_eq_true_eq] at *
      exact List.le_trans h k
    · intro a b
      simp only [Bool.or_eq_true, decide_eq_true_eq]
      exact List.le_total a b
    · intro a b h
      rw [bl_le]
      simpa using h
  · have := insAll_perm l []
    rw [List.append_nil] at this
    exact this.trans (List.mergeSort_perm _ _).symm
theorem insAll_snoc (l : List (List UInt8)) (x : List UInt8) : insAll (l ++ [x]) [] = OrdM.ins Op.bytesLess x (insAll l []) := by
  rw [insAll, List.foldl_append]; rfl
/-- where a name goes -/
def place1 (p : List UInt8 → List UInt8 → Bool) (x : List UInt8) : List (List UInt8) → Nat
  | [] => 0
  | y :: t => if p y x = true then place1 p x t + 1 else 0
theorem place1_le (p : List UInt8 → List UInt8 → Bool) (x : List UInt8) : ∀ l, place1 p x l ≤ l.length
  | [] => Nat.le_refl _
  | y :: t => by
    unfold place1
    split
    · have := place1_le p x t; simp; omega
    · exact Nat.zero_le _
theorem ins_place (p : List UInt8 → List UInt8 → Bool) (x : List UInt8) : ∀ l, OrdM.ins p x l = l.take (place1 p x l) ++ x :: l.drop (place1 p x l)
  | [] => rfl
  | y :: t => by
    unfold OrdM.ins place1
    by_cases h : p y x = true
    · rw [if_pos h, if_pos h, List.take_succ_cons, List.drop_succ_cons, ins_place p x t]; rfl
    · rw [if_neg h, if_neg h]; rfl
theorem place1_step (p : List UInt8 → List UInt8 → Bool) (x : List UInt8) {l : List (List UInt8)} {k : Nat} (h : k < l.length) : k + place1 p x (l.drop k) = if p l[k] x = true then (k + 1) + place1 p x (l.drop (k + 1)) else k := by
  rw [List.drop_eq_getElem_cons h, place1]
  split <;> omega
theorem place1_end (p : List UInt8 → List UInt8 → Bool) (x : List UInt8) {l : List (List UInt8)} {k : Nat} (h : l.length ≤ k) : k + place1 p x (l.drop k) = k := by
  rw [List.drop_of_length_le h]; rfl
end Go.Proofs.YtfbphoppgmganaaGreat
