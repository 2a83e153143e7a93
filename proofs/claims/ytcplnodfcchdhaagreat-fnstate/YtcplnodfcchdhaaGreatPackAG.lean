/-
  Several texts of this claim in one: PathS, UsedByS, CapsI, CapsS, TotalB, ShareS (pack.py put them together); each says in its own remark what is proved.
-/
import Derived.Test.YtcplnodfcchdhaaGreatPackO
import Derived.Test.YtcplnodfcchdhaaGreatPackAC
import Derived.Test.YtcplnodfcchdhaaGreatPackW
import Derived.Test.YtcplnodfcchdhaaGreatPackP
import Derived.Test.YtcplnodfcchdhaaGreatPackY
import Derived.Deep.RegionHeld3
import Derived.Deep.RegionWith
import Derived.Deep.QuietTactic
import Derived.Deep.CutRange
import Derived.Test.YtcplnodfcchdhaaGreatPackR
import Derived.Test.YtcplnodfcchdhaaGreatStAll
import Derived.Test.YtcplnodfcchdhaaGreatPackL
import Derived.Test.YtcplnodfcchdhaaGreatPackK
/-
  The queue, its parent, and so on up to the first one: what the model's Path answers; a walk over the dump.
-/
namespace Go.Proofs.YtcplnodfcchdhaaGreat
open Go.RowKit
set_option linter.unusedVariables false
set_option maxRecDepth 100000 in
set_option maxHeartbeats 2000000 in
theorem specPath_any (ao : Option Addr) (len cap : Nat) (l : List Q) (nm : List UInt8) (w : World) (h : QRow w ao len l) (hl : len ≤ 1048576) (hn : ∀ q ∈ l, q.name.length ≤ 1048576) :
    Calls Tryz.prog 55 #[.slice ao len cap, .string (bs nm)] w fun e w' => ∃ v, e = .returned v ∧ Texts w.heap.size w' v (path l nm) ∧ Below w.heap.size w w' := by
  obtain ⟨i0, hi, hz0, hz1, hz2⟩ := info_parts Tryz.infoS
  have HR := hide h
  have HL := hide h.1
  have hlw := h.1
  have CQ := hide (fun wx (hb : Below w.heap.size w wx) => specQueuesOk_any ao len cap l wx (h.below hb) hl hn)
  have CP := hide (fun (x : List UInt8) wx (hb : Below w.heap.size w wx) => l03Place_any ao len cap l x wx (h.below hb) hl)
  obtain ⟨p0, hp0⟩ : ∃ p, place l nm = p := ⟨_, rfl⟩
  have hpr : p0 = -1 ∨ (0 ≤ p0 ∧ p0 < len) := by have := place_range l nm; rw [hp0] at this; omega
  have HP0 := hide hp0
  have CP0 := hide (by have := (unhide CP) nm (w.alloc (.cells #[] 9)) (below_al (Below.refl _ _) _); rw [hp0] at this; exact this)
  obtain ⟨ok, hok⟩ : ∃ ok, queuesOk l = ok := ⟨_, rfl⟩
  rw [hok] at CQ
  have HOK := hide hok
  have HS0 := hide (sown_empty w)
  clear h hn hp0 hok hlw
  go_enter Tryz.func55, Tryz.ntmps55
  go_wp2_with fail
  refine (unhide CP0).mono ?_
  rintro e w1 ⟨rfl, rfl⟩
  clear CP0
  go_wp2
  go_loopw [5, 6] (fun v i wr => ∃ (p : Int) (o : List ByteArray), i = .int .i64 p ∧ (p = -1 ∨ (0 ≤ p ∧ p < len)) ∧ o.length + p < len + 1 ∧ Hid (ok = true → o ++ (pathAt l (l.length + 1) p).map bs = (path l nm).map bs) ∧ Hid (ok = false → o = []) ∧ Hid (wr.ownsRow w.heap.size 9 1 v o.length (scells o)) ∧ Hid (Below w.heap.size w wr)) (fun _ i _ => (intOf i + 1).toNat)
  case atStart =>
    refine ⟨p0, [], rfl, hpr, by simp; omega, hide (fun e => ?_), hide (fun _ => rfl), HS0, hide (below_al (Below.refl _ _) _)⟩
    rw [path, unhide HOK, e, if_pos rfl, unhide HP0]; rfl
  case round =>
    obtain ⟨p, o, rfl, hp, ho, HO, HE, HS, HB⟩ := hrel
    by_cases h0 : 0 ≤ p
    · obtain ⟨k, rfl⟩ : ∃ k : Nat, p = k := ⟨p.toNat, by omega⟩
      have hlt : k < len := by omega
      cases ok with
      | false =>
        go_wp2_with fail
        refine (unhide CQ _ (unhide HB)).mono ?_
        rintro e w2 ⟨rfl, hb⟩
        have HB2 := hide (below_on (unhide HB) hb)
        have HS2 := hide (sown_below (unhide HS) hb)
        clear hb
        go_wp2
        go_ret
        refine ⟨_, rfl, Texts.of (unhide HS2) ?_, unhide HB2⟩
        rw [unhide HE (by first | rfl | trivial), show path l nm = [] by rw [path, unhide HOK]; rfl]
        rfl
      | true =>
        have hkl : k < l.length := by have := unhide HL; omega
        have hahead := parent_ahead (unhide HOK) hkl
        have hstep := path_step (unhide HOK) hkl (n := l.length + 1) (by omega)
        obtain ⟨b, off, rfl, hq⟩ := (unhide HR).at hlt
        have hqq := hq hkl
        obtain ⟨q, hs⟩ : ∃ q, l[k] = q := ⟨_, rfl⟩
        rw [hs] at hqq hahead hstep
        obtain ⟨pn, hpn⟩ : ∃ p, place l q.parent = p := ⟨_, rfl⟩
        have hpr2 : pn = -1 ∨ (0 ≤ pn ∧ pn < len) := by have := place_range l q.parent; rw [hpn] at this; have := unhide HL; omega
        rw [hpn] at hahead hstep
        have HQQ := hide hqq
        have HST := hide hstep
        have HPN := hide hpn
        clear hq hqq hs hkl hstep hpn
        go_wp2_with fail
        refine (unhide CQ _ (unhide HB)).mono ?_
        rintro e w2 ⟨rfl, hb⟩
        have hown := sown_below (unhide HS) hb
        have hbel := below_on (unhide HB) hb
        have HC := hide ((unhide HQQ).below hbel)
        have c0 := (unhide HC).1
        have hsz := hbel.size
        have hol : o.length ≤ 1048576 := by omega
        clear hb HS HB CQ
        go_wp2_with (at_builtin; refine wpList_append_own _ rfl _ _ 90 rfl w.heap.size 9 i0 (.string ByteArray.empty) 1 16 Tryz.underlying90 hi hz0 hz1 hz2 rfl (by decide) _ _ _ rfl (hown.alloc _) ⟨w2.heap.size, 0, none⟩ 1 1 [.string (bs q.name)] rfl rfl ?c1 ?c2 ?c3 ?c4 ?c5 ?_)
        case c1 => intro j v hj; match j, hj with | 0, hj => simp at hj; subst hj; simp [Addr.add]
        case c2 => intro v hv; simp at hv; subst hv; rfl
        case c3 => unfold maxLen; omega
        case c4 => omega
        case c5 => simp; omega
        intro v' w3 hown' hgrow _
        have R := srow_step hbel hown hown' hgrow (by omega)
        have HR3 := hide R
        have c1 := (show QAt w3 b (off + k * 4) q from (unhide HQQ).below R.2).2.1
        clear hown' hgrow hown hbel c0 R HC
        go_wp2_with fail
        refine (unhide CP q.parent _ (unhide HR3).2).mono ?_
        rintro e w4 ⟨rfl, rfl⟩
        rw [unhide HPN]
        go_wp2
        go_roundw
        case rel => exact ⟨pn, o ++ [bs q.name], rfl, hpr2, by simp; omega, hide (fun _ => by have := unhide HO (by first | rfl | trivial); rw [unhide HST] at this; simpa using this), hide (fun e => by cases e), hide (unhide HR3).1, hide (unhide HR3).2⟩
        case measure => simp [intOf]; omega
    · have hp1 : p = -1 := by omega
      subst hp1
      go_wp2
      go_ret
      refine ⟨_, rfl, Texts.of (unhide HS) ?_, unhide HB⟩
      cases ok with
      | true =>
        have := unhide HO (by first | rfl | trivial)
        rw [path_end (by omega)] at this
        simpa using this
      | false =>
        rw [unhide HE (by first | rfl | trivial), show path l nm = [] by rw [path, unhide HOK]; rfl]
        rfl
end Go.Proofs.YtcplnodfcchdhaaGreat

/-
  What a queue uses, by the model: UsedBy; a walk over the dump.
-/
namespace Go.Proofs.YtcplnodfcchdhaaGreat
open Go.RowKit Go.Maps
set_option linter.unusedVariables false
theorem usedS_len {p : Con → Bool} (l : List Con) : (usedL p l).length ≤ l.length := by simp [usedL]; exact List.length_filter_le _ _
theorem path_short (l : List Q) (nm : List UInt8) (h : l.length ≤ 1048575) : (path l nm).length ≤ 1048576 := by
  have key : ∀ (n : Nat) (p : Int), (pathAt l n p).length ≤ n := by
    intro n
    induction n with
    | zero => intro p; simp [pathAt]
    | succ n ih =>
      intro p
      rw [pathAt]
      split
      · simp; exact ih _
      · simp
  rw [path]
  split
  · exact Nat.le_trans (key _ _) (by omega)
  · simp

set_option maxRecDepth 100000 in
set_option maxHeartbeats 4000000 in
theorem specUsedBy_any (x : Sls) (s : St) (nm : List UInt8) (w : World) (h : SRow w x s) (hf : FitSt s) :
    Calls Tryz.prog 19 #[sv x s, .string (bs nm)] w fun e w' => e = .returned (rv (usedByV s nm).1 (usedByV s nm).2) ∧ Below w.heap.size w w' := by
  obtain ⟨i0, hi, hz0, hz1, hz2⟩ := info_parts Tryz.infoR
  have hql : x.ql ≤ 1048576 := by have := h.len.1; have := hf.1.1; omega
  have hal : x.al ≤ 1048576 := by have := h.len.2.1; have := hf.2.1.1; omega
  have hcl : x.cl ≤ 1048576 := by have := h.len.2.2.2; have := hf.2.2.2.1; omega
  have HR := hide h.2.2.2
  have HL := hide h.2.2.2.1
  have HAR := hide h.2.1
  have HAL := hide h.2.1.1
  have CA := hide (fun wx (hb : Below w.heap.size w wx) (id : Int) => l04App_any x s id wx (h.2.1.below hb) hal)
  have CP := hide (fun wx (hb : Below w.heap.size w wx) (qu : List UInt8) => specPath_any x.qa x.ql x.qc s.qs qu wx (h.1.below hb) hql (fun q hq => (hf.1.2 q hq).1))
  have HPL := hide (fun qu : List UInt8 => show (path s.qs qu).length ≤ 1048576 by
    cases ho : queuesOk s.qs with
    | false => simp [path, ho]
    | true =>
      refine path_short _ _ ?_
      have h2 := (okT_iff.1 (by have := queuesOk_okT s.qs; rw [ho] at this; simp at this; exact this.1)).2.2
      omega)
  obtain ⟨⟨⟨sx, sy, so⟩, hsum⟩, hlc⟩ : (∃ y, sumR (usedL (byQ s nm) s.cs) = y) ∧ (usedL (byQ s nm) s.cs).length ≤ 1048576 := ⟨⟨_, rfl⟩, by have := usedS_len (p := byQ s nm) s.cs; have := h.len.2.2.2; omega⟩
  have CS := hide (fun ao cap wx (h : RRow wx ao (usedL (byQ s nm) s.cs).length (usedL (byQ s nm) s.cs)) => by have := l04Sum_any ao _ cap (usedL (byQ s nm) s.cs) wx h hlc; rw [hsum] at this; exact this)
  have HBQ := hide (fun q : Con => show byQ s nm q = match findAp q.app s.apps with | none => false | some a => (path s.qs a.queue).any (fun x => decide (x = nm)) from rfl)
  rw [show (usedByV s nm).1 = sx by rw [usedByV, hsum], show (usedByV s nm).2 = sy by rw [usedByV, hsum]]
  have HFP := hide (fun id : Int => apAt_find id s.apps)
  obtain ⟨p, hp⟩ : ∃ p, byQ s nm = p := ⟨_, rfl⟩
  rw [hp] at HBQ CS
  have HLC := hide (fun k => show (usedL p (s.cs.take k)).length ≤ 1048576 by have := usedS_len (p := p) (s.cs.take k); have := h.len.2.2.2; simp only [List.length_take] at *; omega)
  clear h hf hsum hp hlc
  obtain ⟨qa, ql, qc, aa, al, ac, ma, ml, mc, ca, cl, cc⟩ := x
  obtain ⟨qs, clock, epoch, next, serial, apps, ms, cs⟩ := s
  simp only at CA CP CS HBQ HR HL HAR HAL HLC HFP HPL hql hal hcl
  have HB0 := hide (capW_below w (svc ⟨qa, ql, qc, aa, al, ac, ma, ml, mc, ca, cl, cc⟩ ⟨qs, clock, epoch, next, serial, apps, ms, cs⟩))
  have V0 := hide (capW_var w (svc ⟨qa, ql, qc, aa, al, ac, ma, ml, mc, ca, cl, cc⟩ ⟨qs, clock, epoch, next, serial, apps, ms, cs⟩))
  have P0 := hide ((boxW_blk w (svc ⟨qa, ql, qc, aa, al, ac, ma, ml, mc, ca, cl, cc⟩ ⟨qs, clock, epoch, next, serial, apps, ms, cs⟩)).al (.cells #[.int .i64 0, .int .i64 0] 33))
  have HO0 := hide (rown_empty (capW w (svc ⟨qa, ql, qc, aa, al, ac, ma, ml, mc, ca, cl, cc⟩ ⟨qs, clock, epoch, next, serial, apps, ms, cs⟩)))
  obtain ⟨W0, hW0⟩ : ∃ W, capW w (svc ⟨qa, ql, qc, aa, al, ac, ma, ml, mc, ca, cl, cc⟩ ⟨qs, clock, epoch, next, serial, apps, ms, cs⟩) = W := ⟨_, rfl⟩
  have P0 := hide (show Blk W0 w.heap.size (svc ⟨qa, ql, qc, aa, al, ac, ma, ml, mc, ca, cl, cc⟩ ⟨qs, clock, epoch, next, serial, apps, ms, cs⟩) 29 by rw [← hW0]; exact unhide P0)
  have hsz0 : W0.heap.size = w.heap.size + 1 + 1 := by rw [← hW0]; exact capW_size _ _
  rw [hW0] at HB0 V0 HO0
  have HW0 := hide hW0
  have HSZ := hide hsz0
  clear hW0 hsz0
  go_enter Tryz.func19, Tryz.ntmps19
  go_wp2
  go_loopw [5, 6] (fun v i wr => ∃ (k : Nat), k ≤ cl ∧ i = .int .i64 k ∧ Hid (ROwn W0.heap.size wr v (usedL p (cs.take k))) ∧ Hid (Below W0.heap.size W0 wr)) (fun _ i _ => cl - (intOf i).toNat)
  case atStart =>
    obtain rfl := unhide HW0
    refine ⟨0, Nat.zero_le _, rfl, hide ?_, hide (below_al (Below.refl _ _) _)⟩
    have := unhide HO0
    rw [unhide HSZ] at this ⊢
    exact this
  case round =>
    obtain ⟨k, hk, rfl, HO, HB⟩ := hrel
    have PB := (unhide P0).below (unhide HB)
    have HPB := hide PB
    obtain ⟨q0, q1, q2, q3, q4, q5, q6, q7⟩ : _ ∧ _ ∧ _ ∧ _ ∧ _ ∧ _ ∧ _ ∧ _ := ⟨PB.at 0, PB.at 1, PB.at 2, PB.at 3, PB.at 4, PB.at 5, PB.at 6, PB.at 7⟩
    simp at q0 q1 q2 q3 q4 q5 q6 q7
    have HBw := hide (below_on (unhide HB0) (unhide HB))
    clear PB
    by_cases hlt : k < cl
    · obtain ⟨b, off, rfl, hq⟩ := ((unhide HR).below (unhide HBw)).at hlt
      have hkl : k < cs.length := by have := unhide HL; omega
      have hst := usedL_step (p := p) hkl
      have HQ := hide (hq hkl)
      obtain ⟨m, hs⟩ : ∃ q, cs[k] = q := ⟨_, rfl⟩
      rw [hs] at HQ hst
      have hal2 := unhide HLC k
      obtain ⟨acc, hacc⟩ : ∃ a, usedL p (cs.take k) = a := ⟨_, rfl⟩
      rw [hacc] at hst hal2 HO
      obtain ⟨id, ap, no, me, cp⟩ := m
      obtain ⟨c0, c1, c2, c3, c4⟩ := unhide HQ
      simp only at c0 c1 c2 c3 c4
      have hbq := unhide HBQ ⟨id, ap, no, me, cp⟩
      simp only at hbq
      have hfp := unhide HFP ap
      obtain ⟨at0, ha⟩ : ∃ a, apAt apps ap = a := ⟨_, rfl⟩
      have CAk := hide (fun wx (hb : Below w.heap.size w wx) => by have := unhide CA wx hb ap; rw [ha] at this; exact this)
      rw [ha] at hfp
      have k0 : (0 : Int) ≤ k := by omega
      have k1 : (k : Int) < cl := by omega
      have HFP2 := hide hfp
      have HBQ2 := hide hbq
      have HST := hide hst
      have R : ∀ wx, Kp wr wx → wx.cell? ⟨w.heap.size, 0, none⟩ = some (.slice qa ql qc) ∧ wx.cell? ⟨w.heap.size, 1, none⟩ = some (.int .i64 clock) ∧ wx.cell? ⟨w.heap.size, 2, none⟩ = some (.int .i64 epoch) ∧ wx.cell? ⟨w.heap.size, 3, none⟩ = some (.int .i64 next) ∧ wx.cell? ⟨w.heap.size, 4, none⟩ = some (.int .i64 serial) ∧ wx.cell? ⟨w.heap.size, 5, none⟩ = some (.slice aa al ac) ∧ wx.cell? ⟨w.heap.size, 6, none⟩ = some (.slice ma ml mc) ∧ wx.cell? ⟨w.heap.size, 7, none⟩ = some (.slice (some ⟨b, off, none⟩) cl cc) ∧ wx.cell? ⟨b, off + k * 5 + 1, none⟩ = some (.int .i64 ap) := fun wx h =>
        ⟨h.cell q0, h.cell q1, h.cell q2, h.cell q3, h.cell q4, h.cell q5, h.cell q6, h.cell q7, h.cell c1⟩
      have A0 := hide (Kp.new wr)
      have HS := hide (kp_holds wr)
      clear hq hs hkl hacc ha hfp hbq hst
      go_wp2_with fail
      go_cut [7] from 18 to 25 (fun v7 wx => v7 = .int .i64 at0 ∧ Kp wr wx)
      case first =>
        go_region_held3 (fun wx => Kp wr wx)
          (first | (with_reducible assumption) | exact unhide SA | exact (unhide HS).drew (unhide A0) | exact (unhide HS).call (by assumption) (by assumption))
          (first
          | (go_at_call 44; refine (unhide CAk _ ?_).mono ?_; (exact below_on (unhide HBw) ((unhide HS).below (by assumption))); rintro e wt ⟨rfl, hb⟩; have SA := hide ((unhide HS).call (by assumption) hb)))
        all_goals
          go_wp2_with fail
          go_meet
          exact ⟨rfl, by first | assumption | exact unhide SA⟩
      case rest =>
        obtain ⟨rfl, hA⟩ := hcut
        obtain ⟨w4, rfl⟩ : ∃ w4, w4 = wc := ⟨wc, rfl⟩
        have HAw := hide (below_on (unhide HBw) hA)
        have HAk := hide hA
        have g0 := hA.cell q0
        have g5 := hA.cell q5
        have g7 := hA.cell q7
        have d3 := hA.cell c3
        have d4 := hA.cell c4
        have HO4 := hide ((unhide HO).below hA)
        have HB4 := hide (below_on (unhide HB) hA)
        clear A0 R HS CAk q0 q1 q2 q3 q4 q5 q6 q7 c0 c1 c2 c3 c4 hA HO HB HQ
        have HS := hide (kp_holds w4)
        have A0 := hide (Kp.new w4)
        obtain ⟨pv, hpv⟩ : ∃ o, p ⟨id, ap, no, me, cp⟩ = o := ⟨_, rfl⟩
        rw [hpv] at HST HBQ2
        clear hpv
        go_wp2_with fail
        go_cut [40] from 26 to 39 (fun v40 wx => v40 = .bool pv ∧ Kp w4 wx)
        case first =>
          rcases unhide HFP2 with ⟨hfn, rfl⟩ | ⟨j, hj, hfn, rfl⟩
          · rw [hfn] at HBQ2
            obtain rfl : pv = false := unhide HBQ2
            clear hfn
            go_quiet (fail)
            all_goals
              go_wp2_with fail
              go_meet
              exact ⟨rfl, below_dn (Below.refl _ _) _⟩
          · rw [hfn] at HBQ2
            have hjl : j < al := by have := unhide HAL; omega
            obtain ⟨ab, ao, rfl, hq⟩ := ((unhide HAR).below (unhide HAw)).at hjl
            obtain ⟨xo, xl, xc, hxx⟩ := hq hj
            have e1 := hxx.2.1
            obtain ⟨⟨ai, qu, asks⟩, hs⟩ : ∃ a, apps[j] = a := ⟨_, rfl⟩
            rw [hs] at e1 HBQ2
            simp only at e1
            have HPQ := hide (unhide HPL qu)
            have HBQ3 := hide (show pv = (path qs qu).any (fun x => decide (x = nm)) from unhide HBQ2)
            have CPq := hide (fun wx hb => unhide CP wx hb qu)
            obtain ⟨ps, hps⟩ : ∃ ps, path qs qu = ps := ⟨_, rfl⟩
            rw [hps] at HPQ HBQ3 CPq
            have CH := hide (fun (v : Value) (B : Nat) wx (h : Texts B wx v ps) => by have := l04Has_any v ps nm B wx h (unhide HPQ); rw [← unhide HBQ3] at this; exact this)
            have j0 : (0 : Int) ≤ j := by omega
            have j1 : (j : Int) < al := by omega
            have R : ∀ wx, Kp w4 wx → wx.cell? ⟨w.heap.size, 0, none⟩ = some (.slice qa ql qc) ∧ wx.cell? ⟨w.heap.size, 5, none⟩ = some (.slice (some ⟨ab, ao, none⟩) al ac) ∧ wx.cell? ⟨ab, ao + j * 3 + 1, none⟩ = some (.string (bs qu)) := fun wx h => ⟨h.cell g0, h.cell g5, h.cell e1⟩
            clear hfn hq hxx hs hps e1 hj
            go_region_held3 (fun wx => Kp w4 wx)
              (first | (with_reducible assumption) | exact unhide SA | exact (unhide HS).drew (unhide A0) | exact (unhide HS).call (by assumption) (by assumption))
              (first
              | (go_at_call 55; refine (unhide CPq _ ?_).mono ?_; (exact below_on (unhide HAw) ((unhide HS).below (by assumption))); rintro e wt ⟨v, rfl, htx, hb⟩; have HTX := hide htx; have SA := hide ((unhide HS).call (by assumption) hb))
              | (go_at_call 54; refine (unhide CH _ _ _ (unhide HTX)).mono ?_; rintro e wt2 ⟨rfl, rfl⟩))
            all_goals
              go_wp2_with fail
              go_meet
              exact ⟨rfl, by first | assumption | exact unhide SA⟩
        case rest =>
          obtain ⟨rfl, hA⟩ := hcut
          obtain ⟨w5, rfl⟩ : ∃ w5, w5 = wc := ⟨wc, rfl⟩
          have z7 := hA.cell g7
          have z3 := hA.cell d3
          have z4 := hA.cell d4
          have HO5 := hide ((unhide HO4).below hA)
          have HB5 := hide (below_on (unhide HB4) hA)
          clear g0 g5 g7 d3 d4 hA HO4 HB4 HS A0 HAk HAw HFP2 HBQ2
          cases pv with
          | true =>
            rw [if_pos rfl] at HST
            have hs2 : W0.heap.size ≤ w5.heap.size := (unhide HB5).size
            have hown : w5.ownsRow W0.heap.size 33 2 _ acc.length (rcells acc) := unhide HO5
            go_wp2_with (at_builtin; refine wpList_append_own _ rfl _ _ 85 rfl W0.heap.size 33 i0 (.agg #[.int .i64 0, .int .i64 0]) 2 16 Tryz.underlying85 hi hz0 hz1 hz2 rfl (by decide) _ _ _ rfl (hown.alloc _) ⟨w5.heap.size, 0, none⟩ 1 1 (rcell (me, cp)) rfl rfl ?c1 ?c2 ?c3 ?c4 ?c5 ?_)
            case c1 =>
              intro j x hj
              match j, hj with
              | 0, hj => simp at hj; subst hj; simp [Addr.add]
              | 1, hj => simp at hj; subst hj; simp [Addr.add]
              | _ + 2, hj => simp at hj
            case c2 => intro x hx; simp at hx; rcases hx with rfl | rfl <;> rfl
            case c3 => unfold maxLen; omega
            case c4 => omega
            case c5 => simp at hs2 ⊢; omega
            intro v' w6 hown' hgrow _
            have R := rown_step (q := (me, cp)) (unhide HB5) (unhide HO5) hown' hgrow hs2
            have HR3 := hide R
            clear hown' hgrow hown R z3 z4 z7
            go_wp2
            go_roundw
            case rel => exact ⟨k + 1, by omega, by go_num, hide (by rw [unhide HST]; exact (unhide HR3).1), hide (unhide HR3).2⟩
            case measure => simp [intOf]; omega
          | false =>
            rw [if_neg (by simp)] at HST
            go_wp2
            go_roundw
            case rel => exact ⟨k + 1, by omega, by go_num, hide (by rw [unhide HST]; exact unhide HO5), HB5⟩
            case measure => simp [intOf]; omega
    · have htk : cs.take k = cs := List.take_of_length_le (by have := unhide HL; omega)
      rw [htk] at HO
      obtain ⟨so', scp, rfl, hrow, _⟩ := (unhide HO).row
      have HROW := hide hrow
      have HV1 := hide ((unhide V0).below (unhide HB))
      obtain ⟨n, hn⟩ : ∃ n, (usedL p cs).length = n := ⟨_, rfl⟩
      rw [hn] at CS HROW ⊢
      clear hrow hn htk HO HB q0 q1 q2 q3 q4 q5 q6
      go_wp2_with fail
      refine (unhide CS _ _ _ (unhide HROW)).mono ?_
      rintro e w2 ⟨rfl, hb⟩
      have V1 := (unhide HV1).below hb
      have HB2 := hide (below_on (unhide HBw) hb)
      have V2 := V1.al (.cells #[.int .i64 sx, .int .i64 sy] 33)
      have t0 := V2.c0
      have t1 := V2.c1
      have f0 := V2.f 0
      have f1 := V2.f 1
      have VG := V2.set sx sy
      have k6 := VG.c0
      have k7 := VG.c1
      clear hb V1 V2 VG CS HV1 HROW
      go_wp2
      refine bodyPost_ret (v := rv sx sy) (by simp [results, Tryz.results19, go_sem, k6, k7]) rfl ⟨rfl, ?_⟩
      repeat (first | exact unhide HB2 | refine below_al ?_ _ | refine below_sc ?_ _ _ _ (by omega))
end Go.Proofs.YtcplnodfcchdhaaGreat

/-
  What all machines can together, by the program: Total; a walk over the dump.
-/
namespace Go.Proofs.YtcplnodfcchdhaaGreat
open Go.RowKit
set_option linter.unusedVariables false
set_option maxRecDepth 100000 in
set_option maxHeartbeats 2000000 in
theorem implTotal_any (x : Sls) (s : St) (w : World) (h : MacRow w x.ma x.ml s.ms) (hl : x.ml ≤ 1048576) :
    Calls Tryz.prog 25 #[sv x s] w fun e w' => e = .returned (rv (sumR (capsOf s.ms)).1 (sumR (capsOf s.ms)).2.1) ∧ Below w.heap.size w w' := by
  have HR := hide h
  clear h
  obtain ⟨⟨sx, sy, so⟩, hs⟩ : ∃ y, sumR (capsOf s.ms) = y := ⟨_, rfl⟩
  have CC := hide (fun wx (hb : Below w.heap.size w wx) => by have := caps_any x s wx ((unhide HR).below hb) hl; rw [hs] at this; exact this)
  rw [hs]
  clear hs
  obtain ⟨qa, ql, qc, aa, al, ac, ma, ml, mc, ca, cl, cc⟩ := x
  obtain ⟨qs, clock, epoch, next, serial, apps, ms, cs⟩ := s
  go_enter Tryz.func25, Tryz.ntmps25
  go_wp2_with fail
  refine (unhide CC _ (capW_below w _)).mono ?_
  rintro e w1 ⟨rfl, hb⟩
  have V1 := (capW_var w _).below hb
  have HB1 := hide (below_on (capW_below w _) hb)
  have V2 := V1.al (.cells #[.int .i64 sx, .int .i64 sy] 33)
  have t0 := V2.c0
  have t1 := V2.c1
  have f0 := V2.f 0
  have f1 := V2.f 1
  have u0 := V1.c0
  have u1 := V1.c1
  have e0 := V1.f 0
  have e1 := V1.f 1
  have VG := V2.set sx sy
  have k6 := VG.c0
  have k7 := VG.c1
  clear hb V1 V2 VG CC
  go_wp2
  refine bodyPost_ret (v := rv sx sy) (by simp [results, Tryz.results25, go_sem, k6, k7]) rfl ⟨rfl, ?_⟩
  repeat (first | exact unhide HB1 | refine below_al ?_ _ | refine below_sc ?_ _ _ _ (by omega))
end Go.Proofs.YtcplnodfcchdhaaGreat

/-
  What all machines can together, and what is on one of them, by the model: Total, UsedOn; walks over the dump.
-/
namespace Go.Proofs.YtcplnodfcchdhaaGreat
open Go.RowKit
set_option linter.unusedVariables false
set_option maxRecDepth 100000 in
set_option maxHeartbeats 2000000 in
theorem specTotal_any (x : Sls) (s : St) (w : World) (h : MacRow w x.ma x.ml s.ms) (hl : x.ml ≤ 1048576) :
    Calls Tryz.prog 26 #[sv x s] w fun e w' => e = .returned (rv (sumR (capsOf s.ms)).1 (sumR (capsOf s.ms)).2.1) ∧ Below w.heap.size w w' := by
  have hlc : (capsOf s.ms).length ≤ 1048576 := by have := h.1; simp [capsOf]; omega
  have HR := hide h
  clear h
  obtain ⟨⟨sx, sy, so⟩, hs⟩ : ∃ y, sumR (capsOf s.ms) = y := ⟨_, rfl⟩
  have CC := hide (fun wx (hb : Below w.heap.size w wx) => l04Caps_any x s wx ((unhide HR).below hb) hl)
  have CS := hide (fun ao cap wx (h : RRow wx ao (capsOf s.ms).length (capsOf s.ms)) => by have := l04Sum_any ao _ cap (capsOf s.ms) wx h hlc; rw [hs] at this; exact this)
  rw [hs]
  clear hs
  obtain ⟨qa, ql, qc, aa, al, ac, ma, ml, mc, ca, cl, cc⟩ := x
  obtain ⟨qs, clock, epoch, next, serial, apps, ms, cs⟩ := s
  simp only at CC CS hlc
  go_enter Tryz.func26, Tryz.ntmps26
  go_wp2_with fail
  refine (unhide CC _ (capW_below w _)).mono ?_
  rintro e w1 ⟨v, rfl, ho, hb⟩
  obtain ⟨ao, cp, rfl, hrow, _⟩ := ho.row
  have V1 := (capW_var w _).below hb
  have HV1 := hide V1
  have HB1 := hide (below_on (capW_below w _) hb)
  have HROW := hide hrow
  obtain ⟨n, hn⟩ : ∃ n, (capsOf ms).length = n := ⟨_, rfl⟩
  rw [hn] at CS HROW ⊢
  clear hb V1 CC ho hrow hn hlc
  go_wp2_with fail
  refine (unhide CS _ _ _ (unhide HROW)).mono ?_
  rintro e w2 ⟨rfl, hb⟩
  have V1 := (unhide HV1).below hb
  have HB2 := hide (below_on (unhide HB1) hb)
  have V2 := V1.al (.cells #[.int .i64 sx, .int .i64 sy] 33)
  have t0 := V2.c0
  have t1 := V2.c1
  have f0 := V2.f 0
  have f1 := V2.f 1
  have VG := V2.set sx sy
  have k6 := VG.c0
  have k7 := VG.c1
  clear hb V1 V2 VG CS HV1 HB1 HROW
  go_wp2
  refine bodyPost_ret (v := rv sx sy) (by simp [results, Tryz.results26, go_sem, k6, k7]) rfl ⟨rfl, ?_⟩
  repeat (first | exact unhide HB2 | refine below_al ?_ _ | refine below_sc ?_ _ _ _ (by omega))
end Go.Proofs.YtcplnodfcchdhaaGreat

/-
  What all machines can together: the two sides in one form.
-/
namespace Go.Proofs.YtcplnodfcchdhaaGreat
open Go.RowKit
def totalV (s : St) : Int × Int := ((sumR (capsOf s.ms)).1, (sumR (capsOf s.ms)).2.1)
theorem SRow.ml {w : World} {x : Sls} {s : St} (h : SRow w x s) (hf : FitSt s) : x.ml ≤ 1048576 := by have := h.len.2.2.1; have := hf.2.2.1.1; omega
theorem SRow.al {w : World} {x : Sls} {s : St} (h : SRow w x s) (hf : FitSt s) : x.al ≤ 1048576 := by have := h.len.2.1; have := hf.2.1.1; omega
theorem SRow.ql {w : World} {x : Sls} {s : St} (h : SRow w x s) (hf : FitSt s) : x.ql ≤ 1048576 := by have := h.len.1; have := hf.1.1; omega
end Go.Proofs.YtcplnodfcchdhaaGreat

/-
  A share of an amount: what the model's Share answers; a walk over the dump.
-/
namespace Go.Proofs.YtcplnodfcchdhaaGreat
open Go.RowKit
set_option linter.unusedVariables false
def shareOk (a b n : Int) : Bool := resOk a b && inB n 0 10000
def shareM (a b n : Int) : Int := if shareOk a b n then a * n / 10000 else 0
def shareC (a b n : Int) : Int := if shareOk a b n then b * n / 10000 else 0
theorem mul_bd {a n A N : Int} (h0 : 0 ≤ a) (h1 : a ≤ A) (h2 : 0 ≤ n) (h3 : n ≤ N) : 0 ≤ a * n ∧ a * n ≤ A * N :=
  ⟨Int.mul_nonneg h0 h2, Int.mul_le_mul h1 h3 h2 (Int.le_trans h0 h1)⟩
set_option maxRecDepth 100000 in
set_option maxHeartbeats 1000000 in
theorem specShare_any (a b n : Int) (w : World) :
    Calls Tryz.prog 124 #[rv a b, .int .i64 n] w fun e w' => e = .returned (rv (shareM a b n) (shareC a b n)) ∧ Below w.heap.size w w' := by
  cases h1 : resOk a b
  · rw [show shareM a b n = 0 by simp [shareM, shareOk, h1], show shareC a b n = 0 by simp [shareC, shareOk, h1]]
    go_enter Tryz.func124, Tryz.ntmps124
    go_wp2_with (first | (go_at_call 100; refine (specResOk_any _ _ _).mono ?_; rintro e w' ⟨rfl, rfl⟩) | (go_at_call 66; refine (l01In_any _ _ _ _).mono ?_; rintro e w' ⟨rfl, rfl⟩))
    refine bodyPost_ret (v := rv 0 0) (by simp [results, Tryz.results124, go_sem]) rfl ⟨rfl, ?_⟩
    repeat (first | exact Below.refl _ _ | refine below_al ?_ _ | refine Below.drew ?_ | refine below_sc ?_ _ _ _ (by omega))
  · cases h2 : inB n 0 10000
    · rw [show shareM a b n = 0 by simp [shareM, shareOk, h2], show shareC a b n = 0 by simp [shareC, shareOk, h2]]
      go_enter Tryz.func124, Tryz.ntmps124
      go_wp2_with (first | (go_at_call 100; refine (specResOk_any _ _ _).mono ?_; rintro e w' ⟨rfl, rfl⟩) | (go_at_call 66; refine (l01In_any _ _ _ _).mono ?_; rintro e w' ⟨rfl, rfl⟩))
      refine bodyPost_ret (v := rv 0 0) (by simp [results, Tryz.results124, go_sem]) rfl ⟨rfl, ?_⟩
      repeat (first | exact Below.refl _ _ | refine below_al ?_ _ | refine Below.drew ?_ | refine below_sc ?_ _ _ _ (by omega))
    · rw [show shareM a b n = a * n / 10000 by simp [shareM, shareOk, h1, h2], show shareC a b n = b * n / 10000 by simp [shareC, shareOk, h1, h2]]
      obtain ⟨q1, q2, q3, q4⟩ := resOk_bd h1
      have hn : 0 ≤ n ∧ n ≤ 10000 := by simpa [inB] using h2
      obtain ⟨m1, m2⟩ := mul_bd q1 q2 hn.1 hn.2
      obtain ⟨m3, m4⟩ := mul_bd q3 q4 hn.1 hn.2
      go_enter Tryz.func124, Tryz.ntmps124
      go_wp2_with (first | (go_at_call 100; refine (specResOk_any _ _ _).mono ?_; rintro e w' ⟨rfl, rfl⟩) | (go_at_call 66; refine (l01In_any _ _ _ _).mono ?_; rintro e w' ⟨rfl, rfl⟩))
      refine bodyPost_ret (v := rv (a * n / 10000) (b * n / 10000)) (by simp [results, Tryz.results124, go_sem]) rfl ⟨rfl, ?_⟩
      repeat (first | exact Below.refl _ _ | refine below_al ?_ _ | refine Below.drew ?_ | refine below_sc ?_ _ _ _ (by omega))
end Go.Proofs.YtcplnodfcchdhaaGreat
