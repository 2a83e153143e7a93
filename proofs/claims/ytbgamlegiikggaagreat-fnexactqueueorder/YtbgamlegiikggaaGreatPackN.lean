/-
  Several texts of this claim in one: PathS, Held, UsedByS, OfSD (pack.py put them together); each says in its own remark what is proved.
-/
import Derived.Test.YtbgamlegiikggaaGreatPackC
import Derived.Test.YtbgamlegiikggaaGreatPackF
import Derived.Test.YtbgamlegiikggaaGreatStAll
import Derived.Test.YtbgamlegiikggaaGreatPackI
import Derived.Test.YtbgamlegiikggaaGreatPackE
import Derived.Test.YtbgamlegiikggaaGreatPackG
import Derived.Deep.RegionHeld3
import Derived.Deep.RegionWith
import Derived.Deep.QuietTactic
import Derived.Deep.CutRange
/-
  The queue, its parent, and so on up to the first one: what the model's Path answers; a walk over the dump.
-/
namespace Go.Proofs.YtbgamlegiikggaaGreat
open Go.RowKit
set_option linter.unusedVariables false

set_option maxRecDepth 100000 in
set_option maxHeartbeats 2000000 in
theorem specPath_any (ao : Option Addr) (len cap : Nat) (l : List Q) (nm : List UInt8) (w : World) (h : QRow w ao len l) (hl : len ≤ 1048576) (hn : ∀ q ∈ l, q.name.length ≤ 1048576) :
    Calls Tryz.prog 79 #[.slice ao len cap, .string (bs nm)] w fun e w' => ∃ v, e = .returned v ∧ Texts w.heap.size w' v (path l nm) ∧ Below w.heap.size w w' := by
  obtain ⟨i0, hi, hz0, hz1, hz2⟩ := info_parts Tryz.infoS
  have HR := hide h
  have HL := hide h.1
  have hlw := h.1
  have CQ := hide (fun wx (hb : Below w.heap.size w wx) => specQueuesOk_any ao len cap l wx (h.below hb) hl hn)
  have CP := hide (fun (x : List UInt8) wx (hb : Below w.heap.size w wx) => l03Place_any ao len cap l x wx (h.below hb) hl)
  obtain ⟨p0, hp0⟩ : ∃ p, place l nm = p := ⟨_, rfl⟩
  have hpr : p0 = -1 ∨ (0 ≤ p0 ∧ p0 < len) := by have := place_range l nm; rw [hp0] at this; omega
  have HP0 := hide hp0
  have CP0 := hide (by have := (unhide CP) nm (w.alloc (.cells #[] 9)) (below_al (Below.refl _ _) _); rw [hp0] at this; exact this)
  obtain ⟨ok, hok⟩ : ∃ ok, queuesOk l = ok := ⟨_, rfl⟩
  rw [hok] at CQ
  have HOK := hide hok
  have HS0 := hide (sown_empty w)
  clear h hn hp0 hok hlw
  go_enter Tryz.func79, Tryz.ntmps79
  go_wp2_with fail
  refine (unhide CP0).mono ?_
  rintro e w1 ⟨rfl, rfl⟩
  clear CP0
  go_wp2
  go_loopw [5, 6] (fun v i wr => ∃ (p : Int) (o : List ByteArray), i = .int .i64 p ∧ (p = -1 ∨ (0 ≤ p ∧ p < len)) ∧ o.length + p < len + 1 ∧ Hid (ok = true → o ++ (pathAt l (l.length + 1) p).map bs = (path l nm).map bs) ∧ Hid (ok = false → o = []) ∧ Hid (wr.ownsRow w.heap.size 9 1 v o.length (scells o)) ∧ Hid (Below w.heap.size w wr)) (fun _ i _ => (intOf i + 1).toNat)
  case atStart =>
    refine ⟨p0, [], rfl, hpr, by simp; omega, hide (fun e => ?_), hide (fun _ => rfl), HS0, hide (below_al (Below.refl _ _) _)⟩
    rw [path, unhide HOK, e, if_pos rfl, unhide HP0]; rfl
  case round =>
    obtain ⟨p, o, rfl, hp, ho, HO, HE, HS, HB⟩ := hrel
    by_cases h0 : 0 ≤ p
    · obtain ⟨k, rfl⟩ : ∃ k : Nat, p = k := ⟨p.toNat, by omega⟩
      have hlt : k < len := by omega
      cases ok with
      | false =>
        go_wp2_with fail
        refine (unhide CQ _ (unhide HB)).mono ?_
        rintro e w2 ⟨rfl, hb⟩
        have HB2 := hide (below_on (unhide HB) hb)
        have HS2 := hide (sown_below (unhide HS) hb)
        clear hb
        go_wp2
        go_ret
        refine ⟨_, rfl, Texts.of (unhide HS2) ?_, unhide HB2⟩
        rw [unhide HE (by first | rfl | trivial), show path l nm = [] by rw [path, unhide HOK]; rfl]
        rfl
      | true =>
        have hkl : k < l.length := by have := unhide HL; omega
        have hahead := parent_ahead (unhide HOK) hkl
        have hstep := path_step (unhide HOK) hkl (n := l.length + 1) (by omega)
        obtain ⟨b, off, rfl, hq⟩ := (unhide HR).at hlt
        have hqq := hq hkl
        obtain ⟨q, hs⟩ : ∃ q, l[k] = q := ⟨_, rfl⟩
        rw [hs] at hqq hahead hstep
        obtain ⟨pn, hpn⟩ : ∃ p, place l q.parent = p := ⟨_, rfl⟩
        have hpr2 : pn = -1 ∨ (0 ≤ pn ∧ pn < len) := by have := place_range l q.parent; rw [hpn] at this; have := unhide HL; omega
        rw [hpn] at hahead hstep
        have HQQ := hide hqq
        have HST := hide hstep
        have HPN := hide hpn
        clear hq hqq hs hkl hstep hpn
        go_wp2_with fail
        refine (unhide CQ _ (unhide HB)).mono ?_
        rintro e w2 ⟨rfl, hb⟩
        have hown := sown_below (unhide HS) hb
        have hbel := below_on (unhide HB) hb
        have HC := hide ((unhide HQQ).below hbel)
        have c0 := (unhide HC).1
        have hsz := hbel.size
        have hol : o.length ≤ 1048576 := by omega
        clear hb HS HB CQ
        go_wp2_with (at_builtin; refine wpList_append_own _ rfl _ _ 29 rfl w.heap.size 9 i0 (.string ByteArray.empty) 1 16 Tryz.underlying29 hi hz0 hz1 hz2 rfl (by decide) _ _ _ rfl (hown.alloc _) ⟨w2.heap.size, 0, none⟩ 1 1 [.string (bs q.name)] rfl rfl ?c1 ?c2 ?c3 ?c4 ?c5 ?_)
        case c1 => intro j v hj; match j, hj with | 0, hj => simp at hj; subst hj; simp [Addr.add]
        case c2 => intro v hv; simp at hv; subst hv; rfl
        case c3 => unfold maxLen; omega
        case c4 => omega
        case c5 => simp; omega
        intro v' w3 hown' hgrow _
        have R := srow_step hbel hown hown' hgrow (by omega)
        have HR3 := hide R
        have c1 := (show QAt w3 b (off + k * 4) q from (unhide HQQ).below R.2).2.1
        clear hown' hgrow hown hbel c0 R HC
        go_wp2_with fail
        refine (unhide CP q.parent _ (unhide HR3).2).mono ?_
        rintro e w4 ⟨rfl, rfl⟩
        rw [unhide HPN]
        go_wp2
        go_roundw
        case rel => exact ⟨pn, o ++ [bs q.name], rfl, hpr2, by simp; omega, hide (fun _ => by have := unhide HO (by first | rfl | trivial); rw [unhide HST] at this; simpa using this), hide (fun e => by cases e), hide (unhide HR3).1, hide (unhide HR3).2⟩
        case measure => simp [intOf]; omega
    · have hp1 : p = -1 := by omega
      subst hp1
      go_wp2
      go_ret
      refine ⟨_, rfl, Texts.of (unhide HS) ?_, unhide HB⟩
      cases ok with
      | true =>
        have := unhide HO (by first | rfl | trivial)
        rw [path_end (by omega)] at this
        simpa using this
      | false =>
        rw [unhide HE (by first | rfl | trivial), show path l nm = [] by rw [path, unhide HOK]; rfl]
        rfl
end Go.Proofs.YtbgamlegiikggaaGreat

/-
  Blocks that stand while a region is run, in whatever order: one word for them.
-/
namespace Go.Proofs.YtbgamlegiikggaaGreat
open Go.RowKit
set_option linter.unusedVariables false

/-- the blocks of L stand, all of them ahead of n; nothing of w0 has turned -/
def Held (w0 : World) (n : Nat) (L : List (Nat × Array Value × TypeId)) (wx : World) : Prop :=
  (∀ p ∈ L, p.1 < n ∧ Blk wx p.1 p.2.1 p.2.2) ∧ n ≤ wx.heap.size ∧ w0.heap.size ≤ n ∧ Below w0.heap.size w0 wx
theorem held_holds (w0 : World) (n : Nat) (L : List (Nat × Array Value × TypeId)) : Holds (Held w0 n L) w0 n where
  call := fun h hb => ⟨fun p hp => ⟨(h.1 p hp).1, (h.1 p hp).2.below hb⟩, Nat.le_trans h.2.1 hb.size, h.2.2.1, below_on h.2.2.2 hb⟩
  set := fun k j v h hk => ⟨fun p hp => ⟨(h.1 p hp).1, (h.1 p hp).2.other k j v (by have := (h.1 p hp).1; omega)⟩, by rw [set_size]; exact h.2.1, h.2.2.1, below_sc h.2.2.2 _ _ _ (Nat.le_trans h.2.2.1 hk)⟩
  size := fun h => h.2.1
  below := fun h => h.2.2.2
theorem Held.blk {w0 : World} {n : Nat} {L : List (Nat × Array Value × TypeId)} {wx : World} (h : Held w0 n L wx) {p : Nat × Array Value × TypeId} (hp : p ∈ L) : Blk wx p.1 p.2.1 p.2.2 := (h.1 p hp).2
theorem Var.blk {w : World} {t : TypeId} {g : Nat} {x y : Int} (h : Var w t g x y) : Blk w g #[.int .i64 x, .int .i64 y] t := h
theorem Blk.var {w : World} {t : TypeId} {g : Nat} {x y : Int} (h : Blk w g #[.int .i64 x, .int .i64 y] t) : Var w t g x y := h
end Go.Proofs.YtbgamlegiikggaaGreat

/-
  What a queue uses, by the model: UsedBy; a walk over the dump.
-/
namespace Go.Proofs.YtbgamlegiikggaaGreat
open Go.RowKit Go.Maps
set_option linter.unusedVariables false

theorem usedS_len {p : Con → Bool} (l : List Con) : (usedL p l).length ≤ l.length := by simp [usedL]; exact List.length_filter_le _ _
theorem path_short (l : List Q) (nm : List UInt8) (h : l.length ≤ 1048575) : (path l nm).length ≤ 1048576 := by
  have key : ∀ (n : Nat) (p : Int), (pathAt l n p).length ≤ n := by
    intro n
    induction n with
    | zero => intro p; simp [pathAt]
    | succ n ih =>
      intro p
      rw [pathAt]
      split
      · simp; exact ih _
      · simp
  rw [path]
  split
  · exact Nat.le_trans (key _ _) (by omega)
  · simp

set_option maxRecDepth 100000 in
set_option maxHeartbeats 4000000 in
theorem specUsedBy_any (x : Sls) (s : St) (nm : List UInt8) (w : World) (h : SRow w x s) (hf : FitSt s) :
    Calls Tryz.prog 42 #[sv x s, .string (bs nm)] w fun e w' => e = .returned (rv (usedByV s nm).1 (usedByV s nm).2) ∧ Below w.heap.size w w' := by
  obtain ⟨i0, hi, hz0, hz1, hz2⟩ := info_parts Tryz.infoR
  have hql : x.ql ≤ 1048576 := by have := h.len.1; have := hf.1.1; omega
  have hal : x.al ≤ 1048576 := by have := h.len.2.1; have := hf.2.1.1; omega
  have hcl : x.cl ≤ 1048576 := by have := h.len.2.2.2; have := hf.2.2.2.1; omega
  have HR := hide h.2.2.2
  have HL := hide h.2.2.2.1
  have HAR := hide h.2.1
  have HAL := hide h.2.1.1
  have CA := hide (fun wx (hb : Below w.heap.size w wx) (id : Int) => l04App_any x s id wx (h.2.1.below hb) hal)
  have CP := hide (fun wx (hb : Below w.heap.size w wx) (qu : List UInt8) => specPath_any x.qa x.ql x.qc s.qs qu wx (h.1.below hb) hql (fun q hq => (hf.1.2 q hq).1))
  have HPL := hide (fun qu : List UInt8 => show (path s.qs qu).length ≤ 1048576 by
    cases ho : queuesOk s.qs with
    | false => simp [path, ho]
    | true =>
      refine path_short _ _ ?_
      have h2 := (okT_iff.1 (by have := queuesOk_okT s.qs; rw [ho] at this; simp at this; exact this.1)).2.2
      omega)
  obtain ⟨⟨⟨sx, sy, so⟩, hsum⟩, hlc⟩ : (∃ y, sumR (usedL (byQ s nm) s.cs) = y) ∧ (usedL (byQ s nm) s.cs).length ≤ 1048576 := ⟨⟨_, rfl⟩, by have := usedS_len (p := byQ s nm) s.cs; have := h.len.2.2.2; omega⟩
  have CS := hide (fun ao cap wx (h : RRow wx ao (usedL (byQ s nm) s.cs).length (usedL (byQ s nm) s.cs)) => by have := l04Sum_any ao _ cap (usedL (byQ s nm) s.cs) wx h hlc; rw [hsum] at this; exact this)
  have HBQ := hide (fun q : Con => show byQ s nm q = match findAp q.app s.apps with | none => false | some a => (path s.qs a.queue).any (fun x => decide (x = nm)) from rfl)
  rw [show (usedByV s nm).1 = sx by rw [usedByV, hsum], show (usedByV s nm).2 = sy by rw [usedByV, hsum]]
  have HFP := hide (fun id : Int => apAt_find id s.apps)
  obtain ⟨p, hp⟩ : ∃ p, byQ s nm = p := ⟨_, rfl⟩
  rw [hp] at HBQ CS
  have HLC := hide (fun k => show (usedL p (s.cs.take k)).length ≤ 1048576 by have := usedS_len (p := p) (s.cs.take k); have := h.len.2.2.2; simp only [List.length_take] at *; omega)
  clear h hf hsum hp hlc
  obtain ⟨qa, ql, qc, aa, al, ac, ma, ml, mc, ca, cl, cc⟩ := x
  obtain ⟨qs, clock, epoch, next, serial, apps, ms, cs⟩ := s
  simp only at CA CP CS HBQ HR HL HAR HAL HLC HFP HPL hql hal hcl
  have HB0 := hide (capW_below w (svc ⟨qa, ql, qc, aa, al, ac, ma, ml, mc, ca, cl, cc⟩ ⟨qs, clock, epoch, next, serial, apps, ms, cs⟩))
  have V0 := hide (capW_var w (svc ⟨qa, ql, qc, aa, al, ac, ma, ml, mc, ca, cl, cc⟩ ⟨qs, clock, epoch, next, serial, apps, ms, cs⟩))
  have P0 := hide ((boxW_blk w (svc ⟨qa, ql, qc, aa, al, ac, ma, ml, mc, ca, cl, cc⟩ ⟨qs, clock, epoch, next, serial, apps, ms, cs⟩)).al (.cells #[.int .i64 0, .int .i64 0] 64))
  have HO0 := hide (rown_empty (capW w (svc ⟨qa, ql, qc, aa, al, ac, ma, ml, mc, ca, cl, cc⟩ ⟨qs, clock, epoch, next, serial, apps, ms, cs⟩)))
  obtain ⟨W0, hW0⟩ : ∃ W, capW w (svc ⟨qa, ql, qc, aa, al, ac, ma, ml, mc, ca, cl, cc⟩ ⟨qs, clock, epoch, next, serial, apps, ms, cs⟩) = W := ⟨_, rfl⟩
  have P0 := hide (show Blk W0 w.heap.size (svc ⟨qa, ql, qc, aa, al, ac, ma, ml, mc, ca, cl, cc⟩ ⟨qs, clock, epoch, next, serial, apps, ms, cs⟩) 36 by rw [← hW0]; exact unhide P0)
  have hsz0 : W0.heap.size = w.heap.size + 1 + 1 := by rw [← hW0]; exact capW_size _ _
  rw [hW0] at HB0 V0 HO0
  have HW0 := hide hW0
  have HSZ := hide hsz0
  clear hW0 hsz0
  go_enter Tryz.func42, Tryz.ntmps42
  go_wp2
  go_loopw [5, 6] (fun v i wr => ∃ (k : Nat), k ≤ cl ∧ i = .int .i64 k ∧ Hid (ROwn W0.heap.size wr v (usedL p (cs.take k))) ∧ Hid (Below W0.heap.size W0 wr)) (fun _ i _ => cl - (intOf i).toNat)
  case atStart =>
    obtain rfl := unhide HW0
    refine ⟨0, Nat.zero_le _, rfl, hide ?_, hide (below_al (Below.refl _ _) _)⟩
    have := unhide HO0
    rw [unhide HSZ] at this ⊢
    exact this
  case round =>
    obtain ⟨k, hk, rfl, HO, HB⟩ := hrel
    have PB := (unhide P0).below (unhide HB)
    have HPB := hide PB
    obtain ⟨q0, q1, q2, q3, q4, q5, q6, q7⟩ : _ ∧ _ ∧ _ ∧ _ ∧ _ ∧ _ ∧ _ ∧ _ := ⟨PB.at 0, PB.at 1, PB.at 2, PB.at 3, PB.at 4, PB.at 5, PB.at 6, PB.at 7⟩
    simp at q0 q1 q2 q3 q4 q5 q6 q7
    have HBw := hide (below_on (unhide HB0) (unhide HB))
    clear PB
    by_cases hlt : k < cl
    · obtain ⟨b, off, rfl, hq⟩ := ((unhide HR).below (unhide HBw)).at hlt
      have hkl : k < cs.length := by have := unhide HL; omega
      have hst := usedL_step (p := p) hkl
      have HQ := hide (hq hkl)
      obtain ⟨m, hs⟩ : ∃ q, cs[k] = q := ⟨_, rfl⟩
      rw [hs] at HQ hst
      have hal2 := unhide HLC k
      obtain ⟨acc, hacc⟩ : ∃ a, usedL p (cs.take k) = a := ⟨_, rfl⟩
      rw [hacc] at hst hal2 HO
      obtain ⟨id, ap, no, me, cp⟩ := m
      obtain ⟨c0, c1, c2, c3, c4⟩ := unhide HQ
      simp only at c0 c1 c2 c3 c4
      have hbq := unhide HBQ ⟨id, ap, no, me, cp⟩
      simp only at hbq
      have hfp := unhide HFP ap
      obtain ⟨at0, ha⟩ : ∃ a, apAt apps ap = a := ⟨_, rfl⟩
      have CAk := hide (fun wx (hb : Below w.heap.size w wx) => by have := unhide CA wx hb ap; rw [ha] at this; exact this)
      rw [ha] at hfp
      have k0 : (0 : Int) ≤ k := by omega
      have k1 : (k : Int) < cl := by omega
      have HFP2 := hide hfp
      have HBQ2 := hide hbq
      have HST := hide hst
      have R : ∀ wx, Kp wr wx → wx.cell? ⟨w.heap.size, 0, none⟩ = some (.slice qa ql qc) ∧ wx.cell? ⟨w.heap.size, 1, none⟩ = some (.int .i64 clock) ∧ wx.cell? ⟨w.heap.size, 2, none⟩ = some (.int .i64 epoch) ∧ wx.cell? ⟨w.heap.size, 3, none⟩ = some (.int .i64 next) ∧ wx.cell? ⟨w.heap.size, 4, none⟩ = some (.int .i64 serial) ∧ wx.cell? ⟨w.heap.size, 5, none⟩ = some (.slice aa al ac) ∧ wx.cell? ⟨w.heap.size, 6, none⟩ = some (.slice ma ml mc) ∧ wx.cell? ⟨w.heap.size, 7, none⟩ = some (.slice (some ⟨b, off, none⟩) cl cc) ∧ wx.cell? ⟨b, off + k * 5 + 1, none⟩ = some (.int .i64 ap) := fun wx h =>
        ⟨h.cell q0, h.cell q1, h.cell q2, h.cell q3, h.cell q4, h.cell q5, h.cell q6, h.cell q7, h.cell c1⟩
      have A0 := hide (Kp.new wr)
      have HS := hide (kp_holds wr)
      clear hq hs hkl hacc ha hfp hbq hst
      go_wp2_with fail
      go_cut [7] from 18 to 25 (fun v7 wx => v7 = .int .i64 at0 ∧ Kp wr wx)
      case first =>
        go_region_held3 (fun wx => Kp wr wx)
          (first | (with_reducible assumption) | exact unhide SA | exact (unhide HS).drew (unhide A0) | exact (unhide HS).call (by assumption) (by assumption))
          (first
          | (go_at_call 77; refine (unhide CAk _ ?_).mono ?_; (exact below_on (unhide HBw) ((unhide HS).below (by assumption))); rintro e wt ⟨rfl, hb⟩; have SA := hide ((unhide HS).call (by assumption) hb)))
        all_goals
          go_wp2_with fail
          go_meet
          exact ⟨rfl, by first | assumption | exact unhide SA⟩
      case rest =>
        obtain ⟨rfl, hA⟩ := hcut
        obtain ⟨w4, rfl⟩ : ∃ w4, w4 = wc := ⟨wc, rfl⟩
        have HAw := hide (below_on (unhide HBw) hA)
        have HAk := hide hA
        have g0 := hA.cell q0
        have g5 := hA.cell q5
        have g7 := hA.cell q7
        have d3 := hA.cell c3
        have d4 := hA.cell c4
        have HO4 := hide ((unhide HO).below hA)
        have HB4 := hide (below_on (unhide HB) hA)
        clear A0 R HS CAk q0 q1 q2 q3 q4 q5 q6 q7 c0 c1 c2 c3 c4 hA HO HB HQ
        have HS := hide (kp_holds w4)
        have A0 := hide (Kp.new w4)
        obtain ⟨pv, hpv⟩ : ∃ o, p ⟨id, ap, no, me, cp⟩ = o := ⟨_, rfl⟩
        rw [hpv] at HST HBQ2
        clear hpv
        go_wp2_with fail
        go_cut [40] from 26 to 39 (fun v40 wx => v40 = .bool pv ∧ Kp w4 wx)
        case first =>
          rcases unhide HFP2 with ⟨hfn, rfl⟩ | ⟨j, hj, hfn, rfl⟩
          · rw [hfn] at HBQ2
            obtain rfl : pv = false := unhide HBQ2
            clear hfn
            go_quiet (fail)
            all_goals
              go_wp2_with fail
              go_meet
              exact ⟨rfl, below_dn (Below.refl _ _) _⟩
          · rw [hfn] at HBQ2
            have hjl : j < al := by have := unhide HAL; omega
            obtain ⟨ab, ao, rfl, hq⟩ := ((unhide HAR).below (unhide HAw)).at hjl
            obtain ⟨xo, xl, xc, hxx⟩ := hq hj
            have e1 := hxx.2.1
            obtain ⟨⟨ai, qu, asks⟩, hs⟩ : ∃ a, apps[j] = a := ⟨_, rfl⟩
            rw [hs] at e1 HBQ2
            simp only at e1
            have HPQ := hide (unhide HPL qu)
            have HBQ3 := hide (show pv = (path qs qu).any (fun x => decide (x = nm)) from unhide HBQ2)
            have CPq := hide (fun wx hb => unhide CP wx hb qu)
            obtain ⟨ps, hps⟩ : ∃ ps, path qs qu = ps := ⟨_, rfl⟩
            rw [hps] at HPQ HBQ3 CPq
            have CH := hide (fun (v : Value) (B : Nat) wx (h : Texts B wx v ps) => by have := l04Has_any v ps nm B wx h (unhide HPQ); rw [← unhide HBQ3] at this; exact this)
            have j0 : (0 : Int) ≤ j := by omega
            have j1 : (j : Int) < al := by omega
            have R : ∀ wx, Kp w4 wx → wx.cell? ⟨w.heap.size, 0, none⟩ = some (.slice qa ql qc) ∧ wx.cell? ⟨w.heap.size, 5, none⟩ = some (.slice (some ⟨ab, ao, none⟩) al ac) ∧ wx.cell? ⟨ab, ao + j * 3 + 1, none⟩ = some (.string (bs qu)) := fun wx h => ⟨h.cell g0, h.cell g5, h.cell e1⟩
            clear hfn hq hxx hs hps e1 hj
            go_region_held3 (fun wx => Kp w4 wx)
              (first | (with_reducible assumption) | exact unhide SA | exact (unhide HS).drew (unhide A0) | exact (unhide HS).call (by assumption) (by assumption))
              (first
              | (go_at_call 79; refine (unhide CPq _ ?_).mono ?_; (exact below_on (unhide HAw) ((unhide HS).below (by assumption))); rintro e wt ⟨v, rfl, htx, hb⟩; have HTX := hide htx; have SA := hide ((unhide HS).call (by assumption) hb))
              | (go_at_call 78; refine (unhide CH _ _ _ (unhide HTX)).mono ?_; rintro e wt2 ⟨rfl, rfl⟩))
            all_goals
              go_wp2_with fail
              go_meet
              exact ⟨rfl, by first | assumption | exact unhide SA⟩
        case rest =>
          obtain ⟨rfl, hA⟩ := hcut
          obtain ⟨w5, rfl⟩ : ∃ w5, w5 = wc := ⟨wc, rfl⟩
          have z7 := hA.cell g7
          have z3 := hA.cell d3
          have z4 := hA.cell d4
          have HO5 := hide ((unhide HO4).below hA)
          have HB5 := hide (below_on (unhide HB4) hA)
          clear g0 g5 g7 d3 d4 hA HO4 HB4 HS A0 HAk HAw HFP2 HBQ2
          cases pv with
          | true =>
            rw [if_pos rfl] at HST
            have hs2 : W0.heap.size ≤ w5.heap.size := (unhide HB5).size
            have hown : w5.ownsRow W0.heap.size 64 2 _ acc.length (rcells acc) := unhide HO5
            go_wp2_with (at_builtin; refine wpList_append_own _ rfl _ _ 128 rfl W0.heap.size 64 i0 (.agg #[.int .i64 0, .int .i64 0]) 2 16 Tryz.underlying128 hi hz0 hz1 hz2 rfl (by decide) _ _ _ rfl (hown.alloc _) ⟨w5.heap.size, 0, none⟩ 1 1 (rcell (me, cp)) rfl rfl ?c1 ?c2 ?c3 ?c4 ?c5 ?_)
            case c1 =>
              intro j x hj
              match j, hj with
              | 0, hj => simp at hj; subst hj; simp [Addr.add]
              | 1, hj => simp at hj; subst hj; simp [Addr.add]
              | _ + 2, hj => simp at hj
            case c2 => intro x hx; simp at hx; rcases hx with rfl | rfl <;> rfl
            case c3 => unfold maxLen; omega
            case c4 => omega
            case c5 => simp at hs2 ⊢; omega
            intro v' w6 hown' hgrow _
            have R := rown_step (q := (me, cp)) (unhide HB5) (unhide HO5) hown' hgrow hs2
            have HR3 := hide R
            clear hown' hgrow hown R z3 z4 z7
            go_wp2
            go_roundw
            case rel => exact ⟨k + 1, by omega, by go_num, hide (by rw [unhide HST]; exact (unhide HR3).1), hide (unhide HR3).2⟩
            case measure => simp [intOf]; omega
          | false =>
            rw [if_neg (by simp)] at HST
            go_wp2
            go_roundw
            case rel => exact ⟨k + 1, by omega, by go_num, hide (by rw [unhide HST]; exact unhide HO5), HB5⟩
            case measure => simp [intOf]; omega
    · have htk : cs.take k = cs := List.take_of_length_le (by have := unhide HL; omega)
      rw [htk] at HO
      obtain ⟨so', scp, rfl, hrow, _⟩ := (unhide HO).row
      have HROW := hide hrow
      have HV1 := hide ((unhide V0).below (unhide HB))
      obtain ⟨n, hn⟩ : ∃ n, (usedL p cs).length = n := ⟨_, rfl⟩
      rw [hn] at CS HROW ⊢
      clear hrow hn htk HO HB q0 q1 q2 q3 q4 q5 q6
      go_wp2_with fail
      refine (unhide CS _ _ _ (unhide HROW)).mono ?_
      rintro e w2 ⟨rfl, hb⟩
      have V1 := (unhide HV1).below hb
      have HB2 := hide (below_on (unhide HBw) hb)
      have V2 := V1.al (.cells #[.int .i64 sx, .int .i64 sy] 64)
      have t0 := V2.c0
      have t1 := V2.c1
      have f0 := V2.f 0
      have f1 := V2.f 1
      have VG := V2.set sx sy
      have k6 := VG.c0
      have k7 := VG.c1
      clear hb V1 V2 VG CS HV1 HROW
      go_wp2
      refine bodyPost_ret (v := rv sx sy) (by simp [results, Tryz.results42, go_sem, k6, k7]) rfl ⟨rfl, ?_⟩
      repeat (first | exact unhide HB2 | refine below_al ?_ _ | refine below_sc ?_ _ _ _ (by omega))
end Go.Proofs.YtbgamlegiikggaaGreat

/-
  What is due to a queue of a total, and the most that it may have: what the model's l03Of, DueOf and MostOf answer; walks over the dump.
-/
namespace Go.Proofs.YtbgamlegiikggaaGreat
open Go.RowKit
set_option linter.unusedVariables false

set_option maxRecDepth 100000 in
set_option maxHeartbeats 4000000 in
theorem l03Of_any (ao : Option Addr) (len cap : Nat) (l : List Q) (nm : List UInt8) (a b : Int) (most : Bool) (w : World) (h : QRow w ao len l) (hl : len ≤ 1048576) (hn : ∀ q ∈ l, q.name.length ≤ 1048576) :
    Calls Tryz.prog 80 #[.slice ao len cap, .string (bs nm), rv a b, .bool most] w fun e w' => e = .returned (rv (ofR l nm a b most).1 (ofR l nm a b most).2) ∧ Below w.heap.size w w' := by
  have HR := hide h
  have HV1 := hide ((var_new w 64 a b).al (.cells #[.int .i64 0, .int .i64 0] 64))
  have HV2 := hide (var_new2 w 64 64 a b 0 0)
  have HB0 := hide (below_al (below_al (Below.refl _ w) (.cells #[.int .i64 a, .int .i64 b] 64)) (.cells #[.int .i64 0, .int .i64 0] 64))
  have CPath := hide (specPath_any ao len cap l nm _ (h.below (unhide HB0)) hl hn)
  have CP := hide (fun (x : List UInt8) wx (hb : Below w.heap.size w wx) => l03Place_any ao len cap l x wx (h.below hb) hl)
  have CK := hide (specResOk_bel a b)
  have hpl := path_len l nm
  have HPL := hide (show (path l nm).length ≤ len + 1 by have := h.1; omega)
  have HNM := hide (path_names (l := l) (nm := nm))
  obtain ⟨ps, hps⟩ : ∃ ps, path l nm = ps := ⟨_, rfl⟩
  obtain ⟨ok, hok⟩ : ∃ ok, resOk a b = ok := ⟨_, rfl⟩
  rw [hps] at CPath HPL HNM
  rw [hok] at CK
  obtain ⟨⟨x, y⟩, hxy⟩ : ∃ p, ofR l nm a b most = p := ⟨_, rfl⟩
  rw [hxy]
  have HXY := hide (show (if ps = [] ∨ ok = false then ((0 : Int), (0 : Int)) else ofP l most (a, b) ps) = (x, y) by rw [← hxy, ofR, hps, hok])
  have HLL := hide h.1
  clear h hn hps hok hxy hpl
  go_enter Tryz.func80, Tryz.ntmps80
  go_wp2_with fail
  refine (unhide CPath).mono ?_
  rintro e w1 ⟨v, rfl, ht, hb⟩
  have V1 := hide ((unhide HV1).below hb)
  have V2 := hide ((unhide HV2).below hb)
  have HB1 := hide (below_on (unhide HB0) hb)
  have HT := hide ht
  clear ht hb HV1 HV2 HB0 CPath
  by_cases hp : ps = []
  · subst hp
    obtain ⟨va, vc, rfl⟩ := texts_none (unhide HT)
    have hz : (x, y) = ((0 : Int), (0 : Int)) := by rw [← unhide HXY, if_pos (.inl rfl)]
    simp only [Prod.mk.injEq] at hz
    obtain ⟨rfl, rfl⟩ := hz
    have k0 := (unhide V2).c0
    have k1 := (unhide V2).c1
    have k2 := (unhide V2).f 0
    have k3 := (unhide V2).f 1
    have k4 := (unhide V2).s0 (.int .i64 0)
    have k5 := (unhide V2).s1 (.int .i64 0) (.int .i64 0)
    go_wp2
    refine bodyPost_ret (v := rv 0 0) (by simp [results, Tryz.results80, go_sem, k4, k5]) rfl ⟨rfl, ?_⟩
    repeat (first | exact unhide HB1 | refine below_al ?_ _ | refine Below.drew ?_ | refine below_sc ?_ _ _ _ (by omega))
  · obtain ⟨g, gc, rfl, hss, hg⟩ := texts_some (unhide HT) hp
    have HSS := hide hss
    have hlp : 0 < ps.length := List.length_pos_iff.2 hp
    have HPN := hide hp
    have hln : ((ps.length : Int) == 0) = false := by simp; exact hp
    have a0 := (unhide V1).c0
    have a1 := (unhide V1).c1
    have hpl2 : ps.length ≤ 1048577 := by have := unhide HPL; omega
    clear hss hp HT
    go_wp2_with fail
    refine (unhide CK _).mono ?_
    rintro e w2 ⟨rfl, hb⟩
    have HSS2 := hide ((unhide HSS).below hb (unhide HSS).lt)
    have W1 := hide ((unhide V1).below hb)
    have W2 := hide ((unhide V2).below hb)
    have HB2 := hide (below_on (unhide HB1) hb)
    have hs1 : w.heap.size + 1 < w2.heap.size := (unhide W2).lt
    clear hb a0 a1 HSS V1 V2 HB1 CK
    have hgl : g < w2.heap.size := (unhide HSS2).lt
    cases ok with
    | false =>
      have hz : (x, y) = ((0 : Int), (0 : Int)) := by rw [← unhide HXY, if_pos (.inr rfl)]
      simp only [Prod.mk.injEq] at hz
      obtain ⟨rfl, rfl⟩ := hz
      have k0 := (unhide W2).c0
      have k1 := (unhide W2).c1
      have k2 := (unhide W2).f 0
      have k3 := (unhide W2).f 1
      have k4 := (unhide W2).s0 (.int .i64 0)
      have k5 := (unhide W2).s1 (.int .i64 0) (.int .i64 0)
      go_wp2
      refine bodyPost_ret (v := rv 0 0) (by simp [results, Tryz.results80, go_sem, k4, k5]) rfl ⟨rfl, ?_⟩
      repeat (first | exact unhide HB2 | refine below_al ?_ _ | refine Below.drew ?_ | refine below_sc ?_ _ _ _ (by omega))
    | true =>
      have HF := hide (show ofP l most (a, b) ps = (x, y) by have := unhide HXY; rw [if_neg (by simp; exact unhide HPN)] at this; exact this)
      have a0 := (unhide W1).c0
      have a1 := (unhide W1).c1
      have hw2 := (unhide HB2).size
      clear HXY
      go_wp2
      clear a0 a1
      go_loopw [11] (fun i wr => ∃ (j u v : Int), i = .int .i64 j ∧ -1 ≤ j ∧ j + 2 ≤ ps.length ∧ Hid (ofP l most (a, b) (ps.drop (j + 1).toNat) = (u, v)) ∧ Hid (Var wr 64 w2.heap.size u v) ∧ Hid (SS wr g gc (ps.map bs)) ∧ Hid (Var wr 64 (w.heap.size + 1) 0 0) ∧ Hid (Below w.heap.size w wr)) (fun i _ => (intOf i + 1).toNat)
      case atStart =>
        refine ⟨(ps.length : Int) - 2, a, b, by go_num, by omega, by omega, hide ?_, hide (var_new _ _ _ _), hide ((unhide HSS2).below (below_al (Below.refl _ _) _) hgl), hide ((unhide W2).al _), hide (below_al (unhide HB2) _)⟩
        rw [show ((ps.length : Int) - 2 + 1).toNat = ps.length - 1 by omega]
        exact ofP_last l most (a, b) (unhide HPN)
      case round =>
        obtain ⟨j, u, v, rfl, hj1, hj2, HO, HU, HS, HT, HB⟩ := hrel
        by_cases h0 : 0 ≤ j
        · obtain ⟨k, rfl⟩ : ∃ k : Nat, j = k := ⟨j.toNat, by omega⟩
          have hk1 : k + 1 < ps.length := by omega
          obtain ⟨kk, hkk, hpk, hbn⟩ := unhide HNM ps[k] (List.getElem_mem _)
          have hkl : kk < len := by have := unhide HLL; omega
          obtain ⟨rb, off, rfl, hq⟩ := ((unhide HR).below (unhide HB)).at hkl
          have hqq := hq hkk
          have hst := ofP_step l most (a, b) hk1
          rw [hbn] at hst
          obtain ⟨q, hs⟩ : ∃ q, l[kk] = q := ⟨_, rfl⟩
          rw [hs] at hqq hst
          have e0 : ofP l most (a, b) (ps.drop (k + 1)) = (u, v) := by have := unhide HO; rw [show ((k : Int) + 1).toNat = k + 1 by omega] at this; exact this
          rw [e0] at hst
          simp only at hst
          obtain ⟨c0, c1, c2, c3⟩ := hqq
          have ct := (unhide HS).text (show k < ps.length by omega)
          have u0 := ((unhide HU).al (.cells #[.string (bs q.name), .string (bs q.parent), .int .i64 q.due, .int .i64 q.most] 48)).c0
          have u1 := ((unhide HU).al (.cells #[.string (bs q.name), .string (bs q.parent), .int .i64 q.due, .int .i64 q.most] 48)).c1
          obtain ⟨u', hu'⟩ : ∃ z, shareM u v (fieldOf most q) = z := ⟨_, rfl⟩
          obtain ⟨v', hv'⟩ : ∃ z, shareC u v (fieldOf most q) = z := ⟨_, rfl⟩
          rw [hu', hv'] at hst
          have HNEW := hide (show ofP l most (a, b) (ps.drop ((k : Int) - 1 + 1).toNat) = (u', v') by rw [show ((k : Int) - 1 + 1).toNat = k by omega]; exact hst)
          have hsh : ∀ wx, Calls Tryz.prog 114 #[rv u v, .int .i64 (fieldOf most q)] wx fun e w' => e = .returned (rv u' v') ∧ Below wx.heap.size wx w' := fun wx => by have := specShare_any u v (fieldOf most q) wx; rw [hu', hv'] at this; exact this
          have k00 : (0 : Int) ≤ kk := by omega
          have k01 : (kk : Int) < len := by omega
          have p00 : (0 : Int) ≤ k := by omega
          have p01 : (k : Int) < ps.length := by omega
          clear hq hbn hs hst e0 hu' hv' hkk HO
          cases most with
          | true =>
            have CSh := hide (show ∀ wx, Calls Tryz.prog 114 #[rv u v, .int .i64 q.most] wx fun e w' => e = .returned (rv u' v') ∧ Below wx.heap.size wx w' from hsh)
            clear hsh
            go_wp2_with fail
            refine (unhide CP ps[k] _ (unhide HB)).mono ?_
            rintro e w4 ⟨rfl, rfl⟩
            rw [hpk]
            go_wp2_with fail
            refine (unhide CSh _).mono ?_
            rintro e w5 ⟨rfl, hb⟩
            have U := ((unhide HU).al (.cells #[.string (bs q.name), .string (bs q.parent), .int .i64 q.due, .int .i64 q.most] 48)).below hb
            have HU5 := hide U
            have T := hide (((unhide HT).al (.cells #[.string (bs q.name), .string (bs q.parent), .int .i64 q.due, .int .i64 q.most] 48)).below hb)
            have S5 := hide (((unhide HS).below (below_al (Below.refl _ _) (.cells #[.string (bs q.name), .string (bs q.parent), .int .i64 q.due, .int .i64 q.most] 48)) (unhide HS).lt).below hb (by have := (unhide HS).lt; simp; omega))
            have HB5 := hide (below_on (below_al (unhide HB) (.cells #[.string (bs q.name), .string (bs q.parent), .int .i64 q.due, .int .i64 q.most] 48)) hb)
            have k0 := U.c0
            have k1 := U.c1
            have k2 := U.f 0
            have k3 := U.f 1
            clear hb U c0 c1 c2 c3 ct u0 u1
            go_wp2
            go_roundw
            case rel => exact ⟨(k : Int) - 1, u', v', by go_num, by omega, by omega, HNEW, hide ((unhide HU5).set u' v'), hide (((unhide S5).same (heap_setCell_other _ ⟨w2.heap.size, 0, none⟩ g _ (by simp; omega))).same (heap_setCell_other _ ⟨w2.heap.size, 1, none⟩ g _ (by simp; omega))), hide (((unhide T).other w2.heap.size 0 _ (by omega)).other w2.heap.size 1 _ (by omega)), hide (below_sc (below_sc (unhide HB5) _ _ _ (by omega)) _ _ _ (by omega))⟩
            case measure => simp [intOf]
          | false =>
            have CSh := hide (show ∀ wx, Calls Tryz.prog 114 #[rv u v, .int .i64 q.due] wx fun e w' => e = .returned (rv u' v') ∧ Below wx.heap.size wx w' from hsh)
            clear hsh
            go_wp2_with fail
            refine (unhide CP ps[k] _ (unhide HB)).mono ?_
            rintro e w4 ⟨rfl, rfl⟩
            rw [hpk]
            go_wp2_with fail
            refine (unhide CSh _).mono ?_
            rintro e w5 ⟨rfl, hb⟩
            have U := ((unhide HU).al (.cells #[.string (bs q.name), .string (bs q.parent), .int .i64 q.due, .int .i64 q.most] 48)).below hb
            have HU5 := hide U
            have T := hide (((unhide HT).al (.cells #[.string (bs q.name), .string (bs q.parent), .int .i64 q.due, .int .i64 q.most] 48)).below hb)
            have S5 := hide (((unhide HS).below (below_al (Below.refl _ _) (.cells #[.string (bs q.name), .string (bs q.parent), .int .i64 q.due, .int .i64 q.most] 48)) (unhide HS).lt).below hb (by have := (unhide HS).lt; simp; omega))
            have HB5 := hide (below_on (below_al (unhide HB) (.cells #[.string (bs q.name), .string (bs q.parent), .int .i64 q.due, .int .i64 q.most] 48)) hb)
            have k0 := U.c0
            have k1 := U.c1
            have k2 := U.f 0
            have k3 := U.f 1
            clear hb U c0 c1 c2 c3 ct u0 u1
            go_wp2
            go_roundw
            case rel => exact ⟨(k : Int) - 1, u', v', by go_num, by omega, by omega, HNEW, hide ((unhide HU5).set u' v'), hide (((unhide S5).same (heap_setCell_other _ ⟨w2.heap.size, 0, none⟩ g _ (by simp; omega))).same (heap_setCell_other _ ⟨w2.heap.size, 1, none⟩ g _ (by simp; omega))), hide (((unhide T).other w2.heap.size 0 _ (by omega)).other w2.heap.size 1 _ (by omega)), hide (below_sc (below_sc (unhide HB5) _ _ _ (by omega)) _ _ _ (by omega))⟩
            case measure => simp [intOf]
        · have hjm : j = -1 := by omega
          subst hjm
          have hxx : (u, v) = (x, y) := by rw [← unhide HO, ← unhide HF]; simp
          simp only [Prod.mk.injEq] at hxx
          obtain ⟨rfl, rfl⟩ := hxx
          have u0 := (unhide HU).c0
          have u1 := (unhide HU).c1
          have k0 := (unhide HT).c0
          have k1 := (unhide HT).c1
          have k2 := (unhide HT).f 0
          have k3 := (unhide HT).f 1
          have k4 := (unhide HT).s0 (.int .i64 u)
          have k5 := (unhide HT).s1 (.int .i64 u) (.int .i64 v)
          go_wp2
          refine bodyPost_ret (v := rv u v) (by simp [results, Tryz.results80, go_sem, k4, k5]) rfl ⟨rfl, ?_⟩
          repeat (first | exact unhide HB | refine below_al ?_ _ | refine Below.drew ?_ | refine below_sc ?_ _ _ _ (by omega))

set_option maxRecDepth 100000 in
set_option maxHeartbeats 1000000 in
theorem specDueOf_any (ao : Option Addr) (len cap : Nat) (l : List Q) (nm : List UInt8) (a b : Int) (w : World) (h : QRow w ao len l) (hl : len ≤ 1048576) (hn : ∀ q ∈ l, q.name.length ≤ 1048576) :
    Calls Tryz.prog 43 #[.slice ao len cap, .string (bs nm), rv a b] w fun e w' => e = .returned (rv (ofR l nm a b false).1 (ofR l nm a b false).2) ∧ Below w.heap.size w w' := by
  have HB0 := hide (below_al (below_al (Below.refl _ w) (.cells #[.int .i64 a, .int .i64 b] 64)) (.cells #[.int .i64 0, .int .i64 0] 64))
  have HV2 := hide (var_new2 w 64 64 a b 0 0)
  have C := hide (l03Of_any ao len cap l nm a b false _ (h.below (unhide HB0)) hl hn)
  obtain ⟨⟨x, y⟩, hxy⟩ : ∃ p, ofR l nm a b false = p := ⟨_, rfl⟩
  rw [hxy] at C ⊢
  clear hxy h hn
  go_enter Tryz.func43, Tryz.ntmps43
  go_wp2_with fail
  refine (unhide C).mono ?_
  rintro e w1 ⟨rfl, hb⟩
  have V2 := (unhide HV2).below hb
  have k0 := V2.c0
  have k1 := V2.c1
  have k2 := V2.f 0
  have k3 := V2.f 1
  have k4 := V2.s0 (.int .i64 x)
  have k5 := V2.s1 (.int .i64 x) (.int .i64 y)
  have HB := hide (below_on (unhide HB0) hb)
  clear hb V2 HV2 HB0 C
  go_wp2
  refine bodyPost_ret (v := rv x y) (by simp [results, Tryz.results43, go_sem, k4, k5]) rfl ⟨rfl, ?_⟩
  repeat (first | exact unhide HB | refine below_al ?_ _ | refine Below.drew ?_ | refine below_sc ?_ _ _ _ (by omega))
end Go.Proofs.YtbgamlegiikggaaGreat
