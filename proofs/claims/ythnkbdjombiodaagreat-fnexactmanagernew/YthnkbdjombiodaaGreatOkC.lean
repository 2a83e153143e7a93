/-
  The applications of a state are right: appsOk, by the program; a walk over the dump.
-/
import Derived.Test.YthnkbdjombiodaaGreatPackF
import Derived.Test.YthnkbdjombiodaaGreatLoneI
namespace Go.Proofs.YthnkbdjombiodaaGreat
open Go.RowKit
set_option linter.unusedVariables false

def appsFrom (qs : List Q) (nx : Int) : Int → List Appl → Bool
  | _, [] => true
  | last, a :: t => decide (last < a.id) && (decide (a.id < nx) && (lone qs a.queue && (asksOk a.asks && appsFrom qs nx a.id t)))
def appsOkV (s : St) : Bool := decide (s.apps.length ≤ 40) && appsFrom s.qs s.next 0 s.apps
theorem appsFrom_step {qs : List Q} {nx last : Int} {l : List Appl} {k : Nat} (h : k < l.length) : appsFrom qs nx last (l.drop k) = (decide (last < l[k].id) && (decide (l[k].id < nx) && (lone qs l[k].queue && (asksOk l[k].asks && appsFrom qs nx l[k].id (l.drop (k + 1)))))) := by
  rw [List.drop_eq_getElem_cons h, appsFrom]
theorem appsFrom_end {qs : List Q} {nx last : Int} {l : List Appl} {k : Nat} (h : l.length ≤ k) : appsFrom qs nx last (l.drop k) = true := by
  rw [List.drop_of_length_le h]; rfl

set_option maxRecDepth 100000 in
set_option maxHeartbeats 4000000 in
theorem appsOk_any (x : Sls) (s : St) (w : World) (h : SRow w x s) (hf : FitSt s) :
    Calls Tryz.prog 50 #[sv x s] w fun e w' => e = .returned (.bool (appsOkV s)) ∧ Below w.heap.size w w' := by
  have hql : x.ql ≤ 1048576 := by have := h.len.1; have := hf.1.1; omega
  have hal : x.al ≤ 1048576 := by have := h.len.2.1; have := hf.2.1.1; omega
  have HR := hide h.2.1
  have HL := hide h.2.1.1
  have HFA := hide hf.2.1
  have CL := hide (fun wx (hb : Below w.heap.size w wx) (nm : List UInt8) => lone_any x.qa x.ql x.qc s.qs nm wx (h.1.below hb) hql)
  have HS := hide (show appsOkV s = (decide (x.al ≤ 40) && appsFrom s.qs s.next 0 s.apps) by rw [appsOkV, ← h.2.1.1])
  obtain ⟨o, ho⟩ : ∃ o, appsOkV s = o := ⟨_, rfl⟩
  rw [ho] at HS ⊢
  clear h hf ho
  have hb0 := below_al (Below.refl _ w) (.cells (svc x s) 29)
  have P0 := hide (blk_new w (svc x s) 29)
  obtain ⟨qa, ql, qc, aa, al, ac, ma, ml, mc, ca, cl, cc⟩ := x
  obtain ⟨qs, clock, epoch, next, serial, apps, ms, cs⟩ := s
  simp only at hql hal HR HL HFA CL HS P0 hb0
  have HB0 := hide hb0
  clear hb0
  by_cases h40 : al ≤ 40
  case neg =>
    have hi : (40 : Int) < al := by omega
    rw [decide_eq_false h40] at HS
    go_enter Tryz.func50, Tryz.ntmps50
    go_wp2
    go_ret
    exact ⟨ret_bool (by rw [unhide HS]; simp), unhide HB0⟩
  have hi : ¬ (40 : Int) < al := by omega
  rw [decide_eq_true h40, Bool.true_and] at HS
  clear h40
  go_enter Tryz.func50, Tryz.ntmps50
  go_wp2
  go_loopw [3, 13] (fun la i wr => ∃ (k : Nat) (last : Int), k ≤ al ∧ i = .int .i64 k ∧ la = .int .i64 last ∧ Hid (o = appsFrom qs next last (apps.drop k)) ∧ Hid (Blk wr w.heap.size (svc ⟨qa, ql, qc, aa, al, ac, ma, ml, mc, ca, cl, cc⟩ ⟨qs, clock, epoch, next, serial, apps, ms, cs⟩) 29) ∧ Hid (Below w.heap.size w wr)) (fun _ i _ => al - (intOf i).toNat)
  case atStart => exact ⟨0, 0, Nat.zero_le _, rfl, rfl, hide (by rw [unhide HS]; simp), P0, HB0⟩
  case round =>
    obtain ⟨k, last, hk, rfl, rfl, HO, P1, HB⟩ := hrel
    clear P0 HB0 HS
    by_cases hlt : k < al
    · obtain ⟨b, off, rfl, hq⟩ := ((unhide HR).below (unhide HB)).at hlt
      have hkl : k < apps.length := by have := unhide HL; omega
      have hst := hide (appsFrom_step (qs := qs) (nx := next) (last := last) (l := apps) (k := k) hkl)
      have hfa := (unhide HFA).2 _ (List.getElem_mem hkl)
      obtain ⟨xo, xl, xc, c0, c1, c2, hrow, _⟩ := hq hkl
      obtain ⟨⟨id, qu, asks⟩, hs⟩ : ∃ s, apps[k] = s := ⟨_, rfl⟩
      rw [hs] at c0 c1 hst hrow hfa
      simp only at c0 c1 hst hrow
      have hxl : xl ≤ 1048576 := by have h1 := hrow.1; have h2 := hfa.2.1; simp only at h2; omega
      obtain ⟨lo, hlo⟩ : ∃ b, lone qs qu = b := ⟨_, rfl⟩
      obtain ⟨so, hso⟩ : ∃ b, asksOk asks = b := ⟨_, rfl⟩
      have C1 := hide (fun wx (hb : Below w.heap.size w wx) => by have := unhide CL wx hb qu; rw [hlo] at this; exact this)
      have C2 := hide (fun wx (hb : Below wr.heap.size wr wx) => by have := asksOk_any id qu xo xl xc asks wx (hrow.below hb) hxl hfa.2.2; rw [hso] at this; exact this)
      rw [hlo, hso] at hst
      have hb2 := below_al (Below.refl _ wr) (.cells #[.int .i64 id, .string (bs qu), .slice xo xl xc] 81)
      have P2 := hide ((unhide P1).below hb2)
      have V2 := hide (blk_new wr #[.int .i64 id, .string (bs qu), .slice xo xl xc] 81)
      have HB2 := hide (below_on (unhide HB) hb2)
      have HW2 := hide hb2
      have p0 := (unhide P2).at 0
      have p3 := (unhide P2).at 3
      have q5 := (unhide P1).at 5
      simp at p0 p3 q5
      clear hq hs hkl hrow hfa hb2 hlo hso CL
      by_cases h1 : last < id
      case neg =>
        have h1' : id ≤ last := by omega
        go_wp2
        go_ret
        exact ⟨ret_bool (by rw [unhide HO, unhide hst, decide_eq_false (show ¬ last < id by omega)]; simp), unhide HB2⟩
      by_cases h2 : id < next
      case neg =>
        have h2' : next ≤ id := by omega
        have h1' : ¬ id ≤ last := by omega
        go_wp2
        go_ret
        exact ⟨ret_bool (by rw [unhide HO, unhide hst, decide_eq_false (show ¬ id < next by omega)]; simp), unhide HB2⟩
      have h2' : ¬ next ≤ id := by omega
      have h1' : ¬ id ≤ last := by omega
      have HO2 := hide (show o = (lo && (so && appsFrom qs next id (apps.drop (k + 1)))) by rw [unhide HO, unhide hst, decide_eq_true h1, decide_eq_true h2]; simp)
      clear HO hst
      go_wp2_with fail
      refine (unhide C1 _ (unhide HB2)).mono ?_
      rintro e w1 ⟨rfl, hb⟩
      have P3 := hide ((unhide P2).below hb)
      have V3 := hide ((unhide V2).below hb)
      have HB3 := hide (below_on (unhide HB2) hb)
      have HW3 := hide (below_on (unhide HW2) hb)
      have a0 := (unhide V3).at 0
      have a1 := (unhide V3).at 1
      have a2 := (unhide V3).at 2
      simp at a0 a1 a2
      clear hb P2 V2 HB2 HW2 C1 p0 p3 q5
      cases lo with
      | false =>
        go_wp2
        go_ret
        exact ⟨ret_bool (by rw [unhide HO2]; simp), unhide HB3⟩
      | true =>
      go_wp2_with fail
      refine (unhide C2 _ (unhide HW3)).mono ?_
      rintro e w2 ⟨rfl, hb⟩
      have P4 := hide ((unhide P3).below hb)
      have V4 := hide ((unhide V3).below hb)
      have HB4 := hide (below_on (unhide HB3) hb)
      have d0 := (unhide V4).at 0
      simp at d0
      clear hb P3 V3 HB3 HW3 C2 a0 a1 a2
      cases so with
      | false =>
        go_wp2
        go_ret
        exact ⟨ret_bool (by rw [unhide HO2]; simp), unhide HB4⟩
      | true =>
      go_wp2
      go_roundw
      case rel => exact ⟨k + 1, id, by omega, by go_num, rfl, hide (by rw [unhide HO2]; simp), P4, HB4⟩
      case measure => simp [intOf]; omega
    · go_wp2
      go_ret
      exact ⟨ret_bool (by rw [unhide HO, appsFrom_end (by have := unhide HL; omega)]), unhide HB⟩
end Go.Proofs.YthnkbdjombiodaaGreat
