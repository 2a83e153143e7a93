/-
  Whether a leaf has more than is due, by the model: Over; a walk over the dump.
-/
import Derived.Test.YtgfdfaaemhdcaaaGreatOverM
import Derived.Test.YtgfdfaaemhdcaaaGreatPackD
import Derived.Test.YtgfdfaaemhdcaaaGreatUsedByS
import Derived.Test.YtgfdfaaemhdcaaaGreatOfSD
import Derived.Deep.RegionHeld3
import Derived.Deep.CutRange
namespace Go.Proofs.YtgfdfaaemhdcaaaGreat
open Go.RowKit Go.Maps
set_option linter.unusedVariables false
set_option linter.unusedSimpArgs false

set_option maxRecDepth 100000 in
set_option maxHeartbeats 4000000 in
theorem specOver_any (x : Sls) (s : St) (nm : List UInt8) (w : World) (h : SRow w x s) (hf : FitSt s) :
    Calls Tryz.prog 6 #[sv x s, .string (bs nm)] w fun e w' => e = .returned (.bool (overV s nm)) ∧ Below w.heap.size w w' := by
  have hql : x.ql ≤ 1048576 := h.ql hf
  have hml : x.ml ≤ 1048576 := h.ml hf
  have CL := hide (fun wx (hb : Below w.heap.size w wx) => specLeaf_any x.qa x.ql x.qc s.qs nm wx (h.1.below hb) hql (fun q hq => (hf.1.2 q hq).1))
  have CT := hide (fun wx (hb : Below w.heap.size w wx) => specTotal_any x s wx (h.2.2.1.below hb) hml)
  have CD := hide (fun wx (hb : Below w.heap.size w wx) => show Calls Tryz.prog 20 #[.slice x.qa x.ql x.qc, .string (bs nm), rv (totalV s).1 (totalV s).2] wx (fun e w' => e = .returned (rv (dueV s nm).1 (dueV s nm).2) ∧ Below wx.heap.size wx w') from specDueOf_any x.qa x.ql x.qc s.qs nm (totalV s).1 (totalV s).2 wx (h.1.below hb) hql (fun q hq => (hf.1.2 q hq).1))
  have CU := hide (fun wx (hb : Below w.heap.size w wx) => specUsedBy_any x s nm wx (h.below hb) hf)
  obtain ⟨lf, hlf⟩ : ∃ b, leaf s.qs nm = b := ⟨_, rfl⟩
  obtain ⟨⟨tx, ty⟩, ht⟩ : ∃ t, totalV s = t := ⟨_, rfl⟩
  obtain ⟨⟨dx, dy⟩, hd⟩ : ∃ t, dueV s nm = t := ⟨_, rfl⟩
  obtain ⟨⟨ux, uy⟩, hu⟩ : ∃ t, usedByV s nm = t := ⟨_, rfl⟩
  obtain ⟨wi, hwi⟩ : ∃ b, within ux uy dx dy = b := ⟨_, rfl⟩
  have CW := hide (fun wx => by have := specWithin_any ux uy dx dy wx; rw [hwi] at this; exact this)
  have HO : overV s nm = (lf && !wi) := by simp only [overV, hlf, hu, hd, hwi]
  rw [HO]
  rw [show (sumR (capsOf s.ms)).1 = tx from congrArg Prod.fst ht, show (sumR (capsOf s.ms)).2.1 = ty from congrArg Prod.snd ht] at CT
  rw [hlf] at CL
  rw [ht, hd] at CD
  rw [hu] at CU
  simp only at CD CU
  clear h hf hlf ht hd hu hwi HO
  obtain ⟨qa, ql, qc, aa, al, ac, ma, ml, mc, ca, cl, cc⟩ := x
  obtain ⟨qs, clock, epoch, next, serial, apps, ms, cs⟩ := s
  simp only at CL CT CD CU hql hml
  have HB0 := hide (boxW_below w (svc ⟨qa, ql, qc, aa, al, ac, ma, ml, mc, ca, cl, cc⟩ ⟨qs, clock, epoch, next, serial, apps, ms, cs⟩))
  have P0 := hide (boxW_blk w (svc ⟨qa, ql, qc, aa, al, ac, ma, ml, mc, ca, cl, cc⟩ ⟨qs, clock, epoch, next, serial, apps, ms, cs⟩))
  obtain ⟨q0, q1, q2, q3, q4, q5, q6, q7⟩ : _ ∧ _ ∧ _ ∧ _ ∧ _ ∧ _ ∧ _ ∧ _ := ⟨(unhide P0).at 0, (unhide P0).at 1, (unhide P0).at 2, (unhide P0).at 3, (unhide P0).at 4, (unhide P0).at 5, (unhide P0).at 6, (unhide P0).at 7⟩
  simp at q0 q1 q2 q3 q4 q5 q6 q7
  obtain ⟨W0, hW0⟩ : ∃ W, boxW w (svc ⟨qa, ql, qc, aa, al, ac, ma, ml, mc, ca, cl, cc⟩ ⟨qs, clock, epoch, next, serial, apps, ms, cs⟩) = W := ⟨_, rfl⟩
  rw [hW0] at HB0 q0 q1 q2 q3 q4 q5 q6 q7
  have R : ∀ wx, Kp W0 wx → wx.cell? ⟨w.heap.size, 0, none⟩ = some (.slice qa ql qc) ∧ wx.cell? ⟨w.heap.size, 1, none⟩ = some (.int .i64 clock) ∧ wx.cell? ⟨w.heap.size, 2, none⟩ = some (.int .i64 epoch) ∧ wx.cell? ⟨w.heap.size, 3, none⟩ = some (.int .i64 next) ∧ wx.cell? ⟨w.heap.size, 4, none⟩ = some (.int .i64 serial) ∧ wx.cell? ⟨w.heap.size, 5, none⟩ = some (.slice aa al ac) ∧ wx.cell? ⟨w.heap.size, 6, none⟩ = some (.slice ma ml mc) ∧ wx.cell? ⟨w.heap.size, 7, none⟩ = some (.slice ca cl cc) := fun wx h =>
    ⟨h.cell q0, h.cell q1, h.cell q2, h.cell q3, h.cell q4, h.cell q5, h.cell q6, h.cell q7⟩
  have A0 := hide (Kp.new W0)
  have HS := hide (kp_holds W0)
  clear q0 q1 q2 q3 q4 q5 q6 q7 P0
  go_enter Tryz.func6, Tryz.ntmps6
  go_wp2_with fail
  change Code.wp _ _ _ _ (boxW w (svc ⟨qa, ql, qc, aa, al, ac, ma, ml, mc, ca, cl, cc⟩ ⟨qs, clock, epoch, next, serial, apps, ms, cs⟩))
  rw [hW0]
  clear hW0
  cases lf
  case true =>
    go_region_held3 (fun wx => Kp W0 wx)
      (first | (with_reducible assumption) | exact unhide SA | exact (unhide HS).drew (unhide A0) | exact (unhide HS).call (by assumption) (by assumption))
      (first
      | (go_at_call 17; refine (unhide CL _ ?_).mono ?_; (exact below_on (unhide HB0) ((unhide HS).below (by assumption))); rintro e wt ⟨rfl, hb⟩; have SA := hide ((unhide HS).call (by assumption) hb))
      | (go_at_call 19; refine (unhide CU _ ?_).mono ?_; (exact below_on (unhide HB0) ((unhide HS).below (by assumption))); rintro e wt ⟨rfl, hb⟩; have SA := hide ((unhide HS).call (by assumption) hb))
      | (go_at_call 21; refine (unhide CT _ ?_).mono ?_; (exact below_on (unhide HB0) ((unhide HS).below (by assumption))); rintro e wt ⟨rfl, hb⟩; have SA := hide ((unhide HS).call (by assumption) hb))
      | (go_at_call 20; refine (unhide CD _ ?_).mono ?_; (exact below_on (unhide HB0) ((unhide HS).below (by assumption))); rintro e wt ⟨rfl, hb⟩; have SA := hide ((unhide HS).call (by assumption) hb))
      | (go_at_call 18; refine (unhide CW _).mono ?_; rintro e wt ⟨rfl, hb⟩; have SA := hide ((unhide HS).call (by assumption) hb)))
    all_goals
      have HB9 := hide (below_on (unhide HB0) ((unhide HS).below (by first | exact unhide SA | assumption)))
      go_wp2
      go_ret
      exact ⟨rfl, unhide HB9⟩
  case false =>
    refine wp_region_held_drew (S := fun wx => Kp W0 wx) (by kernel_rfl) ((unhide HS).drew (unhide A0)) (fun S0 => ?_)
    refine takeD (i := 0) (d := some 5) (v := .pointer (some ⟨w.heap.size, 0, none⟩)) rfl rfl (by kernel_rfl) (by kernel_rfl) (by kernel_rfl) (fun _ _ _ h => h) (Or.inl ⟨by rfl, fun wz hz => by go_simp⟩) S0 ?_
    try simp only [Act.put, List.setIfInBounds_toArray, List.set_cons_zero, List.set_cons_succ]
    refine takeD (i := 1) (d := some 6) (v := .slice qa ql qc) rfl rfl (by kernel_rfl) (by kernel_rfl) (by kernel_rfl) (fun _ _ _ h => h) (Or.inl ⟨by rfl, fun wz hz => by obtain ⟨r0, _⟩ := R wz hz; go_simp⟩) S0 ?_
    try simp only [Act.put, List.setIfInBounds_toArray, List.set_cons_zero, List.set_cons_succ]
    refine takeD (i := 2) (d := some 7) (v := .string (bs nm)) rfl rfl (by kernel_rfl) (by kernel_rfl) (by kernel_rfl) (fun _ _ _ h => h) (Or.inl ⟨by rfl, fun wz hz => by go_simp⟩) S0 ?_
    try simp only [Act.put, List.setIfInBounds_toArray, List.set_cons_zero, List.set_cons_succ]
    refine wpAnyH_ready (rs := [3]) (by kernel_rfl) (by simp) (AllReadyH.cons rfl (fun K hK => ?_) AllReadyH.nil)
    go_simp
    refine (unhide CL _ (below_on (unhide HB0) ((unhide HS).below S0))).mono ?_
    rintro e wt ⟨rfl, hb⟩
    have S1 := (unhide HS).call S0 hb
    go_wp2_with fail
    refine hK.out _ _ S1 (fun S0 => ?_)
    clear hK K
    refine takeD (i := 4) (d := some 9) (v := .bool false) rfl rfl (by kernel_rfl) (by kernel_rfl) (by kernel_rfl) (fun _ _ _ h => h) (Or.inl ⟨by rfl, fun wz hz => by go_simp⟩) S0 ?_
    try simp only [Act.put, List.setIfInBounds_toArray, List.set_cons_zero, List.set_cons_succ]
    refine takeD (i := 5) (d := some 10) (v := undef) rfl rfl (by kernel_rfl) (by kernel_rfl) (by kernel_rfl) (fun _ _ _ h => h) (Or.inr ⟨by rfl, rfl⟩) S0 ?_
    try simp only [Act.put, List.setIfInBounds_toArray, List.set_cons_zero, List.set_cons_succ]
    refine takeD (i := 6) (d := some 11) (v := undef) rfl rfl (by kernel_rfl) (by kernel_rfl) (by kernel_rfl) (fun _ _ _ h => h) (Or.inr ⟨by rfl, rfl⟩) S0 ?_
    try simp only [Act.put, List.setIfInBounds_toArray, List.set_cons_zero, List.set_cons_succ]
    refine takeD (i := 7) (d := some 12) (v := undef) rfl rfl (by kernel_rfl) (by kernel_rfl) (by kernel_rfl) (fun _ _ _ h => h) (Or.inr ⟨by rfl, rfl⟩) S0 ?_
    try simp only [Act.put, List.setIfInBounds_toArray, List.set_cons_zero, List.set_cons_succ]
    refine takeD (i := 8) (d := some 13) (v := undef) rfl rfl (by kernel_rfl) (by kernel_rfl) (by kernel_rfl) (fun _ _ _ h => h) (Or.inr ⟨by rfl, rfl⟩) S0 ?_
    try simp only [Act.put, List.setIfInBounds_toArray, List.set_cons_zero, List.set_cons_succ]
    refine takeD (i := 9) (d := some 14) (v := undef) rfl rfl (by kernel_rfl) (by kernel_rfl) (by kernel_rfl) (fun _ _ _ h => h) (Or.inr ⟨by rfl, rfl⟩) S0 ?_
    try simp only [Act.put, List.setIfInBounds_toArray, List.set_cons_zero, List.set_cons_succ]
    refine takeD (i := 10) (d := some 15) (v := undef) rfl rfl (by kernel_rfl) (by kernel_rfl) (by kernel_rfl) (fun _ _ _ h => h) (Or.inr ⟨by rfl, rfl⟩) S0 ?_
    try simp only [Act.put, List.setIfInBounds_toArray, List.set_cons_zero, List.set_cons_succ]
    refine takeD (i := 11) (d := some 16) (v := undef) rfl rfl (by kernel_rfl) (by kernel_rfl) (by kernel_rfl) (fun _ _ _ h => h) (Or.inr ⟨by rfl, rfl⟩) S0 ?_
    try simp only [Act.put, List.setIfInBounds_toArray, List.set_cons_zero, List.set_cons_succ]
    refine takeD (i := 12) (d := some 17) (v := undef) rfl rfl (by kernel_rfl) (by kernel_rfl) (by kernel_rfl) (fun _ _ _ h => h) (Or.inr ⟨by rfl, rfl⟩) S0 ?_
    try simp only [Act.put, List.setIfInBounds_toArray, List.set_cons_zero, List.set_cons_succ]
    refine takeD (i := 13) (d := some 18) (v := undef) rfl rfl (by kernel_rfl) (by kernel_rfl) (by kernel_rfl) (fun _ _ _ h => h) (Or.inr ⟨by rfl, rfl⟩) S0 ?_
    try simp only [Act.put, List.setIfInBounds_toArray, List.set_cons_zero, List.set_cons_succ]
    refine takeD (i := 14) (d := some 19) (v := undef) rfl rfl (by kernel_rfl) (by kernel_rfl) (by kernel_rfl) (fun _ _ _ h => h) (Or.inr ⟨by rfl, rfl⟩) S0 ?_
    try simp only [Act.put, List.setIfInBounds_toArray, List.set_cons_zero, List.set_cons_succ]
    refine takeD (i := 15) (d := some 20) (v := undef) rfl rfl (by kernel_rfl) (by kernel_rfl) (by kernel_rfl) (fun _ _ _ h => h) (Or.inr ⟨by rfl, rfl⟩) S0 ?_
    try simp only [Act.put, List.setIfInBounds_toArray, List.set_cons_zero, List.set_cons_succ]
    refine takeD (i := 16) (d := some 21) (v := .bool false) rfl rfl (by kernel_rfl) (by kernel_rfl) (by kernel_rfl) (fun _ _ _ h => h) (Or.inl ⟨by rfl, fun wz hz => by go_simp⟩) S0 ?_
    try simp only [Act.put, List.setIfInBounds_toArray, List.set_cons_zero, List.set_cons_succ]
    refine takeD (i := 17) (d := some 4) (v := .bool false) rfl rfl (by kernel_rfl) (by kernel_rfl) (by kernel_rfl) (fun _ _ _ h => h) (Or.inl ⟨by rfl, fun wz hz => by go_simp⟩) S0 ?_
    try simp only [Act.put, List.setIfInBounds_toArray, List.set_cons_zero, List.set_cons_succ]
    refine wpAnyH_done (by kernel_rfl) ?_ _
    have HB9 := hide (below_on (unhide HB0) ((unhide HS).below S0))
    go_wp2
    go_ret
    exact ⟨rfl, unhide HB9⟩
end Go.Proofs.YtgfdfaaemhdcaaaGreat
