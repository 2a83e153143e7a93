/-
  A leaf with what it uses and what is due: what the program's standingOf answers; a walk over the dump.
-/
import Derived.Test.YtbgamlegiikggaaGreatStdQ
import Derived.Test.YtbgamlegiikggaaGreatStvM
import Derived.Test.YtbgamlegiikggaaGreatUByI
import Derived.Test.YtbgamlegiikggaaGreatPackM
import Derived.Deep.RegionHeld3
namespace Go.Proofs.YtbgamlegiikggaaGreat
open Go.RowKit Go.Maps
set_option linter.unusedVariables false
set_option linter.unusedSimpArgs false

/-- a leaf with what it uses and what is due -/
def stOf (s : St) (nm : List UInt8) : SE := (nm, (usedByV s nm).1, (usedByV s nm).2, (dueV s nm).1, (dueV s nm).2)
/-- the state's box stands, and nothing of w has turned -/
def SB (w : World) (c : Array Value) (wx : World) : Prop := Blk wx w.heap.size c 36 ∧ Below w.heap.size w wx
theorem SB.call {w wx wy : World} {c : Array Value} (h : SB w c wx) (hb : Below wx.heap.size wx wy) : SB w c wy := ⟨h.1.below hb, below_on h.2 hb⟩

set_option maxRecDepth 100000 in
set_option maxHeartbeats 8000000 in
theorem standingOf_any (x : Sls) (s : St) (nm : List UInt8) (w : World) (h : SRow w x s) (hf : FitSt s) (hc : x.ql ≤ x.qc) (hw : WfSt s) :
    Calls Tryz.prog 29 #[sv x s, .string (bs nm)] w fun e w' => e = .returned (stv (stOf s nm)) ∧ Below w.heap.size w w' := by
  have hql : x.ql ≤ 1048576 := h.ql hf
  have hml : x.ml ≤ 1048576 := h.ml hf
  have CT := hide (fun wx (hb : Below w.heap.size w wx) => show Calls Tryz.prog 48 #[sv x s] wx (fun e w' => e = .returned (rv (totalV s).1 (totalV s).2) ∧ Below wx.heap.size wx w') from implTotal_any x s wx (h.2.2.1.below hb) hml)
  have CD := hide (fun wx (hb : Below w.heap.size w wx) => show Calls Tryz.prog 47 #[.slice x.qa x.ql x.qc, .string (bs nm), rv (totalV s).1 (totalV s).2] wx (fun e w' => e = .returned (rv (dueV s nm).1 (dueV s nm).2) ∧ Below wx.heap.size wx w') from implDueOf_any x.qa x.ql x.qc s.qs nm (totalV s).1 (totalV s).2 wx (h.1.below hb) hql (fun q hq => (hf.1.2 q hq).1) hc)
  have CU := hide (fun wx (hb : Below w.heap.size w wx) => implUsedBy_any x s nm wx (h.below hb) hf hc hw)
  obtain ⟨⟨tx, ty⟩, ht⟩ : ∃ t, totalV s = t := ⟨_, rfl⟩
  obtain ⟨⟨dx, dy⟩, hd⟩ : ∃ t, dueV s nm = t := ⟨_, rfl⟩
  obtain ⟨⟨ux, uy⟩, hu⟩ : ∃ t, usedByV s nm = t := ⟨_, rfl⟩
  have HO : stOf s nm = (nm, ux, uy, dx, dy) := by rw [stOf, hd, hu]
  rw [HO]
  rw [ht] at CT
  rw [ht, hd] at CD
  rw [hu] at CU
  clear h hf hc hw ht hd hu HO
  obtain ⟨qa, ql, qc, aa, al, ac, ma, ml, mc, ca, cl, cc⟩ := x
  obtain ⟨qs, clock, epoch, next, serial, apps, ms, cs⟩ := s
  simp only at CT CD CU hql hml
  have hb0 := (below_al (below_al (Below.refl _ w) (.cells (svc ⟨qa, ql, qc, aa, al, ac, ma, ml, mc, ca, cl, cc⟩ ⟨qs, clock, epoch, next, serial, apps, ms, cs⟩) 36)) (.cells #[.string ⟨#[]⟩, .int .i64 0, .int .i64 0, .int .i64 0, .int .i64 0] 68)).drew
  have SS0 := hide (show SB w (svc ⟨qa, ql, qc, aa, al, ac, ma, ml, mc, ca, cl, cc⟩ ⟨qs, clock, epoch, next, serial, apps, ms, cs⟩) _ from ⟨((blk_new w (svc ⟨qa, ql, qc, aa, al, ac, ma, ml, mc, ca, cl, cc⟩ ⟨qs, clock, epoch, next, serial, apps, ms, cs⟩) 36).al (.cells #[.string ⟨#[]⟩, .int .i64 0, .int .i64 0, .int .i64 0, .int .i64 0] 68)).drew, hb0⟩)
  have V0 := hide (show Blk ((w.alloc (.cells (svc ⟨qa, ql, qc, aa, al, ac, ma, ml, mc, ca, cl, cc⟩ ⟨qs, clock, epoch, next, serial, apps, ms, cs⟩) 36)).alloc (.cells #[.string ⟨#[]⟩, .int .i64 0, .int .i64 0, .int .i64 0, .int .i64 0] 68)).drew (w.heap.size + 1) #[.string ⟨#[]⟩, .int .i64 0, .int .i64 0, .int .i64 0, .int .i64 0] 68 from by have := blk_new (w.alloc (.cells (svc ⟨qa, ql, qc, aa, al, ac, ma, ml, mc, ca, cl, cc⟩ ⟨qs, clock, epoch, next, serial, apps, ms, cs⟩) 36)) #[.string ⟨#[]⟩, .int .i64 0, .int .i64 0, .int .i64 0, .int .i64 0] 68; rw [al_size] at this; exact this.drew)
  have R : ∀ wx, SB w (svc ⟨qa, ql, qc, aa, al, ac, ma, ml, mc, ca, cl, cc⟩ ⟨qs, clock, epoch, next, serial, apps, ms, cs⟩) wx → wx.cell? ⟨w.heap.size, 0, none⟩ = some (.slice qa ql qc) ∧ wx.cell? ⟨w.heap.size, 1, none⟩ = some (.int .i64 clock) ∧ wx.cell? ⟨w.heap.size, 2, none⟩ = some (.int .i64 epoch) ∧ wx.cell? ⟨w.heap.size, 3, none⟩ = some (.int .i64 next) ∧ wx.cell? ⟨w.heap.size, 4, none⟩ = some (.int .i64 serial) ∧ wx.cell? ⟨w.heap.size, 5, none⟩ = some (.slice aa al ac) ∧ wx.cell? ⟨w.heap.size, 6, none⟩ = some (.slice ma ml mc) ∧ wx.cell? ⟨w.heap.size, 7, none⟩ = some (.slice ca cl cc) := fun wx h => by
    have a0 := h.1.at 0; have a1 := h.1.at 1; have a2 := h.1.at 2; have a3 := h.1.at 3; have a4 := h.1.at 4; have a5 := h.1.at 5; have a6 := h.1.at 6; have a7 := h.1.at 7
    simp at a0 a1 a2 a3 a4 a5 a6 a7
    exact ⟨a0, a1, a2, a3, a4, a5, a6, a7⟩
  clear hb0
  go_enter Tryz.func29, Tryz.ntmps29
  go_wp2_with fail
  refine wp_region_held_drew (S := SB w (svc ⟨qa, ql, qc, aa, al, ac, ma, ml, mc, ca, cl, cc⟩ ⟨qs, clock, epoch, next, serial, apps, ms, cs⟩)) (by kernel_rfl) (unhide SS0) (fun S0 => ?_)
  refine takeD (i := 0) (d := some 5) (v := _) rfl rfl (by kernel_rfl) (by kernel_rfl) (by kernel_rfl) (fun _ _ _ h => h) (Or.inl ⟨by rfl, fun wz hz => by (go_simp; try with_reducible rfl)⟩) S0 ?_
  try simp only [Act.put, List.setIfInBounds_toArray, List.set_cons_zero, List.set_cons_succ]
  refine takeD (i := 1) (d := some 6) (v := _) rfl rfl (by kernel_rfl) (by kernel_rfl) (by kernel_rfl) (fun _ _ _ h => h) (Or.inl ⟨by rfl, fun wz hz => by (go_simp; try with_reducible rfl)⟩) S0 ?_
  try simp only [Act.put, List.setIfInBounds_toArray, List.set_cons_zero, List.set_cons_succ]
  refine takeD (i := 2) (d := some 7) (v := _) rfl rfl (by kernel_rfl) (by kernel_rfl) (by kernel_rfl) (fun _ _ _ h => h) (Or.inl ⟨by rfl, fun wz hz => by (go_simp; try with_reducible rfl)⟩) S0 ?_
  try simp only [Act.put, List.setIfInBounds_toArray, List.set_cons_zero, List.set_cons_succ]
  refine takeD (i := 4) (d := some 9) (v := _) rfl rfl (by kernel_rfl) (by kernel_rfl) (by kernel_rfl) (fun _ _ _ h => h) (Or.inl ⟨by rfl, fun wz hz => by (go_simp; try with_reducible rfl)⟩) S0 ?_
  try simp only [Act.put, List.setIfInBounds_toArray, List.set_cons_zero, List.set_cons_succ]
  refine takeD (i := 5) (d := some 10) (v := _) rfl rfl (by kernel_rfl) (by kernel_rfl) (by kernel_rfl) (fun _ _ _ h => h) (Or.inl ⟨by rfl, fun wz hz => by (go_simp; try with_reducible rfl)⟩) S0 ?_
  try simp only [Act.put, List.setIfInBounds_toArray, List.set_cons_zero, List.set_cons_succ]
  refine takeD (i := 6) (d := some 11) (v := _) rfl rfl (by kernel_rfl) (by kernel_rfl) (by kernel_rfl) (fun _ _ _ h => h) (Or.inl ⟨by rfl, fun wz hz => by (go_simp; try with_reducible rfl)⟩) S0 ?_
  try simp only [Act.put, List.setIfInBounds_toArray, List.set_cons_zero, List.set_cons_succ]
  refine takeD (i := 7) (d := some 12) (v := _) rfl rfl (by kernel_rfl) (by kernel_rfl) (by kernel_rfl) (fun _ _ _ h => h) (Or.inl ⟨by rfl, fun wz hz => by (go_simp; try with_reducible rfl)⟩) S0 ?_
  try simp only [Act.put, List.setIfInBounds_toArray, List.set_cons_zero, List.set_cons_succ]
  refine wpAnyH_ready (rs := [3]) (by kernel_rfl) (by simp) (AllReadyH.cons rfl (fun K hK => ?_) AllReadyH.nil)
  go_simp
  refine (unhide CU _ S0.2).mono ?_
  rintro e w1 ⟨rfl, hb⟩
  have S1 := SB.call S0 hb
  have V1 := hide ((unhide V0).below hb)
  clear hb V0
  go_wp2_with fail
  refine hK.out _ _ S1 (fun S0 => ?_)
  clear hK K S1
  try simp only [Act.put, List.setIfInBounds_toArray, List.set_cons_zero, List.set_cons_succ]
  refine wpAnyH_ready (rs := [8]) (by kernel_rfl) (by simp) (AllReadyH.cons rfl (fun K hK => ?_) AllReadyH.nil)
  go_simp
  refine (unhide CT _ S0.2).mono ?_
  rintro e w2 ⟨rfl, hb⟩
  have S1 := SB.call S0 hb
  have V2 := hide ((unhide V1).below hb)
  clear hb V1
  go_wp2_with fail
  refine hK.out _ _ S1 (fun S0 => ?_)
  clear hK K S1
  try simp only [Act.put, List.setIfInBounds_toArray, List.set_cons_zero, List.set_cons_succ]
  refine wpAnyH_ready (rs := [9]) (by kernel_rfl) (by simp) (AllReadyH.cons rfl (fun K hK => ?_) AllReadyH.nil)
  go_simp
  refine (unhide CD _ S0.2).mono ?_
  rintro e w3 ⟨rfl, hb⟩
  have S1 := SB.call S0 hb
  have V3 := hide ((unhide V2).below hb)
  clear hb V2
  go_wp2_with fail
  refine hK.out _ _ S1 (fun S0 => ?_)
  clear hK K S1
  try simp only [Act.put, List.setIfInBounds_toArray, List.set_cons_zero, List.set_cons_succ]
  refine takeD (i := 10) (d := some 15) (v := _) rfl rfl (by kernel_rfl) (by kernel_rfl) (by kernel_rfl) (fun _ _ _ h => h) (Or.inl ⟨by rfl, fun wz hz => by (go_simp; try with_reducible rfl)⟩) S0 ?_
  try simp only [Act.put, List.setIfInBounds_toArray, List.set_cons_zero, List.set_cons_succ]
  refine takeD (i := 11) (d := some 16) (v := _) rfl rfl (by kernel_rfl) (by kernel_rfl) (by kernel_rfl) (fun _ _ _ h => h) (Or.inl ⟨by rfl, fun wz hz => by (go_simp; try with_reducible rfl)⟩) S0 ?_
  try simp only [Act.put, List.setIfInBounds_toArray, List.set_cons_zero, List.set_cons_succ]
  refine wpAnyH_ready (rs := [12]) (by kernel_rfl) (by simp) (AllReadyH.cons rfl (fun K hK => ?_) AllReadyH.nil)
  have bw := unhide V3
  have c0 := bw.at 0; have c1 := bw.at 1; have c2 := bw.at 2; have c3 := bw.at 3; have c4 := bw.at 4
  have f0 := bw.f 0; have f1 := bw.f 1; have f2 := bw.f 2; have f3 := bw.f 3; have f4 := bw.f 4
  simp at c0 c1 c2 c3 c4
  have bz := ((((bw.set 0 (.string (bs nm))).set 1 (.int .i64 ux)).set 2 (.int .i64 uy)).set 3 (.int .i64 dx)).set 4 (.int .i64 dy)
  have z0 := bz.at 0; have z1 := bz.at 1; have z2 := bz.at 2; have z3 := bz.at 3; have z4 := bz.at 4
  simp at z0 z1 z2 z3 z4
  have hn : w.heap.size ≠ w.heap.size + 1 := by omega
  have S1 : SB w (svc ⟨qa, ql, qc, aa, al, ac, ma, ml, mc, ca, cl, cc⟩ ⟨qs, clock, epoch, next, serial, apps, ms, cs⟩) (((((w3.setCell ⟨w.heap.size + 1, 0, none⟩ (.string (bs nm))).setCell ⟨w.heap.size + 1, 1, none⟩ (.int .i64 ux)).setCell ⟨w.heap.size + 1, 2, none⟩ (.int .i64 uy)).setCell ⟨w.heap.size + 1, 3, none⟩ (.int .i64 dx)).setCell ⟨w.heap.size + 1, 4, none⟩ (.int .i64 dy)) := ⟨((((S0.1.other _ _ _ hn).other _ _ _ hn).other _ _ _ hn).other _ _ _ hn).other _ _ _ hn, below_sc (below_sc (below_sc (below_sc (below_sc S0.2 _ _ _ (by omega)) _ _ _ (by omega)) _ _ _ (by omega)) _ _ _ (by omega)) _ _ _ (by omega)⟩
  clear bw bz V3
  go_simp
  go_wp2_with fail
  refine hK.out _ _ S1 (fun S0 => ?_)
  clear hK K
  try simp only [Act.put, List.setIfInBounds_toArray, List.set_cons_zero, List.set_cons_succ]
  refine wpAnyH_done (by kernel_rfl) ?_ _
  have HB := hide S1.2
  clear S1 S0 R CU CT CD SS0
  go_wp2
  refine bodyPost_ret (v := stv (nm, ux, uy, dx, dy)) (by simp [results, Tryz.results29, go_sem, z0, z1, z2, z3, z4]) rfl ⟨rfl, unhide HB⟩
end Go.Proofs.YtbgamlegiikggaaGreat
