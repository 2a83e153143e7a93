/-
  What is free on a machine, by the model: FreeOn; a walk over the dump.
-/
import Derived.Test.YtgallgdmedfgmaaFreeOnM
import Derived.Test.YtgallgdmedfgmaaUsedOnB
import Derived.Test.YtgallgdmedfgmaaSubS
import Derived.Test.YtgallgdmedfgmaaHeld
import Derived.Deep.RegionHeld3
import Derived.Deep.CutRange
namespace Go.Proofs.Ytgallgdmedfgmaa
open Go.RowKit Go.Maps
set_option linter.unusedVariables false

set_option maxRecDepth 100000 in
set_option maxHeartbeats 4000000 in
theorem specFreeOn_any (x : Sls) (s : St) (nm : List UInt8) (w : World) (h : SRow w x s) (hf : FitSt s) :
    Calls Try.prog 13 #[sv x s, .string (bs nm)] w fun e w' => e = .returned (rv (freeOnV s nm).1 (freeOnV s nm).2) ∧ Below w.heap.size w w' := by
  have hml : x.ml ≤ 1048576 := by have := h.len.2.2.1; have := hf.2.2.1.1; omega
  have hcl : x.cl ≤ 1048576 := by have := h.len.2.2.2; have := hf.2.2.2.1; omega
  have CM := hide (fun wx (hb : Below w.heap.size w wx) => l04Machine_any x s nm wx (h.2.2.1.below hb) hml)
  have CU := hide (fun wx (hb : Below w.heap.size w wx) => specUsedOn_v x s nm wx (h.2.2.2.below hb) hcl)
  have HFV := hide (show freeOnV s nm = match findM nm s.ms with | none => (0, 0) | some m => lessV m.mem m.cpu (usedOnV s nm).1 (usedOnV s nm).2 from rfl)
  have HMR := hide (fun wx (hb : Below w.heap.size w wx) => h.2.2.1.below hb)
  have HML := hide h.2.2.1.1
  have hat := macAt_find nm s.ms
  obtain ⟨⟨ux, uy⟩, hu⟩ : ∃ u, usedOnV s nm = u := ⟨_, rfl⟩
  obtain ⟨⟨fx, fy⟩, hfr⟩ : ∃ u, freeOnV s nm = u := ⟨_, rfl⟩
  obtain ⟨at0, ha⟩ : ∃ p, macAt s.ms nm = p := ⟨_, rfl⟩
  rw [hu] at CU HFV
  rw [hfr] at HFV ⊢
  rw [ha] at CM hat
  clear h hf hu hfr ha
  obtain ⟨qa, ql, qc, aa, al, ac, ma, ml, mc, ca, cl, cc⟩ := x
  obtain ⟨qs, clock, epoch, next, serial, apps, ms, cs⟩ := s
  simp only at HFV HMR HML hat
  have HB0 := hide (capW_below w (svc ⟨qa, ql, qc, aa, al, ac, ma, ml, mc, ca, cl, cc⟩ ⟨qs, clock, epoch, next, serial, apps, ms, cs⟩))
  have V0 := hide (capW_var w (svc ⟨qa, ql, qc, aa, al, ac, ma, ml, mc, ca, cl, cc⟩ ⟨qs, clock, epoch, next, serial, apps, ms, cs⟩))
  have P0 := hide ((boxW_blk w (svc ⟨qa, ql, qc, aa, al, ac, ma, ml, mc, ca, cl, cc⟩ ⟨qs, clock, epoch, next, serial, apps, ms, cs⟩)).al (.cells #[.int .i64 0, .int .i64 0] 28))
  go_enter Try.func13, Try.ntmps13
  go_wp2_with fail
  refine (unhide CM _ (unhide HB0)).mono ?_
  rintro e w1 ⟨rfl, hb⟩
  have HB1 := hide (below_on (unhide HB0) hb)
  have V1 := hide ((unhide V0).below hb)
  have P1 := hide ((unhide P0).below hb)
  clear hb HB0 V0 P0 CM
  rcases hat with ⟨hfm, rfl⟩ | ⟨j, hj, hfm, rfl⟩
  · rw [hfm] at HFV
    simp only at HFV
    have hz := unhide HFV
    simp only [Prod.mk.injEq] at hz
    obtain ⟨rfl, rfl⟩ := hz
    have V2 := unhide V1
    have t0 := V2.c0
    have t1 := V2.c1
    have f0 := V2.f 0
    have f1 := V2.f 1
    have k4 := V2.s0 (.int .i64 0)
    have k5 := V2.s1 (.int .i64 0) (.int .i64 0)
    clear V2
    go_wp2
    refine bodyPost_ret (v := rv 0 0) (by simp [results, Try.results13, go_sem, k4, k5]) rfl ⟨rfl, ?_⟩
    repeat (first | exact unhide HB1 | refine below_al ?_ _ | refine below_sc ?_ _ _ _ (by omega))
  · rw [hfm] at HFV
    have hjl : j < ml := by have := unhide HML; omega
    obtain ⟨mb, mo, rfl, hq⟩ := (unhide HMR _ (unhide HB1)).at hjl
    have HQ := hide (hq hj)
    obtain ⟨⟨mn, me, mp, se⟩, hs⟩ : ∃ m, ms[j] = m := ⟨_, rfl⟩
    rw [hs] at HQ HFV
    simp only at HFV
    have HRV := hide (show bothV (-1) me mp ux uy = rv fx fy by rw [less_both, ← unhide HFV])
    have CB := hide (fun wx => by have := specSub_any me mp ux uy wx; rw [unhide HRV] at this; exact this)
    obtain ⟨ok, hok⟩ : ∃ o, bothOk (-1) me mp ux uy = o := ⟨_, rfl⟩
    rw [hok] at CB
    have j0 : (0 : Int) ≤ j := by omega
    have j1 : (j : Int) < ml := by omega
    clear hok HRV HFV hfm hq hs hj
    have R : ∀ wx, Kp w1 wx → wx.cell? ⟨w.heap.size, 0, none⟩ = some (.slice qa ql qc) ∧ wx.cell? ⟨w.heap.size, 1, none⟩ = some (.int .i64 clock) ∧ wx.cell? ⟨w.heap.size, 2, none⟩ = some (.int .i64 epoch) ∧ wx.cell? ⟨w.heap.size, 3, none⟩ = some (.int .i64 next) ∧ wx.cell? ⟨w.heap.size, 4, none⟩ = some (.int .i64 serial) ∧ wx.cell? ⟨w.heap.size, 5, none⟩ = some (.slice aa al ac) ∧ wx.cell? ⟨w.heap.size, 6, none⟩ = some (.slice (some ⟨mb, mo, none⟩) ml mc) ∧ wx.cell? ⟨w.heap.size, 7, none⟩ = some (.slice ca cl cc) ∧ wx.cell? ⟨mb, mo + j * 4 + 1, none⟩ = some (.int .i64 me) ∧ wx.cell? ⟨mb, mo + j * 4 + 2, none⟩ = some (.int .i64 mp) := fun wx h =>
      ⟨h.cell ((unhide P1).at 0), h.cell ((unhide P1).at 1), h.cell ((unhide P1).at 2), h.cell ((unhide P1).at 3), h.cell ((unhide P1).at 4), h.cell ((unhide P1).at 5), h.cell ((unhide P1).at 6), h.cell ((unhide P1).at 7), h.cell (unhide HQ).2.1, h.cell (unhide HQ).2.2.1⟩
    have A0 := hide (Kp.new w1)
    have HS := hide (kp_holds w1)
    have hw1 := (unhide V1).lt
    go_wp2_with fail
    go_cut [6, 7] from 14 to 26 (fun v7 v8 wx => ∃ g, v7 = .pointer (some ⟨g, 0, none⟩) ∧ v8 = .bool ok ∧ Kp w1 wx ∧ Var wx 28 g fx fy ∧ w1.heap.size ≤ g)
    case first =>
      go_region_held3 (fun wx => Kp w1 wx)
        (first | (with_reducible assumption) | exact unhide SA | exact (unhide HS).drew (unhide A0) | exact (unhide HS).al (unhide SA) _ | exact (unhide HS).al (by assumption) _ | exact (unhide HS).al ((unhide HS).drew (unhide A0)) _ | exact (unhide HS).call (by assumption) (by assumption) | exact (unhide HS).set2 (unhide SA) _ _ _ (by first | omega | (simp <;> omega)) | exact (unhide HS).set2 (by assumption) _ _ _ (by first | omega | (simp <;> omega)))
        (first
        | (go_at_call 35; refine (unhide CU _ ?_).mono ?_; (exact below_on (unhide HB1) ((unhide HS).below (by assumption))); rintro e wt ⟨rfl, hb⟩; have SA := hide ((unhide HS).call (by assumption) hb); have sz := (unhide HS).size (unhide SA)
           first
             | (have V5 := (var_new _ 28 0 0).below hb; (try simp at V5); have c50 := V5.c0; have c51 := V5.c1; have f50 := V5.f 0; have f51 := V5.f 1; have V5 := hide V5)
             | (have V5 := (var_new _ 28 0 0).drew.below hb; (try simp at V5); have c50 := V5.c0; have c51 := V5.c1; have f50 := V5.f 0; have f51 := V5.f 1; have V5 := hide V5)
             | skip)
        | (go_at_call 34; refine (unhide CB _).mono ?_; rintro e wt ⟨rfl, hb⟩; have SA := hide ((unhide HS).call (by assumption) hb); have sz := (unhide HS).size (unhide SA)
           first
             | (have V5 := (var_new _ 28 0 0).below hb; (try simp at V5); have c50 := V5.c0; have c51 := V5.c1; have f50 := V5.f 0; have f51 := V5.f 1; have V5 := hide V5)
             | (have V5 := (var_new _ 28 0 0).drew.below hb; (try simp at V5); have c50 := V5.c0; have c51 := V5.c1; have f50 := V5.f 0; have f51 := V5.f 1; have V5 := hide V5)
             | (have V5 := hide ((unhide V5).below hb); have c50 := (unhide V5).c0; have c51 := (unhide V5).c1; have f50 := (unhide V5).f 0; have f51 := (unhide V5).f 1)
             | skip))
      all_goals
        go_wp2_with fail
        go_meet
        exact ⟨_, rfl, rfl, by first | assumption | exact unhide SA | exact (unhide HS).al (unhide SA) _, by first | exact var_new _ _ _ _ | exact (unhide V5).set _ _, by first | omega | (simp <;> omega)⟩
    case rest =>
      obtain ⟨g, rfl, rfl, hA, hV, hg⟩ := hcut
      have HB2 := hide (below_on (unhide HB1) hA)
      have v0 := hV.c0
      have v1 := hV.c1
      have V2 := (unhide V1).below hA
      have t0 := V2.c0
      have t1 := V2.c1
      have f0 := V2.f 0
      have f1 := V2.f 1
      have k4 := V2.s0 (.int .i64 fx)
      have k5 := V2.s1 (.int .i64 fx) (.int .i64 fy)
      clear hA hV A0 CB CU R V2 V1 P1 HB1
      go_wp2
      refine bodyPost_ret (v := rv fx fy) (by simp [results, Try.results13, go_sem, k4, k5]) rfl ⟨rfl, ?_⟩
      repeat (first | exact unhide HB2 | refine below_al ?_ _ | refine below_sc ?_ _ _ _ (by omega))
end Go.Proofs.Ytgallgdmedfgmaa
