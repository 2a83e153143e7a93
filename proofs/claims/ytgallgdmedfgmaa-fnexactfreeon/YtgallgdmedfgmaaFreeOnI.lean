/-
  What is free on a machine, by the program: FreeOn; a walk over the dump.
-/
import Derived.Test.YtgallgdmedfgmaaMachI
import Derived.Test.YtgallgdmedfgmaaFreeOnM
import Derived.Test.YtgallgdmedfgmaaSubI
import Derived.Test.YtgallgdmedfgmaaHeld
import Derived.Deep.RegionHeld3
import Derived.Deep.CutRange
namespace Go.Proofs.Ytgallgdmedfgmaa
open Go.RowKit Go.Maps
set_option linter.unusedVariables false

set_option maxRecDepth 100000 in
set_option maxHeartbeats 4000000 in
theorem implFreeOn_any (x : Sls) (s : St) (nm : List UInt8) (w : World) (h : SRow w x s) (hf : FitSt s) (hnm : nm.length ≤ 1048576) :
    Calls Try.prog 15 #[sv x s, .string (bs nm)] w fun e w' => e = .returned (rv (freeOnV s nm).1 (freeOnV s nm).2) ∧ Below w.heap.size w w' := by
  have hml : x.ml ≤ 1048576 := by have := h.len.2.2.1; have := hf.2.2.1.1; omega
  have hcl : x.cl ≤ 1048576 := by have := h.len.2.2.2; have := hf.2.2.2.1; omega
  have CM := hide (fun wx (hb : Below w.heap.size w wx) => machines_ex x s wx (h.2.2.1.below hb) hml (fun m hm => hf.2.2.1.2 m hm))
  have CU := hide (fun wx (hb : Below w.heap.size w wx) => implUsedOn_any x s nm wx (h.2.2.2.below hb) hcl)
  obtain ⟨kl, hkey⟩ := keyKey (nm := nm) (k := 0) (by omega) (by decide)
  have HKEY := hide hkey
  have HFV := hide (show freeOnV s nm = match findM nm s.ms with | none => (0, 0) | some m => lessV m.mem m.cpu (usedOnV s nm).1 (usedOnV s nm).2 from rfl)
  obtain ⟨⟨ux, uy⟩, hu⟩ : ∃ u, usedOnV s nm = u := ⟨_, rfl⟩
  obtain ⟨⟨fx, fy⟩, hfr⟩ : ∃ u, freeOnV s nm = u := ⟨_, rfl⟩
  rw [hu] at CU HFV
  rw [hfr] at HFV ⊢
  clear h hf hu hfr hkey
  obtain ⟨qa, ql, qc, aa, al, ac, ma, ml, mc, ca, cl, cc⟩ := x
  obtain ⟨qs, clock, epoch, next, serial, apps, ms, cs⟩ := s
  simp only at HFV
  have HB0 := hide (capW_below w (svc ⟨qa, ql, qc, aa, al, ac, ma, ml, mc, ca, cl, cc⟩ ⟨qs, clock, epoch, next, serial, apps, ms, cs⟩))
  have V0 := hide (capW_var w (svc ⟨qa, ql, qc, aa, al, ac, ma, ml, mc, ca, cl, cc⟩ ⟨qs, clock, epoch, next, serial, apps, ms, cs⟩))
  have P0 := hide ((boxW_blk w (svc ⟨qa, ql, qc, aa, al, ac, ma, ml, mc, ca, cl, cc⟩ ⟨qs, clock, epoch, next, serial, apps, ms, cs⟩)).al (.cells #[.int .i64 0, .int .i64 0] 28))
  go_enter Try.func15, Try.ntmps15
  go_wp2_with fail
  refine (unhide CM _ (unhide HB0)).mono ?_
  rintro e w1 ⟨bm, rfl, ⟨hbm, D, hown, hk⟩, hb⟩
  have hlk := lookM hown hk (unhide HKEY)
  have HB1 := hide (below_on (unhide HB0) hb)
  have V1 := hide ((unhide V0).below hb)
  have P1 := hide ((unhide P0).below hb)

  clear hb HB0 V0 P0 CM hown hk hbm
  cases hfm : findM nm ms with
  | none =>
    rw [hfm] at hlk HFV
    simp only at HFV
    have hz := unhide HFV
    simp only [Prod.mk.injEq] at hz
    obtain ⟨rfl, rfl⟩ := hz
    rw [show (none : Option Mac).getD ⟨[], 0, 0, 0⟩ = ⟨[], 0, 0, 0⟩ from rfl, show (none : Option Mac).isSome = false from rfl] at hlk
    have V2 := (unhide V1).al (macobj ⟨[], 0, 0, 0⟩)
    have t0 := V2.c0
    have t1 := V2.c1
    have f0 := V2.f 0
    have f1 := V2.f 1
    have k4 := V2.s0 (.int .i64 0)
    have k5 := V2.s1 (.int .i64 0) (.int .i64 0)
    clear V2
    go_wp2
    refine bodyPost_ret (v := rv 0 0) (by simp [results, Try.results15, go_sem, k4, k5]) rfl ⟨rfl, ?_⟩
    repeat (first | exact unhide HB1 | refine below_al ?_ _ | refine below_sc ?_ _ _ _ (by omega))
  | some m =>
    rw [hfm] at hlk HFV
    rw [show (some m).getD ⟨[], 0, 0, 0⟩ = m from rfl, show (some m).isSome = true from rfl] at hlk
    obtain ⟨mn, me, mp, se⟩ := m
    simp only at HFV
    have HRV := hide (show bothV (-1) me mp ux uy = rv fx fy by rw [less_both, ← unhide HFV])
    have CB := hide (fun wx => by have := implSub_any me mp ux uy wx; rw [unhide HRV] at this; exact this)
    obtain ⟨ok, hok⟩ : ∃ o, bothOk (-1) me mp ux uy = o := ⟨_, rfl⟩
    rw [hok] at CB
    clear hok HRV HFV hfm
    obtain ⟨L, R, VR, h0⟩ : ∃ L : List (Nat × Array Value × TypeId), (∀ wx, Held w (w1.heap.size + 1) L wx → wx.cell? ⟨w1.heap.size, 1, none⟩ = some (.int .i64 me) ∧ wx.cell? ⟨w1.heap.size, 2, none⟩ = some (.int .i64 mp) ∧ wx.cell? ⟨w.heap.size, 0, none⟩ = some (.slice qa ql qc) ∧ wx.cell? ⟨w.heap.size, 1, none⟩ = some (.int .i64 clock) ∧ wx.cell? ⟨w.heap.size, 2, none⟩ = some (.int .i64 epoch) ∧ wx.cell? ⟨w.heap.size, 3, none⟩ = some (.int .i64 next) ∧ wx.cell? ⟨w.heap.size, 4, none⟩ = some (.int .i64 serial) ∧ wx.cell? ⟨w.heap.size, 5, none⟩ = some (.slice aa al ac) ∧ wx.cell? ⟨w.heap.size, 6, none⟩ = some (.slice ma ml mc) ∧ wx.cell? ⟨w.heap.size, 7, none⟩ = some (.slice ca cl cc))
        ∧ (∀ wx, Held w (w1.heap.size + 1) L wx → Var wx 28 (w.heap.size + 1) 0 0) ∧ Held w (w1.heap.size + 1) L (w1.alloc (macobj ⟨mn, me, mp, se⟩)) := by
      have l1 := (unhide V1).lt
      have l2 := (unhide P1).lt
      refine ⟨[(w.heap.size, svc ⟨qa, ql, qc, aa, al, ac, ma, ml, mc, ca, cl, cc⟩ ⟨qs, clock, epoch, next, serial, apps, ms, cs⟩, 46), (w.heap.size + 1, #[.int .i64 0, .int .i64 0], 28), (w1.heap.size, #[.string (bs mn), .int .i64 me, .int .i64 mp, .int .i64 se], 71)], fun wx h => ?_, fun wx h => ?_, ?_⟩
      · have a := h.blk (p := (w.heap.size, svc ⟨qa, ql, qc, aa, al, ac, ma, ml, mc, ca, cl, cc⟩ ⟨qs, clock, epoch, next, serial, apps, ms, cs⟩, 46)) (by simp)
        have b := h.blk (p := (w1.heap.size, #[.string (bs mn), .int .i64 me, .int .i64 mp, .int .i64 se], 71)) (by simp)
        exact ⟨b.at 1, b.at 2, a.at 0, a.at 1, a.at 2, a.at 3, a.at 4, a.at 5, a.at 6, a.at 7⟩
      · exact (h.blk (p := (w.heap.size + 1, #[.int .i64 0, .int .i64 0], 28)) (by simp)).var
      · refine ⟨fun p hp => ?_, by rw [al_size]; omega, by omega, below_al (unhide HB1) _⟩
        simp only [List.mem_cons, List.not_mem_nil, or_false] at hp
        rcases hp with rfl | rfl | rfl
        · exact ⟨by simp only; omega, (unhide P1).al _⟩
        · exact ⟨by simp only; omega, (unhide V1).blk.al _⟩
        · exact ⟨by simp only; omega, blk_new _ _ _⟩
    have A0 := hide h0
    have HS := hide (held_holds w (w1.heap.size + 1) L)
    clear h0
    go_wp2_with fail
    go_cut [7, 8] from 20 to 28 (fun v7 v8 wx => ∃ g, v7 = .pointer (some ⟨g, 0, none⟩) ∧ v8 = .bool ok ∧ Held w (w1.heap.size + 1) L wx ∧ Var wx 28 g fx fy ∧ w1.heap.size + 1 ≤ g)
    case first =>
      go_region_held3 (fun wx => Held w (w1.heap.size + 1) L wx)
        (first | (with_reducible assumption) | exact unhide SA | exact (unhide HS).drew (unhide A0) | exact (unhide HS).al (unhide SA) _ | exact (unhide HS).al (by assumption) _ | exact (unhide HS).al ((unhide HS).drew (unhide A0)) _ | exact (unhide HS).call (by assumption) (by assumption) | exact (unhide HS).set2 (unhide SA) _ _ _ (by first | omega | (simp <;> omega)) | exact (unhide HS).set2 (by assumption) _ _ _ (by first | omega | (simp <;> omega)))
        (first
        | (go_at_call 42; refine (unhide CU _ ?_).mono ?_; (exact (unhide HS).below (by assumption)); rintro e wt ⟨rfl, hb⟩; have SA := hide ((unhide HS).call (by assumption) hb); have sz := (unhide HS).size (unhide SA)
           first
             | (have V5 := (var_new _ 28 0 0).below hb; (try simp at V5); have c50 := V5.c0; have c51 := V5.c1; have f50 := V5.f 0; have f51 := V5.f 1; have V5 := hide V5)
             | (have V5 := (var_new _ 28 0 0).drew.below hb; (try simp at V5); have c50 := V5.c0; have c51 := V5.c1; have f50 := V5.f 0; have f51 := V5.f 1; have V5 := hide V5)
             | skip)
        | (go_at_call 41; refine (unhide CB _).mono ?_; rintro e wt ⟨rfl, hb⟩; have SA := hide ((unhide HS).call (by assumption) hb); have sz := (unhide HS).size (unhide SA)
           first
             | (have V5 := (var_new _ 28 0 0).below hb; (try simp at V5); have c50 := V5.c0; have c51 := V5.c1; have f50 := V5.f 0; have f51 := V5.f 1; have V5 := hide V5)
             | (have V5 := (var_new _ 28 0 0).drew.below hb; (try simp at V5); have c50 := V5.c0; have c51 := V5.c1; have f50 := V5.f 0; have f51 := V5.f 1; have V5 := hide V5)
             | (have V5 := hide ((unhide V5).below hb); have c50 := (unhide V5).c0; have c51 := (unhide V5).c1; have f50 := (unhide V5).f 0; have f51 := (unhide V5).f 1)
             | skip))
      all_goals
        go_wp2_with fail
        go_meet
        exact ⟨_, rfl, rfl, by first | assumption | exact unhide SA | exact (unhide HS).al (unhide SA) _, by first | exact var_new _ _ _ _ | exact (unhide V5).set _ _, by first | omega | (simp <;> omega)⟩
    case rest =>
      obtain ⟨g, rfl, rfl, hA, hV, hg⟩ := hcut
      have HB2 := hide ((unhide HS).below hA)
      have v0 := hV.c0
      have v1 := hV.c1
      have V2 := VR _ hA
      have t0 := V2.c0
      have t1 := V2.c1
      have f0 := V2.f 0
      have f1 := V2.f 1
      have k4 := V2.s0 (.int .i64 fx)
      have k5 := V2.s1 (.int .i64 fx) (.int .i64 fy)
      clear hA hV A0 CB CU R VR V2 V1 P1 HB1
      go_wp2
      refine bodyPost_ret (v := rv fx fy) (by simp [results, Try.results15, go_sem, k4, k5]) rfl ⟨rfl, ?_⟩
      repeat (first | exact unhide HB2 | refine below_al ?_ _ | refine below_sc ?_ _ _ _ (by omega))
end Go.Proofs.Ytgallgdmedfgmaa
