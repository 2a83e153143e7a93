/-
  What the asks of a queue want together, by the model: l06Least, l06Wants; walks over the dump.
-/
import Derived.Test.YtgfdfaaemhdcaaaGreatLackM
import Derived.Test.YtgfdfaaemhdcaaaGreatPackD
namespace Go.Proofs.YtgfdfaaemhdcaaaGreat
open Go.RowKit
set_option linter.unusedVariables false

theorem Var.set0 {w : World} {t : TypeId} {g : Nat} {a b : Int} (h : Var w t g a b) (x : Int) : Var (w.setCell ⟨g, 0, none⟩ (.int .i64 x)) t g x b := heap_setCell_same w g 0 _ _ (.int .i64 x) h
theorem Var.set1 {w : World} {t : TypeId} {g : Nat} {a b : Int} (h : Var w t g a b) (y : Int) : Var (w.setCell ⟨g, 1, none⟩ (.int .i64 y)) t g a y := heap_setCell_same w g 1 _ _ (.int .i64 y) h

set_option maxRecDepth 100000 in
set_option maxHeartbeats 1000000 in
theorem l06Least_any (a b : Int) (w : World) :
    Calls Tryz.prog 36 #[.int .i64 a, .int .i64 b] w fun e w' => e = .returned (.int .i64 (min a b)) ∧ w' = w := by
  by_cases h : a < b
  · go_enter Tryz.func36, Tryz.ntmps36
    go_wp2
    go_ret
    exact ⟨ret_int (by omega), rfl⟩
  · go_enter Tryz.func36, Tryz.ntmps36
    go_wp2
    go_ret
    exact ⟨ret_int (by omega), rfl⟩

set_option maxRecDepth 100000 in
set_option maxHeartbeats 8000000 in
theorem l06Wants_any (x : Sls) (s : St) (nm : List UInt8) (w : World) (h : SRow w x s) (hf : FitSt s) :
    Calls Tryz.prog 35 #[sv x s, .string (bs nm)] w fun e w' => e = .returned (rv (wantV s nm).1 (wantV s nm).2) ∧ Below w.heap.size w w' := by
  have hal : x.al ≤ 1048576 := h.al hf
  have HR := hide h.2.1
  have HL := hide h.2.1.1
  have HFA := hide hf.2.1
  obtain ⟨⟨zx, zy⟩, hz⟩ : ∃ z, wantV s nm = z := ⟨_, rfl⟩
  have HZ := hide (show wantApps nm (s.apps.drop 0) (0, 0) = (zx, zy) from hz)
  rw [hz]
  clear h hf hz
  obtain ⟨qa, ql, qc, aa, al, ac, ma, ml, mc, ca, cl, cc⟩ := x
  obtain ⟨qs, clock, epoch, next, serial, apps, ms, cs⟩ := s
  simp only at hal HR HL HFA HZ
  have HB1 := hide (capW_below w (svc ⟨qa, ql, qc, aa, al, ac, ma, ml, mc, ca, cl, cc⟩ ⟨qs, clock, epoch, next, serial, apps, ms, cs⟩))
  have V1 := hide (capW_var w (svc ⟨qa, ql, qc, aa, al, ac, ma, ml, mc, ca, cl, cc⟩ ⟨qs, clock, epoch, next, serial, apps, ms, cs⟩))
  have P1 := hide ((boxW_blk w (svc ⟨qa, ql, qc, aa, al, ac, ma, ml, mc, ca, cl, cc⟩ ⟨qs, clock, epoch, next, serial, apps, ms, cs⟩)).al (.cells #[.int .i64 0, .int .i64 0] 40))
  have hsz := capW_size w (svc ⟨qa, ql, qc, aa, al, ac, ma, ml, mc, ca, cl, cc⟩ ⟨qs, clock, epoch, next, serial, apps, ms, cs⟩)
  have p5 := (unhide P1).at 5
  simp at p5
  obtain ⟨W1, hW1⟩ : ∃ W, capW w (svc ⟨qa, ql, qc, aa, al, ac, ma, ml, mc, ca, cl, cc⟩ ⟨qs, clock, epoch, next, serial, apps, ms, cs⟩) = W := ⟨_, rfl⟩
  have p5' : W1.cell? ⟨w.heap.size, 5, none⟩ = some (.slice aa al ac) := by rw [← hW1]; exact p5
  rw [hW1] at HB1 V1 hsz
  have HP5 := hide p5'
  have HSZ := hide hsz
  have HV := hide (show Var _ 40 (w.heap.size + 1 + 1) 0 0 by have := var_new W1 40 0 0; rwa [hsz] at this)
  have HK0 := hide (show Kp W1 _ from below_al (Below.refl _ W1) (.cells #[.int .i64 0, .int .i64 0] 40))
  have HW1 := hide hW1
  clear hW1 hsz p5 p5' P1
  go_enter Tryz.func35, Tryz.ntmps35
  go_wp2
  go_loopw [6] (fun i wr => ∃ (k : Nat) (a b : Int), k ≤ al ∧ i = .int .i64 k ∧ Hid (wantApps nm (apps.drop k) (a, b) = (zx, zy)) ∧ Hid (resOk a b = true) ∧ Hid (Var wr 40 (w.heap.size + 1 + 1) a b) ∧ Hid (Kp W1 wr)) (fun i _ => al - (intOf i).toNat)
  case atStart =>
    obtain rfl := unhide HW1
    exact ⟨0, 0, 0, Nat.zero_le _, rfl, HZ, hide resOk_zero, HV, HK0⟩
  case round =>
    obtain ⟨k, a, b, hk, rfl, HQ, HO, HVr, HK⟩ := hrel
    obtain ⟨wo, rfl⟩ : ∃ wo : World, wo = wr := ⟨_, rfl⟩
    clear HV HK0 HZ
    have p5 := (unhide HK).cell (unhide HP5)
    by_cases hlt : k < al
    · obtain ⟨bb, off, rfl, hq⟩ := (unhide HR).at hlt
      have hkl : k < apps.length := by have := unhide HL; omega
      have hst := wantApps_step (nm := nm) hkl (a, b)
      have hfa := (unhide HFA).2 _ (List.getElem_mem hkl)
      obtain ⟨xo, xl, xc, c0, c1, c2, hrow, _⟩ := hq hkl
      obtain ⟨⟨id, qu, asks⟩, hs⟩ : ∃ s, apps[k] = s := ⟨_, rfl⟩
      rw [hs] at c0 c1 hst hrow hfa
      simp only at c0 c1 hst hrow
      rw [unhide HQ] at hst
      have hxl : xl ≤ 1048576 := by have h1 := hrow.1; have h2 := hfa.2.1; simp only at h2; omega
      have HA := hide hrow
      have HAL := hide hrow.1
      have HNA := hide hfa.2.2
      have HC1 := hide c1
      have HC2 := hide c2
      have k0 : (0 : Int) ≤ k := by omega
      have k1 : (k : Int) < al := by omega
      have hqe := bs_eq qu nm
      obtain ⟨⟨ax, ay⟩, hax⟩ : ∃ z, (if qu = nm then wantAsks asks (a, b) else (a, b)) = z := ⟨_, rfl⟩
      have hok : resOk ax ay = true := by
        have : resOk (if qu = nm then wantAsks asks (a, b) else (a, b)).1 (if qu = nm then wantAsks asks (a, b) else (a, b)).2 = true := by
          split
          · exact wantAsks_ok asks (a, b) (unhide HO)
          · exact unhide HO
        rw [hax] at this; exact this
      rw [hax] at hst
      have HST := hide hst
      have HOK := hide hok
      have HX := hide (show (if qu = nm then wantAsks (asks.drop 0) (a, b) else (a, b)) = (ax, ay) from hax)
      clear hq hs hkl hrow hfa HQ hst hok hax c0 c1 c2
      go_wp2
      go_loopw [7] (fun i wr => ∃ (j : Nat) (a b : Int), j ≤ xl ∧ i = .int .i64 j ∧ Hid ((if qu = nm then wantAsks (asks.drop j) (a, b) else (a, b)) = (ax, ay)) ∧ Hid (resOk a b = true) ∧ Hid (Var wr 40 (w.heap.size + 1 + 1) a b) ∧ Hid (Kp W1 wr)) (fun i _ => xl - (intOf i).toNat)
      case atStart => exact ⟨0, a, b, Nat.zero_le _, rfl, HX, HO, HVr, HK⟩
      case round =>
        obtain ⟨j, a', b', hj, rfl, HQ', HO', HVj, HKj⟩ := hrel
        clear HX HVr HK HO p5
        have p5 := (unhide HKj).cell (unhide HP5)
        have KW := hide (show Kp w wr from below_on (unhide HB1) (unhide HKj))
        have c1 := (unhide KW).cell (unhide HC1)
        have c2 := (unhide KW).cell (unhide HC2)
        by_cases hjl : j < xl
        case neg =>
          have hen : (a', b') = (ax, ay) := by
            have := unhide HQ'
            rw [wantAsks_end (by have := unhide HAL; omega), ite_self] at this
            exact this
          simp only [Prod.mk.injEq] at hen
          obtain ⟨rfl, rfl⟩ := hen
          have j1 : ¬ (j : Int) < xl := by omega
          go_wp2
          go_roundw
          case rel => exact ⟨k + 1, a', b', by omega, by go_num, hide (unhide HST).symm, HOK, HVj, HKj⟩
          case measure => simp [intOf]; omega
        have j0 : (0 : Int) ≤ j := by omega
        have j1 : (j : Int) < xl := by omega
        by_cases hqn : qu = nm
        case neg =>
          rw [decide_eq_false hqn] at hqe
          have hen : (a', b') = (ax, ay) := by
            have := unhide HQ'
            rw [if_neg hqn] at this
            exact this
          simp only [Prod.mk.injEq] at hen
          obtain ⟨rfl, rfl⟩ := hen
          go_wp2
          go_roundw
          case rel => exact ⟨k + 1, a', b', by omega, by go_num, hide (unhide HST).symm, HOK, HVj, HKj⟩
          case measure => simp [intOf]; omega
        rw [decide_eq_true hqn] at hqe
        have HN := hide hqn
        have HQ2 := hide (show wantAsks (asks.drop j) (a', b') = (ax, ay) by have := unhide HQ'; rwa [if_pos hqn] at this)
        clear hqn HQ'
        obtain ⟨ab, aoff, rfl, ha⟩ := ((unhide HA).below (unhide KW)).at hjl
        have hjk : j < asks.length := by have := unhide HAL; omega
        have hst := wantAsks_step hjk (a', b')
        have hnd := unhide HNA _ (List.getElem_mem hjk)
        obtain ⟨d0, d1, d2, d3, d4⟩ := ha hjk
        obtain ⟨q, hs⟩ : ∃ s, asks[j] = s := ⟨_, rfl⟩
        rw [hs] at d0 d1 d2 d3 d4 hst hnd
        rw [unhide HQ2] at hst
        have CA := hide (fun wx => l04Ask_any q wx hnd)
        have HST' := hide hst
        clear ha hs hjk hnd hst HQ2
        cases hak : askOk q with
        | false =>
          rw [hak] at CA
          have HE := hide (show (if qu = nm then wantAsks (asks.drop (j + 1)) (a', b') else (a', b')) = (ax, ay) by rw [if_pos (unhide HN), unhide HST', wantOne_no hak])
          clear HST' hak
          obtain ⟨me, cp, ct, nd, mi⟩ := q
          simp only at d0 d1 d2 d3 d4
          have HV4 := hide ((unhide HVj).al (.cells #[.int .i64 me, .int .i64 cp, .int .i64 ct, .string (bs nd), .int .i64 mi] 118))
          have HK4 := hide (show Kp W1 _ from below_al (unhide HKj) (.cells #[.int .i64 me, .int .i64 cp, .int .i64 ct, .string (bs nd), .int .i64 mi] 118))
          go_wp2_with fail
          refine (unhide CA _).mono ?_
          rintro e w5 ⟨rfl, hb⟩
          have HV5 := hide ((unhide HV4).below hb)
          have HK5 := hide (show Kp W1 _ from below_on (unhide HK4) hb)
          clear hb HV4 HK4 CA
          go_wp2
          go_roundw
          case rel => exact ⟨j + 1, a', b', by omega, by go_num, HE, HO', HV5, HK5⟩
          case measure => simp [intOf]; omega
        | true =>
          rw [hak] at CA
          have hok2 := wantOne_ok (p := (a', b')) q (unhide HO')
          obtain ⟨m0, m1, n0, n1, x0, x1, y0, y1⟩ := ask_bd hak (unhide HO')
          obtain ⟨a0, a1, b0, b1, t0, t1⟩ := askOk_bd hak
          rw [wantOne_yes hak] at HST' hok2
          clear hak
          obtain ⟨me, cp, ct, nd, mi⟩ := q
          simp only at d0 d1 d2 d3 d4 m0 m1 n0 n1 a0 a1 b0 b1 t0 t1 HST' hok2
          have L1 := hide (fun wx => l06Least_any 1000000000 (a' + me * ct) wx)
          have L2 := hide (fun wx => l06Least_any 1000000000 (b' + cp * ct) wx)
          obtain ⟨na, hna⟩ : ∃ t, min 1000000000 (a' + me * ct) = t := ⟨_, rfl⟩
          obtain ⟨nb, hnb⟩ : ∃ t, min 1000000000 (b' + cp * ct) = t := ⟨_, rfl⟩
          rw [hna] at L1 HST' hok2
          rw [hnb] at L2 HST' hok2
          have HE := hide (show (if qu = nm then wantAsks (asks.drop (j + 1)) (na, nb) else (na, nb)) = (ax, ay) by rw [if_pos (unhide HN), unhide HST'])
          have HO2 := hide hok2
          clear HST' hna hnb hok2
          have HV4 := hide ((unhide HVj).al (.cells #[.int .i64 me, .int .i64 cp, .int .i64 ct, .string (bs nd), .int .i64 mi] 118))
          have HK4 := hide (show Kp W1 _ from below_al (unhide HKj) (.cells #[.int .i64 me, .int .i64 cp, .int .i64 ct, .string (bs nd), .int .i64 mi] 118))
          have P4 := hide (blk_new wr #[.int .i64 me, .int .i64 cp, .int .i64 ct, .string (bs nd), .int .i64 mi] 118)
          have hlt2 : w.heap.size + 1 + 1 < wr.heap.size := (unhide HVj).lt
          go_wp2_with fail
          refine (unhide CA _).mono ?_
          rintro e w5 ⟨rfl, hb⟩
          have HV5 := hide ((unhide HV4).below hb)
          have HK5 := hide (show Kp W1 _ from below_on (unhide HK4) hb)
          have P5 := hide ((unhide P4).below hb)
          have e0 := (unhide P5).at 0
          have e1 := (unhide P5).at 1
          have e2 := (unhide P5).at 2
          simp at e0 e1 e2
          have v0 := (unhide HV5).c0
          have v1 := (unhide HV5).c1
          clear hb HV4 HK4 P4 CA d0 d1 d2 d3 d4 p5 c1 c2
          go_wp2_with fail
          refine (unhide L1 _).mono ?_
          rintro e w6 ⟨rfl, rfl⟩
          have u0 := (unhide HV5).f 0
          have HV7 := hide ((unhide HV5).set0 na)
          have HK7 := hide (show Kp W1 _ from below_sc (unhide HK5) (w.heap.size + 1 + 1) 0 (.int .i64 na) (by rw [unhide HSZ]; omega))
          have P7 := hide ((unhide P5).other (w.heap.size + 1 + 1) 0 (.int .i64 na) (by omega))
          have f0 := (unhide P7).at 0
          have f1 := (unhide P7).at 1
          have f2 := (unhide P7).at 2
          simp at f0 f1 f2
          have v2 := (unhide HV7).c0
          have v3 := (unhide HV7).c1
          clear HK5 L1 e0 e1 e2 P5
          go_wp2_with fail
          refine (unhide L2 _).mono ?_
          rintro e w7 ⟨rfl, rfl⟩
          have u1 := (unhide HV7).f 1
          clear f0 f1 f2 P7 v0 v1 HV5
          go_wp2
          go_roundw
          case rel => exact ⟨j + 1, na, nb, by omega, by go_num, HE, HO2, hide ((unhide HV7).set1 nb), hide (below_sc (unhide HK7) (w.heap.size + 1 + 1) 1 (.int .i64 nb) (by rw [unhide HSZ]; omega))⟩
          case measure => simp [intOf]; omega
    · have hen := wantApps_end (nm := nm) (l := apps) (k := k) (by have := unhide HL; omega) (a, b)
      rw [unhide HQ] at hen
      simp only [Prod.mk.injEq] at hen
      obtain ⟨rfl, rfl⟩ := hen
      have k1 : ¬ (k : Int) < al := by omega
      have VR := (unhide V1).below (unhide HK)
      have v0 := (unhide HVr).c0
      have v1 := (unhide HVr).c1
      have g0 := VR.c0
      have g1 := VR.c1
      have k2 := VR.f 0
      have k3 := VR.f 1
      have k4 := VR.s0 (.int .i64 zx)
      have k5 := VR.s1 (.int .i64 zx) (.int .i64 zy)
      have HB9 := hide (below_on (unhide HB1) (unhide HK))
      go_wp2
      refine bodyPost_ret (v := rv zx zy) (by simp [results, Tryz.results35, go_sem, k4, k5]) rfl ⟨rfl, ?_⟩
      repeat (first | exact unhide HB9 | refine below_al ?_ _ | refine below_sc ?_ _ _ _ (by omega))
end Go.Proofs.YtgfdfaaemhdcaaaGreat
