/-
  What the asks of a queue want together, by the program: wantedBeside, wanted, lackOf; walks over the dump.
-/
import Derived.Test.YtgfdfaaemhdcaaaGreatLackM
import Derived.Test.YtgfdfaaemhdcaaaGreatPackD
namespace Go.Proofs.YtgfdfaaemhdcaaaGreat
open Go.RowKit
set_option linter.unusedVariables false

theorem min_runW (x y : Int) (wx : World) : (Builtin.min_ #[3, 3] 3 #[.int .i64 x, .int .i64 y]).run Tryz.prog wx = .ok (.int .i64 (min x y)) wx := by
  have : (if y < x then y else x) = min x y := by omega
  simp [go_sem, this]
theorem max_runW (x y : Int) (wx : World) : (Builtin.max_ #[3, 3] 3 #[.int .i64 x, .int .i64 y]).run Tryz.prog wx = .ok (.int .i64 (max x y)) wx := by
  have : (if x < y then y else x) = max x y := by omega
  simp [go_sem, this]

set_option maxRecDepth 100000 in
set_option maxHeartbeats 1000000 in
theorem lackOf_any (d u v : Int) (w : World) (hd : 0 ≤ d ∧ d ≤ 1000000000) (hu : 0 ≤ u ∧ u ≤ 1000000000) :
    Calls Tryz.prog 38 #[.int .i64 d, .int .i64 u, .int .i64 v] w fun e w' => e = .returned (.int .i64 (lack1 d u v)) ∧ w' = w := by
  have h1 := max_runW (d - u) 0
  have h2 := min_runW (max (d - u) 0) v
  obtain ⟨hd0, hd1⟩ := hd
  obtain ⟨hu0, hu1⟩ := hu
  obtain ⟨t, ht⟩ : ∃ t, max (d - u) 0 = t := ⟨_, rfl⟩
  have h4 : lack1 d u v = min t v := by rw [lack1, ht]
  rw [ht] at h1 h2
  rw [h4]
  clear h4 ht
  go_enter Tryz.func38, Tryz.ntmps38
  go_wp2
  go_ret
  exact ⟨rfl, rfl⟩

set_option maxRecDepth 100000 in
set_option maxHeartbeats 2000000 in
theorem wantedBeside_any (q : Ask) (x y : Int) (w : World) (ha : askOk q = true) (hr : resOk x y = true) :
    Calls Tryz.prog 72 #[askv q, rv x y] w fun e w' => e = .returned (rv (wantOne (x, y) q).1 (wantOne (x, y) q).2) ∧ Below w.heap.size w w' := by
  obtain ⟨m0, m1, n0, n1, x0, x1, y0, y1⟩ := ask_bd ha hr
  obtain ⟨a0, a1, b0, b1, c0, c1⟩ := askOk_bd ha
  rw [wantOne_yes ha]
  clear ha hr
  obtain ⟨me, cp, ct, nd, ms⟩ := q
  simp only at m0 m1 n0 n1 a0 a1 b0 b1 c0 c1 ⊢
  have h1 := min_runW (x + me * ct) 1000000000
  have h2 := min_runW (y + cp * ct) 1000000000
  rw [Int.min_comm] at h1 h2
  obtain ⟨u, hu⟩ : ∃ t, min 1000000000 (x + me * ct) = t := ⟨_, rfl⟩
  obtain ⟨v, hv⟩ : ∃ t, min 1000000000 (y + cp * ct) = t := ⟨_, rfl⟩
  rw [hu] at h1 ⊢
  rw [hv] at h2 ⊢
  clear hu hv
  go_enter Tryz.func72, Tryz.ntmps72
  go_wp2
  refine bodyPost_ret (v := rv u v) (by simp [results, Tryz.results72, go_sem]) rfl ⟨rfl, ?_⟩
  repeat (first | exact Below.refl _ _ | refine below_al ?_ _ | refine Below.drew ?_ | refine below_sc ?_ _ _ _ (by omega))

set_option maxRecDepth 100000 in
set_option maxHeartbeats 4000000 in
theorem wanted_any (x : Sls) (s : St) (nm : List UInt8) (w : World) (h : SRow w x s) (hf : FitSt s) :
    Calls Tryz.prog 37 #[sv x s, .string (bs nm)] w fun e w' => e = .returned (rv (wantV s nm).1 (wantV s nm).2) ∧ Below w.heap.size w w' := by
  have hal : x.al ≤ 1048576 := h.al hf
  have HR := hide h.2.1
  have HL := hide h.2.1.1
  have HFA := hide hf.2.1
  obtain ⟨⟨zx, zy⟩, hz⟩ : ∃ z, wantV s nm = z := ⟨_, rfl⟩
  have HZ := hide (show wantApps nm (s.apps.drop 0) (0, 0) = (zx, zy) from hz)
  rw [hz]
  clear h hf hz
  obtain ⟨qa, ql, qc, aa, al, ac, ma, ml, mc, ca, cl, cc⟩ := x
  obtain ⟨qs, clock, epoch, next, serial, apps, ms, cs⟩ := s
  simp only at hal HR HL HFA HZ
  have HB1 := hide (capW_below w (svc ⟨qa, ql, qc, aa, al, ac, ma, ml, mc, ca, cl, cc⟩ ⟨qs, clock, epoch, next, serial, apps, ms, cs⟩))
  have V1 := hide (capW_var w (svc ⟨qa, ql, qc, aa, al, ac, ma, ml, mc, ca, cl, cc⟩ ⟨qs, clock, epoch, next, serial, apps, ms, cs⟩))
  have hsz := capW_size w (svc ⟨qa, ql, qc, aa, al, ac, ma, ml, mc, ca, cl, cc⟩ ⟨qs, clock, epoch, next, serial, apps, ms, cs⟩)
  obtain ⟨W1, hW1⟩ : ∃ W, capW w (svc ⟨qa, ql, qc, aa, al, ac, ma, ml, mc, ca, cl, cc⟩ ⟨qs, clock, epoch, next, serial, apps, ms, cs⟩) = W := ⟨_, rfl⟩
  rw [hW1] at HB1 V1 hsz
  have HSZ := hide hsz
  have HV := hide (show Var _ 40 (w.heap.size + 1 + 1) 0 0 by have := var_new W1 40 0 0; rwa [hsz] at this)
  have HK0 := hide (show Kp W1 _ from below_al (Below.refl _ W1) (.cells #[.int .i64 0, .int .i64 0] 40))
  have HW1 := hide hW1
  clear hW1 hsz
  go_enter Tryz.func37, Tryz.ntmps37
  go_wp2
  go_loopw [14] (fun i wr => ∃ (k : Nat) (a b : Int), k ≤ al ∧ i = .int .i64 k ∧ Hid (wantApps nm (apps.drop k) (a, b) = (zx, zy)) ∧ Hid (resOk a b = true) ∧ Hid (Var wr 40 (w.heap.size + 1 + 1) a b) ∧ Hid (Kp W1 wr)) (fun i _ => al - (intOf i).toNat)
  case atStart =>
    obtain rfl := unhide HW1
    exact ⟨0, 0, 0, Nat.zero_le _, rfl, HZ, hide resOk_zero, HV, HK0⟩
  case round =>
    obtain ⟨k, a, b, hk, rfl, HQ, HO, HVr, HK⟩ := hrel
    obtain ⟨wo, rfl⟩ : ∃ wo : World, wo = wr := ⟨_, rfl⟩
    clear HV HK0 HZ
    by_cases hlt : k < al
    · obtain ⟨bb, off, rfl, hq⟩ := (unhide HR).at hlt
      have KW := hide (show Kp w wo from below_on (unhide HB1) (unhide HK))
      have hkl : k < apps.length := by have := unhide HL; omega
      have hst := wantApps_step (nm := nm) hkl (a, b)
      have hfa := (unhide HFA).2 _ (List.getElem_mem hkl)
      obtain ⟨xo, xl, xc, c0, c1, c2, hrow, _⟩ := hq hkl
      replace c0 := (unhide KW).cell c0
      replace c1 := (unhide KW).cell c1
      replace c2 := (unhide KW).cell c2
      obtain ⟨⟨id, qu, asks⟩, hs⟩ : ∃ s, apps[k] = s := ⟨_, rfl⟩
      rw [hs] at c0 c1 hst hrow hfa
      simp only at c0 c1 hst hrow
      rw [unhide HQ] at hst
      have hxl : xl ≤ 1048576 := by have h1 := hrow.1; have h2 := hfa.2.1; simp only at h2; omega
      have HA := hide hrow
      have HAL := hide hrow.1
      have HNA := hide hfa.2.2
      have k0 : (0 : Int) ≤ k := by omega
      have k1 : (k : Int) < al := by omega
      clear hq hs hkl hrow hfa HQ
      by_cases hqn : qu = nm
      case neg =>
        have hqe := bs_eq qu nm
        rw [decide_eq_false hqn] at hqe
        rw [if_neg hqn] at hst
        have HST := hide hst
        clear hst
        go_wp2
        go_roundw
        case rel => exact ⟨k + 1, a, b, by omega, by go_num, hide (unhide HST).symm, HO, hide ((unhide HVr).al _), hide (below_al (unhide HK) _)⟩
        case measure => simp [intOf]; omega
      subst hqn
      have hqe := bs_eq qu qu
      rw [decide_eq_true rfl] at hqe
      rw [if_pos rfl] at hst
      have hok := wantAsks_ok asks (a, b) (unhide HO)
      obtain ⟨⟨ax, ay⟩, hax⟩ : ∃ z, wantAsks asks (a, b) = z := ⟨_, rfl⟩
      rw [hax] at hst hok
      have HST := hide hst
      have HOK := hide hok
      have HX := hide (show wantAsks (asks.drop 0) (a, b) = (ax, ay) from hax)
      have HV2 := hide ((unhide HVr).al (.cells #[.int .i64 id, .string (bs qu), .slice xo xl xc] 88))
      have HK2 := hide (show Kp W1 _ from below_al (unhide HK) (.cells #[.int .i64 id, .string (bs qu), .slice xo xl xc] 88))
      clear hst hok hax
      go_wp2
      go_loopw [25] (fun i wr => ∃ (j : Nat) (a b : Int), j ≤ xl ∧ i = .int .i64 j ∧ Hid (wantAsks (asks.drop j) (a, b) = (ax, ay)) ∧ Hid (resOk a b = true) ∧ Hid (Var wr 40 (w.heap.size + 1 + 1) a b) ∧ Hid (Kp W1 wr)) (fun i _ => xl - (intOf i).toNat)
      case atStart => exact ⟨0, a, b, Nat.zero_le _, rfl, HX, HO, HV2, HK2⟩
      case round =>
        obtain ⟨j, a', b', hj, rfl, HQ', HO', HVj, HKj⟩ := hrel
        clear HV2 HK2 HX HVr HK HO
        by_cases hjl : j < xl
        · obtain ⟨ab, aoff, rfl, ha⟩ := ((unhide HA).below (below_on (unhide HB1) (unhide HKj))).at hjl
          have hjk : j < asks.length := by have := unhide HAL; omega
          have hst := wantAsks_step hjk (a', b')
          have hnd := unhide HNA _ (List.getElem_mem hjk)
          obtain ⟨d0, d1, d2, d3, d4⟩ := ha hjk
          obtain ⟨q, hs⟩ : ∃ s, asks[j] = s := ⟨_, rfl⟩
          rw [hs] at d0 d1 d2 d3 d4 hst hnd
          rw [unhide HQ'] at hst
          have CA := hide (fun wx => askOk_any q wx hnd)
          have j0 : (0 : Int) ≤ j := by omega
          have j1 : (j : Int) < xl := by omega
          have HST' := hide hst
          clear ha hs hjk hnd hst HQ'
          cases hak : askOk q with
          | false =>
            rw [hak] at CA
            have HE := hide (show wantAsks (asks.drop (j + 1)) (a', b') = (ax, ay) by rw [unhide HST', wantOne_no hak])
            clear HST' hak
            obtain ⟨me, cp, ct, nd, mi⟩ := q
            simp only at d0 d1 d2 d3 d4
            have HV4 := hide ((unhide HVj).al (.cells #[.int .i64 me, .int .i64 cp, .int .i64 ct, .string (bs nd), .int .i64 mi] 118))
            have HK4 := hide (show Kp W1 _ from below_al (unhide HKj) (.cells #[.int .i64 me, .int .i64 cp, .int .i64 ct, .string (bs nd), .int .i64 mi] 118))
            go_wp2_with fail
            refine (unhide CA _).mono ?_
            rintro e w5 ⟨rfl, hb⟩
            have HV5 := hide ((unhide HV4).below hb)
            have HK5 := hide (show Kp W1 _ from below_on (unhide HK4) hb)
            clear hb HV4 HK4 CA
            go_wp2
            go_roundw
            case rel => exact ⟨j + 1, a', b', by omega, by go_num, HE, HO', HV5, HK5⟩
            case measure => simp [intOf]; omega
          | true =>
            rw [hak] at CA
            have hok2 := wantOne_ok (p := (a', b')) q (unhide HO')
            have CB := hide (fun wx => wantedBeside_any q a' b' wx hak (unhide HO'))
            obtain ⟨⟨na, nb⟩, hn⟩ : ∃ z, wantOne (a', b') q = z := ⟨_, rfl⟩
            rw [hn] at CB hok2
            have HE := hide (show wantAsks (asks.drop (j + 1)) (na, nb) = (ax, ay) by rw [unhide HST', hn])
            have HO2 := hide hok2
            clear HST' hak hn hok2
            obtain ⟨me, cp, ct, nd, mi⟩ := q
            simp only at d0 d1 d2 d3 d4 CB
            have HV4 := hide ((unhide HVj).al (.cells #[.int .i64 me, .int .i64 cp, .int .i64 ct, .string (bs nd), .int .i64 mi] 118))
            have HK4 := hide (show Kp W1 _ from below_al (unhide HKj) (.cells #[.int .i64 me, .int .i64 cp, .int .i64 ct, .string (bs nd), .int .i64 mi] 118))
            have P4 := hide (blk_new wr #[.int .i64 me, .int .i64 cp, .int .i64 ct, .string (bs nd), .int .i64 mi] 118)
            go_wp2_with fail
            refine (unhide CA _).mono ?_
            rintro e w5 ⟨rfl, hb⟩
            have HV5 := hide ((unhide HV4).below hb)
            have HK5 := hide (show Kp W1 _ from below_on (unhide HK4) hb)
            have P5 := (unhide P4).below hb
            have e0 := P5.at 0
            have e1 := P5.at 1
            have e2 := P5.at 2
            have e3 := P5.at 3
            have e4 := P5.at 4
            simp at e0 e1 e2 e3 e4
            have v0 := (unhide HV5).c0
            have v1 := (unhide HV5).c1
            clear hb HV4 HK4 P4 P5 CA
            go_wp2_with fail
            refine (unhide CB _).mono ?_
            rintro e w6 ⟨rfl, hb⟩
            have HV6 := hide ((unhide HV5).below hb)
            have HK6 := hide (show Kp W1 _ from below_on (unhide HK5) hb)
            have u0 := (unhide HV6).f 0
            have u1 := (unhide HV6).f 1
            have v2 := (unhide HV6).c0
            have v3 := (unhide HV6).c1
            clear hb HV5 HK5 CB e0 e1 e2 e3 e4 v0 v1
            go_wp2
            go_roundw
            case rel => exact ⟨j + 1, na, nb, by omega, by go_num, HE, HO2, hide ((unhide HV6).set _ _), hide (below_sc (below_sc (unhide HK6) _ _ _ (by rw [unhide HSZ]; omega)) _ _ _ (by rw [unhide HSZ]; omega))⟩
            case measure => simp [intOf]; omega
        · have hen := wantAsks_end (l := asks) (k := j) (by have := unhide HAL; omega) (a', b')
          rw [unhide HQ'] at hen
          simp only [Prod.mk.injEq] at hen
          obtain ⟨rfl, rfl⟩ := hen
          have j1 : ¬ (j : Int) < xl := by omega
          go_wp2
          go_roundw
          case rel => exact ⟨k + 1, ax, ay, by omega, by go_num, hide (unhide HST).symm, HOK, HVj, HKj⟩
          case measure => simp [intOf]; omega
    · have hen := wantApps_end (nm := nm) (l := apps) (k := k) (by have := unhide HL; omega) (a, b)
      rw [unhide HQ] at hen
      simp only [Prod.mk.injEq] at hen
      obtain ⟨rfl, rfl⟩ := hen
      have k1 : ¬ (k : Int) < al := by omega
      have VR := (unhide V1).below (unhide HK)
      have v0 := (unhide HVr).c0
      have v1 := (unhide HVr).c1
      have g0 := VR.c0
      have g1 := VR.c1
      have k2 := VR.f 0
      have k3 := VR.f 1
      have k4 := VR.s0 (.int .i64 zx)
      have k5 := VR.s1 (.int .i64 zx) (.int .i64 zy)
      have HB9 := hide (below_on (unhide HB1) (unhide HK))
      go_wp2
      refine bodyPost_ret (v := rv zx zy) (by simp [results, Tryz.results37, go_sem, k4, k5]) rfl ⟨rfl, ?_⟩
      repeat (first | exact unhide HB9 | refine below_al ?_ _ | refine below_sc ?_ _ _ _ (by omega))
end Go.Proofs.YtgfdfaaemhdcaaaGreat
