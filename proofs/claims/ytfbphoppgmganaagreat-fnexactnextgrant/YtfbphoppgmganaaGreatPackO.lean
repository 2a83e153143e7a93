/-
  Several texts of this claim in one: RoomL, FreeOnI, FaI, NxW, HBk (pack.py put them together); each says in its own remark what is proved.
-/
import Derived.Test.YtfbphoppgmganaaGreatPackJ
import Derived.Test.YtfbphoppgmganaaGreatUByI
import Derived.Test.YtfbphoppgmganaaGreatPackN
import Derived.Test.YtfbphoppgmganaaGreatPackL
import Derived.Test.YtfbphoppgmganaaGreatPackK
import Derived.Deep.RegionHeld3
import Derived.Deep.CutRange
import Derived.Test.YtfbphoppgmganaaGreatPackB
import Derived.WalkMore
import Derived.Test.YtfbphoppgmganaaGreatPackM
/-
  Whether a queue has room for an amount, by the program: roomLeft, Room; walks over the dump.
-/
namespace Go.Proofs.YtfbphoppgmganaaGreat
open Go.RowKit Go.Maps
set_option linter.unusedVariables false

theorem min_run (x y : Int) (wx : World) : (Builtin.min_ #[3, 3] 3 #[.int .i64 x, .int .i64 y]).run Tryz.prog wx = .ok (.int .i64 (min x y)) wx := by
  have : (if y < x then y else x) = min x y := by omega
  simp [go_sem]
/-- a list of texts as a slice -/
theorem texts_row {B : Nat} {w : World} {v : Value} {ps : List (List UInt8)} (h : Texts B w v ps) : ∃ ao cap, v = .slice ao ps.length cap ∧ ∀ j (hj : j < ps.length), ∃ g, ao = some ⟨g, 0, none⟩ ∧ w.cell? ⟨g, j, none⟩ = some (.string (bs ps[j])) := by
  by_cases hp : ps = []
  · subst hp
    obtain ⟨a, cap, rfl⟩ := texts_none h
    exact ⟨a, cap, rfl, fun j hj => by simp at hj⟩
  · obtain ⟨g, cap, rfl, hs, _⟩ := texts_some h hp
    exact ⟨_, cap, rfl, fun j hj => ⟨g, rfl, hs.text hj⟩⟩
theorem path_len20 (s : St) (nm : List UInt8) : (path s.qs nm).length ≤ 1048576 := by
  cases ho : queuesOk s.qs with
  | false => simp [path, ho]
  | true =>
    have h2 := (okT_iff.1 (by have := queuesOk_okT s.qs; rw [ho] at this; simp at this; exact this.1)).2.2
    have := path_len s.qs nm
    omega

set_option maxRecDepth 100000 in
set_option maxHeartbeats 4000000 in
theorem roomLeft_any (x : Sls) (s : St) (nm : List UInt8) (w : World) (h : SRow w x s) (hf : FitSt s) (hc : x.ql ≤ x.qc) (hw : WfSt s) :
    Calls Tryz.prog 189 #[sv x s, .string (bs nm)] w fun e w' => e = .returned (.tuple #[rv (leftFrom s (path s.qs nm) 1000000000 1000000000).1 (leftFrom s (path s.qs nm) 1000000000 1000000000).2.1, .bool ((leftFrom s (path s.qs nm) 1000000000 1000000000).2.2 && decide (0 < (path s.qs nm).length))]) ∧ Below w.heap.size w w' := by
  have hql : x.ql ≤ 1048576 := h.ql hf
  have hml : x.ml ≤ 1048576 := h.ml hf
  have CPath := hide (fun wx (hb : Below w.heap.size w wx) => implPath_any x.qa x.ql x.qc s.qs nm wx (h.1.below hb) hql (fun q hq => (hf.1.2 q hq).1) hc)
  have CT := hide (fun wx (hb : Below w.heap.size w wx) => implTotal_any x s wx (h.2.2.1.below hb) hml)
  have CM := hide (fun wx (hb : Below w.heap.size w wx) (n : List UInt8) => show Calls Tryz.prog 256 #[.slice x.qa x.ql x.qc, .string (bs n), rv (totalV s).1 (totalV s).2] wx (fun e w' => e = .returned (rv (mostV s n).1 (mostV s n).2) ∧ Below wx.heap.size wx w') from implMostOf_any x.qa x.ql x.qc s.qs n (totalV s).1 (totalV s).2 wx (h.1.below hb) hql (fun q hq => (hf.1.2 q hq).1) hc)
  have CU := hide (fun wx (hb : Below w.heap.size w wx) (n : List UInt8) => implUsedBy_any x s n wx (h.below hb) hf hc hw)
  have HPL := hide (path_len20 s nm)
  obtain ⟨⟨tx, ty⟩, ht⟩ : ∃ t, totalV s = t := ⟨_, rfl⟩
  rw [show (sumR (capsOf s.ms)).1 = tx from congrArg Prod.fst ht, show (sumR (capsOf s.ms)).2.1 = ty from congrArg Prod.snd ht] at CT
  rw [ht] at CM
  obtain ⟨ps, hps⟩ : ∃ p, path s.qs nm = p := ⟨_, rfl⟩
  rw [hps] at CPath HPL ⊢
  obtain ⟨⟨zx, zy, zo⟩, hz⟩ : ∃ z, leftFrom s ps 1000000000 1000000000 = z := ⟨_, rfl⟩
  have HZ := hide (show leftFrom s (ps.drop 0) 1000000000 1000000000 = (zx, zy, zo) from hz)
  rw [hz]
  have HST := hide (fun k (hk : k < ps.length) (a b : Int) => leftFrom_step (s := s) hk a b)
  have HEN := hide (fun k (hk : ps.length ≤ k) (a b : Int) => leftFrom_end (s := s) hk a b)
  obtain ⟨lf, hlf⟩ : ∃ f, leftFrom s = f := ⟨_, rfl⟩
  rw [hlf] at HZ HST HEN
  obtain ⟨mf, hmf⟩ : ∃ f, mostV s = f := ⟨_, rfl⟩
  rw [hmf] at CM HST
  obtain ⟨uf, huf⟩ : ∃ f, usedByV s = f := ⟨_, rfl⟩
  rw [huf] at CU HST
  clear h hf hc hw ht hps hz hlf hmf huf
  obtain ⟨qa, ql, qc, aa, al, ac, ma, ml, mc, ca, cl, cc⟩ := x
  obtain ⟨qs, clock, epoch, next, serial, apps, ms, cs⟩ := s
  simp only at CM CU CT CPath hql hml
  have HB0 := hide (capW_below w (svc ⟨qa, ql, qc, aa, al, ac, ma, ml, mc, ca, cl, cc⟩ ⟨qs, clock, epoch, next, serial, apps, ms, cs⟩))
  have V0 := hide (capW_var w (svc ⟨qa, ql, qc, aa, al, ac, ma, ml, mc, ca, cl, cc⟩ ⟨qs, clock, epoch, next, serial, apps, ms, cs⟩))
  have P0 := hide ((boxW_blk w (svc ⟨qa, ql, qc, aa, al, ac, ma, ml, mc, ca, cl, cc⟩ ⟨qs, clock, epoch, next, serial, apps, ms, cs⟩)).al (.cells #[.int .i64 0, .int .i64 0] 30))
  go_enter Tryz.func189, Tryz.ntmps189
  go_wp2_with fail
  refine (unhide CPath _ (unhide HB0)).mono ?_
  rintro e w1 ⟨v, rfl, htx, hb⟩
  have HB1 := hide (below_on (unhide HB0) hb)
  have V1 := hide ((unhide V0).below hb)
  have P1 := hide ((unhide P0).below hb)
  have HTX := hide htx
  obtain ⟨q0, q1, q2, q3, q4, q5, q6, q7⟩ : _ ∧ _ ∧ _ ∧ _ ∧ _ ∧ _ ∧ _ ∧ _ := ⟨(unhide P1).at 0, (unhide P1).at 1, (unhide P1).at 2, (unhide P1).at 3, (unhide P1).at 4, (unhide P1).at 5, (unhide P1).at 6, (unhide P1).at 7⟩
  simp at q0 q1 q2 q3 q4 q5 q6 q7
  clear hb HB0 V0 P0 CPath htx
  go_wp2_with fail
  refine (unhide CT _ (unhide HB1)).mono ?_
  rintro e w2 ⟨rfl, hb⟩
  have hB2 := below_al (below_on (unhide HB1) hb) (.cells #[.int .i64 tx, .int .i64 ty] 30)
  have hV2 := ((unhide V1).below hb).al (.cells #[.int .i64 tx, .int .i64 ty] 30)
  have hP2 := ((unhide P1).below hb).al (.cells #[.int .i64 tx, .int .i64 ty] 30)
  have hX2 := ((unhide HTX).below hb).below (below_al (Below.refl _ _) (.cells #[.int .i64 tx, .int .i64 ty] 30))
  have hT2 := var_new w2 30 tx ty
  have hs2 := al_size w2 (.cells #[.int .i64 tx, .int .i64 ty] 30)
  obtain ⟨W2, hW2⟩ : ∃ W, w2.alloc (.cells #[.int .i64 tx, .int .i64 ty] 30) = W := ⟨_, rfl⟩
  rw [hW2] at hB2 hV2 hP2 hX2 hT2 hs2
  have HB2 := hide hB2
  have V2 := hide hV2
  have P2 := hide hP2
  have T2 := hide hT2
  have HS2 := hide hs2
  have HW2 := hide hW2
  obtain ⟨po, pc, rfl, hcell⟩ := texts_row hX2
  have HC := hide hcell
  have HV3 := hide (var_new W2 30 1000000000 1000000000)
  have HB3 := hide (below_al (Below.refl _ W2) (.cells #[.int .i64 1000000000, .int .i64 1000000000] 30))
  clear hb q0 q1 q2 q3 q4 q5 q6 q7 V1 P1 HTX HB1 CT hB2 hV2 hP2 hX2 hT2 hs2 hcell
  obtain ⟨n, hn⟩ : ∃ n, ps.length = n := ⟨_, rfl⟩
  rw [hn] at HPL ⊢
  have HN := hide hn
  have hn2 : n ≤ 1048576 := unhide HPL
  clear hn HPL
  go_wp2
  go_loopw [22] (fun i wr => ∃ (k : Nat) (a b : Int), k ≤ n ∧ i = .int .i64 k ∧ Hid (lf (ps.drop k) a b = (zx, zy, zo)) ∧ Hid (Var wr 30 W2.heap.size a b) ∧ Hid (Kp W2 wr)) (fun i _ => n - (intOf i).toNat)
  case atStart => exact ⟨0, 1000000000, 1000000000, Nat.zero_le _, rfl, HZ, HV3, HB3⟩
  case round =>
    obtain ⟨k, a, b, hk, rfl, HQ, HVr, HK⟩ := hrel
    have kq := unhide HK
    obtain ⟨q0, q1, q2, q3, q4, q5, q6, q7⟩ : _ ∧ _ ∧ _ ∧ _ ∧ _ ∧ _ ∧ _ ∧ _ := ⟨kq.cell ((unhide P2).at 0), kq.cell ((unhide P2).at 1), kq.cell ((unhide P2).at 2), kq.cell ((unhide P2).at 3), kq.cell ((unhide P2).at 4), kq.cell ((unhide P2).at 5), kq.cell ((unhide P2).at 6), kq.cell ((unhide P2).at 7)⟩
    have t0 := kq.cell (unhide T2).c0
    have t1 := kq.cell (unhide T2).c1
    have HBr := hide (below_on (unhide HB2) kq)
    have hvl := (unhide V2).lt
    clear kq HV3 HB3
    by_cases hlt : k < n
    · have hkl : k < ps.length := by have := unhide HN; omega
      obtain ⟨pg, rfl, hc0⟩ := unhide HC k hkl
      have c0 := (unhide HK).cell hc0
      have hst := unhide HST k hkl a b
      rw [unhide HQ] at hst
      obtain ⟨nx, hs⟩ : ∃ s, ps[k] = s := ⟨_, rfl⟩
      rw [hs] at c0 hst
      have CUk := hide (fun wx hb => unhide CU wx hb nx)
      have CMk := hide (fun wx hb => unhide CM wx hb nx)
      obtain ⟨⟨ux, uy⟩, hu⟩ : ∃ u, uf nx = u := ⟨_, rfl⟩
      obtain ⟨⟨mx, my⟩, hm⟩ : ∃ u, mf nx = u := ⟨_, rfl⟩
      rw [hu] at CUk hst
      rw [hm] at CMk hst
      simp only at CUk CMk hst
      have HSTk := hide hst
      have k0 : (0 : Int) ≤ k := by omega
      have k1 : (k : Int) < n := by omega
      have CA := hide (fun wx => implSub_any mx my ux uy wx)
      obtain ⟨x', y', ok, hv⟩ : ∃ x' y' ok, bothV (-1) mx my ux uy = rv x' y' ∧ bothOk (-1) mx my ux uy = ok ∧ (ok = true → x' = mx + -1 * ux ∧ y' = my + -1 * uy) := by
        cases hb : bothOk (-1) mx my ux uy
        · exact ⟨0, 0, _, both_no hb, rfl, by simp⟩
        · exact ⟨_, _, _, both_yes hb, rfl, fun _ => ⟨rfl, rfl⟩⟩
      have HVV := hide hv.2.2
      rw [hv.1, hv.2.1] at CA
      rw [hv.2.1] at HSTk
      have R : ∀ wx, Kp wr wx → wx.cell? ⟨w.heap.size, 0, none⟩ = some (.slice qa ql qc) ∧ wx.cell? ⟨w.heap.size, 1, none⟩ = some (.int .i64 clock) ∧ wx.cell? ⟨w.heap.size, 2, none⟩ = some (.int .i64 epoch) ∧ wx.cell? ⟨w.heap.size, 3, none⟩ = some (.int .i64 next) ∧ wx.cell? ⟨w.heap.size, 4, none⟩ = some (.int .i64 serial) ∧ wx.cell? ⟨w.heap.size, 5, none⟩ = some (.slice aa al ac) ∧ wx.cell? ⟨w.heap.size, 6, none⟩ = some (.slice ma ml mc) ∧ wx.cell? ⟨w.heap.size, 7, none⟩ = some (.slice ca cl cc) ∧ wx.cell? ⟨w2.heap.size, 0, none⟩ = some (.int .i64 tx) ∧ wx.cell? ⟨w2.heap.size, 1, none⟩ = some (.int .i64 ty) := fun wx h =>
        ⟨h.cell q0, h.cell q1, h.cell q2, h.cell q3, h.cell q4, h.cell q5, h.cell q6, h.cell q7, h.cell t0, h.cell t1⟩
      have A0 := hide (Kp.new wr)
      have HS := hide (kp_holds wr)
      have hwr := (unhide HVr).lt
      clear hc0 hkl hs hu hm hv hst
      go_wp2_with fail
      go_cut [11, 12] from 26 to 37 (fun v7 v8 wx => ∃ g, v7 = .pointer (some ⟨g, 0, none⟩) ∧ v8 = .bool ok ∧ Kp wr wx ∧ Var wx 30 g x' y')
      case first =>
        go_region_held3 (fun wx => Kp wr wx)
          (first | (with_reducible assumption) | exact unhide SA | exact (unhide HS).drew (unhide A0) | exact (unhide HS).al (unhide SA) _ | exact (unhide HS).al (by assumption) _ | exact (unhide HS).al ((unhide HS).drew (unhide A0)) _ | exact (unhide HS).call (by assumption) (by assumption) | exact (unhide HS).set2 (unhide SA) _ _ _ (by first | omega | (simp <;> omega)) | exact (unhide HS).set2 (by assumption) _ _ _ (by first | omega | (simp <;> omega)))
          (first
          | (go_at_call 153; refine (unhide CUk _ ?_).mono ?_; (exact below_on (unhide HBr) ((unhide HS).below (by assumption))); rintro e wt ⟨rfl, hb⟩; have SA := hide ((unhide HS).call (by assumption) hb); have sz := (unhide HS).size (unhide SA)
             first
               | (have V5 := (var_new _ 30 0 0).below hb; (try simp at V5); have c50 := V5.c0; have c51 := V5.c1; have f50 := V5.f 0; have f51 := V5.f 1; have V5 := hide V5)
               | (have V5 := (var_new _ 30 0 0).drew.below hb; (try simp at V5); have c50 := V5.c0; have c51 := V5.c1; have f50 := V5.f 0; have f51 := V5.f 1; have V5 := hide V5)
               | (have V5 := hide ((unhide V5).below hb); have c50 := (unhide V5).c0; have c51 := (unhide V5).c1; have f50 := (unhide V5).f 0; have f51 := (unhide V5).f 1)
               | skip)
          | (go_at_call 256; refine (unhide CMk _ ?_).mono ?_; (exact below_on (unhide HBr) ((unhide HS).below (by assumption))); rintro e wt ⟨rfl, hb⟩; have SA := hide ((unhide HS).call (by assumption) hb); have sz := (unhide HS).size (unhide SA)
             first
               | (have V5 := (var_new _ 30 0 0).below hb; (try simp at V5); have c50 := V5.c0; have c51 := V5.c1; have f50 := V5.f 0; have f51 := V5.f 1; have V5 := hide V5)
               | (have V5 := (var_new _ 30 0 0).drew.below hb; (try simp at V5); have c50 := V5.c0; have c51 := V5.c1; have f50 := V5.f 0; have f51 := V5.f 1; have V5 := hide V5)
               | (have V5 := hide ((unhide V5).below hb); have c50 := (unhide V5).c0; have c51 := (unhide V5).c1; have f50 := (unhide V5).f 0; have f51 := (unhide V5).f 1)
               | skip)
          | (go_at_call 210; refine (unhide CA _).mono ?_; rintro e wt ⟨rfl, hb⟩; have SA := hide ((unhide HS).call (by assumption) hb); have sz := (unhide HS).size (unhide SA)
             first
               | (have V5 := (var_new _ 30 0 0).below hb; (try simp at V5); have c50 := V5.c0; have c51 := V5.c1; have f50 := V5.f 0; have f51 := V5.f 1; have V5 := hide V5)
               | (have V5 := (var_new _ 30 0 0).drew.below hb; (try simp at V5); have c50 := V5.c0; have c51 := V5.c1; have f50 := V5.f 0; have f51 := V5.f 1; have V5 := hide V5)
               | (have V5 := hide ((unhide V5).below hb); have c50 := (unhide V5).c0; have c51 := (unhide V5).c1; have f50 := (unhide V5).f 0; have f51 := (unhide V5).f 1)
               | skip))
        all_goals
          go_wp2_with fail
          go_meet
          exact ⟨_, rfl, rfl, by first | assumption | exact unhide SA | exact (unhide HS).al (unhide SA) _, by first | exact var_new _ _ _ _ | exact (unhide V5).set _ _⟩
      case rest =>
        obtain ⟨g, rfl, rfl, hA, hV⟩ := hcut
        obtain ⟨w4, rfl⟩ : ∃ w4, w4 = wc := ⟨wc, rfl⟩
        have HK4 := hide (show Kp W2 w4 from below_on (unhide HK) hA)
        have HB4 := hide (below_on (unhide HBr) hA)
        have V4 := hide ((unhide HVr).below hA)
        have VR4 := hide ((unhide V2).below (unhide HK4))
        have s0 := hV.c0
        have s1 := hV.c1
        have l0 := (unhide V4).c0
        have l1 := (unhide V4).c1
        have lf0 := (unhide V4).f 0
        have lf1 := (unhide V4).f 1
        clear hA hV A0 HS R CA CUk CMk q0 q1 q2 q3 q4 q5 q6 q7 t0 t1 c0
        cases ok with
        | true =>
          obtain ⟨rfl, rfl⟩ := unhide HVV rfl
          rw [if_pos rfl] at HSTk
          have hm0 := min_run a (mx + -1 * ux)
          have hm1 := min_run b (my + -1 * uy)
          obtain ⟨sx, hsx⟩ : ∃ t, mx + -1 * ux = t := ⟨_, rfl⟩
          obtain ⟨sy, hsy⟩ : ∃ t, my + -1 * uy = t := ⟨_, rfl⟩
          rw [hsx] at s0 hm0 HSTk
          rw [hsy] at s1 hm1 HSTk
          clear hsx hsy HVV
          obtain ⟨na, hna⟩ : ∃ t, min a sx = t := ⟨_, rfl⟩
          obtain ⟨nb, hnb⟩ : ∃ t, min b sy = t := ⟨_, rfl⟩
          rw [hna] at hm0 HSTk
          rw [hnb] at hm1 HSTk
          clear hna hnb
          go_wp2
          go_roundw
          case rel => exact ⟨k + 1, na, nb, by omega, by go_num, hide (unhide HSTk).symm, hide ((unhide V4).set _ _), hide (below_sc (below_sc (unhide HK4) _ _ _ (Nat.le_refl _)) _ _ _ (Nat.le_refl _))⟩
          case measure => simp [intOf]; omega
        | false =>
          rw [if_neg (by simp)] at HSTk
          have hz := unhide HSTk
          simp only [Prod.mk.injEq] at hz
          obtain ⟨rfl, rfl, rfl⟩ := hz
          have u0 := (unhide VR4).c0
          have u1 := (unhide VR4).c1
          have uf0 := (unhide VR4).f 0
          have uf1 := (unhide VR4).f 1
          have k4 := (unhide VR4).s0 (.int .i64 0)
          have k5 := (unhide VR4).s1 (.int .i64 0) (.int .i64 0)
          clear HVV l0 l1 lf0 lf1 s0 s1
          go_wp2
          refine bodyPost_ret (v := .tuple #[rv 0 0, .bool false]) (by simp [results, Tryz.results189, go_sem, k4, k5]) rfl ⟨rfl, ?_⟩
          repeat (first | exact unhide HB4 | refine below_al ?_ _ | refine below_sc ?_ _ _ _ (by omega))
    · have hz := unhide HEN k (by have := unhide HN; omega) a b
      rw [unhide HQ] at hz
      simp only [Prod.mk.injEq] at hz
      obtain ⟨rfl, rfl, rfl⟩ := hz
      have VR4 := hide ((unhide V2).below (unhide HK))
      have l0 := (unhide HVr).c0
      have l1 := (unhide HVr).c1
      have u0 := (unhide VR4).c0
      have u1 := (unhide VR4).c1
      have uf0 := (unhide VR4).f 0
      have uf1 := (unhide VR4).f 1
      have k4 := (unhide VR4).s0 (.int .i64 zx)
      have k5 := (unhide VR4).s1 (.int .i64 zx) (.int .i64 zy)
      clear q0 q1 q2 q3 q4 q5 q6 q7 t0 t1
      go_wp2
      refine bodyPost_ret (v := .tuple #[rv zx zy, .bool (decide (0 < n))]) (by simp [results, Tryz.results189, go_sem, k4, k5]) rfl ⟨by simp [unhide HN], ?_⟩
      repeat (first | exact unhide HBr | refine below_al ?_ _ | refine below_sc ?_ _ _ _ (by omega))
end Go.Proofs.YtfbphoppgmganaaGreat

/-
  What is free on a machine, by the program: FreeOn; a walk over the dump.
-/
namespace Go.Proofs.YtfbphoppgmganaaGreat
open Go.RowKit Go.Maps
set_option linter.unusedVariables false

set_option maxRecDepth 100000 in
set_option maxHeartbeats 4000000 in
theorem implFreeOn_any (x : Sls) (s : St) (nm : List UInt8) (w : World) (h : SRow w x s) (hf : FitSt s) (hnm : nm.length ≤ 1048576) :
    Calls Tryz.prog 188 #[sv x s, .string (bs nm)] w fun e w' => e = .returned (rv (freeOnV s nm).1 (freeOnV s nm).2) ∧ Below w.heap.size w w' := by
  have hml : x.ml ≤ 1048576 := by have := h.len.2.2.1; have := hf.2.2.1.1; omega
  have hcl : x.cl ≤ 1048576 := by have := h.len.2.2.2; have := hf.2.2.2.1; omega
  have CM := hide (fun wx (hb : Below w.heap.size w wx) => machines_ex x s wx (h.2.2.1.below hb) hml (fun m hm => hf.2.2.1.2 m hm))
  have CU := hide (fun wx (hb : Below w.heap.size w wx) => implUsedOn_any x s nm wx (h.2.2.2.below hb) hcl)
  obtain ⟨kl, hkey⟩ := keyKey (nm := nm) (k := 0) (by omega) (by decide)
  have HKEY := hide hkey
  have HFV := hide (show freeOnV s nm = match findM nm s.ms with | none => (0, 0) | some m => lessV m.mem m.cpu (usedOnV s nm).1 (usedOnV s nm).2 from rfl)
  obtain ⟨⟨ux, uy⟩, hu⟩ : ∃ u, usedOnV s nm = u := ⟨_, rfl⟩
  obtain ⟨⟨fx, fy⟩, hfr⟩ : ∃ u, freeOnV s nm = u := ⟨_, rfl⟩
  rw [hu] at CU HFV
  rw [hfr] at HFV ⊢
  clear h hf hu hfr hkey
  obtain ⟨qa, ql, qc, aa, al, ac, ma, ml, mc, ca, cl, cc⟩ := x
  obtain ⟨qs, clock, epoch, next, serial, apps, ms, cs⟩ := s
  simp only at HFV
  have HB0 := hide (capW_below w (svc ⟨qa, ql, qc, aa, al, ac, ma, ml, mc, ca, cl, cc⟩ ⟨qs, clock, epoch, next, serial, apps, ms, cs⟩))
  have V0 := hide (capW_var w (svc ⟨qa, ql, qc, aa, al, ac, ma, ml, mc, ca, cl, cc⟩ ⟨qs, clock, epoch, next, serial, apps, ms, cs⟩))
  have P0 := hide ((boxW_blk w (svc ⟨qa, ql, qc, aa, al, ac, ma, ml, mc, ca, cl, cc⟩ ⟨qs, clock, epoch, next, serial, apps, ms, cs⟩)).al (.cells #[.int .i64 0, .int .i64 0] 30))
  go_enter Tryz.func188, Tryz.ntmps188
  go_wp2_with fail
  refine (unhide CM _ (unhide HB0)).mono ?_
  rintro e w1 ⟨bm, rfl, ⟨hbm, D, hown, hk⟩, hb⟩
  have hlk := lookM hown hk (unhide HKEY)
  have HB1 := hide (below_on (unhide HB0) hb)
  have V1 := hide ((unhide V0).below hb)
  have P1 := hide ((unhide P0).below hb)

  clear hb HB0 V0 P0 CM hown hk hbm
  cases hfm : findM nm ms with
  | none =>
    rw [hfm] at hlk HFV
    simp only at HFV
    have hz := unhide HFV
    simp only [Prod.mk.injEq] at hz
    obtain ⟨rfl, rfl⟩ := hz
    rw [show (none : Option Mac).getD ⟨[], 0, 0, 0⟩ = ⟨[], 0, 0, 0⟩ from rfl, show (none : Option Mac).isSome = false from rfl] at hlk
    have V2 := (unhide V1).al (macobj ⟨[], 0, 0, 0⟩)
    have t0 := V2.c0
    have t1 := V2.c1
    have f0 := V2.f 0
    have f1 := V2.f 1
    have k4 := V2.s0 (.int .i64 0)
    have k5 := V2.s1 (.int .i64 0) (.int .i64 0)
    clear V2
    go_wp2
    refine bodyPost_ret (v := rv 0 0) (by simp [results, Tryz.results188, go_sem, k4, k5]) rfl ⟨rfl, ?_⟩
    repeat (first | exact unhide HB1 | refine below_al ?_ _ | refine below_sc ?_ _ _ _ (by omega))
  | some m =>
    rw [hfm] at hlk HFV
    rw [show (some m).getD ⟨[], 0, 0, 0⟩ = m from rfl, show (some m).isSome = true from rfl] at hlk
    obtain ⟨mn, me, mp, se⟩ := m
    simp only at HFV
    have HRV := hide (show bothV (-1) me mp ux uy = rv fx fy by rw [less_both, ← unhide HFV])
    have CB := hide (fun wx => by have := implSub_any me mp ux uy wx; rw [unhide HRV] at this; exact this)
    obtain ⟨ok, hok⟩ : ∃ o, bothOk (-1) me mp ux uy = o := ⟨_, rfl⟩
    rw [hok] at CB
    clear hok HRV HFV hfm
    obtain ⟨L, R, VR, h0⟩ : ∃ L : List (Nat × Array Value × TypeId), (∀ wx, Held w (w1.heap.size + 1) L wx → wx.cell? ⟨w1.heap.size, 1, none⟩ = some (.int .i64 me) ∧ wx.cell? ⟨w1.heap.size, 2, none⟩ = some (.int .i64 mp) ∧ wx.cell? ⟨w.heap.size, 0, none⟩ = some (.slice qa ql qc) ∧ wx.cell? ⟨w.heap.size, 1, none⟩ = some (.int .i64 clock) ∧ wx.cell? ⟨w.heap.size, 2, none⟩ = some (.int .i64 epoch) ∧ wx.cell? ⟨w.heap.size, 3, none⟩ = some (.int .i64 next) ∧ wx.cell? ⟨w.heap.size, 4, none⟩ = some (.int .i64 serial) ∧ wx.cell? ⟨w.heap.size, 5, none⟩ = some (.slice aa al ac) ∧ wx.cell? ⟨w.heap.size, 6, none⟩ = some (.slice ma ml mc) ∧ wx.cell? ⟨w.heap.size, 7, none⟩ = some (.slice ca cl cc))
        ∧ (∀ wx, Held w (w1.heap.size + 1) L wx → Var wx 30 (w.heap.size + 1) 0 0) ∧ Held w (w1.heap.size + 1) L (w1.alloc (macobj ⟨mn, me, mp, se⟩)) := by
      have l1 := (unhide V1).lt
      have l2 := (unhide P1).lt
      refine ⟨[(w.heap.size, svc ⟨qa, ql, qc, aa, al, ac, ma, ml, mc, ca, cl, cc⟩ ⟨qs, clock, epoch, next, serial, apps, ms, cs⟩, 40), (w.heap.size + 1, #[.int .i64 0, .int .i64 0], 30), (w1.heap.size, #[.string (bs mn), .int .i64 me, .int .i64 mp, .int .i64 se], 131)], fun wx h => ?_, fun wx h => ?_, ?_⟩
      · have a := h.blk (p := (w.heap.size, svc ⟨qa, ql, qc, aa, al, ac, ma, ml, mc, ca, cl, cc⟩ ⟨qs, clock, epoch, next, serial, apps, ms, cs⟩, 40)) (by simp)
        have b := h.blk (p := (w1.heap.size, #[.string (bs mn), .int .i64 me, .int .i64 mp, .int .i64 se], 131)) (by simp)
        exact ⟨b.at 1, b.at 2, a.at 0, a.at 1, a.at 2, a.at 3, a.at 4, a.at 5, a.at 6, a.at 7⟩
      · exact (h.blk (p := (w.heap.size + 1, #[.int .i64 0, .int .i64 0], 30)) (by simp)).var
      · refine ⟨fun p hp => ?_, by rw [al_size]; omega, by omega, below_al (unhide HB1) _⟩
        simp only [List.mem_cons, List.not_mem_nil, or_false] at hp
        rcases hp with rfl | rfl | rfl
        · exact ⟨by simp only; omega, (unhide P1).al _⟩
        · exact ⟨by simp only; omega, (unhide V1).blk.al _⟩
        · exact ⟨by simp only; omega, blk_new _ _ _⟩
    have A0 := hide h0
    have HS := hide (held_holds w (w1.heap.size + 1) L)
    clear h0
    go_wp2_with fail
    go_cut [7, 8] from 20 to 28 (fun v7 v8 wx => ∃ g, v7 = .pointer (some ⟨g, 0, none⟩) ∧ v8 = .bool ok ∧ Held w (w1.heap.size + 1) L wx ∧ Var wx 30 g fx fy ∧ w1.heap.size + 1 ≤ g)
    case first =>
      go_region_held3 (fun wx => Held w (w1.heap.size + 1) L wx)
        (first | (with_reducible assumption) | exact unhide SA | exact (unhide HS).drew (unhide A0) | exact (unhide HS).al (unhide SA) _ | exact (unhide HS).al (by assumption) _ | exact (unhide HS).al ((unhide HS).drew (unhide A0)) _ | exact (unhide HS).call (by assumption) (by assumption) | exact (unhide HS).set2 (unhide SA) _ _ _ (by first | omega | (simp <;> omega)) | exact (unhide HS).set2 (by assumption) _ _ _ (by first | omega | (simp <;> omega)))
        (first
        | (go_at_call 254; refine (unhide CU _ ?_).mono ?_; (exact (unhide HS).below (by assumption)); rintro e wt ⟨rfl, hb⟩; have SA := hide ((unhide HS).call (by assumption) hb); have sz := (unhide HS).size (unhide SA)
           first
             | (have V5 := (var_new _ 30 0 0).below hb; (try simp at V5); have c50 := V5.c0; have c51 := V5.c1; have f50 := V5.f 0; have f51 := V5.f 1; have V5 := hide V5)
             | (have V5 := (var_new _ 30 0 0).drew.below hb; (try simp at V5); have c50 := V5.c0; have c51 := V5.c1; have f50 := V5.f 0; have f51 := V5.f 1; have V5 := hide V5)
             | skip)
        | (go_at_call 210; refine (unhide CB _).mono ?_; rintro e wt ⟨rfl, hb⟩; have SA := hide ((unhide HS).call (by assumption) hb); have sz := (unhide HS).size (unhide SA)
           first
             | (have V5 := (var_new _ 30 0 0).below hb; (try simp at V5); have c50 := V5.c0; have c51 := V5.c1; have f50 := V5.f 0; have f51 := V5.f 1; have V5 := hide V5)
             | (have V5 := (var_new _ 30 0 0).drew.below hb; (try simp at V5); have c50 := V5.c0; have c51 := V5.c1; have f50 := V5.f 0; have f51 := V5.f 1; have V5 := hide V5)
             | (have V5 := hide ((unhide V5).below hb); have c50 := (unhide V5).c0; have c51 := (unhide V5).c1; have f50 := (unhide V5).f 0; have f51 := (unhide V5).f 1)
             | skip))
      all_goals
        go_wp2_with fail
        go_meet
        exact ⟨_, rfl, rfl, by first | assumption | exact unhide SA | exact (unhide HS).al (unhide SA) _, by first | exact var_new _ _ _ _ | exact (unhide V5).set _ _, by first | omega | (simp <;> omega)⟩
    case rest =>
      obtain ⟨g, rfl, rfl, hA, hV, hg⟩ := hcut
      have HB2 := hide ((unhide HS).below hA)
      have v0 := hV.c0
      have v1 := hV.c1
      have V2 := VR _ hA
      have t0 := V2.c0
      have t1 := V2.c1
      have f0 := V2.f 0
      have f1 := V2.f 1
      have k4 := V2.s0 (.int .i64 fx)
      have k5 := V2.s1 (.int .i64 fx) (.int .i64 fy)
      clear hA hV A0 CB CU R VR V2 V1 P1 HB1
      go_wp2
      refine bodyPost_ret (v := rv fx fy) (by simp [results, Tryz.results188, go_sem, k4, k5]) rfl ⟨rfl, ?_⟩
      repeat (first | exact unhide HB2 | refine below_al ?_ _ | refine below_sc ?_ _ _ _ (by omega))
end Go.Proofs.YtfbphoppgmganaaGreat

/-
  The ask that is served next on a machine: what the program's firstAsk answers; a walk over the dump.
-/
namespace Go.Proofs.YtfbphoppgmganaaGreat
open Go.RowKit Go.Maps
set_option linter.unusedVariables false
set_option linter.unusedSimpArgs false

/-- the place of an ask, and whether there is one -/
def plR : Option (Nat × Nat) → Int × Int × Bool
  | some r => ((r.1 : Int), (r.2 : Int), true)
  | none => (0, 0, false)

set_option maxRecDepth 100000 in
set_option maxHeartbeats 8000000 in
theorem firstAsk_any (x : Sls) (s : St) (nd : List UInt8) (w : World) (h : SRow w x s) (hf : FitSt s) (hc : x.ql ≤ x.qc) (hw : WfSt s) (hnd : nd.length ≤ 1048576) :
    Calls Tryz.prog 116 #[sv x s, .string (bs nd)] w fun e w' => e = .returned (.tuple #[rv (plR (pickV s nd)).1 (plR (pickV s nd)).2.1, .bool (plR (pickV s nd)).2.2]) ∧ Below w.heap.size w w' := by
  have hal : x.al ≤ 1048576 := h.al hf
  have CF := hide (fun wx (hb : Below w.heap.size w wx) => implFreeOn_any x s nd wx (h.below hb) hf hnd)
  have CO := hide (fun wx (hb : Below w.heap.size w wx) => implQueueOrder_any x s wx (h.below hb) hf hc hw)
  have CR := hide (fun nm wx (hb : Below w.heap.size w wx) => roomLeft_any x s nm wx (h.below hb) hf hc hw)
  have HR := hide h.2.1
  have HL := hide h.2.1.1
  have HFA := hide hf.2.1
  have HOL := hide (show (orderV s).length ≤ 1048576 from by have := orderV_len s; have := h.1.1; have := h.ql hf; omega)
  have HQS := hide (fun i (hi : i < (orderV s).length) => queFrom_step (s := s) (nd := nd) hi)
  have HQE := hide (fun i (hi : (orderV s).length ≤ i) => queFrom_end (s := s) (nd := nd) hi)
  have HCN := hide (show ∀ qu a, canV s nd qu a = (suitsV a nd && (within a.mem a.cpu (freeOnV s nd).1 (freeOnV s nd).2 && ((leftFrom s (path s.qs qu) 1000000000 1000000000).2.2 && decide (0 < (path s.qs qu).length) && within a.mem a.cpu (leftFrom s (path s.qs qu) 1000000000 1000000000).1 (leftFrom s (path s.qs qu) 1000000000 1000000000).2.1))) from fun qu a => by rw [canV, room_eq])
  obtain ⟨pr, hpr⟩ : ∃ p, pickV s nd = p := ⟨_, rfl⟩
  have HP0 := hide (show queFrom s nd ((orderV s).drop 0) = pr from hpr)
  rw [hpr]
  obtain ⟨⟨fx, fy⟩, hfr⟩ : ∃ p, freeOnV s nd = p := ⟨_, rfl⟩
  obtain ⟨ord, hord⟩ : ∃ p, orderV s = p := ⟨_, rfl⟩
  obtain ⟨cn, hcn⟩ : ∃ p, canV s nd = p := ⟨_, rfl⟩
  obtain ⟨qf, hqf⟩ : ∃ p, queFrom s nd = p := ⟨_, rfl⟩
  obtain ⟨lf, hlf⟩ : ∃ f : List UInt8 → Int × Int × Bool, (fun q => ((leftFrom s (path s.qs q) 1000000000 1000000000).1, (leftFrom s (path s.qs q) 1000000000 1000000000).2.1, (leftFrom s (path s.qs q) 1000000000 1000000000).2.2 && decide (0 < (path s.qs q).length))) = f := ⟨_, rfl⟩
  have CR2 := hide (show ∀ nm wx (hb : Below w.heap.size w wx), Calls Tryz.prog 189 #[sv x s, .string (bs nm)] wx fun e w' => e = .returned (.tuple #[rv (lf nm).1 (lf nm).2.1, .bool (lf nm).2.2]) ∧ Below wx.heap.size wx w' from fun nm wx hb => by rw [← hlf]; exact unhide CR nm wx hb)
  have HCN2 := hide (show ∀ qu a, cn qu a = (suitsV a nd && (within a.mem a.cpu fx fy && ((lf qu).2.2 && within a.mem a.cpu (lf qu).1 (lf qu).2.1))) from fun qu a => by rw [← hcn, unhide HCN, hfr, ← hlf])
  rw [hfr] at CF
  rw [hord] at CO HOL HQS HQE HP0
  rw [hcn, hqf] at HQS
  rw [hqf] at HQE HP0
  clear h hf hc hw hpr hfr hord hcn hqf hlf CR HCN
  obtain ⟨qa, ql, qc, aa, al, ac, ma, ml, mc, ca, cl, cc⟩ := x
  obtain ⟨qs, clock, epoch, next, serial, apps, ms, cs⟩ := s
  simp only at CF CO CR2 HR HL HFA HQS hal
  have hol : ord.length ≤ 1048576 := unhide HOL
  have HB0 := hide (below_al (below_al (Below.refl _ w) (.cells (svc ⟨qa, ql, qc, aa, al, ac, ma, ml, mc, ca, cl, cc⟩ ⟨qs, clock, epoch, next, serial, apps, ms, cs⟩) 40)) (.cells #[.int .i64 0, .int .i64 0] 89))
  have P0 := hide ((blk_new w (svc ⟨qa, ql, qc, aa, al, ac, ma, ml, mc, ca, cl, cc⟩ ⟨qs, clock, epoch, next, serial, apps, ms, cs⟩) 40).al (.cells #[.int .i64 0, .int .i64 0] 89))
  have R0 := hide (show Var _ 89 (w.heap.size + 1) 0 0 by have := var_new (w.alloc (.cells (svc ⟨qa, ql, qc, aa, al, ac, ma, ml, mc, ca, cl, cc⟩ ⟨qs, clock, epoch, next, serial, apps, ms, cs⟩) 40)) 89 0 0; rw [al_size] at this; exact this)
  have q0 := (unhide P0).at 0; have q1 := (unhide P0).at 1; have q2 := (unhide P0).at 2; have q3 := (unhide P0).at 3; have q4 := (unhide P0).at 4; have q5 := (unhide P0).at 5; have q6 := (unhide P0).at 6; have q7 := (unhide P0).at 7
  simp at q0 q1 q2 q3 q4 q5 q6 q7
  go_enter Tryz.func116, Tryz.ntmps116
  go_wp2_with fail
  go_step3
  go_wp2_with fail
  refine (unhide CF _ (unhide HB0)).mono ?_
  rintro e w1 ⟨rfl, hb⟩
  clear q0 q1 q2 q3 q4 q5 q6 q7
  have hba := below_al (below_al (Below.refl _ w1) (.cells #[.int .i64 fx, .int .i64 fy] 30)) (.cells #[.int .i64 0, .int .i64 0] 89)
  have HB1 := hide (below_on (below_on (unhide HB0) hb) hba)
  have P1 := hide (((unhide P0).below hb).below hba)
  have R1 := hide (((unhide R0).below hb).below hba)
  have F1 := hide ((var_new w1 30 fx fy).al (.cells #[.int .i64 0, .int .i64 0] 89))
  have T1 := hide (show Var ((w1.alloc (.cells #[.int .i64 fx, .int .i64 fy] 30)).alloc (.cells #[.int .i64 0, .int .i64 0] 89)) 89 (w1.heap.size + 1) 0 0 by have := var_new (w1.alloc (.cells #[.int .i64 fx, .int .i64 fy] 30)) 89 0 0; rw [al_size] at this; exact this)
  have hgw : w.heap.size + 1 < w1.heap.size := ((unhide R0).below hb).lt
  obtain ⟨gf, hgf⟩ : ∃ g, w1.heap.size = g := ⟨_, rfl⟩
  rw [hgf] at F1 T1 hgw
  clear hb hba HB0 P0 R0 CF
  have q0 := (unhide P1).at 0; have q1 := (unhide P1).at 1; have q2 := (unhide P1).at 2; have q3 := (unhide P1).at 3; have q4 := (unhide P1).at 4; have q5 := (unhide P1).at 5; have q6 := (unhide P1).at 6; have q7 := (unhide P1).at 7
  simp at q0 q1 q2 q3 q4 q5 q6 q7
  go_wp2_with fail
  try rw [hgf]
  go_step3
  go_wp2_with fail
  try rw [hgf]
  refine (unhide CO _ (unhide HB1)).mono ?_
  rintro e w2 ⟨v0, rfl, ht, hb⟩
  obtain ⟨vo, vc, rfl, hrow⟩ := ht.open
  have HROW := hide hrow
  have HB2 := hide (below_on (unhide HB1) hb)
  have P2 := hide ((unhide P1).below hb)
  have R2 := hide ((unhide R1).below hb)
  have F2 := hide ((unhide F1).below hb)
  have T2 := hide ((unhide T1).below hb)
  clear hb ht hrow HB1 P1 R1 F1 T1 CO q0 q1 q2 q3 q4 q5 q6 q7 hgf
  go_wp2
  go_loopw [8, 10, 11, 12, 13, 14, 15, 16, 24] (fun fo _ _ _ _ _ _ _ i wr => ∃ q : Nat, fo = .bool false ∧ q ≤ ord.length ∧ i = .int .i64 q ∧ Hid (qf (ord.drop q) = pr) ∧ Hid (Below w2.heap.size w2 wr)) (fun _ _ _ _ _ _ _ _ i _ => ord.length - (intOf i).toNat)
  case atStart => exact ⟨0, rfl, Nat.zero_le _, rfl, HP0, hide (Below.refl _ _)⟩
  case round =>
    obtain ⟨q, rfl, hq, rfl, HQ, HK⟩ := hrel
    obtain ⟨wq, rfl⟩ : ∃ wo : World, wo = wr := ⟨_, rfl⟩
    have HBq := hide (below_on (unhide HB2) (unhide HK))
    have Pq := hide ((unhide P2).below (unhide HK))
    clear HP0
    by_cases hlt : q < ord.length
    · obtain ⟨gv, rfl, hcv0⟩ := unhide HROW q hlt
      have hcv := ((unhide HK).cell (p := ⟨gv, q, none⟩) (cell_lt hcv0)).trans hcv0
      have hst := unhide HQS q hlt
      obtain ⟨qn, hqn⟩ : ∃ n, ord[q] = n := ⟨_, rfl⟩
      rw [hqn] at hcv hst
      rw [unhide HQ] at hst
      obtain ⟨rr, hrr⟩ : ∃ r, appFrom (cn qn) qn apps 0 = r := ⟨_, rfl⟩
      rw [hrr] at hst
      have HRR := hide hrr
      have HSQ := hide hst
      have CR1 := hide (unhide CR2 qn)
      have HCV1 := hide (unhide HCN2 qn)
      obtain ⟨⟨lx, ly, ok⟩, hlk⟩ : ∃ t, lf qn = t := ⟨_, rfl⟩
      rw [hlk] at CR1 HCV1
      simp only at CR1 HCV1
      have q0 := (unhide Pq).at 0; have q1 := (unhide Pq).at 1; have q2 := (unhide Pq).at 2; have q3 := (unhide Pq).at 3; have q4 := (unhide Pq).at 4; have q5 := (unhide Pq).at 5; have q6 := (unhide Pq).at 6; have q7 := (unhide Pq).at 7
      simp at q0 q1 q2 q3 q4 q5 q6 q7
      clear hcv0 hst hqn hrr hlk HQ
      go_wp2_with fail
      refine (unhide CR1 _ (unhide HBq)).mono ?_
      rintro e w3 ⟨rfl, hb⟩
      have hb3 := below_on (Below.refl _ wq) (below_al hb (.cells #[.int .i64 lx, .int .i64 ly] 30))
      have HK3 := hide (below_on (unhide HK) hb3)
      clear q0 q1 q2 q3 q4 q5 q6 q7 hcv CR1
      cases ok
      case false =>
        have HN := hide (show qf (ord.drop (q + 1)) = pr by
          have h1 := unhide HRR
          rw [appFrom_none (fun a => by rw [unhide HCV1]; simp)] at h1
          have h2 := unhide HSQ
          rw [← h1] at h2
          exact h2.symm)
        clear hb hb3
        go_wp2
        go_roundw
        case rel => exact ⟨q + 1, rfl, by omega, by go_num, HN, HK3⟩
        case measure => simp [intOf]; omega
      case true =>
        have V3 := hide (var_new w3 30 lx ly)
        have P3 := hide ((unhide Pq).below hb3)
        obtain ⟨g3, hg3⟩ : ∃ g, w3.heap.size = g := ⟨_, rfl⟩
        rw [hg3] at V3
        obtain ⟨W3, hW3⟩ : ∃ W, w3.alloc (.cells #[.int .i64 lx, .int .i64 ly] 30) = W := ⟨_, rfl⟩
        rw [hW3] at HK3 V3 P3
        have HW3 := hide hW3
        have q0 := (unhide P3).at 0; have q1 := (unhide P3).at 1; have q2 := (unhide P3).at 2; have q3 := (unhide P3).at 3; have q4 := (unhide P3).at 4; have q5 := (unhide P3).at 5; have q6 := (unhide P3).at 6; have q7 := (unhide P3).at 7
        simp at q0 q1 q2 q3 q4 q5 q6 q7
        clear hb hb3 hW3 Pq HBq HK
        rw [← unhide HW3] at q0 q1 q2 q3 q4 q5 q6 q7
        go_wp2
        try rw [hg3]
        rw [unhide HW3]
        clear q0 q1 q2 q3 q4 q5 q6 q7 hg3
        go_loopw [8, 13, 14, 15, 16, 39] (fun fo _ _ _ _ i wr => ∃ i' : Nat, fo = .bool false ∧ i' ≤ al ∧ i = .int .i64 i' ∧ Hid (appFrom (cn qn) qn (apps.drop i') i' = rr) ∧ Hid (Below W3.heap.size W3 wr)) (fun _ _ _ _ _ i _ => al - (intOf i).toNat)
        case atStart => exact ⟨0, rfl, Nat.zero_le _, rfl, hide (unhide HRR), hide (Below.refl _ _)⟩
        case round =>
          obtain ⟨i, rfl, hi, rfl, HI, HKi⟩ := hrel
          obtain ⟨wi, rfl⟩ : ∃ wo : World, wo = wr := ⟨_, rfl⟩
          have HK4 := hide (below_on (unhide HK3) (unhide HKi))
          have HB4 := hide (below_on (unhide HB2) (unhide HK4))
          by_cases hil : i < al
          · obtain ⟨bb, off, rfl, hqa⟩ := (unhide HR).at hil
            have hkl : i < apps.length := by have := unhide HL; omega
            have hst := appFrom_step (p := cn qn) (qu := qn) hkl
            have hfa := (unhide HFA).2 _ (List.getElem_mem hkl)
            obtain ⟨xo, xl, xc, c0, c1, c2, hrow, _⟩ := hqa hkl
            replace c0 := Kp.cell (unhide HB4) c0
            replace c1 := Kp.cell (unhide HB4) c1
            replace c2 := Kp.cell (unhide HB4) c2
            obtain ⟨⟨id, qu, asks⟩, hs⟩ : ∃ s, apps[i] = s := ⟨_, rfl⟩
            rw [hs] at c0 c1 hst hrow hfa
            simp only at c0 c1 hst hrow
            rw [unhide HI] at hst
            have hxl : xl ≤ 1048576 := by have h1 := hrow.1; have h2 := hfa.2.1; simp only at h2; omega
            have HA := hide hrow
            have HAL := hide hrow.1
            have i0 : (0 : Int) ≤ i := by omega
            have i1 : (i : Int) < al := by omega
            clear hqa hs hkl hrow hfa HI
            by_cases hqn : qu = qn
            case neg =>
              have hqe := bs_eq qu qn
              rw [decide_eq_false hqn] at hqe
              rw [if_neg hqn] at hst
              have HST := hide hst
              clear hst
              go_wp2
              go_roundw
              case rel => exact ⟨i + 1, rfl, by omega, by go_num, hide (unhide HST).symm, hide (below_al (unhide HKi) _)⟩
              case measure => simp [intOf]; omega
            subst hqn
            have hqe := bs_eq qu qu
            rw [decide_eq_true rfl] at hqe
            rw [if_pos rfl] at hst
            obtain ⟨ak, hak⟩ : ∃ a, askFrom (cn qu) asks 0 = a := ⟨_, rfl⟩
            rw [hak] at hst
            have HSA := hide hst
            have HAK := hide hak
            have HK5 := hide (below_al (unhide HKi) (.cells #[.int .i64 id, .string (bs qu), .slice xo xl xc] 105))
            clear hst hak
            go_wp2
            go_loopw [8, 15, 16, 51] (fun fo _ _ i wr => ∃ k : Nat, fo = .bool false ∧ k ≤ xl ∧ i = .int .i64 k ∧ Hid (askFrom (cn qu) (asks.drop k) k = ak) ∧ Hid (Below W3.heap.size W3 wr)) (fun _ _ _ i _ => xl - (intOf i).toNat)
            case atStart => exact ⟨0, rfl, Nat.zero_le _, rfl, hide (unhide HAK), HK5⟩
            case round =>
              obtain ⟨k, rfl, hk, rfl, HKA, HKk⟩ := hrel
              have HK6 := hide (below_on (unhide HK3) (unhide HKk))
              have HB6 := hide (below_on (unhide HB2) (unhide HK6))
              clear HK5 HAK c0 c1 c2
              by_cases hkl : k < xl
              · obtain ⟨ab, aoff, rfl, ha⟩ := ((unhide HA).below (unhide HB6)).at hkl
                have hjk : k < asks.length := by have := unhide HAL; omega
                have hst := askFrom_step (p := cn qu) hjk
                obtain ⟨d0, d1, d2, d3, d4⟩ := ha hjk
                obtain ⟨a, hs⟩ : ∃ s, asks[k] = s := ⟨_, rfl⟩
                rw [hs] at d0 d1 d2 d3 d4 hst
                rw [unhide HKA] at hst
                have HST := hide hst
                have HCV := hide (unhide HCV1 a)
                have CS1 := hide (fun wx => implSuits_any a nd wx)
                have CW1 := hide (fun wx => implWithin_any a.mem a.cpu fx fy wx)
                have CW2 := hide (fun wx => implWithin_any a.mem a.cpu lx ly wx)
                obtain ⟨su, hsu⟩ : ∃ b, suitsV a nd = b := ⟨_, rfl⟩
                obtain ⟨b1, hb1⟩ : ∃ b, within a.mem a.cpu fx fy = b := ⟨_, rfl⟩
                obtain ⟨b2, hb2⟩ : ∃ b, within a.mem a.cpu lx ly = b := ⟨_, rfl⟩
                rw [hsu] at CS1
                rw [hb1] at CW1
                rw [hb2] at CW2
                rw [hsu, hb1, hb2] at HCV
                have j0 : (0 : Int) ≤ k := by omega
                have j1 : (k : Int) < xl := by omega
                clear ha hs hjk hst HKA hsu hb1 hb2
                obtain ⟨me, cp, ct, nx, mi⟩ := a
                simp only at d0 d1 d2 d3 d4 CS1 CW1 CW2
                have hba := below_al (Below.refl _ wr) (.cells #[.int .i64 me, .int .i64 cp, .int .i64 ct, .string (bs nx), .int .i64 mi] 68)
                have HK7 := hide (below_on (unhide HKk) hba)
                have A7 := hide (blk_new wr #[.int .i64 me, .int .i64 cp, .int .i64 ct, .string (bs nx), .int .i64 mi] 68)
                clear hba
                go_wp2_with fail
                refine (unhide CS1 _).mono ?_
                rintro e w8 ⟨rfl, hb⟩
                have HK8 := hide (below_on (unhide HK7) hb)
                have A8 := hide ((unhide A7).below hb)
                clear hb HK7 A7 CS1 d0 d1 d2 d3 d4
                cases su
                case false =>
                  go_wp2
                  go_roundw
                  case rel => exact ⟨k + 1, rfl, by omega, by go_num, hide (by have := unhide HST; rw [if_neg (by rw [unhide HCV]; simp)] at this; exact this.symm), HK8⟩
                  case measure => simp [intOf]; omega
                case true =>
                  have e0 := (unhide A8).at 0; have e1 := (unhide A8).at 1
                  simp at e0 e1
                  have fv := (unhide F2).below (below_on (unhide HK3) (unhide HK8))
                  have f0 := fv.c0; have f1 := fv.c1
                  clear fv
                  go_wp2_with fail
                  refine (unhide CW1 _).mono ?_
                  rintro e w9 ⟨rfl, hb⟩
                  have HK9 := hide (below_on (unhide HK8) hb)
                  have A9 := hide ((unhide A8).below hb)
                  clear hb HK8 A8 CW1 e0 e1 f0 f1
                  cases b1
                  case false =>
                    go_wp2
                    go_roundw
                    case rel => exact ⟨k + 1, rfl, by omega, by go_num, hide (by have := unhide HST; rw [if_neg (by rw [unhide HCV]; simp)] at this; exact this.symm), HK9⟩
                    case measure => simp [intOf]; omega
                  case true =>
                    have e0 := (unhide A9).at 0; have e1 := (unhide A9).at 1
                    simp at e0 e1
                    have rv3 := (unhide V3).below (unhide HK9)
                    have r0 := rv3.c0; have r1 := rv3.c1
                    clear rv3
                    go_wp2_with fail
                    refine (unhide CW2 _).mono ?_
                    rintro e w10 ⟨rfl, hb⟩
                    have HK10 := hide (below_on (unhide HK9) hb)
                    clear hb HK9 A9 CW2 e0 e1 r0 r1
                    cases b2
                    case false =>
                      go_wp2
                      go_roundw
                      case rel => exact ⟨k + 1, rfl, by omega, by go_num, hide (by have := unhide HST; rw [if_neg (by rw [unhide HCV]; simp)] at this; exact this.symm), HK10⟩
                      case measure => simp [intOf]; omega
                    case true =>
                      have HE := hide (show pr = some (i, k) by
                        have h1 := unhide HST
                        rw [if_pos (by rw [unhide HCV]; rfl)] at h1
                        have h2 := unhide HSA
                        rw [h1] at h2
                        have h3 := unhide HSQ
                        rw [h2] at h3
                        exact h3)
                      have HKX := hide (below_on (unhide HK3) (unhide HK10))
                      have T9 := (unhide T2).below (unhide HKX)
                      have R9 := (unhide R2).below (unhide HKX)
                      have ne1 : w.heap.size + 1 ≠ gf + 1 := by omega
                      have T10 := T9.set (i : Int) (k : Int)
                      have R10 := (R9.other (gf + 1) 0 (.int .i64 (i : Int)) ne1).other (gf + 1) 1 (.int .i64 (k : Int)) ne1
                      have R11 := R10.set (i : Int) (k : Int)
                      have a0 := T9.c0; have a1 := T9.c1; have a2 := T9.f 0; have a3 := T9.f 1
                      have t0 := T10.c0; have t1 := T10.c1
                      have r0 := R10.c0; have r1 := R10.c1; have r2 := R10.f 0; have r3 := R10.f 1
                      have z0 := R11.c0; have z1 := R11.c1
                      have HBX := hide (below_sc (below_sc (below_sc (below_sc (below_on (unhide HB2) (unhide HKX)) (gf + 1) 0 (.int .i64 (i : Int)) (by omega)) (gf + 1) 1 (.int .i64 (k : Int)) (by omega)) (w.heap.size + 1) 0 (.int .i64 (i : Int)) (by omega)) (w.heap.size + 1) 1 (.int .i64 (k : Int)) (by omega))
                      clear T9 T10 R9 R10 R11
                      go_wp2
                      try rw [Exit.noGoto_ret]
                      refine bodyPost_ret (v := .tuple #[rv (i : Int) (k : Int), .bool true]) (by simp [results, Tryz.results116, go_sem, z0, z1]) rfl ⟨by rw [unhide HE]; rfl, unhide HBX⟩
              · have hke : asks.length ≤ k := by have := unhide HAL; omega
                have HN := hide (show appFrom (cn qu) qu (apps.drop (i + 1)) (i + 1) = rr by
                  have h1 := unhide HKA
                  rw [askFrom_end hke] at h1
                  have h2 := unhide HSA
                  rw [← h1] at h2
                  exact h2.symm)
                have j1 : ¬ (k : Int) < xl := by omega
                clear HKA
                go_wp2
                go_roundw
                case rel => exact ⟨i + 1, rfl, by omega, by go_num, HN, HKk⟩
                case measure => simp [intOf]; omega
          · have hie : apps.length ≤ i := by have := unhide HL; omega
            have HN := hide (show qf (ord.drop (q + 1)) = pr by
              have h1 := unhide HI
              rw [appFrom_end hie] at h1
              have h2 := unhide HSQ
              rw [← h1] at h2
              exact h2.symm)
            have j1 : ¬ (i : Int) < al := by omega
            clear HI
            go_wp2
            go_roundw
            case rel => exact ⟨q + 1, rfl, by omega, by go_num, HN, HK4⟩
            case measure => simp [intOf]; omega
    · have HE := hide (show pr = none by rw [← unhide HQ]; exact unhide HQE q (by omega))
      have T9 := (unhide T2).below (unhide HK)
      have R9 := (unhide R2).below (unhide HK)
      have R11 := R9.set 0 0
      have t0 := T9.c0; have t1 := T9.c1
      have r0 := R9.c0; have r1 := R9.c1; have r2 := R9.f 0; have r3 := R9.f 1
      have z0 := R11.c0; have z1 := R11.c1
      have HBX := hide (below_sc (below_sc (unhide HBq) (w.heap.size + 1) 0 (.int .i64 0) (by omega)) (w.heap.size + 1) 1 (.int .i64 0) (by omega))
      have j1 : ¬ (q : Int) < (ord.length : Int) := by omega
      clear T9 R9 R11 HQ
      go_wp2
      try rw [Exit.noGoto_ret]
      refine bodyPost_ret (v := .tuple #[rv 0 0, .bool false]) (by simp [results, Tryz.results116, go_sem, z0, z1]) rfl ⟨by rw [unhide HE]; rfl, unhide HBX⟩
end Go.Proofs.YtfbphoppgmganaaGreat

/-
  The results of next, as they are laid down.
-/
namespace Go.Proofs.YtfbphoppgmganaaGreat
open Go.RowKit Go.Maps
set_option linter.unusedVariables false
set_option linter.unusedSimpArgs false

def atR : Option ((Nat × Nat) × Con) → Int × Int
  | some r => ((r.1.1 : Int), (r.1.2 : Int))
  | none => (0, 0)
theorem nx_cells {W : World} {g1 g2 : Nat} {ta tc : TypeId} (h1 : Blk W g1 #[.int .i64 0, .int .i64 0] ta) (h2 : Blk W g2 #[.int .i64 0, .int .i64 0, .string ByteArray.empty, .int .i64 0, .int .i64 0] tc) (hn : g1 ≠ g2) (i k : Int) :
    W.cell? ⟨g1, 0, none⟩ = some (.int .i64 0) ∧ W.cell? ⟨g1, 1, none⟩ = some (.int .i64 0) ∧ W.frozen? ⟨g1, 0, none⟩ = false ∧ W.frozen? ⟨g1, 1, none⟩ = false ∧ ((W.setCell ⟨g1, 0, none⟩ (.int .i64 i)).setCell ⟨g1, 1, none⟩ (.int .i64 k)).cell? ⟨g2, 0, none⟩ = some (.int .i64 0) ∧ ((W.setCell ⟨g1, 0, none⟩ (.int .i64 i)).setCell ⟨g1, 1, none⟩ (.int .i64 k)).cell? ⟨g2, 1, none⟩ = some (.int .i64 0) ∧ ((W.setCell ⟨g1, 0, none⟩ (.int .i64 i)).setCell ⟨g1, 1, none⟩ (.int .i64 k)).cell? ⟨g2, 2, none⟩ = some (.string ByteArray.empty) ∧ ((W.setCell ⟨g1, 0, none⟩ (.int .i64 i)).setCell ⟨g1, 1, none⟩ (.int .i64 k)).cell? ⟨g2, 3, none⟩ = some (.int .i64 0) ∧ ((W.setCell ⟨g1, 0, none⟩ (.int .i64 i)).setCell ⟨g1, 1, none⟩ (.int .i64 k)).cell? ⟨g2, 4, none⟩ = some (.int .i64 0) ∧ ((W.setCell ⟨g1, 0, none⟩ (.int .i64 i)).setCell ⟨g1, 1, none⟩ (.int .i64 k)).frozen? ⟨g2, 0, none⟩ = false ∧ ((W.setCell ⟨g1, 0, none⟩ (.int .i64 i)).setCell ⟨g1, 1, none⟩ (.int .i64 k)).frozen? ⟨g2, 1, none⟩ = false ∧ ((W.setCell ⟨g1, 0, none⟩ (.int .i64 i)).setCell ⟨g1, 1, none⟩ (.int .i64 k)).frozen? ⟨g2, 2, none⟩ = false ∧ ((W.setCell ⟨g1, 0, none⟩ (.int .i64 i)).setCell ⟨g1, 1, none⟩ (.int .i64 k)).frozen? ⟨g2, 3, none⟩ = false ∧ ((W.setCell ⟨g1, 0, none⟩ (.int .i64 i)).setCell ⟨g1, 1, none⟩ (.int .i64 k)).frozen? ⟨g2, 4, none⟩ = false := by
  have h3 := (h2.other g1 0 (.int .i64 i) (fun e => hn e.symm)).other g1 1 (.int .i64 k) (fun e => hn e.symm)
  exact ⟨h1.at 0, h1.at 1, h1.f 0, h1.f 1, h3.at 0, h3.at 1, h3.at 2, h3.at 3, h3.at 4, h3.f 0, h3.f 1, h3.f 2, h3.f 3, h3.f 4⟩
theorem nx_end {W : World} {g1 g2 : Nat} {ta tc : TypeId} (h1 : Blk W g1 #[.int .i64 0, .int .i64 0] ta) (h2 : Blk W g2 #[.int .i64 0, .int .i64 0, .string ByteArray.empty, .int .i64 0, .int .i64 0] tc) (hn : g1 ≠ g2) (i k id ap : Int) (sn : ByteArray) (me cp : Int) :
    Blk (((((((W.setCell ⟨g1, 0, none⟩ (.int .i64 i)).setCell ⟨g1, 1, none⟩ (.int .i64 k)).setCell ⟨g2, 0, none⟩ (.int .i64 id)).setCell ⟨g2, 1, none⟩ (.int .i64 ap)).setCell ⟨g2, 2, none⟩ (.string sn)).setCell ⟨g2, 3, none⟩ (.int .i64 me)).setCell ⟨g2, 4, none⟩ (.int .i64 cp)) g1 #[.int .i64 i, .int .i64 k] ta ∧ Blk (((((((W.setCell ⟨g1, 0, none⟩ (.int .i64 i)).setCell ⟨g1, 1, none⟩ (.int .i64 k)).setCell ⟨g2, 0, none⟩ (.int .i64 id)).setCell ⟨g2, 1, none⟩ (.int .i64 ap)).setCell ⟨g2, 2, none⟩ (.string sn)).setCell ⟨g2, 3, none⟩ (.int .i64 me)).setCell ⟨g2, 4, none⟩ (.int .i64 cp)) g2 #[.int .i64 id, .int .i64 ap, .string sn, .int .i64 me, .int .i64 cp] tc :=
  ⟨((((((h1.set 0 (.int .i64 i)).set 1 (.int .i64 k)).other g2 0 (.int .i64 id) hn).other g2 1 (.int .i64 ap) hn).other g2 2 (.string sn) hn).other g2 3 (.int .i64 me) hn).other g2 4 (.int .i64 cp) hn,
   ((((((h2.other g1 0 (.int .i64 i) (fun e => hn e.symm)).other g1 1 (.int .i64 k) (fun e => hn e.symm)).set 0 (.int .i64 id)).set 1 (.int .i64 ap)).set 2 (.string sn)).set 3 (.int .i64 me)).set 4 (.int .i64 cp)⟩
theorem nx_below {w W : World} (h : Below w.heap.size w W) {g1 g2 : Nat} (h1 : w.heap.size ≤ g1) (h2 : w.heap.size ≤ g2) (i k id ap : Int) (sn : ByteArray) (me cp : Int) : Below w.heap.size w (((((((W.setCell ⟨g1, 0, none⟩ (.int .i64 i)).setCell ⟨g1, 1, none⟩ (.int .i64 k)).setCell ⟨g2, 0, none⟩ (.int .i64 id)).setCell ⟨g2, 1, none⟩ (.int .i64 ap)).setCell ⟨g2, 2, none⟩ (.string sn)).setCell ⟨g2, 3, none⟩ (.int .i64 me)).setCell ⟨g2, 4, none⟩ (.int .i64 cp)) :=
  below_sc (below_sc (below_sc (below_sc (below_sc (below_sc (below_sc h g1 0 _ h1) g1 1 _ h1) g2 0 _ h2) g2 1 _ h2) g2 2 _ h2) g2 3 _ h2) g2 4 _ h2
end Go.Proofs.YtfbphoppgmganaaGreat

/-
  Blocks that stand, wherever they lie, while stores go to others: one word for them.
-/
namespace Go.Proofs.YtfbphoppgmganaaGreat
open Go.RowKit
set_option linter.unusedVariables false

/-- the blocks of L stand; nothing of w0 has turned -/
def HBk (w0 : World) (L : List (Nat × Array Value × TypeId)) (wx : World) : Prop :=
  (∀ p ∈ L, Blk wx p.1 p.2.1 p.2.2) ∧ Below w0.heap.size w0 wx
theorem HBk.call {w0 : World} {L : List (Nat × Array Value × TypeId)} {wx wy : World} (h : HBk w0 L wx) (hb : Below wx.heap.size wx wy) : HBk w0 L wy := ⟨fun p hp => (h.1 p hp).below hb, below_on h.2 hb⟩
theorem HBk.drew {w0 : World} {L : List (Nat × Array Value × TypeId)} {wx : World} (h : HBk w0 L wx) : HBk w0 L wx.drew := h.call (Below.refl _ _).drew
theorem HBk.al {w0 : World} {L : List (Nat × Array Value × TypeId)} {wx : World} (h : HBk w0 L wx) (o : Obj) : HBk w0 L (wx.alloc o) := h.call (below_al (Below.refl _ _) o)
theorem HBk.set {w0 : World} {L : List (Nat × Array Value × TypeId)} {wx : World} (h : HBk w0 L wx) (k j : Nat) (v : Value) (hk : w0.heap.size ≤ k) (hn : ∀ p ∈ L, p.1 ≠ k) : HBk w0 L (wx.setCell ⟨k, j, none⟩ v) :=
  ⟨fun p hp => (h.1 p hp).other k j v (hn p hp), below_sc h.2 _ _ _ hk⟩
theorem HBk.blk {w0 : World} {L : List (Nat × Array Value × TypeId)} {wx : World} (h : HBk w0 L wx) {g : Nat} {c : Array Value} {t : TypeId} (hp : (g, c, t) ∈ L) : Blk wx g c t := h.1 _ hp
theorem HBk.cell {w0 : World} {L : List (Nat × Array Value × TypeId)} {wx : World} (h : HBk w0 L wx) {b j : Nat} {v : Value} (hc : w0.cell? ⟨b, j, none⟩ = some v) : wx.cell? ⟨b, j, none⟩ = some v := (Below.cell h.2 (p := ⟨b, j, none⟩) (cell_lt hc)).trans hc
end Go.Proofs.YtfbphoppgmganaaGreat
