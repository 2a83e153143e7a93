/-
  Several texts of this claim in one: OfQM, WithinI, RoomL, RoomI (pack.py put them together); each says in its own remark what is proved.
-/
import Derived.Test.YtcplnodfcchdhaaGreatPartI
import Derived.Test.YtcplnodfcchdhaaGreatPackW
import Derived.Test.YtcplnodfcchdhaaGreatPackR
import Derived.Test.YtcplnodfcchdhaaGreatPackAH
import Derived.Test.YtcplnodfcchdhaaGreatUByI
import Derived.Test.YtcplnodfcchdhaaGreatPackU
import Derived.Test.YtcplnodfcchdhaaGreatPackY
import Derived.Deep.RegionHeld3
import Derived.Deep.CutRange
/-
  What is due to a queue of a total, and the most that it may have: what the program's DueOf and MostOf answer; walks over the dump.
-/
namespace Go.Proofs.YtcplnodfcchdhaaGreat
open Go.RowKit
set_option linter.unusedVariables false
set_option maxRecDepth 100000 in
set_option maxHeartbeats 1000000 in
theorem mostFn_any (w : World) (q : Q) :
    Calls Tryz.prog 123 #[qv q] w fun e w' => e = .returned (.int .i64 (fieldOf true q)) ∧ Below w.heap.size w w' := by
  go_enter Tryz.func123, Tryz.ntmps123
  go_wp2
  go_ret
  exact ⟨rfl, below_al (Below.refl _ _) _⟩

set_option maxRecDepth 100000 in
set_option maxHeartbeats 1000000 in
theorem implMostOf_any (ao : Option Addr) (len cap : Nat) (l : List Q) (nm : List UInt8) (a b : Int) (w : World) (h : QRow w ao len l) (hl : len ≤ 1048576) (hn : ∀ q ∈ l, q.name.length ≤ 1048576) (hc : len ≤ cap) :
    Calls Tryz.prog 99 #[.slice ao len cap, .string (bs nm), rv a b] w fun e w' => e = .returned (rv (ofR l nm a b true).1 (ofR l nm a b true).2) ∧ Below w.heap.size w w' := by
  have hmf : ∀ (fn : Fn) (first cap : Array Value) (w : World), (Instr.makeFunc fn first cap).run Tryz.prog w = .ok (.func fn first cap) w := fun _ _ _ _ => rfl
  have HB0 := hide (below_al (below_al (Below.refl _ w) (.cells #[.int .i64 a, .int .i64 b] 33)) (.cells #[.int .i64 0, .int .i64 0] 33))
  have HV2 := hide (var_new2 w 33 33 a b 0 0)
  have C := hide (partOf_any 123 (enters_of Tryz.func123 (by kernel_rfl) rfl) true (fun wx q => mostFn_any wx q) ao len cap l nm a b _ (h.below (unhide HB0)) hl hn hc)
  obtain ⟨⟨x, y⟩, hxy⟩ : ∃ p, ofR l nm a b true = p := ⟨_, rfl⟩
  rw [hxy] at C ⊢
  clear hxy h hn
  go_enter Tryz.func99, Tryz.ntmps99
  go_wp2_with fail
  refine (unhide C).mono ?_
  rintro e w1 ⟨rfl, hb⟩
  have V2 := (unhide HV2).below hb
  have k0 := V2.c0
  have k1 := V2.c1
  have k2 := V2.f 0
  have k3 := V2.f 1
  have k4 := V2.s0 (.int .i64 x)
  have k5 := V2.s1 (.int .i64 x) (.int .i64 y)
  have HB := hide (below_on (unhide HB0) hb)
  clear hb V2 HV2 HB0 C
  go_wp2
  refine bodyPost_ret (v := rv x y) (by simp [results, Tryz.results99, go_sem, k4, k5]) rfl ⟨rfl, ?_⟩
  repeat (first | exact unhide HB | refine below_al ?_ _ | refine Below.drew ?_ | refine below_sc ?_ _ _ _ (by omega))
end Go.Proofs.YtcplnodfcchdhaaGreat

/-
  Whether one amount is within another: what the program's Within answers; a walk over the dump.
-/
namespace Go.Proofs.YtcplnodfcchdhaaGreat
open Go.RowKit
set_option linter.unusedVariables false
set_option maxRecDepth 100000 in
set_option maxHeartbeats 1000000 in
theorem implWithin_any (a b c d : Int) (w : World) :
    Calls Tryz.prog 57 #[rv a b, rv c d] w fun e w' => e = .returned (.bool (within a b c d)) ∧ Below w.heap.size w w' := by
  have HV1 := hide ((var_new w 33 a b).al (.cells #[.int .i64 c, .int .i64 d] 33))
  have HV2 := hide (var_new2 w 33 33 a b c d)
  have HB0 := hide (below_al (below_al (Below.refl _ w) (.cells #[.int .i64 a, .int .i64 b] 33)) (.cells #[.int .i64 c, .int .i64 d] 33))
  have hc := hide (pairOk_any a b c d)
  cases h0 : resOk a b && resOk c d
  · rw [show within a b c d = false by rw [within, h0]; rfl]
    go_enter Tryz.func57, Tryz.ntmps57
    go_wp2_with fail
    refine (unhide hc _).mono ?_
    rw [h0]
    rintro e w1 ⟨rfl, hb⟩
    have V1 := (unhide HV1).below hb
    have V2 := (unhide HV2).below hb
    have a1 := V1.c0
    have a2 := V1.c1
    have a3 := V2.c0
    have a4 := V2.c1
    have HB := hide (below_on (unhide HB0) hb)
    clear hb HV1 HV2 HB0 V1 V2 hc
    go_wp2
    go_ret
    exact ⟨rfl, unhide HB⟩
  · by_cases h3 : a ≤ c
    · by_cases h4 : b ≤ d
      · rw [show within a b c d = true by rw [within, h0]; simp [h3, h4]]
        go_enter Tryz.func57, Tryz.ntmps57
        go_wp2_with fail
        refine (unhide hc _).mono ?_
        rw [h0]
        rintro e w1 ⟨rfl, hb⟩
        have V1 := (unhide HV1).below hb
        have V2 := (unhide HV2).below hb
        have a1 := V1.c0
        have a2 := V1.c1
        have a3 := V2.c0
        have a4 := V2.c1
        have HB := hide (below_on (unhide HB0) hb)
        clear hb HV1 HV2 HB0 V1 V2 hc
        go_wp2
        go_ret
        exact ⟨rfl, unhide HB⟩
      · rw [show within a b c d = false by rw [within, h0]; simp [h4]]
        go_enter Tryz.func57, Tryz.ntmps57
        go_wp2_with fail
        refine (unhide hc _).mono ?_
        rw [h0]
        rintro e w1 ⟨rfl, hb⟩
        have V1 := (unhide HV1).below hb
        have V2 := (unhide HV2).below hb
        have a1 := V1.c0
        have a2 := V1.c1
        have a3 := V2.c0
        have a4 := V2.c1
        have HB := hide (below_on (unhide HB0) hb)
        clear hb HV1 HV2 HB0 V1 V2 hc
        go_wp2
        go_ret
        exact ⟨ret_bool (decide_eq_false (by omega)), unhide HB⟩
    · rw [show within a b c d = false by rw [within, h0]; simp [h3]]
      go_enter Tryz.func57, Tryz.ntmps57
      go_wp2_with fail
      refine (unhide hc _).mono ?_
      rw [h0]
      rintro e w1 ⟨rfl, hb⟩
      have V1 := (unhide HV1).below hb
      have V2 := (unhide HV2).below hb
      have a1 := V1.c0
      have a2 := V1.c1
      have a3 := V2.c0
      have a4 := V2.c1
      have HB := hide (below_on (unhide HB0) hb)
      clear hb HV1 HV2 HB0 V1 V2 hc
      go_wp2
      go_ret
      exact ⟨rfl, unhide HB⟩
end Go.Proofs.YtcplnodfcchdhaaGreat

/-
  Whether a queue has room for an amount, by the program: roomLeft, Room; walks over the dump.
-/
namespace Go.Proofs.YtcplnodfcchdhaaGreat
open Go.RowKit Go.Maps
set_option linter.unusedVariables false
theorem min_run (x y : Int) (wx : World) : (Builtin.min_ #[3, 3] 3 #[.int .i64 x, .int .i64 y]).run Tryz.prog wx = .ok (.int .i64 (min x y)) wx := by
  have : (if y < x then y else x) = min x y := by omega
  simp [go_sem]
/-- a list of texts as a slice -/
theorem texts_row {B : Nat} {w : World} {v : Value} {ps : List (List UInt8)} (h : Texts B w v ps) : ∃ ao cap, v = .slice ao ps.length cap ∧ ∀ j (hj : j < ps.length), ∃ g, ao = some ⟨g, 0, none⟩ ∧ w.cell? ⟨g, j, none⟩ = some (.string (bs ps[j])) := by
  by_cases hp : ps = []
  · subst hp
    obtain ⟨a, cap, rfl⟩ := texts_none h
    exact ⟨a, cap, rfl, fun j hj => by simp at hj⟩
  · obtain ⟨g, cap, rfl, hs, _⟩ := texts_some h hp
    exact ⟨_, cap, rfl, fun j hj => ⟨g, rfl, hs.text hj⟩⟩
theorem path_len20 (s : St) (nm : List UInt8) : (path s.qs nm).length ≤ 1048576 := by
  cases ho : queuesOk s.qs with
  | false => simp [path, ho]
  | true =>
    have h2 := (okT_iff.1 (by have := queuesOk_okT s.qs; rw [ho] at this; simp at this; exact this.1)).2.2
    have := path_len s.qs nm
    omega

set_option maxRecDepth 100000 in
set_option maxHeartbeats 4000000 in
theorem roomLeft_any (x : Sls) (s : St) (nm : List UInt8) (w : World) (h : SRow w x s) (hf : FitSt s) (hc : x.ql ≤ x.qc) (hw : WfSt s) :
    Calls Tryz.prog 56 #[sv x s, .string (bs nm)] w fun e w' => e = .returned (.tuple #[rv (leftFrom s (path s.qs nm) 1000000000 1000000000).1 (leftFrom s (path s.qs nm) 1000000000 1000000000).2.1, .bool ((leftFrom s (path s.qs nm) 1000000000 1000000000).2.2 && decide (0 < (path s.qs nm).length))]) ∧ Below w.heap.size w w' := by
  have hql : x.ql ≤ 1048576 := h.ql hf
  have hml : x.ml ≤ 1048576 := h.ml hf
  have CPath := hide (fun wx (hb : Below w.heap.size w wx) => implPath_any x.qa x.ql x.qc s.qs nm wx (h.1.below hb) hql (fun q hq => (hf.1.2 q hq).1) hc)
  have CT := hide (fun wx (hb : Below w.heap.size w wx) => implTotal_any x s wx (h.2.2.1.below hb) hml)
  have CM := hide (fun wx (hb : Below w.heap.size w wx) (n : List UInt8) => show Calls Tryz.prog 99 #[.slice x.qa x.ql x.qc, .string (bs n), rv (totalV s).1 (totalV s).2] wx (fun e w' => e = .returned (rv (mostV s n).1 (mostV s n).2) ∧ Below wx.heap.size wx w') from implMostOf_any x.qa x.ql x.qc s.qs n (totalV s).1 (totalV s).2 wx (h.1.below hb) hql (fun q hq => (hf.1.2 q hq).1) hc)
  have CU := hide (fun wx (hb : Below w.heap.size w wx) (n : List UInt8) => implUsedBy_any x s n wx (h.below hb) hf hc hw)
  have HPL := hide (path_len20 s nm)
  obtain ⟨⟨tx, ty⟩, ht⟩ : ∃ t, totalV s = t := ⟨_, rfl⟩
  rw [show (sumR (capsOf s.ms)).1 = tx from congrArg Prod.fst ht, show (sumR (capsOf s.ms)).2.1 = ty from congrArg Prod.snd ht] at CT
  rw [ht] at CM
  obtain ⟨ps, hps⟩ : ∃ p, path s.qs nm = p := ⟨_, rfl⟩
  rw [hps] at CPath HPL ⊢
  obtain ⟨⟨zx, zy, zo⟩, hz⟩ : ∃ z, leftFrom s ps 1000000000 1000000000 = z := ⟨_, rfl⟩
  have HZ := hide (show leftFrom s (ps.drop 0) 1000000000 1000000000 = (zx, zy, zo) from hz)
  rw [hz]
  have HST := hide (fun k (hk : k < ps.length) (a b : Int) => leftFrom_step (s := s) hk a b)
  have HEN := hide (fun k (hk : ps.length ≤ k) (a b : Int) => leftFrom_end (s := s) hk a b)
  obtain ⟨lf, hlf⟩ : ∃ f, leftFrom s = f := ⟨_, rfl⟩
  rw [hlf] at HZ HST HEN
  obtain ⟨mf, hmf⟩ : ∃ f, mostV s = f := ⟨_, rfl⟩
  rw [hmf] at CM HST
  obtain ⟨uf, huf⟩ : ∃ f, usedByV s = f := ⟨_, rfl⟩
  rw [huf] at CU HST
  clear h hf hc hw ht hps hz hlf hmf huf
  obtain ⟨qa, ql, qc, aa, al, ac, ma, ml, mc, ca, cl, cc⟩ := x
  obtain ⟨qs, clock, epoch, next, serial, apps, ms, cs⟩ := s
  simp only at CM CU CT CPath hql hml
  have HB0 := hide (capW_below w (svc ⟨qa, ql, qc, aa, al, ac, ma, ml, mc, ca, cl, cc⟩ ⟨qs, clock, epoch, next, serial, apps, ms, cs⟩))
  have V0 := hide (capW_var w (svc ⟨qa, ql, qc, aa, al, ac, ma, ml, mc, ca, cl, cc⟩ ⟨qs, clock, epoch, next, serial, apps, ms, cs⟩))
  have P0 := hide ((boxW_blk w (svc ⟨qa, ql, qc, aa, al, ac, ma, ml, mc, ca, cl, cc⟩ ⟨qs, clock, epoch, next, serial, apps, ms, cs⟩)).al (.cells #[.int .i64 0, .int .i64 0] 33))
  go_enter Tryz.func56, Tryz.ntmps56
  go_wp2_with fail
  refine (unhide CPath _ (unhide HB0)).mono ?_
  rintro e w1 ⟨v, rfl, htx, hb⟩
  have HB1 := hide (below_on (unhide HB0) hb)
  have V1 := hide ((unhide V0).below hb)
  have P1 := hide ((unhide P0).below hb)
  have HTX := hide htx
  obtain ⟨q0, q1, q2, q3, q4, q5, q6, q7⟩ : _ ∧ _ ∧ _ ∧ _ ∧ _ ∧ _ ∧ _ ∧ _ := ⟨(unhide P1).at 0, (unhide P1).at 1, (unhide P1).at 2, (unhide P1).at 3, (unhide P1).at 4, (unhide P1).at 5, (unhide P1).at 6, (unhide P1).at 7⟩
  simp at q0 q1 q2 q3 q4 q5 q6 q7
  clear hb HB0 V0 P0 CPath htx
  go_wp2_with fail
  refine (unhide CT _ (unhide HB1)).mono ?_
  rintro e w2 ⟨rfl, hb⟩
  have hB2 := below_al (below_on (unhide HB1) hb) (.cells #[.int .i64 tx, .int .i64 ty] 33)
  have hV2 := ((unhide V1).below hb).al (.cells #[.int .i64 tx, .int .i64 ty] 33)
  have hP2 := ((unhide P1).below hb).al (.cells #[.int .i64 tx, .int .i64 ty] 33)
  have hX2 := ((unhide HTX).below hb).below (below_al (Below.refl _ _) (.cells #[.int .i64 tx, .int .i64 ty] 33))
  have hT2 := var_new w2 33 tx ty
  have hs2 := al_size w2 (.cells #[.int .i64 tx, .int .i64 ty] 33)
  obtain ⟨W2, hW2⟩ : ∃ W, w2.alloc (.cells #[.int .i64 tx, .int .i64 ty] 33) = W := ⟨_, rfl⟩
  rw [hW2] at hB2 hV2 hP2 hX2 hT2 hs2
  have HB2 := hide hB2
  have V2 := hide hV2
  have P2 := hide hP2
  have T2 := hide hT2
  have HS2 := hide hs2
  have HW2 := hide hW2
  obtain ⟨po, pc, rfl, hcell⟩ := texts_row hX2
  have HC := hide hcell
  have HV3 := hide (var_new W2 33 1000000000 1000000000)
  have HB3 := hide (below_al (Below.refl _ W2) (.cells #[.int .i64 1000000000, .int .i64 1000000000] 33))
  clear hb q0 q1 q2 q3 q4 q5 q6 q7 V1 P1 HTX HB1 CT hB2 hV2 hP2 hX2 hT2 hs2 hcell
  obtain ⟨n, hn⟩ : ∃ n, ps.length = n := ⟨_, rfl⟩
  rw [hn] at HPL ⊢
  have HN := hide hn
  have hn2 : n ≤ 1048576 := unhide HPL
  clear hn HPL
  go_wp2
  go_loopw [22] (fun i wr => ∃ (k : Nat) (a b : Int), k ≤ n ∧ i = .int .i64 k ∧ Hid (lf (ps.drop k) a b = (zx, zy, zo)) ∧ Hid (Var wr 33 W2.heap.size a b) ∧ Hid (Kp W2 wr)) (fun i _ => n - (intOf i).toNat)
  case atStart => exact ⟨0, 1000000000, 1000000000, Nat.zero_le _, rfl, HZ, HV3, HB3⟩
  case round =>
    obtain ⟨k, a, b, hk, rfl, HQ, HVr, HK⟩ := hrel
    have kq := unhide HK
    obtain ⟨q0, q1, q2, q3, q4, q5, q6, q7⟩ : _ ∧ _ ∧ _ ∧ _ ∧ _ ∧ _ ∧ _ ∧ _ := ⟨kq.cell ((unhide P2).at 0), kq.cell ((unhide P2).at 1), kq.cell ((unhide P2).at 2), kq.cell ((unhide P2).at 3), kq.cell ((unhide P2).at 4), kq.cell ((unhide P2).at 5), kq.cell ((unhide P2).at 6), kq.cell ((unhide P2).at 7)⟩
    have t0 := kq.cell (unhide T2).c0
    have t1 := kq.cell (unhide T2).c1
    have HBr := hide (below_on (unhide HB2) kq)
    have hvl := (unhide V2).lt
    clear kq HV3 HB3
    by_cases hlt : k < n
    · have hkl : k < ps.length := by have := unhide HN; omega
      obtain ⟨pg, rfl, hc0⟩ := unhide HC k hkl
      have c0 := (unhide HK).cell hc0
      have hst := unhide HST k hkl a b
      rw [unhide HQ] at hst
      obtain ⟨nx, hs⟩ : ∃ s, ps[k] = s := ⟨_, rfl⟩
      rw [hs] at c0 hst
      have CUk := hide (fun wx hb => unhide CU wx hb nx)
      have CMk := hide (fun wx hb => unhide CM wx hb nx)
      obtain ⟨⟨ux, uy⟩, hu⟩ : ∃ u, uf nx = u := ⟨_, rfl⟩
      obtain ⟨⟨mx, my⟩, hm⟩ : ∃ u, mf nx = u := ⟨_, rfl⟩
      rw [hu] at CUk hst
      rw [hm] at CMk hst
      simp only at CUk CMk hst
      have HSTk := hide hst
      have k0 : (0 : Int) ≤ k := by omega
      have k1 : (k : Int) < n := by omega
      have CA := hide (fun wx => implSub_any mx my ux uy wx)
      obtain ⟨x', y', ok, hv⟩ : ∃ x' y' ok, bothV (-1) mx my ux uy = rv x' y' ∧ bothOk (-1) mx my ux uy = ok ∧ (ok = true → x' = mx + -1 * ux ∧ y' = my + -1 * uy) := by
        cases hb : bothOk (-1) mx my ux uy
        · exact ⟨0, 0, _, both_no hb, rfl, by simp⟩
        · exact ⟨_, _, _, both_yes hb, rfl, fun _ => ⟨rfl, rfl⟩⟩
      have HVV := hide hv.2.2
      rw [hv.1, hv.2.1] at CA
      rw [hv.2.1] at HSTk
      have R : ∀ wx, Kp wr wx → wx.cell? ⟨w.heap.size, 0, none⟩ = some (.slice qa ql qc) ∧ wx.cell? ⟨w.heap.size, 1, none⟩ = some (.int .i64 clock) ∧ wx.cell? ⟨w.heap.size, 2, none⟩ = some (.int .i64 epoch) ∧ wx.cell? ⟨w.heap.size, 3, none⟩ = some (.int .i64 next) ∧ wx.cell? ⟨w.heap.size, 4, none⟩ = some (.int .i64 serial) ∧ wx.cell? ⟨w.heap.size, 5, none⟩ = some (.slice aa al ac) ∧ wx.cell? ⟨w.heap.size, 6, none⟩ = some (.slice ma ml mc) ∧ wx.cell? ⟨w.heap.size, 7, none⟩ = some (.slice ca cl cc) ∧ wx.cell? ⟨w2.heap.size, 0, none⟩ = some (.int .i64 tx) ∧ wx.cell? ⟨w2.heap.size, 1, none⟩ = some (.int .i64 ty) := fun wx h =>
        ⟨h.cell q0, h.cell q1, h.cell q2, h.cell q3, h.cell q4, h.cell q5, h.cell q6, h.cell q7, h.cell t0, h.cell t1⟩
      have A0 := hide (Kp.new wr)
      have HS := hide (kp_holds wr)
      have hwr := (unhide HVr).lt
      clear hc0 hkl hs hu hm hv hst
      go_wp2_with fail
      go_cut [11, 12] from 26 to 37 (fun v7 v8 wx => ∃ g, v7 = .pointer (some ⟨g, 0, none⟩) ∧ v8 = .bool ok ∧ Kp wr wx ∧ Var wx 33 g x' y')
      case first =>
        go_region_held3 (fun wx => Kp wr wx)
          (first | (with_reducible assumption) | exact unhide SA | exact (unhide HS).drew (unhide A0) | exact (unhide HS).al (unhide SA) _ | exact (unhide HS).al (by assumption) _ | exact (unhide HS).al ((unhide HS).drew (unhide A0)) _ | exact (unhide HS).call (by assumption) (by assumption) | exact (unhide HS).set2 (unhide SA) _ _ _ (by first | omega | (simp <;> omega)) | exact (unhide HS).set2 (by assumption) _ _ _ (by first | omega | (simp <;> omega)))
          (first
          | (go_at_call 18; refine (unhide CUk _ ?_).mono ?_; (exact below_on (unhide HBr) ((unhide HS).below (by assumption))); rintro e wt ⟨rfl, hb⟩; have SA := hide ((unhide HS).call (by assumption) hb); have sz := (unhide HS).size (unhide SA)
             first
               | (have V5 := (var_new _ 33 0 0).below hb; (try simp at V5); have c50 := V5.c0; have c51 := V5.c1; have f50 := V5.f 0; have f51 := V5.f 1; have V5 := hide V5)
               | (have V5 := (var_new _ 33 0 0).drew.below hb; (try simp at V5); have c50 := V5.c0; have c51 := V5.c1; have f50 := V5.f 0; have f51 := V5.f 1; have V5 := hide V5)
               | (have V5 := hide ((unhide V5).below hb); have c50 := (unhide V5).c0; have c51 := (unhide V5).c1; have f50 := (unhide V5).f 0; have f51 := (unhide V5).f 1)
               | skip)
          | (go_at_call 99; refine (unhide CMk _ ?_).mono ?_; (exact below_on (unhide HBr) ((unhide HS).below (by assumption))); rintro e wt ⟨rfl, hb⟩; have SA := hide ((unhide HS).call (by assumption) hb); have sz := (unhide HS).size (unhide SA)
             first
               | (have V5 := (var_new _ 33 0 0).below hb; (try simp at V5); have c50 := V5.c0; have c51 := V5.c1; have f50 := V5.f 0; have f51 := V5.f 1; have V5 := hide V5)
               | (have V5 := (var_new _ 33 0 0).drew.below hb; (try simp at V5); have c50 := V5.c0; have c51 := V5.c1; have f50 := V5.f 0; have f51 := V5.f 1; have V5 := hide V5)
               | (have V5 := hide ((unhide V5).below hb); have c50 := (unhide V5).c0; have c51 := (unhide V5).c1; have f50 := (unhide V5).f 0; have f51 := (unhide V5).f 1)
               | skip)
          | (go_at_call 36; refine (unhide CA _).mono ?_; rintro e wt ⟨rfl, hb⟩; have SA := hide ((unhide HS).call (by assumption) hb); have sz := (unhide HS).size (unhide SA)
             first
               | (have V5 := (var_new _ 33 0 0).below hb; (try simp at V5); have c50 := V5.c0; have c51 := V5.c1; have f50 := V5.f 0; have f51 := V5.f 1; have V5 := hide V5)
               | (have V5 := (var_new _ 33 0 0).drew.below hb; (try simp at V5); have c50 := V5.c0; have c51 := V5.c1; have f50 := V5.f 0; have f51 := V5.f 1; have V5 := hide V5)
               | (have V5 := hide ((unhide V5).below hb); have c50 := (unhide V5).c0; have c51 := (unhide V5).c1; have f50 := (unhide V5).f 0; have f51 := (unhide V5).f 1)
               | skip))
        all_goals
          go_wp2_with fail
          go_meet
          exact ⟨_, rfl, rfl, by first | assumption | exact unhide SA | exact (unhide HS).al (unhide SA) _, by first | exact var_new _ _ _ _ | exact (unhide V5).set _ _⟩
      case rest =>
        obtain ⟨g, rfl, rfl, hA, hV⟩ := hcut
        obtain ⟨w4, rfl⟩ : ∃ w4, w4 = wc := ⟨wc, rfl⟩
        have HK4 := hide (show Kp W2 w4 from below_on (unhide HK) hA)
        have HB4 := hide (below_on (unhide HBr) hA)
        have V4 := hide ((unhide HVr).below hA)
        have VR4 := hide ((unhide V2).below (unhide HK4))
        have s0 := hV.c0
        have s1 := hV.c1
        have l0 := (unhide V4).c0
        have l1 := (unhide V4).c1
        have lf0 := (unhide V4).f 0
        have lf1 := (unhide V4).f 1
        clear hA hV A0 HS R CA CUk CMk q0 q1 q2 q3 q4 q5 q6 q7 t0 t1 c0
        cases ok with
        | true =>
          obtain ⟨rfl, rfl⟩ := unhide HVV rfl
          rw [if_pos rfl] at HSTk
          have hm0 := min_run a (mx + -1 * ux)
          have hm1 := min_run b (my + -1 * uy)
          obtain ⟨sx, hsx⟩ : ∃ t, mx + -1 * ux = t := ⟨_, rfl⟩
          obtain ⟨sy, hsy⟩ : ∃ t, my + -1 * uy = t := ⟨_, rfl⟩
          rw [hsx] at s0 hm0 HSTk
          rw [hsy] at s1 hm1 HSTk
          clear hsx hsy HVV
          obtain ⟨na, hna⟩ : ∃ t, min a sx = t := ⟨_, rfl⟩
          obtain ⟨nb, hnb⟩ : ∃ t, min b sy = t := ⟨_, rfl⟩
          rw [hna] at hm0 HSTk
          rw [hnb] at hm1 HSTk
          clear hna hnb
          go_wp2
          go_roundw
          case rel => exact ⟨k + 1, na, nb, by omega, by go_num, hide (unhide HSTk).symm, hide ((unhide V4).set _ _), hide (below_sc (below_sc (unhide HK4) _ _ _ (Nat.le_refl _)) _ _ _ (Nat.le_refl _))⟩
          case measure => simp [intOf]; omega
        | false =>
          rw [if_neg (by simp)] at HSTk
          have hz := unhide HSTk
          simp only [Prod.mk.injEq] at hz
          obtain ⟨rfl, rfl, rfl⟩ := hz
          have u0 := (unhide VR4).c0
          have u1 := (unhide VR4).c1
          have uf0 := (unhide VR4).f 0
          have uf1 := (unhide VR4).f 1
          have k4 := (unhide VR4).s0 (.int .i64 0)
          have k5 := (unhide VR4).s1 (.int .i64 0) (.int .i64 0)
          clear HVV l0 l1 lf0 lf1 s0 s1
          go_wp2
          refine bodyPost_ret (v := .tuple #[rv 0 0, .bool false]) (by simp [results, Tryz.results56, go_sem, k4, k5]) rfl ⟨rfl, ?_⟩
          repeat (first | exact unhide HB4 | refine below_al ?_ _ | refine below_sc ?_ _ _ _ (by omega))
    · have hz := unhide HEN k (by have := unhide HN; omega) a b
      rw [unhide HQ] at hz
      simp only [Prod.mk.injEq] at hz
      obtain ⟨rfl, rfl, rfl⟩ := hz
      have VR4 := hide ((unhide V2).below (unhide HK))
      have l0 := (unhide HVr).c0
      have l1 := (unhide HVr).c1
      have u0 := (unhide VR4).c0
      have u1 := (unhide VR4).c1
      have uf0 := (unhide VR4).f 0
      have uf1 := (unhide VR4).f 1
      have k4 := (unhide VR4).s0 (.int .i64 zx)
      have k5 := (unhide VR4).s1 (.int .i64 zx) (.int .i64 zy)
      clear q0 q1 q2 q3 q4 q5 q6 q7 t0 t1
      go_wp2
      refine bodyPost_ret (v := .tuple #[rv zx zy, .bool (decide (0 < n))]) (by simp [results, Tryz.results56, go_sem, k4, k5]) rfl ⟨by simp [unhide HN], ?_⟩
      repeat (first | exact unhide HBr | refine below_al ?_ _ | refine below_sc ?_ _ _ _ (by omega))
end Go.Proofs.YtcplnodfcchdhaaGreat

/-
  What the program's Room answers; a walk over the dump.
-/
namespace Go.Proofs.YtcplnodfcchdhaaGreat
open Go.RowKit Go.Maps
set_option linter.unusedVariables false
set_option maxRecDepth 100000 in
set_option maxHeartbeats 4000000 in
theorem implRoom_any (x : Sls) (s : St) (nm : List UInt8) (rx ry : Int) (w : World) (h : SRow w x s) (hf : FitSt s) (hc : x.ql ≤ x.qc) (hw : WfSt s) :
    Calls Tryz.prog 20 #[sv x s, .string (bs nm), rv rx ry] w fun e w' => e = .returned (.bool (roomV s nm rx ry)) ∧ Below w.heap.size w w' := by
  have CL := hide (fun wx (hb : Below w.heap.size w wx) => roomLeft_any x s nm wx (h.below hb) hf hc hw)
  have HE := hide (room_eq s nm rx ry)
  obtain ⟨o, ho⟩ : ∃ o, roomV s nm rx ry = o := ⟨_, rfl⟩
  rw [ho] at HE ⊢
  obtain ⟨⟨zx, zy, zo⟩, hz⟩ : ∃ z, leftFrom s (path s.qs nm) 1000000000 1000000000 = z := ⟨_, rfl⟩
  rw [hz] at CL HE
  simp only at CL HE
  obtain ⟨ok, hok⟩ : ∃ k, (zo && decide (0 < (path s.qs nm).length)) = k := ⟨_, rfl⟩
  rw [hok] at CL HE
  clear ho hz hok h hf hc hw
  obtain ⟨qa, ql, qc, aa, al, ac, ma, ml, mc, ca, cl, cc⟩ := x
  obtain ⟨qs, clock, epoch, next, serial, apps, ms, cs⟩ := s
  have HB0 := hide (roomW_below w (svc ⟨qa, ql, qc, aa, al, ac, ma, ml, mc, ca, cl, cc⟩ ⟨qs, clock, epoch, next, serial, apps, ms, cs⟩) rx ry)
  have V0 := hide (roomW_var w (svc ⟨qa, ql, qc, aa, al, ac, ma, ml, mc, ca, cl, cc⟩ ⟨qs, clock, epoch, next, serial, apps, ms, cs⟩) rx ry)
  go_enter Tryz.func20, Tryz.ntmps20
  go_wp2_with fail
  refine (unhide CL _ (unhide HB0)).mono ?_
  rintro e w1 ⟨rfl, hb⟩
  have HB1 := hide (below_al (below_on (unhide HB0) hb) (.cells #[.int .i64 zx, .int .i64 zy] 33))
  have V1 := ((unhide V0).below hb).al (.cells #[.int .i64 zx, .int .i64 zy] 33)
  have r0 := V1.c0
  have r1 := V1.c1
  clear hb HB0 V0 CL V1
  cases ok with
  | false =>
    obtain rfl : o = false := by rw [unhide HE]; rfl
    go_wp2
    go_ret
    refine ⟨rfl, ?_⟩
    repeat (first | exact unhide HB1 | refine Below.drew ?_)
  | true =>
    have CW := hide (fun wx => by have := implWithin_any rx ry zx zy wx; rw [show within rx ry zx zy = o by rw [unhide HE]; rfl] at this; exact this)
    clear HE
    go_wp2_with fail
    refine (unhide CW _).mono ?_
    rintro e w2 ⟨rfl, hb⟩
    have HB2 := hide (below_on (unhide HB1) hb)
    clear hb r0 r1 HB1
    go_wp2
    go_ret
    refine ⟨rfl, ?_⟩
    repeat (first | exact unhide HB2 | refine Below.drew ?_)
end Go.Proofs.YtcplnodfcchdhaaGreat
