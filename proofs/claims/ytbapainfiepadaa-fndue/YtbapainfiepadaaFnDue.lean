/-
  The law FnDue answers true at every slice of bytes, and leaves it as it was: what is due to a queue is what the model says, no more than what it may have at most, and its kids are due together no more than it; no condition.
-/
import Derived.Test.YtbapainfiepadaaRows
import Derived.Test.YtbapainfiepadaaDueM
import Derived.Test.YtbapainfiepadaaOfQI
import Derived.Test.YtbapainfiepadaaOfS
import Derived.Test.YtbapainfiepadaaAddI
import Derived.Test.YtbapainfiepadaaWithinI
import Derived.Test.YtbapainfiepadaaCode
import Derived.Test.YtbapainfiepadaaHeldK
import Derived.Test.YtbapainfiepadaaDrawP
import Derived.Test.YtbapainfiepadaaNameD
import Derived.Test.YtbapainfiepadaaPackD
import Derived.WalkKit
import Derived.Deep.CutRange
import Derived.Deep.RegionHeld3
import Derived.Deep.RegionWith
import Derived.Deep.QuietTactic
import Derived.ProofKit
import Derived.OpenShut
import Derived.ShutString
import Derived.ChangeOld
import Derived.Below
namespace Go.Proofs.Ytbapainfiepadaa.fnDue
open Go.ChangeShapes Go.WideShapes Go.ChangeAt Go.RowKit
open Go.ChangeMaps (open_string shut_string)
set_option linter.unusedVariables false

theorem own : ownKnob Try.prog.godebug = none := by kernel_rfl
theorem laidOut : laidOutB Try.prog = true := by kernel_rfl

set_option maxRecDepth 100000 in
set_option maxHeartbeats 8000000 in
theorem walk (a0 : Option Addr) (len0 cap0 : Nat) (z0 : List Int) (w : World) (w0 : IsRow w a0 len0 cap0 z0) :
    Calls Try.prog 3 #[.slice a0 len0 cap0] w fun e w' => e = .returned (.bool true) ∧ Below w.heap.size w w' := by
  have hl := w0.len
  by_cases hbig : len0 ≤ 1048576
  case neg =>
    have hbb : bigB len0 = true := by simp [bigB]; omega
    clear w0
    go_enter Try.func3, Try.ntmps3
    go_wp2_with fail
    refine (big_any _ _ _ _ hl).mono ?_
    rintro e wb ⟨rfl, rfl⟩
    go_wp2
    go_ret
    exact ⟨rfl, Below.refl _ _⟩
  have HK := hide (code_of w0 hbig)
  have hbb : bigB len0 = false := by simp [bigB]; omega
  clear w0
  go_enter Try.func3, Try.ntmps3
  go_wp2_with fail
  refine (big_any _ _ _ _ hl).mono ?_
  rintro e wb ⟨rfl, rfl⟩
  go_wp2_with fail
  refine (drawDueOf_any _ _ _ _ _ (unhide HK)).mono ?_
  rintro e w1 ⟨qb, n, c, ls, nm, a, b, rfl, HA⟩
  obtain ⟨hrow, hnc, hnk, hn3, hbr, hnm, hbel, _⟩ := unhide HA
  have HROW := hide hrow
  have HLN := hide hrow.1
  have hnames : ∀ q ∈ ls, q.name.length ≤ 1048576 := fun q hq => by have := hbr q hq; omega
  have HNM := hide hnames
  have HB1 := hide hbel
  have CDI := hide (fun (x : List UInt8) wx (hb : Kp w1 wx) => implDueOf_any (some ⟨qb, 0, none⟩) n c ls x a b wx ((unhide HROW).below hb) (by omega) (unhide HNM) hnc)
  have CMI := hide (fun (x : List UInt8) wx (hb : Kp w1 wx) => implMostOf_any (some ⟨qb, 0, none⟩) n c ls x a b wx ((unhide HROW).below hb) (by omega) (unhide HNM) hnc)
  have CDS := hide (fun wx (hb : Kp w1 wx) => specDueOf_any (some ⟨qb, 0, none⟩) n c ls nm a b wx ((unhide HROW).below hb) (by omega) (unhide HNM))
  have CMS := hide (fun wx (hb : Kp w1 wx) => specMostOf_any (some ⟨qb, 0, none⟩) n c ls nm a b wx ((unhide HROW).below hb) (by omega) (unhide HNM))
  have CQ := hide (fun wx (hb : Kp w1 wx) => specQueuesOk_any (some ⟨qb, 0, none⟩) n c ls wx ((unhide HROW).below hb) (by omega) (unhide HNM))
  have CP := hide (fun wx (hb : Kp w1 wx) => specPath_any (some ⟨qb, 0, none⟩) n c ls nm wx ((unhide HROW).below hb) (by omega) (unhide HNM))
  obtain ⟨⟨d1, d2⟩, hd⟩ : ∃ d, ofR ls nm a b false = d := ⟨_, rfl⟩
  obtain ⟨⟨m1, m2⟩, hm⟩ : ∃ d, ofR ls nm a b true = d := ⟨_, rfl⟩
  have CDn := hide (fun wx hb => by have := unhide CDI nm wx hb; rw [hd] at this; exact this)
  have CMn := hide (fun wx hb => by have := unhide CMI nm wx hb; rw [hm] at this; exact this)
  rw [hd] at CDS
  rw [hm] at CMS
  have HD := hide hd
  have HM := hide hm
  clear hrow hbr hnames hbel hd hm hnm HA HK
  simp only at CDn CMn CDS CMS
  have HK1 := hide (show Kp w1 (w1.alloc (.cells #[.int .i64 a, .int .i64 b] 26)) from below_al (Below.refl _ _) _)
  have U1 := hide (var_new w1 26 a b)
  go_wp2_with fail
  refine (unhide CDn _ (unhide HK1)).mono ?_
  rintro e w2 ⟨rfl, hb⟩
  have HK2 := hide (show Kp w1 (w2.alloc (.cells #[.int .i64 d1, .int .i64 d2] 26)) from below_al (below_on (unhide HK1) hb) _)
  have U2 := hide (((unhide U1).below hb).al (.cells #[.int .i64 d1, .int .i64 d2] 26))
  have D2 := hide (var_new w2 26 d1 d2)
  have u0 := (unhide U2).c0
  have u1 := (unhide U2).c1
  clear hb HK1 U1 CDn
  go_wp2_with fail
  refine (unhide CMn _ (unhide HK2)).mono ?_
  rintro e w3 ⟨rfl, hb⟩
  have HK3 := hide (show Kp w1 (w3.alloc (.cells #[.int .i64 m1, .int .i64 m2] 26)) from below_al (below_on (unhide HK2) hb) _)
  have U3 := hide (((unhide U2).below hb).al (.cells #[.int .i64 m1, .int .i64 m2] 26))
  have D3 := hide (((unhide D2).below hb).al (.cells #[.int .i64 m1, .int .i64 m2] 26))
  have M3 := hide (var_new w3 26 m1 m2)
  clear hb HK2 U2 D2 CMn u0 u1
  have R : ∀ wx, Kp (w3.alloc (.cells #[.int .i64 m1, .int .i64 m2] 26)) wx → wx.cell? ⟨w1.heap.size, 0, none⟩ = some (.int .i64 a) ∧ wx.cell? ⟨w1.heap.size, 1, none⟩ = some (.int .i64 b) ∧ wx.cell? ⟨w2.heap.size, 0, none⟩ = some (.int .i64 d1) ∧ wx.cell? ⟨w2.heap.size, 1, none⟩ = some (.int .i64 d2) ∧ wx.cell? ⟨w3.heap.size, 0, none⟩ = some (.int .i64 m1) ∧ wx.cell? ⟨w3.heap.size, 1, none⟩ = some (.int .i64 m2) := fun wx h =>
    ⟨h.cell (unhide U3).c0, h.cell (unhide U3).c1, h.cell (unhide D3).c0, h.cell (unhide D3).c1, h.cell (unhide M3).c0, h.cell (unhide M3).c1⟩
  obtain ⟨W3, hW3⟩ : ∃ W, w3.alloc (.cells #[.int .i64 m1, .int .i64 m2] 26) = W := ⟨_, rfl⟩
  go_wp2_with fail
  rw [hW3] at HK3 U3 D3 M3 R
  first | (rw [hW3]) | skip
  clear hW3
  have A0 := hide (Kp.new W3)
  have HS := hide (kp_holds W3)
  go_cut [41] from 28 to 40 (fun v41 wx => v41 = .bool false ∧ Kp W3 wx)
  case first =>
    go_region_held3 (fun wx => Kp W3 wx)
      (first | (with_reducible assumption) | exact unhide SA | exact (unhide HS).drew (unhide A0) | exact (unhide HS).call (by assumption) (by assumption))
      (first
      | (go_at_call 13; refine (unhide CDS _ ?_).mono ?_; (exact below_on (unhide HK3) ((unhide HS).below (by assumption))); rintro e wt ⟨rfl, hb⟩; have SA := hide ((unhide HS).call (by assumption) hb))
      | (go_at_call 14; refine (unhide CMS _ ?_).mono ?_; (exact below_on (unhide HK3) ((unhide HS).below (by assumption))); rintro e wt2 ⟨rfl, hb⟩; have SA := hide ((unhide HS).call (by assumption) hb)))
    all_goals
      go_wp2_with fail
      go_meet
      exact ⟨rfl, by first | assumption | exact unhide SA⟩
  case rest =>
    obtain ⟨rfl, hA⟩ := hcut
    obtain ⟨w4, rfl⟩ : ∃ w4, w4 = wc := ⟨wc, rfl⟩
    have HK4 := hide (show Kp w1 w4 from below_on (unhide HK3) hA)
    have U4 := hide ((unhide U3).below hA)
    have D4 := hide ((unhide D3).below hA)
    have M4 := hide ((unhide M3).below hA)
    clear hA A0 HS R HK3 U3 D3 M3 CDS CMS
    have CZ := hide (fun wx => specResOk_bel a b wx)
    obtain ⟨o, ho⟩ : ∃ o, queuesOk ls = o := ⟨_, rfl⟩
    obtain ⟨r, hr⟩ : ∃ r, resOk a b = r := ⟨_, rfl⟩
    rw [ho] at CQ
    rw [hr] at CZ
    have HO := hide ho
    have HRR := hide hr
    clear ho hr
    go_wp2_with fail
    refine (unhide CQ _ (unhide HK4)).mono ?_
    rintro e w5 ⟨rfl, hb⟩
    have HK5 := hide (show Kp w1 w5 from below_on (unhide HK4) hb)
    have U5 := hide ((unhide U4).below hb)
    have D5 := hide ((unhide D4).below hb)
    have M5 := hide ((unhide M4).below hb)
    clear hb HK4 U4 D4 M4 CQ
    have u0 := (unhide U5).c0
    have u1 := (unhide U5).c1
    cases o with
    | false =>
      have z1 := (unhide HD).symm.trans (ofR_none1 (unhide HO) nm a b false)
      have z2 := (unhide HM).symm.trans (ofR_none1 (unhide HO) nm a b true)
      simp only [Prod.mk.injEq] at z1 z2
      obtain ⟨rfl, rfl⟩ := z1
      obtain ⟨rfl, rfl⟩ := z2
      have e0 := (unhide D5).c0
      have e1 := (unhide D5).c1
      have f0 := (unhide M5).c0
      have f1 := (unhide M5).c1
      go_wp2
      go_ret
      refine ⟨rfl, ?_⟩
      repeat (first | exact below_on (unhide HB1) (unhide HK5) | refine below_al ?_ _ | refine Below.drew ?_)
    | true =>
      go_wp2_with fail
      refine (unhide CZ _).mono ?_
      rintro e w6 ⟨rfl, hb⟩
      have HK6 := hide (show Kp w1 w6 from below_on (unhide HK5) hb)
      have U6 := hide ((unhide U5).below hb)
      have D6 := hide ((unhide D5).below hb)
      have M6 := hide ((unhide M5).below hb)
      clear hb HK5 U5 D5 M5 CZ u0 u1
      cases r with
      | false =>
        have z1 := (unhide HD).symm.trans (ofR_none3 ls nm (unhide HRR) false)
        have z2 := (unhide HM).symm.trans (ofR_none3 ls nm (unhide HRR) true)
        simp only [Prod.mk.injEq] at z1 z2
        obtain ⟨rfl, rfl⟩ := z1
        obtain ⟨rfl, rfl⟩ := z2
        have e0 := (unhide D6).c0
        have e1 := (unhide D6).c1
        have f0 := (unhide M6).c0
        have f1 := (unhide M6).c1
        go_wp2
        go_ret
        refine ⟨rfl, ?_⟩
        repeat (first | exact below_on (unhide HB1) (unhide HK6) | refine below_al ?_ _ | refine Below.drew ?_)
      | true =>
        go_wp2_with fail
        refine (unhide CP _ (unhide HK6)).mono ?_
        rintro e w7 ⟨v, rfl, htx, hb⟩
        have HK7 := hide (show Kp w1 w7 from below_on (unhide HK6) hb)
        have U7 := hide ((unhide U6).below hb)
        have D7 := hide ((unhide D6).below hb)
        have M7 := hide ((unhide M6).below hb)
        clear hb HK6 U6 D6 M6 CP
        by_cases hpe : path ls nm = []
        · rw [hpe] at htx
          obtain ⟨po, pc, rfl⟩ := texts_none htx
          have z1 := (unhide HD).symm.trans (ofR_nopath hpe a b false)
          have z2 := (unhide HM).symm.trans (ofR_nopath hpe a b true)
          simp only [Prod.mk.injEq] at z1 z2
          obtain ⟨rfl, rfl⟩ := z1
          obtain ⟨rfl, rfl⟩ := z2
          have e0 := (unhide D7).c0
          have e1 := (unhide D7).c1
          have f0 := (unhide M7).c0
          have f1 := (unhide M7).c1
          clear htx hpe
          go_wp2
          go_ret
          refine ⟨rfl, ?_⟩
          repeat (first | exact below_on (unhide HB1) (unhide HK7) | refine below_al ?_ _ | refine Below.drew ?_)
        · obtain ⟨pg, pc, rfl, _, _⟩ := texts_some htx hpe
          have HP := hide (path_place hpe)
          have hpl : ((path ls nm).length : Int) ≠ 0 := by have := List.length_pos_iff.2 hpe; omega
          obtain ⟨pn, hpn⟩ : ∃ n, (path ls nm).length = n := ⟨_, rfl⟩
          rw [hpn] at hpl ⊢
          have hpl2 : ((pn : Int) == 0) = false := by simpa using hpl
          have HSB := hide (sum_start ls nm d1 d2)
          have HK8 := hide (show Kp w7 (w7.alloc (.cells #[.int .i64 0, .int .i64 0] 26)) from below_al (Below.refl _ _) _)
          have S8 := hide (var_new w7 26 0 0)
          clear htx hpe hpn hpl
          go_wp2
          go_loopw [9] (fun i wr => ∃ (k : Nat) (s1 s2 : Int), (1 ≤ k ∧ k ≤ n) ∧ i = .int .i64 k ∧ Hid (SumInv d1 d2 (kidsSum ls nm - dueSum nm (ls.drop k)) s1 s2 ∧ 0 ≤ kidsSum ls nm - dueSum nm (ls.drop k)) ∧ Hid (Var wr 26 w7.heap.size s1 s2) ∧ Hid (Kp w7 wr)) (fun i _ => n - (intOf i).toNat)
          case atStart => exact ⟨1, 0, 0, by omega, rfl, HSB, S8, HK8⟩
          case round =>
            obtain ⟨k, s1, s2, ⟨hk1, hk⟩, rfl, HI, HVr, HKr⟩ := hrel
            clear HSB HK8 S8
            have HKw := hide (show Kp w1 wr from below_on (unhide HK7) (unhide HKr))
            have U8 := hide ((unhide U7).below (unhide HKr))
            have D8 := hide ((unhide D7).below (unhide HKr))
            have M8 := hide ((unhide M7).below (unhide HKr))
            by_cases hlt : k < n
            · have hkl : k < ls.length := by have := unhide HLN; omega
              obtain ⟨b', off', e', hat⟩ := ((unhide HROW).below (unhide HKw)).at hlt
              cases e'
              have c0 := (hat hkl).1
              have c1 := (hat hkl).2.1
              simp only [Nat.zero_add] at c0 c1
              have k0 : (0 : Int) ≤ k := by omega
              have k1 : (k : Int) < n := by omega
              have HST := hide (fun hpar : ls[k].parent = nm => kid_step (unhide HO) (unhide HP) (unhide HRR) (unhide HD) (unhide HM) hkl hpar (unhide HI).2 (unhide HI).1)
              have HSK := hide (fun hpar : ¬ ls[k].parent = nm => kid_skip (nm := nm) hkl hpar)
              obtain ⟨⟨qn, qp, qd, qm⟩, hqk⟩ : ∃ q, ls[k] = q := ⟨_, rfl⟩
              rw [hqk] at c0 c1 HST HSK
              simp only at c0 c1 HST HSK
              have hbe := bs_eq qp nm
              clear hat hqk hkl
              by_cases hpar : qp = nm
              · rw [decide_eq_true hpar] at hbe
                obtain ⟨e1, e2, n1, n2, he, hn, hbo, hwi, hsi⟩ := unhide HST hpar
                have HSI := hide hsi
                have CDk := hide (fun wx hb => by have := unhide CDI qn wx hb; rw [he] at this; exact this)
                have CMk := hide (fun wx hb => by have := unhide CMI qn wx hb; rw [hn] at this; exact this)
                simp only at CDk CMk
                have CA := hide (fun wx => by have := implAdd_any s1 s2 e1 e2 wx; rw [both_yes hbo, hbo] at this; exact this)
                have CW := hide (fun wx => by have := implWithin_any n1 n2 m1 m2 wx; rw [hwi] at this; exact this)
                obtain ⟨t1, ht1⟩ : ∃ t, s1 + 1 * e1 = t := ⟨_, rfl⟩
                obtain ⟨t2, ht2⟩ : ∃ t, s2 + 1 * e2 = t := ⟨_, rfl⟩
                rw [ht1] at CA HSI
                rw [ht2] at CA HSI
                have R : ∀ wx, Kp wr wx → wx.cell? ⟨w1.heap.size, 0, none⟩ = some (.int .i64 a) ∧ wx.cell? ⟨w1.heap.size, 1, none⟩ = some (.int .i64 b) ∧ wx.cell? ⟨w7.heap.size, 0, none⟩ = some (.int .i64 s1) ∧ wx.cell? ⟨w7.heap.size, 1, none⟩ = some (.int .i64 s2) ∧ wx.cell? ⟨qb, k * 4, none⟩ = some (.string (bs qn)) := fun wx h =>
                  ⟨h.cell (unhide U8).c0, h.cell (unhide U8).c1, h.cell (unhide HVr).c0, h.cell (unhide HVr).c1, h.cell c0⟩
                have A0 := hide (Kp.new wr)
                have HS := hide (kp_holds wr)
                have hwr := (unhide HVr).lt
                have hw71 : w1.heap.size ≤ w7.heap.size := (unhide HK7).size
                clear he hn hbo hwi hsi ht1 ht2 HST HSK hpar
                go_wp2_with fail
                go_cut [10, 11] from 79 to 91 (fun v7 v8 wx => ∃ g, v7 = .pointer (some ⟨g, 0, none⟩) ∧ v8 = .bool true ∧ Kp wr wx ∧ Var wx 26 g t1 t2)
                case first =>
                  go_region_held3 (fun wx => Kp wr wx)
                    (first | (with_reducible assumption) | exact unhide SA | exact (unhide HS).drew (unhide A0) | exact (unhide HS).al (unhide SA) _ | exact (unhide HS).al (by assumption) _ | exact (unhide HS).al ((unhide HS).drew (unhide A0)) _ | exact (unhide HS).call (by assumption) (by assumption) | exact (unhide HS).set2 (unhide SA) _ _ _ (by first | omega | (simp <;> omega)) | exact (unhide HS).set2 (by assumption) _ _ _ (by first | omega | (simp <;> omega)))
                    (first
                    | (go_at_call 11; refine (unhide CDk _ ?_).mono ?_; (exact below_on (unhide HKw) ((unhide HS).below (by assumption))); rintro e wt ⟨rfl, hb⟩; have SA := hide ((unhide HS).call (by assumption) hb); have sz := (unhide HS).size (unhide SA)
                       first
                         | (have V5 := (var_new _ 26 0 0).below hb; (try simp at V5); have c50 := V5.c0; have c51 := V5.c1; have f50 := V5.f 0; have f51 := V5.f 1; have V5 := hide V5)
                         | (have V5 := (var_new _ 26 0 0).drew.below hb; (try simp at V5); have c50 := V5.c0; have c51 := V5.c1; have f50 := V5.f 0; have f51 := V5.f 1; have V5 := hide V5)
                         | skip)
                    | (go_at_call 18; refine (unhide CA _).mono ?_; rintro e wt ⟨rfl, hb⟩; have SA := hide ((unhide HS).call (by assumption) hb); have sz := (unhide HS).size (unhide SA)
                       first
                         | (have V5 := (var_new _ 26 0 0).below hb; (try simp at V5); have c50 := V5.c0; have c51 := V5.c1; have f50 := V5.f 0; have f51 := V5.f 1; have V5 := hide V5)
                         | (have V5 := (var_new _ 26 0 0).drew.below hb; (try simp at V5); have c50 := V5.c0; have c51 := V5.c1; have f50 := V5.f 0; have f51 := V5.f 1; have V5 := hide V5)
                         | (have V5 := hide ((unhide V5).below hb); have c50 := (unhide V5).c0; have c51 := (unhide V5).c1; have f50 := (unhide V5).f 0; have f51 := (unhide V5).f 1)
                         | skip))
                  all_goals
                    go_wp2_with fail
                    go_meet
                    exact ⟨_, rfl, rfl, by first | assumption | exact unhide SA | exact (unhide HS).al (unhide SA) _, by first | exact var_new _ _ _ _ | exact (unhide V5).set _ _⟩
                case rest =>
                  obtain ⟨g, rfl, rfl, hA, hV⟩ := hcut
                  obtain ⟨w9, rfl⟩ : ∃ w9, w9 = wc := ⟨wc, rfl⟩
                  have HK9 := hide (show Kp w7 w9 from below_on (unhide HKr) hA)
                  have HKw9 := hide (show Kp w1 w9 from below_on (unhide HKw) hA)
                  have V9 := hide ((unhide HVr).below hA)
                  have X9 := hide hV
                  have R2 : ∀ wx, Kp w9 wx → wx.cell? ⟨w1.heap.size, 0, none⟩ = some (.int .i64 a) ∧ wx.cell? ⟨w1.heap.size, 1, none⟩ = some (.int .i64 b) ∧ wx.cell? ⟨w3.heap.size, 0, none⟩ = some (.int .i64 m1) ∧ wx.cell? ⟨w3.heap.size, 1, none⟩ = some (.int .i64 m2) ∧ wx.cell? ⟨qb, k * 4, none⟩ = some (.string (bs qn)) := fun wx h =>
                    ⟨h.cell (((unhide U8).below hA).c0), h.cell (((unhide U8).below hA).c1), h.cell (((unhide M8).below hA).c0), h.cell (((unhide M8).below hA).c1), h.cell (hA.cell c0)⟩
                  clear hA hV R A0 HS CA CDk c0 c1 HVr HKw U8 D8 M8
                  have A0 := hide (Kp.new w9)
                  have HS := hide (kp_holds w9)
                  go_wp2_with fail
                  go_cut [106] from 92 to 105 (fun v106 wx => v106 = .bool false ∧ Kp w9 wx)
                  case first =>
                    go_region_held3 (fun wx => Kp w9 wx)
                      (first | (with_reducible assumption) | exact unhide SA | exact (unhide HS).drew (unhide A0) | exact (unhide HS).call (by assumption) (by assumption))
                      (first
                      | (go_at_call 12; refine (unhide CMk _ ?_).mono ?_; (exact below_on (unhide HKw9) ((unhide HS).below (by assumption))); rintro e wt ⟨rfl, hb⟩; have SA := hide ((unhide HS).call (by assumption) hb))
                      | (go_at_call 19; refine (unhide CW _).mono ?_; rintro e wt2 ⟨rfl, hb⟩; have SA := hide ((unhide HS).call (by assumption) hb)))
                    all_goals
                      go_wp2_with fail
                      go_meet
                      exact ⟨rfl, by first | assumption | exact unhide SA⟩
                  case rest =>
                    obtain ⟨rfl, hA⟩ := hcut
                    have XA := (unhide X9).below hA
                    have VA := (unhide V9).below hA
                    have x0 := XA.c0
                    have x1 := XA.c1
                    have y0 := VA.c0
                    have y1 := VA.c1
                    have yf0 := VA.f 0
                    have yf1 := VA.f 1
                    have HVN := hide (VA.set t1 t2)
                    have HKN := hide (show Kp w7 wc from below_on (unhide HK9) hA)
                    clear hA XA VA A0 HS R2 CMk CW X9 V9 HK9 HKw9
                    go_wp2
                    go_roundw
                    case rel => exact ⟨k + 1, t1, t2, by omega, by go_num, HSI, HVN, hide (below_sc (below_sc (unhide HKN) _ _ _ (Nat.le_refl _)) _ _ _ (Nat.le_refl _))⟩
                    case measure => simp [intOf]; omega
              · rw [decide_eq_false hpar] at hbe
                have HIN := hide (show SumInv d1 d2 (kidsSum ls nm - dueSum nm (ls.drop (k + 1))) s1 s2 ∧ 0 ≤ kidsSum ls nm - dueSum nm (ls.drop (k + 1)) by rw [← unhide HSK hpar]; exact unhide HI)
                clear hpar HST HSK
                go_wp2
                go_roundw
                case rel => exact ⟨k + 1, s1, s2, by omega, by go_num, HIN, HVr, HKr⟩
                case measure => simp [intOf]; omega
            · have hwe := due_end (unhide HO) (unhide HP) (unhide HRR) (unhide HD) (unhide HI).2 (unhide HI).1
              have hdm := due_most (a := a) (b := b) (unhide HO) (unhide HP) (unhide HRR)
              rw [unhide HD, unhide HM] at hdm
              simp only at hdm
              have CW1 := hide (fun wx => by have := implWithin_any d1 d2 m1 m2 wx; rw [hdm.2.1] at this; exact this)
              have CW2 := hide (fun wx => by have := implWithin_any m1 m2 a b wx; rw [hdm.2.2] at this; exact this)
              have CW3 := hide (fun wx => by have := implWithin_any s1 s2 d1 d2 wx; rw [hwe] at this; exact this)
              have e0 := (unhide D8).c0
              have e1 := (unhide D8).c1
              have f0 := (unhide M8).c0
              have f1 := (unhide M8).c1
              clear hwe hdm
              go_wp2_with fail
              refine (unhide CW1 _).mono ?_
              rintro e wa ⟨rfl, hb⟩
              have Ma := hide ((unhide M8).below hb)
              have Ua := hide ((unhide U8).below hb)
              have Da := hide ((unhide D8).below hb)
              have Va := hide ((unhide HVr).below hb)
              have HBa := hide (below_on (below_on (unhide HB1) (unhide HKw)) hb)
              have p0 := (unhide Ma).c0
              have p1 := (unhide Ma).c1
              have p2 := (unhide Ua).c0
              have p3 := (unhide Ua).c1
              clear hb e0 e1 f0 f1 M8 U8 D8 HVr CW1
              go_wp2_with fail
              refine (unhide CW2 _).mono ?_
              rintro e wb ⟨rfl, hb⟩
              have Db := (unhide Da).below hb
              have Vb := (unhide Va).below hb
              have HBb := hide (below_on (unhide HBa) hb)
              have r0 := Db.c0
              have r1 := Db.c1
              have r2 := Vb.c0
              have r3 := Vb.c1
              clear hb p0 p1 p2 p3 Db Vb Ma Ua Da Va HBa CW2
              go_wp2_with fail
              refine (unhide CW3 _).mono ?_
              rintro e wd ⟨rfl, hb⟩
              have HBd := hide (below_on (unhide HBb) hb)
              clear hb r0 r1 r2 r3
              go_wp2
              go_ret
              refine ⟨rfl, ?_⟩
              repeat (first | exact unhide HBd | refine Below.drew ?_)

set_option maxRecDepth 100000 in
theorem lifted (os : Os) (started : os.Started) (H : Type) (enc : TypeId × Value → H) :
    ReturnsInHanded {} Try.checked os 3 .any (Rows.fnDueSpec.pre6 enc Try.prog Try.f3 Rows.fnDueRow.domain false) (Rows.fnDueSpec.post enc Try.prog Try.f3 false true false false) := by
  refine returnsInHanded_of_change (C := Try.checked) own started (by kernel_rfl) Try.func3
    (ChangeSpec.witness6 (enc := enc) (C := Try.checked) false ⟨#[], #[.slice none 0 0], []⟩ 8 (by kernel_rfl) (by kernel_rfl) (by kernel_rfl) (by kernel_rfl)) ?_
  intro W base args ds gs before hval0 hW hcnd _
  have hval : ∀ (j : Nat) t v, Try.f3.params[j]? = some t → args[j]? = some v → Value.okWide Try.prog W .any base t v := hval0
  have hW' := hW
  obtain ⟨p, q, hA0, hV, rfl, hfz, hnd⟩ := hW
  have hA : DataW.TrodAll enc Try.prog W 0 (fun _ => true) true Try.f3.params.toList args.toList ds p := hA0
  rw [Try.params3] at hA hval
  obtain ⟨v0, vs0, d0, ds0, p0, q0, hargs, rfl, rfl, h0, r0⟩ := trodAll_cons hA
  obtain ⟨rfl, rfl, rfl⟩ := trodAll_nil r0
  obtain rfl : args = #[v0] := by cases args; simp_all
  obtain ⟨rfl, rfl⟩ := trodVars_none hV
  obtain ⟨a0, len0, cap0, rfl⟩ := okWide_slice Try.underlying22 (hval 0 22 v0 rfl rfl)
  have k0 := h0
  have lt0 : ∀ x ∈ p0, x.block < W.heap.size := by obtain ⟨m, hm⟩ := k0; exact DataW.trod_lt m _ _ _ hm
  obtain ⟨z0, w0⟩ : ∃ zs, IsRow W a0 len0 cap0 zs := by
    obtain ⟨fuel, hf⟩ := h0
    rcases open_ints Try.underlying22 Try.underlying5 (by kernel_rfl) hf with ⟨hcs, _⟩ | ⟨x, l, c, zs, hcs, _, hl, hm, hz, _, hcell, hwz⟩
    · simp [Value.cells] at hcs
      obtain ⟨rfl, rfl, rfl⟩ := hcs
      exact ⟨[], .inl ⟨rfl, rfl, rfl, rfl⟩⟩
    · simp [Value.cells] at hcs
      obtain ⟨rfl, rfl, rfl⟩ := hcs
      exact ⟨zs, .inr ⟨_, rfl, hl, hm, by simpa using hz, hcell, hwz⟩⟩
  clear hA0 hval0
  refine (walk a0 len0 cap0 z0 W w0).mono fun e W' ⟨he, bel⟩ => ?_
  subst he
  exact ⟨_, rfl, _, _, _, [], _, [], hW', trodAll_mk1 (shut_bool Try.underlying4 _), (trodAll_cons_mk (Below.trod laidOut (by kernel_rfl) (of_decide_eq_true (by kernel_rfl)) k0 bel lt0) trodAll_mk0), rfl, bel.frame _, fun h => by cases h⟩

theorem over : Rows.fnDueRow.holds Try.pinned (OpenSpec.ofChange Rows.fnDueSpec) :=
  OpenClaim.holds_of_wide 3 Try.f3 rfl rfl rfl rfl rfl rfl rfl ⟨rfl, rfl, rfl, rfl, rfl⟩ rfl rfl rfl rfl rfl (by kernel_rfl) Try.func3 (by kernel_rfl)
    (of_decide_eq_true (by kernel_rfl)) (by unfold Func.isWrapper; first | (rw [if_pos (by decide +kernel)]; kernel_rfl) | (rw [if_neg (by decide +kernel)]; exact ⟨rfl, rfl⟩))
    (fun os started H enc _ => lifted os started H enc)
end Go.Proofs.Ytbapainfiepadaa.fnDue

namespace Go.Proofs.Ytbapainfiepadaa
theorem fnDue_holds : Rows.FnDueSaid := fnDue.over
#print axioms fnDue_holds
end Go.Proofs.Ytbapainfiepadaa
