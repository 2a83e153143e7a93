/-
  Several texts of this claim in one: NxI, NgI, InvR, VarB, RegM, PathS (pack.py put them together); each says in its own remark what is proved.
-/
import Derived.Test.YtfbphoppgmganaaGreatPackM
import Derived.Test.YtfbphoppgmganaaGreatPackO
import Derived.Test.YtfbphoppgmganaaGreatPackK
import Derived.Test.YtfbphoppgmganaaGreatPackN
import Derived.Deep.RegionHeld3
import Derived.Deep.CutRange
import Derived.Test.YtfbphoppgmganaaGreatPackB
import Derived.Test.YtfbphoppgmganaaGreatPackE
import Derived.Test.YtfbphoppgmganaaGreatPackF
/-
  The container that would be given next, by the program: next, NextGrant; walks over the dump.
-/
namespace Go.Proofs.YtfbphoppgmganaaGreat
open Go.RowKit Go.Maps
set_option linter.unusedVariables false
set_option linter.unusedSimpArgs false

set_option maxRecDepth 100000 in
set_option maxHeartbeats 4000000 in
theorem next_any (x : Sls) (s : St) (nd : List UInt8) (w : World) (h : SRow w x s) (hf : FitSt s) (hc : x.ql ≤ x.qc) (hw : WfSt s) (hnd : nd.length ≤ 1048576) :
    Calls Tryz.prog 47 #[sv x s, .string (bs nd)] w fun e w' => e = .returned (.tuple #[rv (atR (nextGV s nd)).1 (atR (nextGV s nd)).2, conv (conOf (nextGV s nd)), .bool (nextGV s nd).isSome]) ∧ Below w.heap.size w w' := by
  have CK := hide (fun wx (hb : Below w.heap.size w wx) => implStateOk_any x s wx (h.below hb) hf hc hw)
  have CH := hide (fun wx (hb : Below w.heap.size w wx) => hasMachine_any x s nd wx (h.below hb) hf hnd)
  have CN := hide (fun (ho : stateOkV s = true) wx (hb : Below w.heap.size w wx) => nextId_any x s wx (h.below hb) hf (ok_asc ho).1 (ok_asc ho).2.1 (ok_asc ho).2.2)
  have CF := hide (fun wx (hb : Below w.heap.size w wx) => firstAsk_any x s nd wx (h.below hb) hf hc hw hnd)
  have HR := hide h.2.1
  have hcl : x.cl = s.cs.length := h.len.2.2.2
  have hcm : x.cl ≤ 1048576 := by have := hf.2.2.2.1; omega
  have HG := hide (show nextGV s nd = if stateOkV s = true then (if ((findM nd s.ms).isSome && (decide (x.cl < 150) && freeIdV s)) = true then (pickV s nd).map fun r => (r, grantC s nd r) else none) else none by rw [nextGV, nextV, mayV, hcl])
  have HP := hide (fun (r : Nat × Nat) (hr : pickV s nd = some r) => pick_at hr)
  have HC := hide (fun (r : Nat × Nat) (h1 : r.1 < s.apps.length) (h2 : r.2 < s.apps[r.1].asks.length) => grantC_at (s := s) (nd := nd) h1 h2)
  have HAL := hide h.2.1.1
  have hal : x.al ≤ 1048576 := h.al hf
  have HFA := hide hf.2.1
  obtain ⟨gv, hgv⟩ : ∃ g, nextGV s nd = g := ⟨_, rfl⟩
  obtain ⟨gc, hgc⟩ : ∃ g, grantC s nd = g := ⟨_, rfl⟩
  obtain ⟨pk, hpk⟩ : ∃ g, pickV s nd = g := ⟨_, rfl⟩
  obtain ⟨so, hso⟩ : ∃ g, stateOkV s = g := ⟨_, rfl⟩
  obtain ⟨hm, hhm⟩ : ∃ g, (findM nd s.ms).isSome = g := ⟨_, rfl⟩
  obtain ⟨fr, hfr⟩ : ∃ g, freeIdV s = g := ⟨_, rfl⟩
  obtain ⟨id, hid⟩ : ∃ g, idV s = g := ⟨_, rfl⟩
  rw [hgv, hso, hhm, hfr, hpk, hgc] at HG
  rw [hgv]
  rw [hso] at CK CN
  rw [hhm] at CH
  rw [hid, hfr] at CN
  rw [hpk] at CF HP
  rw [hgc, hid] at HC
  obtain ⟨⟨pi, pj, pb⟩, hpl⟩ : ∃ g, plR pk = g := ⟨_, rfl⟩
  rw [hpl] at CF
  simp only at CF
  have HPL := hide hpl
  clear hpl
  clear h hf hc hw hgv hgc hpk hso hhm hfr hid hcl
  have hs : (bs nd).size ≤ 281474976710656 := by rw [bs_size]; omega
  obtain ⟨qa, ql, qc, aa, al, ac, ma, ml, mc, ca, cl, cc⟩ := x
  obtain ⟨qs, clock, epoch, next, serial, apps, ms, cs⟩ := s
  simp only at CK CH CN CF HR HG HC HP HAL HFA hal hcm
  have HB0 := hide (below_al (below_al (below_al (Below.refl _ w) (.cells (svc ⟨qa, ql, qc, aa, al, ac, ma, ml, mc, ca, cl, cc⟩ ⟨qs, clock, epoch, next, serial, apps, ms, cs⟩) 40)) (.cells #[.int .i64 0, .int .i64 0] 89)) (.cells #[.int .i64 0, .int .i64 0, .string ByteArray.empty, .int .i64 0, .int .i64 0] 32))
  have P0 := hide (((blk_new w (svc ⟨qa, ql, qc, aa, al, ac, ma, ml, mc, ca, cl, cc⟩ ⟨qs, clock, epoch, next, serial, apps, ms, cs⟩) 40).al (.cells #[.int .i64 0, .int .i64 0] 89)).al (.cells #[.int .i64 0, .int .i64 0, .string ByteArray.empty, .int .i64 0, .int .i64 0] 32))
  have R0 := hide (show Blk _ (w.heap.size + 1) #[.int .i64 0, .int .i64 0] 89 by have := (blk_new (w.alloc (.cells (svc ⟨qa, ql, qc, aa, al, ac, ma, ml, mc, ca, cl, cc⟩ ⟨qs, clock, epoch, next, serial, apps, ms, cs⟩) 40)) #[.int .i64 0, .int .i64 0] 89).al (.cells #[.int .i64 0, .int .i64 0, .string ByteArray.empty, .int .i64 0, .int .i64 0] 32); rw [al_size] at this; exact this)
  have T0 := hide (show Blk _ (w.heap.size + 1 + 1) #[.int .i64 0, .int .i64 0, .string ByteArray.empty, .int .i64 0, .int .i64 0] 32 by have := blk_new ((w.alloc (.cells (svc ⟨qa, ql, qc, aa, al, ac, ma, ml, mc, ca, cl, cc⟩ ⟨qs, clock, epoch, next, serial, apps, ms, cs⟩) 40)).alloc (.cells #[.int .i64 0, .int .i64 0] 89)) #[.int .i64 0, .int .i64 0, .string ByteArray.empty, .int .i64 0, .int .i64 0] 32; rw [al_size, al_size] at this; exact this)
  go_enter Tryz.func47, Tryz.ntmps47
  go_wp2_with fail
  refine (unhide CK _ (unhide HB0)).mono ?_
  rintro e w1 ⟨rfl, hb⟩
  have HB1 := hide (below_on (unhide HB0) hb)
  have P1 := hide ((unhide P0).below hb)
  have R1 := hide ((unhide R0).below hb)
  have T1 := hide ((unhide T0).below hb)
  clear hb HB0 P0 R0 T0 CK
  have q0 := (unhide P1).at 0; have q1 := (unhide P1).at 1; have q2 := (unhide P1).at 2; have q3 := (unhide P1).at 3; have q4 := (unhide P1).at 4; have q5 := (unhide P1).at 5; have q6 := (unhide P1).at 6; have q7 := (unhide P1).at 7
  simp at q0 q1 q2 q3 q4 q5 q6 q7
  cases so
  case false =>
    have HE := hide (show gv = none from by rw [unhide HG]; rfl)
    obtain ⟨k0, k1, k2, k3, k4, k5, k6, k7, k8, k9, k10, k11, k12, k13⟩ := nx_cells (unhide R1) (unhide T1) (by omega) 0 0
    have HX := hide (nx_end (unhide R1) (unhide T1) (by omega) 0 0 0 0 (⟨#[]⟩ : ByteArray) 0 0)
    have HY := hide (nx_below (unhide HB1) (g1 := w.heap.size + 1) (g2 := w.heap.size + 1 + 1) (by omega) (by omega) 0 0 0 0 (⟨#[]⟩ : ByteArray) 0 0)
    go_wp2
    generalize (((((((w1.setCell ⟨w.heap.size + 1, 0, none⟩ (.int .i64 0)).setCell ⟨w.heap.size + 1, 1, none⟩ (.int .i64 0)).setCell ⟨w.heap.size + 1 + 1, 0, none⟩ (.int .i64 0)).setCell ⟨w.heap.size + 1 + 1, 1, none⟩ (.int .i64 0)).setCell ⟨w.heap.size + 1 + 1, 2, none⟩ (.string (⟨#[]⟩ : ByteArray))).setCell ⟨w.heap.size + 1 + 1, 3, none⟩ (.int .i64 0)).setCell ⟨w.heap.size + 1 + 1, 4, none⟩ (.int .i64 0)) = W9 at HX HY ⊢
    have z0 := (unhide HX).1.at 0; have z1 := (unhide HX).1.at 1; have z2 := (unhide HX).2.at 0; have z3 := (unhide HX).2.at 1; have z4 := (unhide HX).2.at 2; have z5 := (unhide HX).2.at 3; have z6 := (unhide HX).2.at 4
    simp at z0 z1 z2 z3 z4 z5 z6
    refine bodyPost_ret (v := .tuple #[rv 0 0, conv ⟨0, 0, [], 0, 0⟩, .bool false]) (by simp [results, Tryz.results47, go_sem, z0, z1, z2, z3, z4, z5, z6]; try rfl) rfl ⟨by rw [unhide HE]; rfl, unhide HY⟩
  case true =>
    go_wp2_with fail
    refine (unhide CH _ (unhide HB1)).mono ?_
    rintro e w2 ⟨rfl, hb⟩
    have HB2 := hide (below_on (unhide HB1) hb)
    have P2 := hide ((unhide P1).below hb)
    have R2 := hide ((unhide R1).below hb)
    have T2 := hide ((unhide T1).below hb)
    clear hb HB1 P1 R1 T1 q0 q1 q2 q3 q4 q5 q6 q7
    clear CH
    have q0 := (unhide P2).at 0; have q1 := (unhide P2).at 1; have q2 := (unhide P2).at 2; have q3 := (unhide P2).at 3; have q4 := (unhide P2).at 4; have q5 := (unhide P2).at 5; have q6 := (unhide P2).at 6; have q7 := (unhide P2).at 7
    simp at q0 q1 q2 q3 q4 q5 q6 q7
    cases hm
    case false =>
      have HE := hide (show gv = none from by rw [unhide HG]; rfl)
      obtain ⟨k0, k1, k2, k3, k4, k5, k6, k7, k8, k9, k10, k11, k12, k13⟩ := nx_cells (unhide R2) (unhide T2) (by omega) 0 0
      have HX := hide (nx_end (unhide R2) (unhide T2) (by omega) 0 0 0 0 (⟨#[]⟩ : ByteArray) 0 0)
      have HY := hide (nx_below (unhide HB2) (g1 := w.heap.size + 1) (g2 := w.heap.size + 1 + 1) (by omega) (by omega) 0 0 0 0 (⟨#[]⟩ : ByteArray) 0 0)
      go_wp2
      generalize (((((((w2.setCell ⟨w.heap.size + 1, 0, none⟩ (.int .i64 0)).setCell ⟨w.heap.size + 1, 1, none⟩ (.int .i64 0)).setCell ⟨w.heap.size + 1 + 1, 0, none⟩ (.int .i64 0)).setCell ⟨w.heap.size + 1 + 1, 1, none⟩ (.int .i64 0)).setCell ⟨w.heap.size + 1 + 1, 2, none⟩ (.string (⟨#[]⟩ : ByteArray))).setCell ⟨w.heap.size + 1 + 1, 3, none⟩ (.int .i64 0)).setCell ⟨w.heap.size + 1 + 1, 4, none⟩ (.int .i64 0)) = W9 at HX HY ⊢
      have z0 := (unhide HX).1.at 0; have z1 := (unhide HX).1.at 1; have z2 := (unhide HX).2.at 0; have z3 := (unhide HX).2.at 1; have z4 := (unhide HX).2.at 2; have z5 := (unhide HX).2.at 3; have z6 := (unhide HX).2.at 4
      simp at z0 z1 z2 z3 z4 z5 z6
      refine bodyPost_ret (v := .tuple #[rv 0 0, conv ⟨0, 0, [], 0, 0⟩, .bool false]) (by simp [results, Tryz.results47, go_sem, z0, z1, z2, z3, z4, z5, z6]; try rfl) rfl ⟨by rw [unhide HE]; rfl, unhide HY⟩
    case true =>
      by_cases hlt : cl < 150
      case neg =>
        have HE := hide (show gv = none from by rw [unhide HG, decide_eq_false hlt]; rfl)
        have hl1 : (150 : Int) ≤ cl := by omega
        obtain ⟨k0, k1, k2, k3, k4, k5, k6, k7, k8, k9, k10, k11, k12, k13⟩ := nx_cells (unhide R2) (unhide T2) (by omega) 0 0
        have HX := hide (nx_end (unhide R2) (unhide T2) (by omega) 0 0 0 0 (⟨#[]⟩ : ByteArray) 0 0)
        have HY := hide (nx_below (unhide HB2) (g1 := w.heap.size + 1) (g2 := w.heap.size + 1 + 1) (by omega) (by omega) 0 0 0 0 (⟨#[]⟩ : ByteArray) 0 0)
        go_wp2
        generalize (((((((w2.setCell ⟨w.heap.size + 1, 0, none⟩ (.int .i64 0)).setCell ⟨w.heap.size + 1, 1, none⟩ (.int .i64 0)).setCell ⟨w.heap.size + 1 + 1, 0, none⟩ (.int .i64 0)).setCell ⟨w.heap.size + 1 + 1, 1, none⟩ (.int .i64 0)).setCell ⟨w.heap.size + 1 + 1, 2, none⟩ (.string (⟨#[]⟩ : ByteArray))).setCell ⟨w.heap.size + 1 + 1, 3, none⟩ (.int .i64 0)).setCell ⟨w.heap.size + 1 + 1, 4, none⟩ (.int .i64 0)) = W9 at HX HY ⊢
        have z0 := (unhide HX).1.at 0; have z1 := (unhide HX).1.at 1; have z2 := (unhide HX).2.at 0; have z3 := (unhide HX).2.at 1; have z4 := (unhide HX).2.at 2; have z5 := (unhide HX).2.at 3; have z6 := (unhide HX).2.at 4
        simp at z0 z1 z2 z3 z4 z5 z6
        refine bodyPost_ret (v := .tuple #[rv 0 0, conv ⟨0, 0, [], 0, 0⟩, .bool false]) (by simp [results, Tryz.results47, go_sem, z0, z1, z2, z3, z4, z5, z6]; try rfl) rfl ⟨by rw [unhide HE]; rfl, unhide HY⟩
      have hl1 : ¬ (150 : Int) ≤ cl := by omega
      have HG2 := hide (show gv = if fr = true then pk.map (fun r => (r, gc r)) else none from by rw [unhide HG, decide_eq_true hlt]; simp)
      clear HG
      go_wp2_with fail
      refine (unhide CN (by first | rfl | trivial) _ (unhide HB2)).mono ?_
      rintro e w3 ⟨rfl, hb⟩
      have HB3 := hide (below_on (unhide HB2) hb)
      have P3 := hide ((unhide P2).below hb)
      have R3 := hide ((unhide R2).below hb)
      have T3 := hide ((unhide T2).below hb)
      clear hb HB2 P2 R2 T2 q0 q1 q2 q3 q4 q5 q6 q7
      clear CN
      have q0 := (unhide P3).at 0; have q1 := (unhide P3).at 1; have q2 := (unhide P3).at 2; have q3 := (unhide P3).at 3; have q4 := (unhide P3).at 4; have q5 := (unhide P3).at 5; have q6 := (unhide P3).at 6; have q7 := (unhide P3).at 7
      simp at q0 q1 q2 q3 q4 q5 q6 q7
      go_wp2_with fail
      refine (unhide CF _ (unhide HB3)).mono ?_
      rintro e w4 ⟨rfl, hb⟩
      have HB4 := hide (below_on (unhide HB3) hb)
      have P4 := hide ((unhide P3).below hb)
      have R4 := hide ((unhide R3).below hb)
      have T4 := hide ((unhide T3).below hb)
      have HLT := hide ((unhide T4).lt)
      clear hb HB3 P3 R3 T3 q0 q1 q2 q3 q4 q5 q6 q7
      clear CF
      have HB5 := hide (below_al (unhide HB4) (.cells #[.int .i64 pi, .int .i64 pj] 89))
      have P5 := hide ((unhide P4).al (.cells #[.int .i64 pi, .int .i64 pj] 89))
      have R5 := hide ((unhide R4).al (.cells #[.int .i64 pi, .int .i64 pj] 89))
      have T5 := hide ((unhide T4).al (.cells #[.int .i64 pi, .int .i64 pj] 89))
      have A5 := hide (blk_new w4 #[.int .i64 pi, .int .i64 pj] 89)
      clear HB4 P4 R4 T4
      cases fr
      case false =>
        have HE := hide (show gv = none from by rw [unhide HG2]; rfl)
        obtain ⟨k0, k1, k2, k3, k4, k5, k6, k7, k8, k9, k10, k11, k12, k13⟩ := nx_cells (unhide R5) (unhide T5) (by omega) 0 0
        have HX := hide (nx_end (unhide R5) (unhide T5) (by omega) 0 0 0 0 (⟨#[]⟩ : ByteArray) 0 0)
        have HY := hide (nx_below (unhide HB5) (g1 := w.heap.size + 1) (g2 := w.heap.size + 1 + 1) (by omega) (by omega) 0 0 0 0 (⟨#[]⟩ : ByteArray) 0 0)
        go_wp2
        generalize ((((((((w4.alloc (.cells #[.int .i64 pi, .int .i64 pj] 89)).setCell ⟨w.heap.size + 1, 0, none⟩ (.int .i64 0)).setCell ⟨w.heap.size + 1, 1, none⟩ (.int .i64 0)).setCell ⟨w.heap.size + 1 + 1, 0, none⟩ (.int .i64 0)).setCell ⟨w.heap.size + 1 + 1, 1, none⟩ (.int .i64 0)).setCell ⟨w.heap.size + 1 + 1, 2, none⟩ (.string (⟨#[]⟩ : ByteArray))).setCell ⟨w.heap.size + 1 + 1, 3, none⟩ (.int .i64 0)).setCell ⟨w.heap.size + 1 + 1, 4, none⟩ (.int .i64 0)) = W9 at HX HY ⊢
        have z0 := (unhide HX).1.at 0; have z1 := (unhide HX).1.at 1; have z2 := (unhide HX).2.at 0; have z3 := (unhide HX).2.at 1; have z4 := (unhide HX).2.at 2; have z5 := (unhide HX).2.at 3; have z6 := (unhide HX).2.at 4
        simp at z0 z1 z2 z3 z4 z5 z6
        refine bodyPost_ret (v := .tuple #[rv 0 0, conv ⟨0, 0, [], 0, 0⟩, .bool false]) (by simp [results, Tryz.results47, go_sem, z0, z1, z2, z3, z4, z5, z6]; try rfl) rfl ⟨by rw [unhide HE]; rfl, unhide HY⟩
      case true =>
        cases pb
        case false =>
          have HE := hide (show gv = none from by
            have h1 := unhide HPL
            rw [unhide HG2]
            cases pk with
            | none => rfl
            | some r => simp [plR] at h1)
          obtain ⟨k0, k1, k2, k3, k4, k5, k6, k7, k8, k9, k10, k11, k12, k13⟩ := nx_cells (unhide R5) (unhide T5) (by omega) 0 0
          have HX := hide (nx_end (unhide R5) (unhide T5) (by omega) 0 0 0 0 (⟨#[]⟩ : ByteArray) 0 0)
          have HY := hide (nx_below (unhide HB5) (g1 := w.heap.size + 1) (g2 := w.heap.size + 1 + 1) (by omega) (by omega) 0 0 0 0 (⟨#[]⟩ : ByteArray) 0 0)
          go_wp2
          generalize ((((((((w4.alloc (.cells #[.int .i64 pi, .int .i64 pj] 89)).setCell ⟨w.heap.size + 1, 0, none⟩ (.int .i64 0)).setCell ⟨w.heap.size + 1, 1, none⟩ (.int .i64 0)).setCell ⟨w.heap.size + 1 + 1, 0, none⟩ (.int .i64 0)).setCell ⟨w.heap.size + 1 + 1, 1, none⟩ (.int .i64 0)).setCell ⟨w.heap.size + 1 + 1, 2, none⟩ (.string (⟨#[]⟩ : ByteArray))).setCell ⟨w.heap.size + 1 + 1, 3, none⟩ (.int .i64 0)).setCell ⟨w.heap.size + 1 + 1, 4, none⟩ (.int .i64 0)) = W9 at HX HY ⊢
          have z0 := (unhide HX).1.at 0; have z1 := (unhide HX).1.at 1; have z2 := (unhide HX).2.at 0; have z3 := (unhide HX).2.at 1; have z4 := (unhide HX).2.at 2; have z5 := (unhide HX).2.at 3; have z6 := (unhide HX).2.at 4
          simp at z0 z1 z2 z3 z4 z5 z6
          refine bodyPost_ret (v := .tuple #[rv 0 0, conv ⟨0, 0, [], 0, 0⟩, .bool false]) (by simp [results, Tryz.results47, go_sem, z0, z1, z2, z3, z4, z5, z6]; try rfl) rfl ⟨by rw [unhide HE]; rfl, unhide HY⟩
        case true =>
          obtain ⟨i, k, HPK, rfl, rfl⟩ : ∃ i k : Nat, Hid (pk = some (i, k)) ∧ (i : Int) = pi ∧ (k : Int) = pj := by
            have h1 := unhide HPL
            cases hp : pk with
            | none => rw [hp] at h1; simp [plR] at h1
            | some r => rw [hp] at h1; simp only [plR, Prod.mk.injEq] at h1; exact ⟨r.1, r.2, hide rfl, h1.1, h1.2.1⟩
          obtain ⟨hkl, hjk⟩ := unhide HP _ (unhide HPK)
          simp only at hkl hjk
          have hgc := unhide HC (i, k) hkl hjk
          simp only at hgc
          have hil : i < al := by have := unhide HAL; omega
          obtain ⟨bb, off, rfl, hqa⟩ := (unhide HR).at hil
          have hfa := (unhide HFA).2 _ (List.getElem_mem hkl)
          obtain ⟨xo, xl, xc, c0, c1, c2, hrow, _⟩ := hqa hkl
          replace c0 := Kp.cell (unhide HB5) c0
          replace c1 := Kp.cell (unhide HB5) c1
          replace c2 := Kp.cell (unhide HB5) c2
          obtain ⟨⟨ai, qu, asks⟩, hs'⟩ : ∃ s, apps[i] = s := ⟨_, rfl⟩
          have hjk2 : k < asks.length := by have := hjk; rw [hs'] at this; exact this
          have hgc2 : gc (i, k) = ⟨id, ai, nd, asks[k].mem, asks[k].cpu⟩ := by simp only [hgc, hs']
          rw [hs'] at c0 c1 hrow hfa
          simp only at c0 c1 hrow
          have hxl : xl ≤ 1048576 := by have h1 := hrow.1; have h2 := hfa.2.1; simp only at h2; omega
          have hkx : k < xl := by have := hrow.1; omega
          have HA := hide hrow
          have HE := hide (show gv = some ((i, k), gc (i, k)) from by rw [unhide HG2, unhide HPK]; rfl)
          obtain ⟨am, hsa⟩ : ∃ s, asks[k] = s := ⟨_, rfl⟩
          rw [hsa] at hgc2
          have HGC := hide hgc2
          have i0 : (0 : Int) ≤ i := by omega
          have i1 : (i : Int) < al := by omega
          have j0 : (0 : Int) ≤ k := by omega
          have j1 : (k : Int) < xl := by omega
          have a0 := (unhide A5).at 0; have a1 := (unhide A5).at 1
          simp at a0 a1
          have q0 := (unhide P5).at 0; have q1 := (unhide P5).at 1; have q2 := (unhide P5).at 2; have q3 := (unhide P5).at 3; have q4 := (unhide P5).at 4; have q5 := (unhide P5).at 5; have q6 := (unhide P5).at 6; have q7 := (unhide P5).at 7
          simp at q0 q1 q2 q3 q4 q5 q6 q7
          have hba := below_al (Below.refl _ (w4.alloc (.cells #[.int .i64 (i : Int), .int .i64 (k : Int)] 89))) (.cells #[.int .i64 ai, .string (bs qu), .slice xo xl xc] 105)
          have HB6 := hide (below_on (unhide HB5) hba)
          have R6 := hide ((unhide R5).below hba)
          have T6 := hide ((unhide T5).below hba)
          have A6 := hide ((unhide A5).below hba)
          have B6 := hide (blk_new (w4.alloc (.cells #[.int .i64 (i : Int), .int .i64 (k : Int)] 89)) #[.int .i64 ai, .string (bs qu), .slice xo xl xc] 105)
          clear hqa hgc hgc2 hfa hrow hjk hba HB5 P5 R5 T5 A5
          have b0 := (unhide B6).at 0; have b1 := (unhide B6).at 1; have b2 := (unhide B6).at 2; have a2 := (unhide A6).at 0; have a3 := (unhide A6).at 1
          simp at b0 b1 b2 a2 a3
          obtain ⟨ab, aoff, rfl, ha⟩ := (unhide HA).at hkx
          obtain ⟨d0, d1, d2, d3, d4⟩ := ha hjk2
          rw [hsa] at d0 d1 d2 d3 d4
          obtain ⟨me, cp, ct, nx, mi⟩ := am
          simp only at d0 d1 d2 d3 d4 HGC
          have hlt4 : w.heap.size + 1 + 1 < w4.heap.size := unhide HLT
          obtain ⟨g4, hg4⟩ : ∃ g, w4.heap.size = g := ⟨_, rfl⟩
          go_wp2_with fail
          try rw [al_size]
          try rw [hg4]
          rw [hg4] at hlt4 A6
          have B7 := hide (show Blk _ (g4 + 1) #[.int .i64 ai, .string (bs qu), .slice (some ⟨ab, aoff, none⟩) xl xc] 105 from by have := unhide B6; rw [al_size, hg4] at this; exact this)
          obtain ⟨W6, hW6⟩ : ∃ W, (w4.alloc (.cells #[.int .i64 (i : Int), .int .i64 (k : Int)] 89)).alloc (.cells #[.int .i64 ai, .string (bs qu), .slice (some ⟨ab, aoff, none⟩) xl xc] 105) = W := ⟨_, rfl⟩
          rw [hW6] at HB6 R6 T6 A6 B7
          try rw [hW6]
          clear a0 a1 a2 a3 b0 b1 b2 c0 c1 c2 q0 q1 q2 q3 q4 q5 q6 q7 ha B6 hg4 hW6
          have S6 := hide (show HBk w [(g4, #[.int .i64 (i : Int), .int .i64 (k : Int)], 89), (g4 + 1, #[.int .i64 ai, .string (bs qu), .slice (some ⟨ab, aoff, none⟩) xl xc], 105)] W6 from ⟨fun p hp => by
            simp only [List.mem_cons, List.not_mem_nil, or_false] at hp
            rcases hp with rfl | rfl
            · exact unhide A6
            · exact unhide B7, unhide HB6⟩)
          have R : ∀ wx, HBk w [(g4, #[.int .i64 (i : Int), .int .i64 (k : Int)], 89), (g4 + 1, #[.int .i64 ai, .string (bs qu), .slice (some ⟨ab, aoff, none⟩) xl xc], 105)] wx → wx.cell? ⟨g4, 0, none⟩ = some (.int .i64 (i : Int)) ∧ wx.cell? ⟨g4, 1, none⟩ = some (.int .i64 (k : Int)) ∧ wx.cell? ⟨g4 + 1, 0, none⟩ = some (.int .i64 ai) ∧ wx.cell? ⟨g4 + 1, 1, none⟩ = some (.string (bs qu)) ∧ wx.cell? ⟨g4 + 1, 2, none⟩ = some (.slice (some ⟨ab, aoff, none⟩) xl xc) ∧ wx.cell? ⟨ab, aoff + k * 5, none⟩ = some (.int .i64 me) ∧ wx.cell? ⟨ab, aoff + k * 5 + 1, none⟩ = some (.int .i64 cp) := fun wx h => by
            have v1 := h.blk (g := g4) (c := #[.int .i64 (i : Int), .int .i64 (k : Int)]) (t := 89) (by simp)
            have v2 := h.blk (g := g4 + 1) (c := #[.int .i64 ai, .string (bs qu), .slice (some ⟨ab, aoff, none⟩) xl xc]) (t := 105) (by simp)
            exact ⟨by simpa using v1.at 0, by simpa using v1.at 1, by simpa using v2.at 0, by simpa using v2.at 1, by simpa using v2.at 2, h.cell d0, h.cell d1⟩
          have hn1 : ∀ p ∈ [(g4, #[Value.int .i64 (i : Int), .int .i64 (k : Int)], (89 : TypeId)), (g4 + 1, #[.int .i64 ai, .string (bs qu), .slice (some ⟨ab, aoff, none⟩) xl xc], 105)], p.1 ≠ w.heap.size + 1 := fun p hp => by
            simp only [List.mem_cons, List.not_mem_nil, or_false] at hp
            rcases hp with rfl | rfl <;> simp only <;> omega
          have hn2 : ∀ p ∈ [(g4, #[Value.int .i64 (i : Int), .int .i64 (k : Int)], (89 : TypeId)), (g4 + 1, #[.int .i64 ai, .string (bs qu), .slice (some ⟨ab, aoff, none⟩) xl xc], 105)], p.1 ≠ w.heap.size + 1 + 1 := fun p hp => by
            simp only [List.mem_cons, List.not_mem_nil, or_false] at hp
            rcases hp with rfl | rfl <;> simp only <;> omega
          have HN1 := hide hn1
          have HN2 := hide hn2
          have hw1 : w.heap.size ≤ w.heap.size + 1 := by omega
          have hw2 : w.heap.size ≤ w.heap.size + 1 + 1 := by omega
          clear hn1 hn2 d0 d1 d2 d3 d4
          go_region_held3 (fun wx => HBk w [(g4, #[.int .i64 (i : Int), .int .i64 (k : Int)], 89), (g4 + 1, #[.int .i64 ai, .string (bs qu), .slice (some ⟨ab, aoff, none⟩) xl xc], 105)] wx)
            (first | (with_reducible assumption) | (with_reducible exact (unhide S6).drew))
            (first
            | (go_at_call 117; refine (clone_any (bs nd) _ hs).mono ?_; rintro e w7 ⟨rfl, hb⟩; have SA0 := HBk.call (unhide S6).drew hb; have SA := hide SA0; have SB1 := (show HBk w [(g4, #[.int .i64 (i : Int), .int .i64 (k : Int)], 89), (g4 + 1, #[.int .i64 ai, .string (bs qu), .slice (some ⟨ab, aoff, none⟩) xl xc], 105)] ((w7.setCell ⟨w.heap.size + 1, 0, none⟩ (.int .i64 (i : Int))).setCell ⟨w.heap.size + 1, 1, none⟩ (.int .i64 (k : Int))) from HBk.set (HBk.set SA0 _ _ _ hw1 (unhide HN1)) _ _ _ hw1 (unhide HN1)); have SB2 := (show HBk w [(g4, #[.int .i64 (i : Int), .int .i64 (k : Int)], 89), (g4 + 1, #[.int .i64 ai, .string (bs qu), .slice (some ⟨ab, aoff, none⟩) xl xc], 105)] (((((((w7.setCell ⟨w.heap.size + 1, 0, none⟩ (.int .i64 (i : Int))).setCell ⟨w.heap.size + 1, 1, none⟩ (.int .i64 (k : Int))).setCell ⟨w.heap.size + 1 + 1, 0, none⟩ (.int .i64 id)).setCell ⟨w.heap.size + 1 + 1, 1, none⟩ (.int .i64 ai)).setCell ⟨w.heap.size + 1 + 1, 2, none⟩ (.string (bs nd))).setCell ⟨w.heap.size + 1 + 1, 3, none⟩ (.int .i64 me)).setCell ⟨w.heap.size + 1 + 1, 4, none⟩ (.int .i64 cp)) from HBk.set (HBk.set (HBk.set (HBk.set (HBk.set SB1 _ _ _ hw2 (unhide HN2)) _ _ _ hw2 (unhide HN2)) _ _ _ hw2 (unhide HN2)) _ _ _ hw2 (unhide HN2)) _ _ _ hw2 (unhide HN2)); have R7 := hide ((unhide R6).drew.below hb); have T7 := hide ((unhide T6).drew.below hb); obtain ⟨k0, k1, k2, k3, k4, k5, k6, k7, k8, k9, k10, k11, k12, k13⟩ := nx_cells (unhide R7) (unhide T7) (by omega) (i : Int) (k : Int)))
          have HX := hide (nx_end (unhide R7) (unhide T7) (by omega) (i : Int) (k : Int) id ai (bs nd) me cp)
          have HY := hide (nx_below (unhide SA).2 (g1 := w.heap.size + 1) (g2 := w.heap.size + 1 + 1) (by omega) (by omega) (i : Int) (k : Int) id ai (bs nd) me cp)
          go_wp2
          generalize (((((((w7.setCell ⟨w.heap.size + 1, 0, none⟩ (.int .i64 (i : Int))).setCell ⟨w.heap.size + 1, 1, none⟩ (.int .i64 (k : Int))).setCell ⟨w.heap.size + 1 + 1, 0, none⟩ (.int .i64 id)).setCell ⟨w.heap.size + 1 + 1, 1, none⟩ (.int .i64 ai)).setCell ⟨w.heap.size + 1 + 1, 2, none⟩ (.string (bs nd))).setCell ⟨w.heap.size + 1 + 1, 3, none⟩ (.int .i64 me)).setCell ⟨w.heap.size + 1 + 1, 4, none⟩ (.int .i64 cp)) = W9 at HX HY ⊢
          have z0 := (unhide HX).1.at 0; have z1 := (unhide HX).1.at 1; have z2 := (unhide HX).2.at 0; have z3 := (unhide HX).2.at 1; have z4 := (unhide HX).2.at 2; have z5 := (unhide HX).2.at 3; have z6 := (unhide HX).2.at 4
          simp at z0 z1 z2 z3 z4 z5 z6
          refine bodyPost_ret (v := .tuple #[rv (i : Int) (k : Int), conv ⟨id, ai, nd, me, cp⟩, .bool true]) (by simp [results, Tryz.results47, go_sem, z0, z1, z2, z3, z4, z5, z6]; try rfl) rfl ⟨by rw [unhide HE, unhide HGC]; rfl, unhide HY⟩
end Go.Proofs.YtfbphoppgmganaaGreat

/-
  The container that would be given next, by the program: NextGrant; a walk over the dump.
-/
namespace Go.Proofs.YtfbphoppgmganaaGreat
open Go.RowKit Go.Maps
set_option linter.unusedVariables false
set_option linter.unusedSimpArgs false

set_option maxRecDepth 100000 in
set_option maxHeartbeats 2000000 in
theorem implNextGrant_any (x : Sls) (s : St) (nd : List UInt8) (w : World) (h : SRow w x s) (hf : FitSt s) (hc : x.ql ≤ x.qc) (hw : WfSt s) (hnd : nd.length ≤ 1048576) :
    Calls Tryz.prog 11 #[sv x s, .string (bs nd)] w fun e w' => e = .returned (.tuple #[conv (conOf (nextGV s nd)), .bool (nextGV s nd).isSome]) ∧ Below w.heap.size w w' := by
  have CN := hide (fun wx (hb : Below w.heap.size w wx) => next_any x s nd wx (h.below hb) hf hc hw hnd)
  obtain ⟨gv, hgv⟩ : ∃ g, nextGV s nd = g := ⟨_, rfl⟩
  rw [hgv] at CN ⊢
  obtain ⟨⟨px, py⟩, hpq⟩ : ∃ g, atR gv = g := ⟨_, rfl⟩
  obtain ⟨⟨id, ap, cn, me, cp⟩, hcn⟩ : ∃ g, conOf gv = g := ⟨_, rfl⟩
  obtain ⟨ok, hok⟩ : ∃ g, gv.isSome = g := ⟨_, rfl⟩
  rw [hpq, hcn, hok] at CN
  rw [hcn, hok]
  simp only at CN
  clear h hf hc hw hgv hpq hcn hok
  obtain ⟨qa, ql, qc, aa, al, ac, ma, ml, mc, ca, cl, cc⟩ := x
  obtain ⟨qs, clock, epoch, next, serial, apps, ms, cs⟩ := s
  have HB0 := hide (below_al (below_al (Below.refl _ w) (.cells (svc ⟨qa, ql, qc, aa, al, ac, ma, ml, mc, ca, cl, cc⟩ ⟨qs, clock, epoch, next, serial, apps, ms, cs⟩) 40)) (.cells #[.int .i64 0, .int .i64 0, .string ByteArray.empty, .int .i64 0, .int .i64 0] 32))
  have T0 := hide (show Blk _ (w.heap.size + 1) #[.int .i64 0, .int .i64 0, .string ByteArray.empty, .int .i64 0, .int .i64 0] 32 by have := blk_new (w.alloc (.cells (svc ⟨qa, ql, qc, aa, al, ac, ma, ml, mc, ca, cl, cc⟩ ⟨qs, clock, epoch, next, serial, apps, ms, cs⟩) 40)) #[.int .i64 0, .int .i64 0, .string ByteArray.empty, .int .i64 0, .int .i64 0] 32; rw [al_size] at this; exact this)
  go_enter Tryz.func11, Tryz.ntmps11
  go_wp2_with fail
  refine (unhide CN _ (unhide HB0)).mono ?_
  rintro e w1 ⟨rfl, hb⟩
  have HB1 := hide (below_on (unhide HB0) hb)
  have T1 := hide ((unhide T0).below hb)
  have T2 := hide (((unhide T1).al (.cells #[.int .i64 px, .int .i64 py] 89)).al (.cells #[.int .i64 id, .int .i64 ap, .string (bs cn), .int .i64 me, .int .i64 cp] 32))
  have c0 := (unhide T2).at 0; have c1 := (unhide T2).at 1; have c2 := (unhide T2).at 2; have c3 := (unhide T2).at 3; have c4 := (unhide T2).at 4
  have f0 := (unhide T2).f 0; have f1 := (unhide T2).f 1; have f2 := (unhide T2).f 2; have f3 := (unhide T2).f 3; have f4 := (unhide T2).f 4
  simp at c0 c1 c2 c3 c4
  have HY := hide (below_sc (below_sc (below_sc (below_sc (below_sc (below_al (below_al (unhide HB1) (.cells #[.int .i64 px, .int .i64 py] 89)) (.cells #[.int .i64 id, .int .i64 ap, .string (bs cn), .int .i64 me, .int .i64 cp] 32)) (w.heap.size + 1) 0 (.int .i64 id) (by omega)) (w.heap.size + 1) 1 (.int .i64 ap) (by omega)) (w.heap.size + 1) 2 (.string (bs cn)) (by omega)) (w.heap.size + 1) 3 (.int .i64 me) (by omega)) (w.heap.size + 1) 4 (.int .i64 cp) (by omega))
  have HX := hide (show Blk (((((((w1.alloc (.cells #[.int .i64 px, .int .i64 py] 89)).alloc (.cells #[.int .i64 id, .int .i64 ap, .string (bs cn), .int .i64 me, .int .i64 cp] 32)).setCell ⟨w.heap.size + 1, 0, none⟩ (.int .i64 id)).setCell ⟨w.heap.size + 1, 1, none⟩ (.int .i64 ap)).setCell ⟨w.heap.size + 1, 2, none⟩ (.string (bs cn))).setCell ⟨w.heap.size + 1, 3, none⟩ (.int .i64 me)).setCell ⟨w.heap.size + 1, 4, none⟩ (.int .i64 cp)) (w.heap.size + 1) #[.int .i64 id, .int .i64 ap, .string (bs cn), .int .i64 me, .int .i64 cp] 32 from ((((((unhide T2).set 0 (.int .i64 id)).set 1 (.int .i64 ap)).set 2 (.string (bs cn))).set 3 (.int .i64 me)).set 4 (.int .i64 cp)))
  clear hb HB0 T0 CN
  go_wp2
  generalize (((((((w1.alloc (.cells #[.int .i64 px, .int .i64 py] 89)).alloc (.cells #[.int .i64 id, .int .i64 ap, .string (bs cn), .int .i64 me, .int .i64 cp] 32)).setCell ⟨w.heap.size + 1, 0, none⟩ (.int .i64 id)).setCell ⟨w.heap.size + 1, 1, none⟩ (.int .i64 ap)).setCell ⟨w.heap.size + 1, 2, none⟩ (.string (bs cn))).setCell ⟨w.heap.size + 1, 3, none⟩ (.int .i64 me)).setCell ⟨w.heap.size + 1, 4, none⟩ (.int .i64 cp)) = W9 at HX HY ⊢
  have z0 := (unhide HX).at 0; have z1 := (unhide HX).at 1; have z2 := (unhide HX).at 2; have z3 := (unhide HX).at 3; have z4 := (unhide HX).at 4
  simp at z0 z1 z2 z3 z4
  refine bodyPost_ret (v := .tuple #[conv ⟨id, ap, cn, me, cp⟩, .bool ok]) (by simp [results, Tryz.results11, go_sem, z0, z1, z2, z3, z4]; try rfl) rfl ⟨rfl, unhide HY⟩
end Go.Proofs.YtfbphoppgmganaaGreat

/-
  A region that draws its order, by one word on what is done, what stands and the world, which every operation that may come up keeps.
-/
namespace Go.Proofs.YtfbphoppgmganaaGreat
open Go.RowKit
set_option linter.unusedVariables false
/-- each of the operations comes up next; behind it S holds, and the word -/
def AllReadyI (P : Program) (md : Region.Mode) (ops : Array Oper) (Q : Exit → Act → World → Prop) (S : World → Prop) (I : Nat → Array Bool → Act → World → Prop) (n : Nat) (listed : Array Bool) (a : Act) (w : World) (rs : List Nat) : Prop :=
  ∀ i ∈ rs, wpOp P ops Q i (fun a' w' => S w' ∧ I n (listed.setIfInBounds i true) a' w') a w
theorem AllReadyI.nil {P : Program} {md : Region.Mode} {ops : Array Oper} {Q : Exit → Act → World → Prop} {S : World → Prop} {I : Nat → Array Bool → Act → World → Prop} {n : Nat} {listed : Array Bool} {a : Act} {w : World} : AllReadyI P md ops Q S I n listed a w [] := fun _ h => by cases h
theorem AllReadyI.cons {P : Program} {md : Region.Mode} {ops : Array Oper} {Q : Exit → Act → World → Prop} {S : World → Prop} {I : Nat → Array Bool → Act → World → Prop} {n : Nat} {listed : Array Bool} {a : Act} {w : World} {i : Nat} {o : Oper} {rs : List Nat} (ho : ops[i]? = some o)
    (h : ∀ K' : Act → World → Prop, Shut (∀ a w, S w → I n (listed.setIfInBounds i true) a w → K' a w) → if Region.wanted o (yielded ops a.tmps) = true then Oper.wp P o a w K' Q else K' (a.put o.dst undef) w)
    (hs : AllReadyI P md ops Q S I n listed a w rs) : AllReadyI P md ops Q S I n listed a w (i :: rs) := fun j hj => by
  rcases List.mem_cons.1 hj with rfl | hj
  · exact wpOp_step ho (fun K' hK => h K' (fun a w hS hW => hK a w ⟨hS, hW⟩))
  · exact hs j hj
theorem wpAnyH_inv {P : Program} {ops : Array Oper} {Q : Exit → Act → World → Prop} {md : Region.Mode} {S : World → Prop} (I : Nat → Array Bool → Act → World → Prop)
    (step : ∀ n listed a w, I (n + 1) listed a w → Region.ready md ops listed ≠ [] ∧ AllReadyI P md ops Q S I n listed a w (Region.ready md ops listed))
    (fin : ∀ listed a w, I 0 listed a w → Region.ready md ops listed = [] ∧ Q .normal a w) :
    ∀ n listed a w, I n listed a w → wpAnyH P md ops Q S n listed a w
  | 0, listed, a, w, h => fin listed a w h
  | n + 1, listed, a, w, h => ⟨fun e => absurd e (step n listed a w h).1, fun i hi => wpOp_mono (fun a' w' k => ⟨k.1, wpAnyH_inv I step fin n _ a' w' k.2⟩) ((step n listed a w h).2 i hi)⟩
theorem ready_step {P : Program} {ops : Array Oper} {Q : Exit → Act → World → Prop} {md : Region.Mode} {S : World → Prop} {I : Nat → Array Bool → Act → World → Prop} {n : Nat} {listed : Array Bool} {a : Act} {w : World} {rs : List Nat} (hr : Region.ready md ops listed = rs) (hne : rs ≠ [])
    (h : AllReadyI P md ops Q S I n listed a w rs) : Region.ready md ops listed ≠ [] ∧ AllReadyI P md ops Q S I n listed a w (Region.ready md ops listed) := by
  subst hr
  exact ⟨hne, h⟩
end Go.Proofs.YtfbphoppgmganaaGreat

/-
  A variable that holds an amount, made since a world.
-/
namespace Go.Proofs.YtfbphoppgmganaaGreat
open Go.RowKit
set_option linter.unusedVariables false

/-- a variable made since w1 -/
def VB (w1 w : World) (g : Nat) (x y : Int) : Prop := w1.heap.size ≤ g ∧ Var w 30 g x y
theorem VB.below {w1 w w' : World} {g : Nat} {x y : Int} (h : VB w1 w g x y) (hb : Below w.heap.size w w') : VB w1 w' g x y := ⟨h.1, h.2.below hb⟩
theorem VB.al {w1 w : World} {g : Nat} {x y : Int} (h : VB w1 w g x y) (o : Obj) : VB w1 (w.alloc o) g x y := ⟨h.1, h.2.al o⟩
theorem VB.ne {w1 w : World} {g : Nat} {x y : Int} (h : VB w1 w g x y) : g ≠ w.heap.size := Nat.ne_of_lt h.2.lt
theorem vb_new {w1 w : World} (h : Below w1.heap.size w1 w) : VB w1 (w.alloc (.cells #[.int .i64 0, .int .i64 0] 30)) w.heap.size 0 0 := ⟨h.size, var_new w _ 0 0⟩
theorem VB.set {w1 w : World} {g : Nat} {a b : Int} (h : VB w1 w g a b) (x y : Int) : VB w1 ((w.setCell ⟨g, 0, none⟩ (.int .i64 x)).setCell ⟨g, 1, none⟩ (.int .i64 y)) g x y := ⟨h.1, h.2.set x y⟩
theorem VB.off {w1 w : World} {g k : Nat} {a b : Int} (h : VB w1 w g a b) (hn : g ≠ k) {u v : Value} : VB w1 ((w.setCell ⟨k, 0, none⟩ u).setCell ⟨k, 1, none⟩ v) g a b := ⟨h.1, (h.2.other k 0 u hn).other k 1 v hn⟩
theorem VB.kp {w1 w : World} {g : Nat} {a b : Int} (h : VB w1 w g a b) (hk : Below w1.heap.size w1 w) {u v : Value} : Below w1.heap.size w1 ((w.setCell ⟨g, 0, none⟩ u).setCell ⟨g, 1, none⟩ v) := below_sc (below_sc hk _ _ _ h.1) _ _ _ h.1
end Go.Proofs.YtfbphoppgmganaaGreat

/-
  A region that draws its order, with calls in a chain, variables of amounts made anywhere among them, and a store into each at its end: by one word, for any number of them; and operations taken first, said shortly.
-/
namespace Go.Proofs.YtfbphoppgmganaaGreat
open Go.RowKit
set_option linter.unusedVariables false

def flags : Nat → List (List Bool)
  | 0 => [[]]
  | k + 1 => (flags k).map (false :: ·) ++ (flags k).map (true :: ·)
theorem mem_flags : ∀ (f : List Bool), f ∈ flags f.length
  | [] => by simp [flags]
  | b :: t => by
    have := mem_flags t
    cases b <;> simp [flags, this]
/-- the places of the calls, of the variables and of the stores -/
structure Mul where
  n : Nat
  cs : List Nat
  al : List Nat
  st : List Nat
  l0 : List Bool
def Mul.lst (M : Mul) (c : Nat) (f : List Bool) (s : Nat) : Array Bool :=
  ((List.range M.n).map fun i => M.l0.getD i false || ((M.cs.take c).contains i || (((M.al.zip f).any fun p => p.1 == i && p.2) || (M.st.take s).contains i))).toArray
/-- what may come up next, and what it is: 0 a call, 1 a store, j + 2 the variable j -/
def Mul.nxt (M : Mul) (c : Nat) (f : List Bool) (s : Nat) : List (Nat × Nat) :=
  (List.range M.n).filterMap fun i =>
    if M.cs[c]? = some i then some (i, 0)
    else match (List.range M.al.length).find? (fun j => M.al[j]? == some i && f[j]? == some false) with
      | some j => some (i, j + 2)
      | none => if decide (c = M.cs.length) && (f.all id && decide (M.st[s]? = some i)) then some (i, 1) else none
def Mul.to (c : Nat) (f : List Bool) (s : Nat) : Nat → Nat × List Bool × Nat
  | 0 => (c + 1, f, s)
  | 1 => (c, f, s + 1)
  | j + 2 => (c, f.set j true, s)
def Mul.one (M : Mul) (md : Region.Mode) (ops : Array Oper) (c : Nat) (f : List Bool) (s : Nat) : Bool :=
  decide (Region.ready md ops (M.lst c f s) = (M.nxt c f s).map (·.1)) &&
  ((M.nxt c f s).isEmpty == (decide (c = M.cs.length) && (f.all id && decide (s = M.st.length)))) &&
  (M.nxt c f s).all fun p => decide ((M.lst c f s).setIfInBounds p.1 true = M.lst (Mul.to c f s p.2).1 (Mul.to c f s p.2).2.1 (Mul.to c f s p.2).2.2) &&
    (match p.2 with | 0 => decide (M.cs[c]? = some p.1) | 1 => decide (c = M.cs.length) && (f.all id && decide (M.st[s]? = some p.1)) | j + 2 => decide (M.al[j]? = some p.1) && f[j]? == some false)
def Mul.ok (M : Mul) (md : Region.Mode) (ops : Array Oper) : Bool :=
  decide (M.al.length = M.st.length) && ((List.range (M.cs.length + 1)).all fun c => (flags M.al.length).all fun f => M.one md ops c f 0) && (List.range (M.st.length + 1)).all fun s => M.one md ops M.cs.length (List.replicate M.al.length true) s
theorem all_true {f : List Bool} (h : f.all id = true) : f = List.replicate f.length true := by
  induction f with
  | nil => rfl
  | cons b t ih =>
    simp only [List.all_cons, id, Bool.and_eq_true] at h
    rw [List.length_cons, List.replicate_succ, ← ih h.2, h.1]
theorem Mul.at {M : Mul} {md : Region.Mode} {ops : Array Oper} (h : M.ok md ops = true) {c : Nat} {f : List Bool} {s : Nat} (hc : c ≤ M.cs.length) (hf : f.length = M.al.length) (hs : s ≤ M.st.length) (h0 : 0 < s → c = M.cs.length ∧ f.all id = true) : M.one md ops c f s = true := by
  simp only [Mul.ok, Bool.and_eq_true, List.all_eq_true, List.mem_range] at h
  obtain ⟨⟨_, h1⟩, h2⟩ := h
  by_cases e : s = 0
  · subst e
    exact h1 c (by omega) f (by rw [← hf]; exact mem_flags f)
  · obtain ⟨rfl, h3⟩ := h0 (by omega)
    have := all_true h3
    rw [hf] at this
    rw [this]
    exact h2 s (by omega)
/-- an operation, as the walk meets it -/
def Mul.step (P : Program) (ops : Array Oper) (Q : Exit → Act → World → Prop) (i : Nat) (a : Act) (w : World) (K : Act → World → Prop) : Prop :=
  ∃ o, ops[i]? = some o ∧ (if Region.wanted o (yielded ops a.tmps) = true then Oper.wp P o a w K Q else K (a.put o.dst undef) w)
theorem count_set {f : List Bool} {j : Nat} (h : f[j]? = some false) : (f.set j true).count false + 1 = f.count false := by
  induction f generalizing j with
  | nil => simp at h
  | cons b t ih =>
    cases j with
    | zero => simp at h; subst h; simp
    | succ j => simp at h; have := ih h; simp only [List.set_cons_succ, List.count_cons]; omega
theorem count_none {f : List Bool} (h : f.all id = true) : f.count false = 0 := by rw [all_true h]; simp [List.count_replicate]
theorem wpAnyH_is {P : Program} {md : Region.Mode} {ops : Array Oper} {Q : Exit → Act → World → Prop} {S : World → Prop} {n n' : Nat} {l l' : Array Bool} {a a' : Act} {w : World} (hn : n = n') (hl : l = l') (ha : a = a') (h : wpAnyH P md ops Q S n' l' a' w) : wpAnyH P md ops Q S n l a w := by
  subst hn hl ha
  exact h
/-- a variable's place, where it is made; what a call answered, where it was called -/
def mkPtr (b : Bool) (g : Nat) : Value := match b with | true => .pointer (some ⟨g, 0, none⟩) | false => undef
def mkRes (b : Bool) (v : Value) : Value := match b with | true => v | false => undef
theorem list4 {α : Type} {l : List α} (h : l.length = 4) : ∃ a b c d, l = [a, b, c, d] := by
  match l, h with
  | [a, b, c, d], _ => exact ⟨a, b, c, d, rfl⟩
theorem list3 {α : Type} {l : List α} (h : l.length = 3) : ∃ a b c, l = [a, b, c] := by
  match l, h with
  | [a, b, c], _ => exact ⟨a, b, c, rfl⟩
theorem region_multi {P : Program} {md : Region.Mode} {ops : Array Oper} {Q : Exit → Act → World → Prop} {w1 : World} (M : Mul) (Fr : Nat → List Bool → List Nat → Act) (vals : List (Int × Int)) (hv : vals.length = M.al.length)
    (hok : M.ok md ops = true)
    (hcall : ∀ c f us w K, c < M.cs.length → f.length = M.al.length → us.length = M.al.length → Kp w1 w → (∀ w', Below w.heap.size w w' → K (Fr (c + 1) f us) w') → Mul.step P ops Q (M.cs.getD c 0) (Fr c f us) w K)
    (hal : ∀ j c f us w K, c ≤ M.cs.length → f.length = M.al.length → us.length = M.al.length → f[j]? = some false → K (Fr c (f.set j true) (us.set j w.heap.size)) (w.alloc (.cells #[.int .i64 0, .int .i64 0] 30)) → Mul.step P ops Q (M.al.getD j 0) (Fr c f us) w K)
    (hst : ∀ s us w K, s < M.al.length → us.length = M.al.length → Var w 30 (us.getD s 0) 0 0 → K (Fr M.cs.length (List.replicate M.al.length true) us) ((w.setCell ⟨us.getD s 0, 0, none⟩ (.int .i64 (vals.getD s (0, 0)).1)).setCell ⟨us.getD s 0, 1, none⟩ (.int .i64 (vals.getD s (0, 0)).2)) → Mul.step P ops Q (M.st.getD s 0) (Fr M.cs.length (List.replicate M.al.length true) us) w K)
    (fin : ∀ us w, us.length = M.al.length → (∀ j, j < M.al.length → VB w1 w (us.getD j 0) (vals.getD j (0, 0)).1 (vals.getD j (0, 0)).2) → Kp w1 w → Q .normal (Fr M.cs.length (List.replicate M.al.length true) us) w)
    (w : World) (hw : Kp w1 w) : wpAnyH P md ops Q (Kp w1) (M.cs.length + M.al.length + M.al.length) (M.lst 0 (List.replicate M.al.length false) 0) (Fr 0 (List.replicate M.al.length false) (List.replicate M.al.length 0)) w := by
  have hla : M.al.length = M.st.length := by have := hok; simp only [Mul.ok, Bool.and_eq_true, decide_eq_true_eq] at this; exact this.1.1
  refine wpAnyH_inv (fun n lz az wz => ∃ c f us s, c ≤ M.cs.length ∧ f.length = M.al.length ∧ us.length = M.al.length ∧ s ≤ M.al.length ∧ (0 < s → c = M.cs.length ∧ f.all id = true) ∧ n = (M.cs.length - c) + f.count false + (M.al.length - s) ∧ lz = M.lst c f s ∧ az = Fr c f us
      ∧ (∀ j, f[j]? = some true → VB w1 wz (us.getD j 0) (if j < s then (vals.getD j (0, 0)).1 else 0) (if j < s then (vals.getD j (0, 0)).2 else 0)) ∧ (∀ i j, f[i]? = some true → f[j]? = some true → i ≠ j → us.getD i 0 ≠ us.getD j 0) ∧ Kp w1 wz) ?_ ?_ _ _ _ _ ⟨0, _, _, 0, Nat.zero_le _, by simp, by simp, Nat.zero_le _, fun h => absurd h (by omega), by simp, rfl, rfl, fun j hj => by simp [List.getElem?_replicate] at hj, fun i j hi => by simp [List.getElem?_replicate] at hi, hw⟩
  · rintro n lz az wz ⟨c, f, us, s, hc, hf, hu, hs, h0, hn, rfl, rfl, hV, hD, hk⟩
    have hone := Mul.at hok hc hf (by omega) h0
    simp only [Mul.one, Bool.and_eq_true, decide_eq_true_eq, List.all_eq_true] at hone
    obtain ⟨⟨hr, he⟩, hall⟩ := hone
    have hne : (M.nxt c f s).map (·.1) ≠ [] := fun e => by
      have e' : M.nxt c f s = [] := List.map_eq_nil_iff.1 e
      rw [e'] at he
      simp only [List.isEmpty_nil, beq_iff_eq] at he
      have he' := he.symm
      simp only [Bool.and_eq_true, decide_eq_true_eq] at he'
      have := count_none he'.2.1
      omega
    refine ready_step hr hne (fun i hi => ?_)
    obtain ⟨⟨i', k⟩, hp, rfl⟩ := List.mem_map.1 hi
    obtain ⟨hset, hk'⟩ := hall _ hp
    simp only at hset hk'
    match k, hset, hk' with
    | 0, hset, hk' =>
      simp only [decide_eq_true_eq] at hk'
      have hlt : c < M.cs.length := (List.getElem?_eq_some_iff.1 hk').1
      have hcd : M.cs.getD c 0 = i' := by rw [List.getD_eq_getElem?_getD, hk']; rfl
      obtain ⟨o, ho, hh⟩ := hcall c f us wz (fun a' w' => Kp w1 w' ∧ ∃ c' f' us' s', c' ≤ M.cs.length ∧ f'.length = M.al.length ∧ us'.length = M.al.length ∧ s' ≤ M.al.length ∧ (0 < s' → c' = M.cs.length ∧ f'.all id = true) ∧ n = (M.cs.length - c') + f'.count false + (M.al.length - s') ∧ (M.lst c f s).setIfInBounds i' true = M.lst c' f' s' ∧ a' = Fr c' f' us' ∧ (∀ j, f'[j]? = some true → VB w1 w' (us'.getD j 0) (if j < s' then (vals.getD j (0, 0)).1 else 0) (if j < s' then (vals.getD j (0, 0)).2 else 0)) ∧ (∀ i j, f'[i]? = some true → f'[j]? = some true → i ≠ j → us'.getD i 0 ≠ us'.getD j 0) ∧ Kp w1 w') hlt hf hu hk
        (fun w' hb => ⟨below_on hk hb, c + 1, f, us, s, hlt, hf, hu, hs, fun h => absurd (h0 h).1 (by omega), by omega, hset, rfl, fun j hj => (hV j hj).below hb, hD, below_on hk hb⟩)
      rw [hcd] at ho
      exact wpOp_step ho (fun K' hK => by
        split
        · rename_i hw; rw [if_pos hw] at hh; exact Oper.wp_mono (fun _ _ h => hK _ _ h) hh
        · rename_i hw; rw [if_neg hw] at hh; exact hK _ _ hh)
    | 1, hset, hk' =>
      simp only [Bool.and_eq_true, decide_eq_true_eq] at hk'
      obtain ⟨rfl, hft, hst'⟩ := hk'
      have hsl : s < M.al.length := by rw [hla]; exact (List.getElem?_eq_some_iff.1 hst').1
      have hft' := all_true hft
      rw [hf] at hft'
      have hj : f[s]? = some true := by rw [hft', List.getElem?_replicate, if_pos hsl]
      have hcd : M.st.getD s 0 = i' := by rw [List.getD_eq_getElem?_getD, hst']; rfl
      have hvs := hV s hj
      rw [if_neg (by omega), if_neg (by omega)] at hvs
      obtain ⟨o, ho, hh⟩ := hst s us wz (fun a' w' => Kp w1 w' ∧ ∃ c' f' us' s', c' ≤ M.cs.length ∧ f'.length = M.al.length ∧ us'.length = M.al.length ∧ s' ≤ M.al.length ∧ (0 < s' → c' = M.cs.length ∧ f'.all id = true) ∧ n = (M.cs.length - c') + f'.count false + (M.al.length - s') ∧ (M.lst M.cs.length f s).setIfInBounds i' true = M.lst c' f' s' ∧ a' = Fr c' f' us' ∧ (∀ j, f'[j]? = some true → VB w1 w' (us'.getD j 0) (if j < s' then (vals.getD j (0, 0)).1 else 0) (if j < s' then (vals.getD j (0, 0)).2 else 0)) ∧ (∀ i j, f'[i]? = some true → f'[j]? = some true → i ≠ j → us'.getD i 0 ≠ us'.getD j 0) ∧ Kp w1 w') hsl hu hvs.2
        ⟨hvs.kp hk, M.cs.length, f, us, s + 1, Nat.le_refl _, hf, hu, hsl, fun _ => ⟨rfl, hft⟩, by have := count_none hft; omega, hset, by rw [← hft'], fun j hj' => by
          by_cases e : j = s
          · subst e
            rw [if_pos (by omega), if_pos (by omega)]
            exact hvs.set _ _
          · have h1 := (hV j hj').off (hD j s hj' hj e) (u := .int .i64 (vals.getD s (0, 0)).1) (v := .int .i64 (vals.getD s (0, 0)).2)
            by_cases e2 : j < s
            · rw [if_pos e2, if_pos e2] at h1
              rw [if_pos (by omega), if_pos (by omega)]
              exact h1
            · rw [if_neg e2, if_neg e2] at h1
              rw [if_neg (by omega), if_neg (by omega)]
              exact h1, hD, hvs.kp hk⟩
      rw [hcd] at ho
      rw [hft']
      rw [← hft'] at hh ⊢
      exact wpOp_step ho (fun K' hK => by
        rw [hft'] at hK ⊢
        rw [hft'] at hh
        split
        · rename_i hw; rw [if_pos hw] at hh; exact Oper.wp_mono (fun _ _ h => hK _ _ h) hh
        · rename_i hw; rw [if_neg hw] at hh; exact hK _ _ hh)
    | j + 2, hset, hk' =>
      simp only [Bool.and_eq_true, decide_eq_true_eq, beq_iff_eq] at hk'
      obtain ⟨ha, hfj⟩ := hk'
      have hjl : j < M.al.length := (List.getElem?_eq_some_iff.1 ha).1
      have hcd : M.al.getD j 0 = i' := by rw [List.getD_eq_getElem?_getD, ha]; rfl
      have hs0 : s = 0 := by
        by_cases e : s = 0
        · exact e
        · have h1 := all_true (h0 (by omega)).2
          rw [h1, List.getElem?_replicate, if_pos (by omega)] at hfj
          cases hfj
      obtain ⟨o, ho, hh⟩ := hal j c f us wz (fun a' w' => Kp w1 w' ∧ ∃ c' f' us' s', c' ≤ M.cs.length ∧ f'.length = M.al.length ∧ us'.length = M.al.length ∧ s' ≤ M.al.length ∧ (0 < s' → c' = M.cs.length ∧ f'.all id = true) ∧ n = (M.cs.length - c') + f'.count false + (M.al.length - s') ∧ (M.lst c f s).setIfInBounds i' true = M.lst c' f' s' ∧ a' = Fr c' f' us' ∧ (∀ j, f'[j]? = some true → VB w1 w' (us'.getD j 0) (if j < s' then (vals.getD j (0, 0)).1 else 0) (if j < s' then (vals.getD j (0, 0)).2 else 0)) ∧ (∀ i j, f'[i]? = some true → f'[j]? = some true → i ≠ j → us'.getD i 0 ≠ us'.getD j 0) ∧ Kp w1 w') hc hf hu hfj
        ⟨below_al hk _, c, f.set j true, us.set j wz.heap.size, s, hc, by simpa using hf, by simpa using hu, hs, fun h => absurd h (by omega), by have := count_set hfj; omega, hset, rfl, fun x hx => by
          subst hs0
          rw [if_neg (by omega), if_neg (by omega)]
          by_cases e : x = j
          · subst e
            rw [List.getD_eq_getElem?_getD, List.getElem?_set_self (by omega)]
            exact vb_new hk
          · rw [List.getElem?_set_ne (fun h => e h.symm)] at hx
            rw [List.getD_eq_getElem?_getD, List.getElem?_set_ne (fun h => e h.symm), ← List.getD_eq_getElem?_getD]
            have := hV x hx
            rw [if_neg (by omega), if_neg (by omega)] at this
            exact this.al _, fun x y hx hy hne2 => by
          by_cases e : x = j
          · subst e
            by_cases e2 : y = x
            · exact absurd e2.symm hne2
            · rw [List.getElem?_set_ne (fun h => e2 h.symm)] at hy
              rw [List.getD_eq_getElem?_getD, List.getElem?_set_self (by omega), List.getD_eq_getElem?_getD, List.getElem?_set_ne (fun h => e2 h.symm), ← List.getD_eq_getElem?_getD]
              exact (hV y hy).ne.symm
          · rw [List.getElem?_set_ne (fun h => e h.symm)] at hx
            rw [List.getD_eq_getElem?_getD (l := us.set j wz.heap.size) (i := x), List.getElem?_set_ne (fun h => e h.symm), ← List.getD_eq_getElem?_getD]
            by_cases e2 : y = j
            · subst e2
              rw [List.getD_eq_getElem?_getD (l := us.set y wz.heap.size), List.getElem?_set_self (by omega)]
              exact (hV x hx).ne
            · rw [List.getElem?_set_ne (fun h => e2 h.symm)] at hy
              rw [List.getD_eq_getElem?_getD (l := us.set j wz.heap.size), List.getElem?_set_ne (fun h => e2 h.symm), ← List.getD_eq_getElem?_getD]
              exact hD x y hx hy hne2, below_al hk _⟩
      rw [hcd] at ho
      exact wpOp_step ho (fun K' hK => by
        split
        · rename_i hw; rw [if_pos hw] at hh; exact Oper.wp_mono (fun _ _ h => hK _ _ h) hh
        · rename_i hw; rw [if_neg hw] at hh; exact hK _ _ hh)
  · rintro lz az wz ⟨c, f, us, s, hc, hf, hu, hs, h0, hn, rfl, rfl, hV, hD, hk⟩
    have hone := Mul.at hok hc hf (by omega) h0
    simp only [Mul.one, Bool.and_eq_true, decide_eq_true_eq, List.all_eq_true] at hone
    obtain ⟨⟨hr, he⟩, _⟩ := hone
    have hcc : c = M.cs.length := by omega
    have hfa : f.all id = true := by
      rw [List.all_eq_true]
      intro b hb
      cases b with
      | true => rfl
      | false => have := List.count_pos_iff.2 hb; omega
    have hss : s = M.al.length := by omega
    subst hcc hss
    have hf' := all_true hfa
    rw [hf] at hf'
    refine ⟨?_, ?_⟩
    · rw [hr]
      have : (M.nxt M.cs.length f M.al.length).isEmpty = true := by
        simp only [beq_iff_eq] at he
        rw [he, hfa, hla]
        simp
      rw [List.isEmpty_iff.1 this]
      rfl
    · rw [hf']
      refine fin us wz hu (fun j hj => ?_) hk
      have := hV j (by rw [hf', List.getElem?_replicate, if_pos hj])
      rw [if_pos hj, if_pos hj] at this
      exact this
end Go.Proofs.YtfbphoppgmganaaGreat

/-
  The queue, its parent, and so on up to the first one: what the model's Path answers; a walk over the dump.
-/
namespace Go.Proofs.YtfbphoppgmganaaGreat
open Go.RowKit
set_option linter.unusedVariables false

set_option maxRecDepth 100000 in
set_option maxHeartbeats 2000000 in
theorem specPath_any (ao : Option Addr) (len cap : Nat) (l : List Q) (nm : List UInt8) (w : World) (h : QRow w ao len l) (hl : len ≤ 1048576) (hn : ∀ q ∈ l, q.name.length ≤ 1048576) :
    Calls Tryz.prog 215 #[.slice ao len cap, .string (bs nm)] w fun e w' => ∃ v, e = .returned v ∧ Texts w.heap.size w' v (path l nm) ∧ Below w.heap.size w w' := by
  obtain ⟨i0, hi, hz0, hz1, hz2⟩ := info_parts Tryz.infoS
  have HR := hide h
  have HL := hide h.1
  have hlw := h.1
  have CQ := hide (fun wx (hb : Below w.heap.size w wx) => specQueuesOk_any ao len cap l wx (h.below hb) hl hn)
  have CP := hide (fun (x : List UInt8) wx (hb : Below w.heap.size w wx) => l03Place_any ao len cap l x wx (h.below hb) hl)
  obtain ⟨p0, hp0⟩ : ∃ p, place l nm = p := ⟨_, rfl⟩
  have hpr : p0 = -1 ∨ (0 ≤ p0 ∧ p0 < len) := by have := place_range l nm; rw [hp0] at this; omega
  have HP0 := hide hp0
  have CP0 := hide (by have := (unhide CP) nm (w.alloc (.cells #[] 9)) (below_al (Below.refl _ _) _); rw [hp0] at this; exact this)
  obtain ⟨ok, hok⟩ : ∃ ok, queuesOk l = ok := ⟨_, rfl⟩
  rw [hok] at CQ
  have HOK := hide hok
  have HS0 := hide (sown_empty w)
  clear h hn hp0 hok hlw
  go_enter Tryz.func215, Tryz.ntmps215
  go_wp2_with fail
  refine (unhide CP0).mono ?_
  rintro e w1 ⟨rfl, rfl⟩
  clear CP0
  go_wp2
  go_loopw [5, 6] (fun v i wr => ∃ (p : Int) (o : List ByteArray), i = .int .i64 p ∧ (p = -1 ∨ (0 ≤ p ∧ p < len)) ∧ o.length + p < len + 1 ∧ Hid (ok = true → o ++ (pathAt l (l.length + 1) p).map bs = (path l nm).map bs) ∧ Hid (ok = false → o = []) ∧ Hid (wr.ownsRow w.heap.size 9 1 v o.length (scells o)) ∧ Hid (Below w.heap.size w wr)) (fun _ i _ => (intOf i + 1).toNat)
  case atStart =>
    refine ⟨p0, [], rfl, hpr, by simp; omega, hide (fun e => ?_), hide (fun _ => rfl), HS0, hide (below_al (Below.refl _ _) _)⟩
    rw [path, unhide HOK, e, if_pos rfl, unhide HP0]; rfl
  case round =>
    obtain ⟨p, o, rfl, hp, ho, HO, HE, HS, HB⟩ := hrel
    by_cases h0 : 0 ≤ p
    · obtain ⟨k, rfl⟩ : ∃ k : Nat, p = k := ⟨p.toNat, by omega⟩
      have hlt : k < len := by omega
      cases ok with
      | false =>
        go_wp2_with fail
        refine (unhide CQ _ (unhide HB)).mono ?_
        rintro e w2 ⟨rfl, hb⟩
        have HB2 := hide (below_on (unhide HB) hb)
        have HS2 := hide (sown_below (unhide HS) hb)
        clear hb
        go_wp2
        go_ret
        refine ⟨_, rfl, Texts.of (unhide HS2) ?_, unhide HB2⟩
        rw [unhide HE (by first | rfl | trivial), show path l nm = [] by rw [path, unhide HOK]; rfl]
        rfl
      | true =>
        have hkl : k < l.length := by have := unhide HL; omega
        have hahead := parent_ahead (unhide HOK) hkl
        have hstep := path_step (unhide HOK) hkl (n := l.length + 1) (by omega)
        obtain ⟨b, off, rfl, hq⟩ := (unhide HR).at hlt
        have hqq := hq hkl
        obtain ⟨q, hs⟩ : ∃ q, l[k] = q := ⟨_, rfl⟩
        rw [hs] at hqq hahead hstep
        obtain ⟨pn, hpn⟩ : ∃ p, place l q.parent = p := ⟨_, rfl⟩
        have hpr2 : pn = -1 ∨ (0 ≤ pn ∧ pn < len) := by have := place_range l q.parent; rw [hpn] at this; have := unhide HL; omega
        rw [hpn] at hahead hstep
        have HQQ := hide hqq
        have HST := hide hstep
        have HPN := hide hpn
        clear hq hqq hs hkl hstep hpn
        go_wp2_with fail
        refine (unhide CQ _ (unhide HB)).mono ?_
        rintro e w2 ⟨rfl, hb⟩
        have hown := sown_below (unhide HS) hb
        have hbel := below_on (unhide HB) hb
        have HC := hide ((unhide HQQ).below hbel)
        have c0 := (unhide HC).1
        have hsz := hbel.size
        have hol : o.length ≤ 1048576 := by omega
        clear hb HS HB CQ
        go_wp2_with (at_builtin; refine wpList_append_own _ rfl _ _ 111 rfl w.heap.size 9 i0 (.string ByteArray.empty) 1 16 Tryz.underlying111 hi hz0 hz1 hz2 rfl (by decide) _ _ _ rfl (hown.alloc _) ⟨w2.heap.size, 0, none⟩ 1 1 [.string (bs q.name)] rfl rfl ?c1 ?c2 ?c3 ?c4 ?c5 ?_)
        case c1 => intro j v hj; match j, hj with | 0, hj => simp at hj; subst hj; simp [Addr.add]
        case c2 => intro v hv; simp at hv; subst hv; rfl
        case c3 => unfold maxLen; omega
        case c4 => omega
        case c5 => simp; omega
        intro v' w3 hown' hgrow _
        have R := srow_step hbel hown hown' hgrow (by omega)
        have HR3 := hide R
        have c1 := (show QAt w3 b (off + k * 4) q from (unhide HQQ).below R.2).2.1
        clear hown' hgrow hown hbel c0 R HC
        go_wp2_with fail
        refine (unhide CP q.parent _ (unhide HR3).2).mono ?_
        rintro e w4 ⟨rfl, rfl⟩
        rw [unhide HPN]
        go_wp2
        go_roundw
        case rel => exact ⟨pn, o ++ [bs q.name], rfl, hpr2, by simp; omega, hide (fun _ => by have := unhide HO (by first | rfl | trivial); rw [unhide HST] at this; simpa using this), hide (fun e => by cases e), hide (unhide HR3).1, hide (unhide HR3).2⟩
        case measure => simp [intOf]; omega
    · have hp1 : p = -1 := by omega
      subst hp1
      go_wp2
      go_ret
      refine ⟨_, rfl, Texts.of (unhide HS) ?_, unhide HB⟩
      cases ok with
      | true =>
        have := unhide HO (by first | rfl | trivial)
        rw [path_end (by omega)] at this
        simpa using this
      | false =>
        rw [unhide HE (by first | rfl | trivial), show path l nm = [] by rw [path, unhide HOK]; rfl]
        rfl
end Go.Proofs.YtfbphoppgmganaaGreat
