/-
  The law FnState answers true at every slice of bytes, and leaves it as it was: what is free and used, by machine and by queue, of drawn states is what the model says; what is free and what is used on a machine of a right state is all that it can; what a queue that is no leaf uses is what its kids use together; no condition.
-/
import Derived.Test.YtcplnodfcchdhaaGreatRows
import Derived.Test.YtcplnodfcchdhaaGreatPackAL
import Derived.Test.YtcplnodfcchdhaaGreatPackAE
import Derived.Test.YtcplnodfcchdhaaGreatPackAM
import Derived.Test.YtcplnodfcchdhaaGreatPackJ
import Derived.WalkKit
import Derived.Deep.CutRange
import Derived.Deep.RegionHeld3
import Derived.Deep.RegionWith
import Derived.Deep.QuietTactic
import Derived.ProofKit
import Derived.OpenShut
import Derived.ShutString
import Derived.ChangeOld
import Derived.Below
namespace Go.Proofs.YtcplnodfcchdhaaGreat.fnState
open Go.ChangeShapes Go.WideShapes Go.ChangeAt Go.RowKit
open Go.ChangeMaps (open_string shut_string)
set_option linter.unusedVariables false

theorem own : ownKnob Tryz.prog.godebug = none := by kernel_rfl
theorem laidOut : laidOutB Tryz.prog = true := by kernel_rfl

set_option linter.unusedSimpArgs false
set_option linter.unusedVariables false
def BFr (a0 : Option Addr) (len0 cap0 b3 : Nat) (ys : Sls) (ss : St) (nd : List UInt8) (fx fy ux uy : Int) (c : Nat) (fs : List Bool) (us : List Nat) : Act := { tmps := #[.slice a0 len0 cap0, undef, .bool false, .pointer (some ⟨b3, 0, none⟩), .string (bs nd), mkPtr (fs.getD 0 false) (us.getD 0 0), mkPtr (fs.getD 1 false) (us.getD 1 0), undef, undef, undef, undef, undef, undef, undef, undef, undef, undef, undef, undef, undef, undef, undef, undef, undef, undef, undef, undef, undef, .slice a0 len0 cap0, .bool false, .tuple #[sv ys ss, .string (bs nd)], .slice a0 len0 cap0, .tuple #[sv ys ss, .string (bs nd)], sv ys ss, .string (bs nd), sv ys ss, .string (bs nd), mkRes (Nat.ble 1 c) (rv fx fy), sv ys ss, .string (bs nd), mkRes (Nat.ble 2 c) (rv ux uy), undef, undef, undef, undef, undef, undef, undef, undef, undef, undef, undef, undef, undef, undef, undef, undef, undef, undef, undef, undef, undef, undef, undef, undef, undef, undef, undef, undef, undef, undef, undef, undef, undef, undef, undef, undef, undef, undef, undef, undef, undef, undef, undef, undef, undef, undef, undef, undef, undef, undef, undef, undef, undef, undef, undef, undef, undef, undef, undef, undef, undef, undef, undef, undef, undef, undef, undef, undef, undef, undef, undef, undef, undef, undef, undef, undef, undef, undef, undef, undef, undef, undef, undef, undef, undef, undef, undef, undef, undef, undef, undef, undef, undef, undef, undef, undef, undef, undef, undef, undef, undef, undef, undef, undef, undef, undef, undef, undef, undef, undef, undef, undef, undef, undef, undef, undef, undef, undef, undef, undef, undef, undef, undef, undef, undef, undef, undef, undef, undef, undef, undef, undef, undef, undef, undef, undef, undef, undef, undef, undef, undef, undef, undef, undef, undef, undef, undef, undef, undef, undef, undef, undef, undef, undef, undef, undef, undef, undef, undef, undef, undef, undef, undef, undef, undef, undef, undef, undef, undef, undef, undef, undef, undef, undef, undef, undef, undef, undef, undef, undef, undef, undef, undef, undef, undef, undef, undef, undef, undef, undef, undef, undef, undef, undef, undef, undef, undef, undef, undef, undef, undef, undef, undef, undef, undef, undef, undef, undef, undef], defers := [] }
def BFM : Mul := ⟨10, [2, 5], [6, 7], [8, 9], [true, true, false, true, true, false, false, false, false, false]⟩
theorem list2 {α : Type} {l : List α} (h : l.length = 2) : ∃ a b, l = [a, b] := by
  match l, h with
  | [a, b], _ => exact ⟨a, b, rfl⟩
set_option maxRecDepth 100000 in
set_option maxHeartbeats 16000000 in
theorem walk (a0 : Option Addr) (len0 cap0 : Nat) (z0 : List Int) (w : World) (w0 : IsRow w a0 len0 cap0 z0) :
    Calls Tryz.prog 3 #[.slice a0 len0 cap0] w fun e w' => e = .returned (.bool true) ∧ Below w.heap.size w w' := by
  have hl := w0.len
  by_cases hbig : len0 ≤ 1048576
  case neg =>
    have hbb : bigB len0 = true := by simp [bigB]; omega
    clear w0
    go_enter Tryz.func3, Tryz.ntmps3
    go_wp2_with fail
    refine (big_any _ _ _ _ hl).mono ?_
    rintro e wb ⟨rfl, rfl⟩
    go_wp2
    go_ret
    exact ⟨rfl, Below.refl _ _⟩
  have HK := hide (code_of w0 hbig)
  have hbb : bigB len0 = false := by simp [bigB]; omega
  clear w0
  go_enter Tryz.func3, Tryz.ntmps3
  go_wp2_with fail
  refine (big_any _ _ _ _ hl).mono ?_
  rintro e wb ⟨rfl, rfl⟩
  have BW := hide (Below.refl w.heap.size w)
  go_wp2_with fail
  refine (drawFreeOn_any w.heap.size _ _ _ _ ((unhide HK).below (unhide BW) (Nat.le_refl _))).mono ?_
  rintro e w3 ⟨ys, ss, hss, nd, rfl, D3, hnd, hb⟩
  replace BW := hide (below_on (unhide BW) (unhide hb))
  clear hb
  have bb := below_al (Below.refl _ w3) (.cells (svc ys ss) 29)
  have X3 := hide (blk_new w3 (svc ys ss) 29)
  replace BW := hide (below_on (unhide BW) (bb))
  replace D3 := hide ((unhide D3).below (bb))
  obtain ⟨b3, hb3⟩ : ∃ g, w3.heap.size = g := ⟨_, rfl⟩
  rw [hb3] at X3
  clear bb
  obtain ⟨⟨fx, fy⟩, hfr⟩ : ∃ p, freeOnV ss nd = p := ⟨_, rfl⟩
  have CFI := hide (fun wx (D : DrU wx ys ss hss) => foI D (by omega) hfr)
  try simp only at CFI
  have CFS := hide (fun wx (D : DrU wx ys ss hss) => foS D hfr)
  try simp only at CFS
  clear hfr
  obtain ⟨⟨ux, uy⟩, hus⟩ : ∃ p, usedOnV ss nd = p := ⟨_, rfl⟩
  have CUI := hide (fun wx (D : DrU wx ys ss hss) => uoI D hus)
  try simp only at CUI
  have CUS := hide (fun wx (D : DrU wx ys ss hss) => uoS D hus)
  try simp only at CUS
  clear hus
  go_upto_region 4 with fail
  clear hb3
  generalize w3.alloc (.cells (svc ys ss) 29) = w4 at D3 X3 BW ⊢
  have A0 := hide (Kp.new w4)
  have HS := hide (kp_holds w4)
  go_cut [5, 6] from 35 to 40 (fun v5 v6 wx => ∃ g5 g6, v5 = .pointer (some ⟨g5, 0, none⟩) ∧ v6 = .pointer (some ⟨g6, 0, none⟩) ∧ Hid (Blk wx g5 #[.int .i64 fx, .int .i64 fy] 33) ∧ Hid (Blk wx g6 #[.int .i64 ux, .int .i64 uy] 33) ∧ Hid (Below w4.heap.size w4 wx))
  case first =>
    refine wp_region_held_drew (S := fun wx => Kp w4 wx) (by kernel_rfl) ((unhide HS).drew (unhide A0)) (fun S0 => ?_)
    refine takeW 0 35 (sv ys ss) rfl rfl S0 ?_ (hy := Or.inl ⟨by rfl, fun wz hz => run_v (state_load ((unhide X3).below hz) rfl)⟩)
    try simp only [Act.put, List.setIfInBounds_toArray, List.set_cons_zero, List.set_cons_succ]
    refine takeW 1 36 _ rfl rfl S0 ?_
    try simp only [Act.put, List.setIfInBounds_toArray, List.set_cons_zero, List.set_cons_succ]
    refine takeW 3 38 (sv ys ss) rfl rfl S0 ?_ (hy := Or.inl ⟨by rfl, fun wz hz => run_v (state_load ((unhide X3).below hz) rfl)⟩)
    try simp only [Act.put, List.setIfInBounds_toArray, List.set_cons_zero, List.set_cons_succ]
    refine takeW 4 39 _ rfl rfl S0 ?_
    try simp only [Act.put, List.setIfInBounds_toArray, List.set_cons_zero, List.set_cons_succ]
    refine wpAnyH_is (n' := 2 + 2 + 2) (l' := BFM.lst 0 [false, false] 0) (a' := BFr a0 len0 cap0 b3 ys ss nd fx fy ux uy 0 [false, false] [0, 0]) rfl (by kernel_rfl) rfl ?_
    refine region_multi (w1 := w4) BFM (BFr a0 len0 cap0 b3 ys ss nd fx fy ux uy) [(fx, fy), (ux, uy)] rfl (by as_aux_lemma => kernel_rfl) ?call ?al ?st ?fin _ S0
    case call =>
      intro c f us wz K hc hf hu kp hK
      obtain ⟨f0, f1, rfl⟩ := list2 hf
      obtain ⟨g5, g6, rfl⟩ := list2 hu
      have hc4 : c < 2 := hc
      match c, hc4, hK with
      | 0, _, hK =>
        show Mul.step _ _ _ 2 _ _ _
        refine ⟨_, rfl, ?_⟩
        simp only [BFr, List.getD_cons_zero, List.getD_cons_succ]
        go_simp
        refine (unhide CFI _ ((unhide D3).below kp)).mono ?_
        rintro e w2 ⟨rfl, hb⟩
        go_wp2_with fail
        first | exact hb | exact hK _ hb
      | 1, _, hK =>
        show Mul.step _ _ _ 5 _ _ _
        refine ⟨_, rfl, ?_⟩
        simp only [BFr, List.getD_cons_zero, List.getD_cons_succ]
        go_simp
        refine (unhide CUI _ ((unhide D3).below kp)).mono ?_
        rintro e w2 ⟨rfl, hb⟩
        go_wp2_with fail
        first | exact hb | exact hK _ hb
    case al =>
      intro j c f us wz K hc hf hu hj hK
      obtain ⟨f0, f1, rfl⟩ := list2 hf
      obtain ⟨g5, g6, rfl⟩ := list2 hu
      match j, hj, hK with
      | 0, hj, hK =>
        show Mul.step _ _ _ 6 _ _ _
        refine ⟨_, rfl, ?_⟩
        simp only [BFr, List.getD_cons_zero, List.getD_cons_succ]
        go_simp
        go_wp2_with fail
        exact hK
      | 1, hj, hK =>
        show Mul.step _ _ _ 7 _ _ _
        refine ⟨_, rfl, ?_⟩
        simp only [BFr, List.getD_cons_zero, List.getD_cons_succ]
        go_simp
        go_wp2_with fail
        exact hK
      | j + 2, hj, _ => simp at hj
    case st =>
      intro s us wz K hs hu hv hK
      obtain ⟨g5, g6, rfl⟩ := list2 hu
      have hs4 : s < 2 := hs
      match s, hs4, hv, hK with
      | 0, _, hv, hK =>
        replace hv : Var wz 33 g5 0 0 := hv
        have y0 := hv.c0
        have y1 := hv.c1
        have y2 := hv.f 0
        have y3 := hv.f 1
        show Mul.step _ _ _ 8 { tmps := #[.slice a0 len0 cap0, undef, .bool false, .pointer (some ⟨b3, 0, none⟩), .string (bs nd), .pointer (some ⟨g5, 0, none⟩), .pointer (some ⟨g6, 0, none⟩), undef, undef, undef, undef, undef, undef, undef, undef, undef, undef, undef, undef, undef, undef, undef, undef, undef, undef, undef, undef, undef, .slice a0 len0 cap0, .bool false, .tuple #[sv ys ss, .string (bs nd)], .slice a0 len0 cap0, .tuple #[sv ys ss, .string (bs nd)], sv ys ss, .string (bs nd), sv ys ss, .string (bs nd), rv fx fy, sv ys ss, .string (bs nd), rv ux uy, undef, undef, undef, undef, undef, undef, undef, undef, undef, undef, undef, undef, undef, undef, undef, undef, undef, undef, undef, undef, undef, undef, undef, undef, undef, undef, undef, undef, undef, undef, undef, undef, undef, undef, undef, undef, undef, undef, undef, undef, undef, undef, undef, undef, undef, undef, undef, undef, undef, undef, undef, undef, undef, undef, undef, undef, undef, undef, undef, undef, undef, undef, undef, undef, undef, undef, undef, undef, undef, undef, undef, undef, undef, undef, undef, undef, undef, undef, undef, undef, undef, undef, undef, undef, undef, undef, undef, undef, undef, undef, undef, undef, undef, undef, undef, undef, undef, undef, undef, undef, undef, undef, undef, undef, undef, undef, undef, undef, undef, undef, undef, undef, undef, undef, undef, undef, undef, undef, undef, undef, undef, undef, undef, undef, undef, undef, undef, undef, undef, undef, undef, undef, undef, undef, undef, undef, undef, undef, undef, undef, undef, undef, undef, undef, undef, undef, undef, undef, undef, undef, undef, undef, undef, undef, undef, undef, undef, undef, undef, undef, undef, undef, undef, undef, undef, undef, undef, undef, undef, undef, undef, undef, undef, undef, undef, undef, undef, undef, undef, undef, undef, undef, undef, undef, undef, undef, undef, undef, undef, undef, undef, undef, undef, undef, undef, undef, undef, undef, undef, undef, undef, undef, undef, undef, undef, undef, undef, undef, undef], defers := [] } _ _
        refine ⟨_, rfl, ?_⟩
        go_simp
        go_wp2_with fail
        exact hK
      | 1, _, hv, hK =>
        replace hv : Var wz 33 g6 0 0 := hv
        have y0 := hv.c0
        have y1 := hv.c1
        have y2 := hv.f 0
        have y3 := hv.f 1
        show Mul.step _ _ _ 9 { tmps := #[.slice a0 len0 cap0, undef, .bool false, .pointer (some ⟨b3, 0, none⟩), .string (bs nd), .pointer (some ⟨g5, 0, none⟩), .pointer (some ⟨g6, 0, none⟩), undef, undef, undef, undef, undef, undef, undef, undef, undef, undef, undef, undef, undef, undef, undef, undef, undef, undef, undef, undef, undef, .slice a0 len0 cap0, .bool false, .tuple #[sv ys ss, .string (bs nd)], .slice a0 len0 cap0, .tuple #[sv ys ss, .string (bs nd)], sv ys ss, .string (bs nd), sv ys ss, .string (bs nd), rv fx fy, sv ys ss, .string (bs nd), rv ux uy, undef, undef, undef, undef, undef, undef, undef, undef, undef, undef, undef, undef, undef, undef, undef, undef, undef, undef, undef, undef, undef, undef, undef, undef, undef, undef, undef, undef, undef, undef, undef, undef, undef, undef, undef, undef, undef, undef, undef, undef, undef, undef, undef, undef, undef, undef, undef, undef, undef, undef, undef, undef, undef, undef, undef, undef, undef, undef, undef, undef, undef, undef, undef, undef, undef, undef, undef, undef, undef, undef, undef, undef, undef, undef, undef, undef, undef, undef, undef, undef, undef, undef, undef, undef, undef, undef, undef, undef, undef, undef, undef, undef, undef, undef, undef, undef, undef, undef, undef, undef, undef, undef, undef, undef, undef, undef, undef, undef, undef, undef, undef, undef, undef, undef, undef, undef, undef, undef, undef, undef, undef, undef, undef, undef, undef, undef, undef, undef, undef, undef, undef, undef, undef, undef, undef, undef, undef, undef, undef, undef, undef, undef, undef, undef, undef, undef, undef, undef, undef, undef, undef, undef, undef, undef, undef, undef, undef, undef, undef, undef, undef, undef, undef, undef, undef, undef, undef, undef, undef, undef, undef, undef, undef, undef, undef, undef, undef, undef, undef, undef, undef, undef, undef, undef, undef, undef, undef, undef, undef, undef, undef, undef, undef, undef, undef, undef, undef, undef, undef, undef, undef, undef, undef, undef, undef, undef, undef, undef, undef], defers := [] } _ _
        refine ⟨_, rfl, ?_⟩
        go_simp
        go_wp2_with fail
        exact hK
    case fin =>
      intro us wz hu hV kp
      obtain ⟨g5, g6, rfl⟩ := list2 hu
      have v5 : VB w4 wz g5 fx fy := hV 0 (by decide)
      have v6 : VB w4 wz g6 ux uy := hV 1 (by decide)
      go_wp2_with fail
      go_meet
      exact ⟨g5, g6, rfl, rfl, hide v5.2, hide v6.2, hide kp⟩
  case rest =>
    obtain ⟨g5, g6, rfl, rfl, X5, X6, hbz⟩ := hcut
    replace BW := hide (below_on (unhide BW) (unhide hbz))
    replace D3 := hide ((unhide D3).below (unhide hbz))
    replace X3 := hide ((unhide X3).below (unhide hbz))
    clear hbz A0 HS
    obtain ⟨wr4, rfl⟩ : ∃ z, z = wc := ⟨_, rfl⟩
    go_wp2_with fail
    refine (drawUsedBy_any w.heap.size _ _ _ _ ((unhide HK).below (unhide BW) (Nat.le_refl _))).mono ?_
    rintro e w7 ⟨yt, st, hst, qu, rfl, D7, hqu, hb⟩
    replace BW := hide (below_on (unhide BW) (unhide hb))
    replace D3 := hide ((unhide D3).below (unhide hb))
    replace X3 := hide ((unhide X3).below (unhide hb))
    replace X5 := hide ((unhide X5).below (unhide hb))
    replace X6 := hide ((unhide X6).below (unhide hb))
    clear hb
    have bb := below_al (Below.refl _ w7) (.cells (svc yt st) 29)
    have X7 := hide (blk_new w7 (svc yt st) 29)
    replace BW := hide (below_on (unhide BW) (bb))
    replace D3 := hide ((unhide D3).below (bb))
    replace X3 := hide ((unhide X3).below (bb))
    replace X5 := hide ((unhide X5).below (bb))
    replace X6 := hide ((unhide X6).below (bb))
    replace D7 := hide ((unhide D7).below (bb))
    obtain ⟨b7, hb7⟩ : ∃ g, w7.heap.size = g := ⟨_, rfl⟩
    rw [hb7] at X7
    clear bb
    go_wp2_with fail
    clear hb7
    refine (drawRoom_any w.heap.size _ _ _ _ ((unhide HK).below (unhide BW) (Nat.le_refl _))).mono ?_
    rintro e w9 ⟨yx, sx, hsx, nm, rx, ry, rfl, D9, hnm, hb⟩
    replace BW := hide (below_on (unhide BW) (unhide hb))
    replace D3 := hide ((unhide D3).below (unhide hb))
    replace X3 := hide ((unhide X3).below (unhide hb))
    replace X5 := hide ((unhide X5).below (unhide hb))
    replace X6 := hide ((unhide X6).below (unhide hb))
    replace D7 := hide ((unhide D7).below (unhide hb))
    replace X7 := hide ((unhide X7).below (unhide hb))
    clear hb
    have bb := below_al (below_al (Below.refl _ w9) (.cells (svc yx sx) 29)) (.cells #[.int .i64 rx, .int .i64 ry] 33)
    have X9 := hide ((blk_new w9 (svc yx sx) 29).al (.cells #[.int .i64 rx, .int .i64 ry] 33))
    have X11 := hide (blk_new (w9.alloc (.cells (svc yx sx) 29)) #[.int .i64 rx, .int .i64 ry] 33)
    rw [al_size] at X11
    replace BW := hide (below_on (unhide BW) (bb))
    replace D3 := hide ((unhide D3).below (bb))
    replace X3 := hide ((unhide X3).below (bb))
    replace X5 := hide ((unhide X5).below (bb))
    replace X6 := hide ((unhide X6).below (bb))
    replace D7 := hide ((unhide D7).below (bb))
    replace X7 := hide ((unhide X7).below (bb))
    replace D9 := hide ((unhide D9).below (bb))
    obtain ⟨b9, hb9⟩ : ∃ g, w9.heap.size = g := ⟨_, rfl⟩
    rw [hb9] at X9 X11
    clear bb
    go_wp2_with fail
    clear hb9
    refine (drawAppOf_any w.heap.size _ _ _ _ ((unhide HK).below (unhide BW) (Nat.le_refl _))).mono ?_
    rintro e w12 ⟨ya, sa, hsa, ai, rfl, D12, hai, hb⟩
    replace BW := hide (below_on (unhide BW) (unhide hb))
    replace D3 := hide ((unhide D3).below (unhide hb))
    replace X3 := hide ((unhide X3).below (unhide hb))
    replace X5 := hide ((unhide X5).below (unhide hb))
    replace X6 := hide ((unhide X6).below (unhide hb))
    replace D7 := hide ((unhide D7).below (unhide hb))
    replace X7 := hide ((unhide X7).below (unhide hb))
    replace D9 := hide ((unhide D9).below (unhide hb))
    replace X9 := hide ((unhide X9).below (unhide hb))
    replace X11 := hide ((unhide X11).below (unhide hb))
    clear hb
    have bb := below_al (Below.refl _ w12) (.cells (svc ya sa) 29)
    have X12 := hide (blk_new w12 (svc ya sa) 29)
    replace BW := hide (below_on (unhide BW) (bb))
    replace D3 := hide ((unhide D3).below (bb))
    replace X3 := hide ((unhide X3).below (bb))
    replace X5 := hide ((unhide X5).below (bb))
    replace X6 := hide ((unhide X6).below (bb))
    replace D7 := hide ((unhide D7).below (bb))
    replace X7 := hide ((unhide X7).below (bb))
    replace D9 := hide ((unhide D9).below (bb))
    replace X9 := hide ((unhide X9).below (bb))
    replace X11 := hide ((unhide X11).below (bb))
    replace D12 := hide ((unhide D12).below (bb))
    obtain ⟨b12, hb12⟩ : ∃ g, w12.heap.size = g := ⟨_, rfl⟩
    rw [hb12] at X12
    clear bb
    obtain ⟨an, han⟩ : ∃ n, apN sa ai = n := ⟨_, rfl⟩
    have hal : an ≤ 1048576 := by rw [← han]; exact apN_le (unhide D12).fit ai
    unfold apN at han
    obtain ⟨⟨⟨pi, pq, pk⟩, th⟩, hap⟩ : ∃ p, appOfV sa ai = p := ⟨_, rfl⟩
    rw [hap] at han
    simp only at han
    have CAI := hide (fun wx (D : DrU wx ya sa hsa) => apI D hai hap han)
    have CAS := hide (fun wx (D : DrU wx ya sa hsa) => apS D hap han)
    simp only at CAI CAS
    have HAN := hide han
    clear han hap
    have u0 := (unhide X12).at 0; have u1 := (unhide X12).at 1; have u2 := (unhide X12).at 2; have u3 := (unhide X12).at 3; have u4 := (unhide X12).at 4; have u5 := (unhide X12).at 5; have u6 := (unhide X12).at 6; have u7 := (unhide X12).at 7
    simp at u0 u1 u2 u3 u4 u5 u6 u7
    go_wp2_with fail
    clear hb12
    refine (unhide CAI _ (unhide D12)).mono ?_
    rintro e w14 ⟨vo14, vc14, rfl, R14, hb⟩
    clear u0 u1 u2 u3 u4 u5 u6 u7
    replace BW := hide (below_on (unhide BW) (hb))
    replace D3 := hide ((unhide D3).below (hb))
    replace X3 := hide ((unhide X3).below (hb))
    replace X5 := hide ((unhide X5).below (hb))
    replace X6 := hide ((unhide X6).below (hb))
    replace D7 := hide ((unhide D7).below (hb))
    replace X7 := hide ((unhide X7).below (hb))
    replace D9 := hide ((unhide D9).below (hb))
    replace X9 := hide ((unhide X9).below (hb))
    replace X11 := hide ((unhide X11).below (hb))
    replace D12 := hide ((unhide D12).below (hb))
    replace X12 := hide ((unhide X12).below (hb))
    clear hb
    have bb := below_al (Below.refl _ w14) (.cells #[.int .i64 pi, .string (bs pq), .slice vo14 an vc14] 41)
    have X14 := hide (blk_new w14 #[.int .i64 pi, .string (bs pq), .slice vo14 an vc14] 41)
    replace BW := hide (below_on (unhide BW) (bb))
    replace D3 := hide ((unhide D3).below (bb))
    replace X3 := hide ((unhide X3).below (bb))
    replace X5 := hide ((unhide X5).below (bb))
    replace X6 := hide ((unhide X6).below (bb))
    replace D7 := hide ((unhide D7).below (bb))
    replace X7 := hide ((unhide X7).below (bb))
    replace D9 := hide ((unhide D9).below (bb))
    replace X9 := hide ((unhide X9).below (bb))
    replace X11 := hide ((unhide X11).below (bb))
    replace D12 := hide ((unhide D12).below (bb))
    replace X12 := hide ((unhide X12).below (bb))
    replace R14 := hide ((unhide R14).below (bb))
    obtain ⟨b14, hb14⟩ : ∃ g, w14.heap.size = g := ⟨_, rfl⟩
    rw [hb14] at X14
    clear bb
    have u0 := (unhide X12).at 0; have u1 := (unhide X12).at 1; have u2 := (unhide X12).at 2; have u3 := (unhide X12).at 3; have u4 := (unhide X12).at 4; have u5 := (unhide X12).at 5; have u6 := (unhide X12).at 6; have u7 := (unhide X12).at 7
    simp at u0 u1 u2 u3 u4 u5 u6 u7
    go_wp2_with fail
    clear hb14
    refine (unhide CAS _ (unhide D12)).mono ?_
    rintro e w16 ⟨vo16, vc16, rfl, R16, hb⟩
    clear u0 u1 u2 u3 u4 u5 u6 u7
    replace BW := hide (below_on (unhide BW) (hb))
    replace D3 := hide ((unhide D3).below (hb))
    replace X3 := hide ((unhide X3).below (hb))
    replace X5 := hide ((unhide X5).below (hb))
    replace X6 := hide ((unhide X6).below (hb))
    replace D7 := hide ((unhide D7).below (hb))
    replace X7 := hide ((unhide X7).below (hb))
    replace D9 := hide ((unhide D9).below (hb))
    replace X9 := hide ((unhide X9).below (hb))
    replace X11 := hide ((unhide X11).below (hb))
    replace D12 := hide ((unhide D12).below (hb))
    replace X12 := hide ((unhide X12).below (hb))
    replace R14 := hide ((unhide R14).below (hb))
    replace X14 := hide ((unhide X14).below (hb))
    clear hb
    have bb := below_al (Below.refl _ w16) (.cells #[.int .i64 pi, .string (bs pq), .slice vo16 an vc16] 41)
    have X16 := hide (blk_new w16 #[.int .i64 pi, .string (bs pq), .slice vo16 an vc16] 41)
    replace BW := hide (below_on (unhide BW) (bb))
    replace D3 := hide ((unhide D3).below (bb))
    replace X3 := hide ((unhide X3).below (bb))
    replace X5 := hide ((unhide X5).below (bb))
    replace X6 := hide ((unhide X6).below (bb))
    replace D7 := hide ((unhide D7).below (bb))
    replace X7 := hide ((unhide X7).below (bb))
    replace D9 := hide ((unhide D9).below (bb))
    replace X9 := hide ((unhide X9).below (bb))
    replace X11 := hide ((unhide X11).below (bb))
    replace D12 := hide ((unhide D12).below (bb))
    replace X12 := hide ((unhide X12).below (bb))
    replace R14 := hide ((unhide R14).below (bb))
    replace X14 := hide ((unhide X14).below (bb))
    replace R16 := hide ((unhide R16).below (bb))
    obtain ⟨b16, hb16⟩ : ∃ g, w16.heap.size = g := ⟨_, rfl⟩
    rw [hb16] at X16
    clear bb
    go_wp2_with fail
    clear hb16
    refine (drawStateNew_any w.heap.size _ _ _ _ ((unhide HK).below (unhide BW) (Nat.le_refl _))).mono ?_
    rintro e w18 ⟨qb, qn, qc, ls, rfl, Q18, hqc, hqn, BR, hb⟩
    replace BW := hide (below_on (unhide BW) (unhide hb))
    replace D3 := hide ((unhide D3).below (unhide hb))
    replace X3 := hide ((unhide X3).below (unhide hb))
    replace X5 := hide ((unhide X5).below (unhide hb))
    replace X6 := hide ((unhide X6).below (unhide hb))
    replace D7 := hide ((unhide D7).below (unhide hb))
    replace X7 := hide ((unhide X7).below (unhide hb))
    replace D9 := hide ((unhide D9).below (unhide hb))
    replace X9 := hide ((unhide X9).below (unhide hb))
    replace X11 := hide ((unhide X11).below (unhide hb))
    replace D12 := hide ((unhide D12).below (unhide hb))
    replace X12 := hide ((unhide X12).below (unhide hb))
    replace R14 := hide ((unhide R14).below (unhide hb))
    replace X14 := hide ((unhide X14).below (unhide hb))
    replace R16 := hide ((unhide R16).below (unhide hb))
    replace X16 := hide ((unhide X16).below (unhide hb))
    clear hb
    have hls : ls.length ≤ 1000 := by have := (unhide Q18).1; omega
    obtain ⟨T, hT⟩ : ∃ t, newT ls = t := ⟨_, rfl⟩
    have FT := hide (show FitSt T by rw [← hT]; exact newT_fit hls (unhide BR))
    have CNO := hide (fun (h : queuesOk ls = true) wx qo m k (h1 : SRow wx (newX qo m k) T) (hk : m ≤ k) => newOk hT h hls (unhide BR) h1 hk)
    obtain ⟨mb, hmb⟩ : ∃ b, queuesOk ls = b := ⟨_, rfl⟩
    have CNI := hide (fun wx (h : QRow wx (some ⟨qb, 0, none⟩) qn ls) => snI h hqn (unhide BR) hqc hmb hT)
    have CNS := hide (fun wx (h : QRow wx (some ⟨qb, 0, none⟩) qn ls) => snS (c := qc) h hqn (unhide BR) hmb hT)
    rw [hmb] at CNO
    clear hT hmb hls
    go_wp2_with fail
    refine (unhide CNI _ (unhide Q18)).mono ?_
    rintro e w19 ⟨qo19, qm19, qk19, rfl, R19, hk19, hb⟩
    replace BW := hide (below_on (unhide BW) (hb))
    replace D3 := hide ((unhide D3).below (hb))
    replace X3 := hide ((unhide X3).below (hb))
    replace X5 := hide ((unhide X5).below (hb))
    replace X6 := hide ((unhide X6).below (hb))
    replace D7 := hide ((unhide D7).below (hb))
    replace X7 := hide ((unhide X7).below (hb))
    replace D9 := hide ((unhide D9).below (hb))
    replace X9 := hide ((unhide X9).below (hb))
    replace X11 := hide ((unhide X11).below (hb))
    replace D12 := hide ((unhide D12).below (hb))
    replace X12 := hide ((unhide X12).below (hb))
    replace R14 := hide ((unhide R14).below (hb))
    replace X14 := hide ((unhide X14).below (hb))
    replace R16 := hide ((unhide R16).below (hb))
    replace X16 := hide ((unhide X16).below (hb))
    replace Q18 := hide ((unhide Q18).below (hb))
    clear hb
    have bb := below_al (Below.refl _ w19) (.cells (svc (newX qo19 qm19 qk19) T) 29)
    have X19 := hide (blk_new w19 (svc (newX qo19 qm19 qk19) T) 29)
    replace BW := hide (below_on (unhide BW) (bb))
    replace D3 := hide ((unhide D3).below (bb))
    replace X3 := hide ((unhide X3).below (bb))
    replace X5 := hide ((unhide X5).below (bb))
    replace X6 := hide ((unhide X6).below (bb))
    replace D7 := hide ((unhide D7).below (bb))
    replace X7 := hide ((unhide X7).below (bb))
    replace D9 := hide ((unhide D9).below (bb))
    replace X9 := hide ((unhide X9).below (bb))
    replace X11 := hide ((unhide X11).below (bb))
    replace D12 := hide ((unhide D12).below (bb))
    replace X12 := hide ((unhide X12).below (bb))
    replace R14 := hide ((unhide R14).below (bb))
    replace X14 := hide ((unhide X14).below (bb))
    replace R16 := hide ((unhide R16).below (bb))
    replace X16 := hide ((unhide X16).below (bb))
    replace Q18 := hide ((unhide Q18).below (bb))
    replace R19 := hide ((unhide R19).below (bb))
    obtain ⟨b19, hb19⟩ : ∃ g, w19.heap.size = g := ⟨_, rfl⟩
    rw [hb19] at X19
    clear bb
    go_wp2_with fail
    clear hb19
    refine (unhide CNS _ (unhide Q18)).mono ?_
    rintro e w21 ⟨qo21, qm21, qk21, rfl, R21, hb⟩
    replace BW := hide (below_on (unhide BW) (hb))
    replace D3 := hide ((unhide D3).below (hb))
    replace X3 := hide ((unhide X3).below (hb))
    replace X5 := hide ((unhide X5).below (hb))
    replace X6 := hide ((unhide X6).below (hb))
    replace D7 := hide ((unhide D7).below (hb))
    replace X7 := hide ((unhide X7).below (hb))
    replace D9 := hide ((unhide D9).below (hb))
    replace X9 := hide ((unhide X9).below (hb))
    replace X11 := hide ((unhide X11).below (hb))
    replace D12 := hide ((unhide D12).below (hb))
    replace X12 := hide ((unhide X12).below (hb))
    replace R14 := hide ((unhide R14).below (hb))
    replace X14 := hide ((unhide X14).below (hb))
    replace R16 := hide ((unhide R16).below (hb))
    replace X16 := hide ((unhide X16).below (hb))
    replace Q18 := hide ((unhide Q18).below (hb))
    replace R19 := hide ((unhide R19).below (hb))
    replace X19 := hide ((unhide X19).below (hb))
    clear hb
    have bb := below_al (Below.refl _ w21) (.cells (svc (newX qo21 qm21 qk21) T) 29)
    have X21 := hide (blk_new w21 (svc (newX qo21 qm21 qk21) T) 29)
    replace BW := hide (below_on (unhide BW) (bb))
    replace D3 := hide ((unhide D3).below (bb))
    replace X3 := hide ((unhide X3).below (bb))
    replace X5 := hide ((unhide X5).below (bb))
    replace X6 := hide ((unhide X6).below (bb))
    replace D7 := hide ((unhide D7).below (bb))
    replace X7 := hide ((unhide X7).below (bb))
    replace D9 := hide ((unhide D9).below (bb))
    replace X9 := hide ((unhide X9).below (bb))
    replace X11 := hide ((unhide X11).below (bb))
    replace D12 := hide ((unhide D12).below (bb))
    replace X12 := hide ((unhide X12).below (bb))
    replace R14 := hide ((unhide R14).below (bb))
    replace X14 := hide ((unhide X14).below (bb))
    replace R16 := hide ((unhide R16).below (bb))
    replace X16 := hide ((unhide X16).below (bb))
    replace Q18 := hide ((unhide Q18).below (bb))
    replace R19 := hide ((unhide R19).below (bb))
    replace X19 := hide ((unhide X19).below (bb))
    replace R21 := hide ((unhide R21).below (bb))
    obtain ⟨b21, hb21⟩ : ∃ g, w21.heap.size = g := ⟨_, rfl⟩
    rw [hb21] at X21
    clear bb
    obtain ⟨⟨ubx, uby⟩, hub⟩ : ∃ p, usedByV st qu = p := ⟨_, rfl⟩
    have CBI := hide (fun wx (D : DrU wx yt st hst) => ubI D hub)
    try simp only at CBI
    have CBS := hide (fun wx (D : DrU wx yt st hst) => ubS D hub)
    try simp only at CBS
    have HUB := hide (hub)
    try simp only at HUB
    clear hub
    obtain ⟨ro, hro⟩ : ∃ p, roomV sx nm rx ry = p := ⟨_, rfl⟩
    have CRI := hide (fun wx (D : DrU wx yx sx hsx) => rmI D hro)
    have CRS := hide (fun wx (D : DrU wx yx sx hsx) => rmS D hro)
    clear hro
    obtain ⟨os, hos⟩ : ∃ p, stateOkV ss = p := ⟨_, rfl⟩
    have COI := hide (fun wx (D : DrU wx ys ss hss) => soI D hos)
    have COS := hide (fun wx (D : DrU wx ys ss hss) => soS D hos)
    have HOS := hide (hos)
    clear hos
    obtain ⟨ot, hot⟩ : ∃ p, stateOkV st = p := ⟨_, rfl⟩
    have COT := hide (fun wx (D : DrU wx yt st hst) => soS D hot)
    have HOT := hide (hot)
    clear hot
    obtain ⟨lf, hlf⟩ : ∃ p, leaf st.qs qu = p := ⟨_, rfl⟩
    have CLF := hide (fun wx (D : DrU wx yt st hst) => leS D hlf)
    have HLF := hide (hlf)
    clear hlf
    obtain ⟨pe, hpe⟩ : ∃ p, pendingV st qu = p := ⟨_, rfl⟩
    have CPI := hide (fun wx (D : DrU wx yt st hst) => peI D hpe)
    have CPS := hide (fun wx (D : DrU wx yt st hst) => peS D hpe)
    clear hpe
    obtain ⟨⟨tx, ty⟩, hto⟩ : ∃ p, totalV ss = p := ⟨_, rfl⟩
    have CTI := hide (fun wx (D : DrU wx ys ss hss) => toI D hto)
    try simp only at CTI
    have CTS := hide (fun wx (D : DrU wx ys ss hss) => toS D hto)
    try simp only at CTS
    clear hto
    clear HK CNI CNS CAI CAS CFI CUI Q18
    go_upto_region 13 with fail
    clear hb21
    generalize (w21.alloc (.cells (svc (newX qo21 qm21 qk21) T) 29)) = w13 at BW D3 X3 X5 X6 D7 X7 D9 X9 X11 D12 X12 R14 X14 R16 X16 R19 X19 R21 X21 ⊢
    have A0 := hide (Kp.new w13)
    have HS := hide (kp_holds w13)
    go_cut [165] from 81 to 164 (fun v165 wx => v165 = .bool false ∧ Hid (Below w13.heap.size w13 wx))
    case first =>
      try simp only [List.append_eq, List.cons_append, List.nil_append]
      refine wp_region_held_drew (S := fun wx => Kp w13 wx) (by kernel_rfl) ((unhide HS).drew (unhide A0)) (fun S0 => ?_)
      generalize w13.drew = wn at S0 ⊢
      as_aux_lemma =>
        refine takeW 0 81 (rv fx fy) rfl rfl S0 ?_ (hy := Or.inl ⟨by rfl, fun wz hz => run_v (res_load ((unhide X5).below hz))⟩)
        try simp only [Act.put, List.setIfInBounds_toArray, List.set_cons_zero, List.set_cons_succ]
        refine takeW 1 82 (sv ys ss) rfl rfl S0 ?_ (hy := Or.inl ⟨by rfl, fun wz hz => run_v (state_load ((unhide X3).below hz) rfl)⟩)
        try simp only [Act.put, List.setIfInBounds_toArray, List.set_cons_zero, List.set_cons_succ]
        refine takeW 2 83 _ rfl rfl S0 ?_
        try simp only [Act.put, List.setIfInBounds_toArray, List.set_cons_zero, List.set_cons_succ]
        refine wpAnyH_ready (rs := [3]) (by kernel_rfl) (by simp) (AllReadyH.cons rfl (fun K hK => ?_) AllReadyH.nil)
        go_simp
        refine (unhide CFS _ ((unhide D3).below S0)).mono ?_
        rintro e wq ⟨rfl, hb⟩
        have S1 : Kp w13 wq := below_on S0 hb
        clear S0 hb
        go_wp2_with fail
        refine hK.out _ _ S1 (fun S0 => ?_)
        clear hK K S1
        try simp only [Act.put, List.setIfInBounds_toArray, List.set_cons_zero, List.set_cons_succ]
        refine takeW 4 85 (.bool false) rfl rfl S0 ?_
        try simp only [Act.put, List.setIfInBounds_toArray, List.set_cons_zero, List.set_cons_succ]
        refine takeW 5 86 _ rfl rfl S0 ?_
        try simp only [Act.put, List.setIfInBounds_toArray, List.set_cons_zero, List.set_cons_succ]
        refine takeW 6 87 (rv ux uy) rfl rfl S0 ?_ (hy := Or.inl ⟨by rfl, fun wz hz => run_v (res_load ((unhide X6).below hz))⟩)
        try simp only [Act.put, List.setIfInBounds_toArray, List.set_cons_zero, List.set_cons_succ]
        refine takeW 7 88 (sv ys ss) rfl rfl S0 ?_ (hy := Or.inl ⟨by rfl, fun wz hz => run_v (state_load ((unhide X3).below hz) rfl)⟩)
        try simp only [Act.put, List.setIfInBounds_toArray, List.set_cons_zero, List.set_cons_succ]
        refine takeW 8 89 _ rfl rfl S0 ?_
        try simp only [Act.put, List.setIfInBounds_toArray, List.set_cons_zero, List.set_cons_succ]
        refine wpAnyH_ready (rs := [9]) (by kernel_rfl) (by simp) (AllReadyH.cons rfl (fun K hK => ?_) AllReadyH.nil)
        go_simp
        refine (unhide CUS _ ((unhide D3).below S0)).mono ?_
        rintro e wq ⟨rfl, hb⟩
        have S1 : Kp w13 wq := below_on S0 hb
        clear S0 hb
        go_wp2_with fail
        refine hK.out _ _ S1 (fun S0 => ?_)
        clear hK K S1
        try simp only [Act.put, List.setIfInBounds_toArray, List.set_cons_zero, List.set_cons_succ]
        refine takeW 10 91 (.bool false) rfl rfl S0 ?_
        try simp only [Act.put, List.setIfInBounds_toArray, List.set_cons_zero, List.set_cons_succ]
        refine takeW 11 92 (.bool false) rfl rfl S0 ?_
        try simp only [Act.put, List.setIfInBounds_toArray, List.set_cons_zero, List.set_cons_succ]
        refine takeW 12 93 _ rfl rfl S0 ?_
        try simp only [Act.put, List.setIfInBounds_toArray, List.set_cons_zero, List.set_cons_succ]
        refine takeW 13 94 (sv yt st) rfl rfl S0 ?_ (hy := Or.inl ⟨by rfl, fun wz hz => run_v (state_load ((unhide X7).below hz) rfl)⟩)
        try simp only [Act.put, List.setIfInBounds_toArray, List.set_cons_zero, List.set_cons_succ]
        refine takeW 14 95 _ rfl rfl S0 ?_
        try simp only [Act.put, List.setIfInBounds_toArray, List.set_cons_zero, List.set_cons_succ]
        refine takeW 16 97 (sv yt st) rfl rfl S0 ?_ (hy := Or.inl ⟨by rfl, fun wz hz => run_v (state_load ((unhide X7).below hz) rfl)⟩)
        try simp only [Act.put, List.setIfInBounds_toArray, List.set_cons_zero, List.set_cons_succ]
        refine takeW 17 98 _ rfl rfl S0 ?_
        try simp only [Act.put, List.setIfInBounds_toArray, List.set_cons_zero, List.set_cons_succ]
        refine wpAnyH_ready (rs := [15]) (by kernel_rfl) (by simp) (AllReadyH.cons rfl (fun K hK => ?_) AllReadyH.nil)
        go_simp
        refine (unhide CBI _ ((unhide D7).below S0)).mono ?_
        rintro e wq ⟨rfl, hb⟩
        have S1 : Kp w13 wq := below_on S0 hb
        clear S0 hb
        go_wp2_with fail
        refine hK.out _ _ S1 (fun S0 => ?_)
        clear hK K S1
        try simp only [Act.put, List.setIfInBounds_toArray, List.set_cons_zero, List.set_cons_succ]
        refine wpAnyH_ready (rs := [18]) (by kernel_rfl) (by simp) (AllReadyH.cons rfl (fun K hK => ?_) AllReadyH.nil)
        go_simp
        refine (unhide CBS _ ((unhide D7).below S0)).mono ?_
        rintro e wq ⟨rfl, hb⟩
        have S1 : Kp w13 wq := below_on S0 hb
        clear S0 hb
        go_wp2_with fail
        refine hK.out _ _ S1 (fun S0 => ?_)
        clear hK K S1
        try simp only [Act.put, List.setIfInBounds_toArray, List.set_cons_zero, List.set_cons_succ]
        refine takeW 19 100 (.bool false) rfl rfl S0 ?_
        try simp only [Act.put, List.setIfInBounds_toArray, List.set_cons_zero, List.set_cons_succ]
        as_aux_lemma =>
          refine takeW 20 101 (.bool false) rfl rfl S0 ?_
          try simp only [Act.put, List.setIfInBounds_toArray, List.set_cons_zero, List.set_cons_succ]
          refine takeW 21 102 _ rfl rfl S0 ?_
          try simp only [Act.put, List.setIfInBounds_toArray, List.set_cons_zero, List.set_cons_succ]
          refine takeW 22 103 (sv yx sx) rfl rfl S0 ?_ (hy := Or.inl ⟨by rfl, fun wz hz => run_v (state_load ((unhide X9).below hz) rfl)⟩)
          try simp only [Act.put, List.setIfInBounds_toArray, List.set_cons_zero, List.set_cons_succ]
          refine takeW 23 104 _ rfl rfl S0 ?_
          try simp only [Act.put, List.setIfInBounds_toArray, List.set_cons_zero, List.set_cons_succ]
          refine takeW 24 105 (rv rx ry) rfl rfl S0 ?_ (hy := Or.inl ⟨by rfl, fun wz hz => run_v (res_load ((unhide X11).below hz))⟩)
          try simp only [Act.put, List.setIfInBounds_toArray, List.set_cons_zero, List.set_cons_succ]
          refine takeW 26 107 (sv yx sx) rfl rfl S0 ?_ (hy := Or.inl ⟨by rfl, fun wz hz => run_v (state_load ((unhide X9).below hz) rfl)⟩)
          try simp only [Act.put, List.setIfInBounds_toArray, List.set_cons_zero, List.set_cons_succ]
          refine takeW 27 108 _ rfl rfl S0 ?_
          try simp only [Act.put, List.setIfInBounds_toArray, List.set_cons_zero, List.set_cons_succ]
          refine takeW 28 109 (rv rx ry) rfl rfl S0 ?_ (hy := Or.inl ⟨by rfl, fun wz hz => run_v (res_load ((unhide X11).below hz))⟩)
          try simp only [Act.put, List.setIfInBounds_toArray, List.set_cons_zero, List.set_cons_succ]
          refine wpAnyH_ready (rs := [25]) (by kernel_rfl) (by simp) (AllReadyH.cons rfl (fun K hK => ?_) AllReadyH.nil)
          go_simp
          refine (unhide CRI _ ((unhide D9).below S0)).mono ?_
          rintro e wq ⟨rfl, hb⟩
          have S1 : Kp w13 wq := below_on S0 hb
          clear S0 hb
          go_wp2_with fail
          refine hK.out _ _ S1 (fun S0 => ?_)
          clear hK K S1
          try simp only [Act.put, List.setIfInBounds_toArray, List.set_cons_zero, List.set_cons_succ]
          refine wpAnyH_ready (rs := [29]) (by kernel_rfl) (by simp) (AllReadyH.cons rfl (fun K hK => ?_) AllReadyH.nil)
          go_simp
          refine (unhide CRS _ ((unhide D9).below S0)).mono ?_
          rintro e wq ⟨rfl, hb⟩
          have S1 : Kp w13 wq := below_on S0 hb
          clear S0 hb
          go_wp2_with fail
          refine hK.out _ _ S1 (fun S0 => ?_)
          clear hK K S1
          try simp only [Act.put, List.setIfInBounds_toArray, List.set_cons_zero, List.set_cons_succ]
          refine takeW 30 111 (.bool false) rfl rfl S0 ?_
          try simp only [Act.put, List.setIfInBounds_toArray, List.set_cons_zero, List.set_cons_succ]
          refine takeW 31 112 (.bool false) rfl rfl S0 ?_
          try simp only [Act.put, List.setIfInBounds_toArray, List.set_cons_zero, List.set_cons_succ]
          refine takeW 32 113 _ rfl rfl S0 ?_
          try simp only [Act.put, List.setIfInBounds_toArray, List.set_cons_zero, List.set_cons_succ]
          refine takeW 33 114 _ rfl rfl S0 ?_
          try simp only [Act.put, List.setIfInBounds_toArray, List.set_cons_zero, List.set_cons_succ]
          refine takeW 34 115 _ rfl rfl S0 ?_
          try simp only [Act.put, List.setIfInBounds_toArray, List.set_cons_zero, List.set_cons_succ]
          refine takeW 35 116 (.bool false) rfl rfl S0 ?_
          try simp only [Act.put, List.setIfInBounds_toArray, List.set_cons_zero, List.set_cons_succ]
          refine takeW 36 117 (.bool false) rfl rfl S0 ?_
          try simp only [Act.put, List.setIfInBounds_toArray, List.set_cons_zero, List.set_cons_succ]
          refine takeW 37 118 _ rfl rfl S0 ?_
          try simp only [Act.put, List.setIfInBounds_toArray, List.set_cons_zero, List.set_cons_succ]
          refine takeW 38 119 (.agg #[.int .i64 pi, .string (bs pq), .slice vo14 an vc14]) rfl rfl S0 ?_ (hy := Or.inl ⟨by rfl, fun wz hz => run_v (app_load ((unhide X14).below hz) rfl)⟩)
          try simp only [Act.put, List.setIfInBounds_toArray, List.set_cons_zero, List.set_cons_succ]
          refine takeW 39 120 (.agg #[.int .i64 pi, .string (bs pq), .slice vo16 an vc16]) rfl rfl S0 ?_ (hy := Or.inl ⟨by rfl, fun wz hz => run_v (app_load ((unhide X16).below hz) rfl)⟩)
          try simp only [Act.put, List.setIfInBounds_toArray, List.set_cons_zero, List.set_cons_succ]
          as_aux_lemma =>
            refine wpAnyH_ready (rs := [40]) (by kernel_rfl) (by simp) (AllReadyH.cons rfl (fun K hK => ?_) AllReadyH.nil)
            go_simp
            refine (sameApp_same pi pq vo14 vo16 an vc14 vc16 pk _ ((unhide R14).below S0) ((unhide R16).below S0) hal).mono ?_
            rintro e wq ⟨rfl, hb⟩
            have S1 : Kp w13 wq := below_on S0 hb
            clear S0 hb
            go_wp2_with fail
            refine hK.out _ _ S1 (fun S0 => ?_)
            clear hK K S1
            try simp only [Act.put, List.setIfInBounds_toArray, List.set_cons_zero, List.set_cons_succ]
            refine takeW 41 122 (.bool false) rfl rfl S0 ?_
            try simp only [Act.put, List.setIfInBounds_toArray, List.set_cons_zero, List.set_cons_succ]
            refine takeW 42 123 (.bool false) rfl rfl S0 ?_
            try simp only [Act.put, List.setIfInBounds_toArray, List.set_cons_zero, List.set_cons_succ]
            refine takeW 43 124 _ rfl rfl S0 ?_
            try simp only [Act.put, List.setIfInBounds_toArray, List.set_cons_zero, List.set_cons_succ]
            refine takeW 44 125 (sv ys ss) rfl rfl S0 ?_ (hy := Or.inl ⟨by rfl, fun wz hz => run_v (state_load ((unhide X3).below hz) rfl)⟩)
            try simp only [Act.put, List.setIfInBounds_toArray, List.set_cons_zero, List.set_cons_succ]
            refine takeW 46 127 (sv ys ss) rfl rfl S0 ?_ (hy := Or.inl ⟨by rfl, fun wz hz => run_v (state_load ((unhide X3).below hz) rfl)⟩)
            try simp only [Act.put, List.setIfInBounds_toArray, List.set_cons_zero, List.set_cons_succ]
            refine wpAnyH_ready (rs := [45]) (by kernel_rfl) (by simp) (AllReadyH.cons rfl (fun K hK => ?_) AllReadyH.nil)
            go_simp
            refine (unhide COI _ ((unhide D3).below S0)).mono ?_
            rintro e wq ⟨rfl, hb⟩
            have S1 : Kp w13 wq := below_on S0 hb
            clear S0 hb
            go_wp2_with fail
            refine hK.out _ _ S1 (fun S0 => ?_)
            clear hK K S1
            try simp only [Act.put, List.setIfInBounds_toArray, List.set_cons_zero, List.set_cons_succ]
            refine wpAnyH_ready (rs := [47]) (by kernel_rfl) (by simp) (AllReadyH.cons rfl (fun K hK => ?_) AllReadyH.nil)
            go_simp
            refine (unhide COS _ ((unhide D3).below S0)).mono ?_
            rintro e wq ⟨rfl, hb⟩
            have S1 : Kp w13 wq := below_on S0 hb
            clear S0 hb
            go_wp2_with fail
            refine hK.out _ _ S1 (fun S0 => ?_)
            clear hK K S1
            try simp only [Act.put, List.setIfInBounds_toArray, List.set_cons_zero, List.set_cons_succ]
            refine takeW 48 129 (.bool false) rfl rfl S0 ?_
            try simp only [Act.put, List.setIfInBounds_toArray, List.set_cons_zero, List.set_cons_succ]
            refine takeW 49 130 (.bool false) rfl rfl S0 ?_
            try simp only [Act.put, List.setIfInBounds_toArray, List.set_cons_zero, List.set_cons_succ]
            refine takeW 50 131 _ rfl rfl S0 ?_
            try simp only [Act.put, List.setIfInBounds_toArray, List.set_cons_zero, List.set_cons_succ]
            refine takeW 51 132 (sv ys ss) rfl rfl S0 ?_ (hy := Or.inl ⟨by rfl, fun wz hz => run_v (state_load ((unhide X3).below hz) rfl)⟩)
            try simp only [Act.put, List.setIfInBounds_toArray, List.set_cons_zero, List.set_cons_succ]
            refine takeW 53 134 (sv ys ss) rfl rfl S0 ?_ (hy := Or.inl ⟨by rfl, fun wz hz => run_v (state_load ((unhide X3).below hz) rfl)⟩)
            try simp only [Act.put, List.setIfInBounds_toArray, List.set_cons_zero, List.set_cons_succ]
            refine wpAnyH_ready (rs := [52]) (by kernel_rfl) (by simp) (AllReadyH.cons rfl (fun K hK => ?_) AllReadyH.nil)
            go_simp
            refine (unhide CTI _ ((unhide D3).below S0)).mono ?_
            rintro e wq ⟨rfl, hb⟩
            have S1 : Kp w13 wq := below_on S0 hb
            clear S0 hb
            go_wp2_with fail
            refine hK.out _ _ S1 (fun S0 => ?_)
            clear hK K S1
            try simp only [Act.put, List.setIfInBounds_toArray, List.set_cons_zero, List.set_cons_succ]
            refine wpAnyH_ready (rs := [54]) (by kernel_rfl) (by simp) (AllReadyH.cons rfl (fun K hK => ?_) AllReadyH.nil)
            go_simp
            refine (unhide CTS _ ((unhide D3).below S0)).mono ?_
            rintro e wq ⟨rfl, hb⟩
            have S1 : Kp w13 wq := below_on S0 hb
            clear S0 hb
            go_wp2_with fail
            refine hK.out _ _ S1 (fun S0 => ?_)
            clear hK K S1
            try simp only [Act.put, List.setIfInBounds_toArray, List.set_cons_zero, List.set_cons_succ]
            refine takeW 55 136 (.bool false) rfl rfl S0 ?_
            try simp only [Act.put, List.setIfInBounds_toArray, List.set_cons_zero, List.set_cons_succ]
            refine takeW 56 137 (.bool false) rfl rfl S0 ?_
            try simp only [Act.put, List.setIfInBounds_toArray, List.set_cons_zero, List.set_cons_succ]
            refine takeW 57 138 _ rfl rfl S0 ?_
            try simp only [Act.put, List.setIfInBounds_toArray, List.set_cons_zero, List.set_cons_succ]
            refine takeW 58 139 (sv yt st) rfl rfl S0 ?_ (hy := Or.inl ⟨by rfl, fun wz hz => run_v (state_load ((unhide X7).below hz) rfl)⟩)
            try simp only [Act.put, List.setIfInBounds_toArray, List.set_cons_zero, List.set_cons_succ]
            refine takeW 59 140 _ rfl rfl S0 ?_
            try simp only [Act.put, List.setIfInBounds_toArray, List.set_cons_zero, List.set_cons_succ]
            as_aux_lemma =>
              refine takeW 61 142 (sv yt st) rfl rfl S0 ?_ (hy := Or.inl ⟨by rfl, fun wz hz => run_v (state_load ((unhide X7).below hz) rfl)⟩)
              try simp only [Act.put, List.setIfInBounds_toArray, List.set_cons_zero, List.set_cons_succ]
              refine takeW 62 143 _ rfl rfl S0 ?_
              try simp only [Act.put, List.setIfInBounds_toArray, List.set_cons_zero, List.set_cons_succ]
              refine wpAnyH_ready (rs := [60]) (by kernel_rfl) (by simp) (AllReadyH.cons rfl (fun K hK => ?_) AllReadyH.nil)
              go_simp
              refine (unhide CPI _ ((unhide D7).below S0)).mono ?_
              rintro e wq ⟨rfl, hb⟩
              have S1 : Kp w13 wq := below_on S0 hb
              clear S0 hb
              go_wp2_with fail
              refine hK.out _ _ S1 (fun S0 => ?_)
              clear hK K S1
              try simp only [Act.put, List.setIfInBounds_toArray, List.set_cons_zero, List.set_cons_succ]
              refine wpAnyH_ready (rs := [63]) (by kernel_rfl) (by simp) (AllReadyH.cons rfl (fun K hK => ?_) AllReadyH.nil)
              go_simp
              refine (unhide CPS _ ((unhide D7).below S0)).mono ?_
              rintro e wq ⟨rfl, hb⟩
              have S1 : Kp w13 wq := below_on S0 hb
              clear S0 hb
              go_wp2_with fail
              refine hK.out _ _ S1 (fun S0 => ?_)
              clear hK K S1
              try simp only [Act.put, List.setIfInBounds_toArray, List.set_cons_zero, List.set_cons_succ]
              refine takeW 64 145 (.bool false) rfl rfl S0 ?_
              try simp only [Act.put, List.setIfInBounds_toArray, List.set_cons_zero, List.set_cons_succ]
              refine takeW 65 146 (.bool false) rfl rfl S0 ?_
              try simp only [Act.put, List.setIfInBounds_toArray, List.set_cons_zero, List.set_cons_succ]
              refine takeW 66 147 _ rfl rfl S0 ?_
              try simp only [Act.put, List.setIfInBounds_toArray, List.set_cons_zero, List.set_cons_succ]
              refine takeW 67 148 _ rfl rfl S0 ?_
              try simp only [Act.put, List.setIfInBounds_toArray, List.set_cons_zero, List.set_cons_succ]
              refine takeW 68 149 _ rfl rfl S0 ?_
              try simp only [Act.put, List.setIfInBounds_toArray, List.set_cons_zero, List.set_cons_succ]
              refine takeW 69 150 (.bool false) rfl rfl S0 ?_
              try simp only [Act.put, List.setIfInBounds_toArray, List.set_cons_zero, List.set_cons_succ]
              refine takeW 70 151 (.bool false) rfl rfl S0 ?_
              try simp only [Act.put, List.setIfInBounds_toArray, List.set_cons_zero, List.set_cons_succ]
              refine takeW 71 152 _ rfl rfl S0 ?_
              try simp only [Act.put, List.setIfInBounds_toArray, List.set_cons_zero, List.set_cons_succ]
              refine takeW 72 153 (sv (newX qo19 qm19 qk19) T) rfl rfl S0 ?_ (hy := Or.inl ⟨by rfl, fun wz hz => run_v (state_load ((unhide X19).below hz) rfl)⟩)
              try simp only [Act.put, List.setIfInBounds_toArray, List.set_cons_zero, List.set_cons_succ]
              refine takeW 73 154 (sv (newX qo21 qm21 qk21) T) rfl rfl S0 ?_ (hy := Or.inl ⟨by rfl, fun wz hz => run_v (state_load ((unhide X21).below hz) rfl)⟩)
              try simp only [Act.put, List.setIfInBounds_toArray, List.set_cons_zero, List.set_cons_succ]
              refine wpAnyH_ready (rs := [74]) (by kernel_rfl) (by simp) (AllReadyH.cons rfl (fun K hK => ?_) AllReadyH.nil)
              go_simp
              refine (sameState_same (newX qo19 qm19 qk19) (newX qo21 qm21 qk21) T _ ((unhide R19).below S0) ((unhide R21).below S0) (unhide FT)).mono ?_
              rintro e wq ⟨rfl, hb⟩
              have S1 : Kp w13 wq := below_on S0 hb
              clear S0 hb
              go_wp2_with fail
              refine hK.out _ _ S1 (fun S0 => ?_)
              clear hK K S1
              try simp only [Act.put, List.setIfInBounds_toArray, List.set_cons_zero, List.set_cons_succ]
              refine takeW 75 156 (.bool false) rfl rfl S0 ?_
              try simp only [Act.put, List.setIfInBounds_toArray, List.set_cons_zero, List.set_cons_succ]
              refine takeW 76 157 (.bool false) rfl rfl S0 ?_
              try simp only [Act.put, List.setIfInBounds_toArray, List.set_cons_zero, List.set_cons_succ]
              refine takeW 77 158 _ rfl rfl S0 ?_
              try simp only [Act.put, List.setIfInBounds_toArray, List.set_cons_zero, List.set_cons_succ]
              refine takeW 78 159 _ rfl rfl S0 ?_
              try simp only [Act.put, List.setIfInBounds_toArray, List.set_cons_zero, List.set_cons_succ]
              refine takeW 79 160 _ rfl rfl S0 ?_
              try simp only [Act.put, List.setIfInBounds_toArray, List.set_cons_zero, List.set_cons_succ]
              as_aux_lemma =>
                cases mb
                · refine takeU 80 161 rfl rfl S0 ?_
                  try simp only [Act.put, List.setIfInBounds_toArray, List.set_cons_zero, List.set_cons_succ]
                  refine takeU 81 162 rfl rfl S0 ?_
                  try simp only [Act.put, List.setIfInBounds_toArray, List.set_cons_zero, List.set_cons_succ]
                  refine takeU 82 163 rfl rfl S0 ?_
                  try simp only [Act.put, List.setIfInBounds_toArray, List.set_cons_zero, List.set_cons_succ]
                  refine takeW 83 164 (.bool false) rfl rfl S0 ?_
                  try simp only [Act.put, List.setIfInBounds_toArray, List.set_cons_zero, List.set_cons_succ]
                  refine takeW 84 165 (.bool false) rfl rfl S0 ?_
                  try simp only [Act.put, List.setIfInBounds_toArray, List.set_cons_zero, List.set_cons_succ]
                  refine wpAnyH_done (by kernel_rfl) ?_ _
                  go_wp2_with fail
                  go_meet
                  exact ⟨rfl, hide S0⟩
                · refine takeW 80 161 (sv (newX qo19 qm19 qk19) T) rfl rfl S0 ?_ (hy := Or.inl ⟨by rfl, fun wz hz => run_v (state_load ((unhide X19).below hz) rfl)⟩)
                  try simp only [Act.put, List.setIfInBounds_toArray, List.set_cons_zero, List.set_cons_succ]
                  refine wpAnyH_ready (rs := [81]) (by kernel_rfl) (by simp) (AllReadyH.cons rfl (fun K hK => ?_) AllReadyH.nil)
                  go_simp
                  refine (unhide CNO (by first | rfl | trivial) _ _ _ _ ((unhide R19).below S0) hk19).mono ?_
                  rintro e wq ⟨rfl, hb⟩
                  have S1 : Kp w13 wq := below_on S0 hb
                  clear S0 hb
                  go_wp2_with fail
                  refine hK.out _ _ S1 (fun S0 => ?_)
                  clear hK K S1
                  try simp only [Act.put, List.setIfInBounds_toArray, List.set_cons_zero, List.set_cons_succ]
                  refine takeW 82 163 (.bool false) rfl rfl S0 ?_
                  try simp only [Act.put, List.setIfInBounds_toArray, List.set_cons_zero, List.set_cons_succ]
                  refine takeW 83 164 (.bool false) rfl rfl S0 ?_
                  try simp only [Act.put, List.setIfInBounds_toArray, List.set_cons_zero, List.set_cons_succ]
                  refine takeW 84 165 (.bool false) rfl rfl S0 ?_
                  try simp only [Act.put, List.setIfInBounds_toArray, List.set_cons_zero, List.set_cons_succ]
                  refine wpAnyH_done (by kernel_rfl) ?_ _
                  go_wp2_with fail
                  go_meet
                  exact ⟨rfl, hide S0⟩
    case rest =>
      obtain ⟨rfl, hbz⟩ := hcut
      replace BW := hide (below_on (unhide BW) (unhide hbz))
      replace D3 := hide ((unhide D3).below (unhide hbz))
      replace X3 := hide ((unhide X3).below (unhide hbz))
      replace X5 := hide ((unhide X5).below (unhide hbz))
      replace X6 := hide ((unhide X6).below (unhide hbz))
      replace D7 := hide ((unhide D7).below (unhide hbz))
      replace X7 := hide ((unhide X7).below (unhide hbz))
      replace D9 := hide ((unhide D9).below (unhide hbz))
      replace X9 := hide ((unhide X9).below (unhide hbz))
      replace X11 := hide ((unhide X11).below (unhide hbz))
      replace D12 := hide ((unhide D12).below (unhide hbz))
      replace X12 := hide ((unhide X12).below (unhide hbz))
      replace R14 := hide ((unhide R14).below (unhide hbz))
      replace X14 := hide ((unhide X14).below (unhide hbz))
      replace R16 := hide ((unhide R16).below (unhide hbz))
      replace X16 := hide ((unhide X16).below (unhide hbz))
      replace R19 := hide ((unhide R19).below (unhide hbz))
      replace X19 := hide ((unhide X19).below (unhide hbz))
      replace R21 := hide ((unhide R21).below (unhide hbz))
      replace X21 := hide ((unhide X21).below (unhide hbz))
      clear hbz A0 HS CFS CUS CRI CRS CPI CPS CTI CTS COI CNO FT X5 X6 X9 D9 X11 X12 D12 X14 X16 R14 R16 X19 X21 R19 R21
      obtain ⟨wa, rfl⟩ : ∃ z, z = wc := ⟨_, rfl⟩
      have u0 := (unhide X3).at 0; have u1 := (unhide X3).at 1; have u2 := (unhide X3).at 2; have u3 := (unhide X3).at 3; have u4 := (unhide X3).at 4; have u5 := (unhide X3).at 5; have u6 := (unhide X3).at 6; have u7 := (unhide X3).at 7
      simp at u0 u1 u2 u3 u4 u5 u6 u7
      go_wp2_with fail
      refine (unhide COS _ (unhide D3)).mono ?_
      rintro e w15 ⟨rfl, hb⟩
      clear u0 u1 u2 u3 u4 u5 u6 u7
      replace BW := hide (below_on (unhide BW) (hb))
      replace D3 := hide ((unhide D3).below (hb))
      replace X3 := hide ((unhide X3).below (hb))
      replace D7 := hide ((unhide D7).below (hb))
      replace X7 := hide ((unhide X7).below (hb))
      clear hb COS
      go_upto_if 167 with fail
      go_cut [23, 24, 25] from 166 to 206 (fun v23 v24 v25 wx => Hid (Below w15.heap.size w15 wx))
      case first =>
        cases os
        · go_wp2_with fail
          go_meet
          exact hide (Below.refl _ _)
        · have hml : ys.ml ≤ 1048576 := (unhide D3).mlen
          have x6 := (unhide X3).at 6
          simp at x6
          go_wp2
          go_loopw [23] (fun i wr => ∃ k : Nat, k ≤ ys.ml ∧ i = .int .i64 k ∧ Hid (Below w15.heap.size w15 wr)) (fun i _ => ys.ml - (intOf i).toNat)
          case atStart => exact ⟨0, Nat.zero_le _, rfl, hide (Below.refl _ _)⟩
          case round =>
            clear x6
            obtain ⟨k, hk, rfl, BZ⟩ := hrel
            have XZ := hide ((unhide X3).below (unhide BZ))
            have x6 := (unhide XZ).at 6
            simp at x6
            by_cases hlt : k < ys.ml
            · have hkl : k < ss.ms.length := by have := (unhide D3).row.2.2.1.1; omega
              obtain ⟨f1, f2, u1, u2, c1, c2, c3⟩ := fa_call (y := ys) (hs := hss) (unhide HOS) (unhide D3).fit (List.getElem_mem hkl)
              obtain ⟨bo, off, hma, hq⟩ := ((unhide D3).row.2.2.1.below (unhide BZ)).at hlt
              obtain ⟨d0, d1, d2, -⟩ := hq hkl
              obtain ⟨⟨mn, mm, mc, me⟩, hmx⟩ : ∃ m, ss.ms[k] = m := ⟨_, rfl⟩
              rw [hmx] at c1 c2 c3 d0 d1 d2
              simp only at c1 c2 c3 d0 d1 d2
              have CA1 := hide c1
              have CA2 := hide c2
              have CA3 := hide c3
              have DZ := hide ((unhide D3).below (unhide BZ))
              rw [hma] at x6
              have HD0 := hide d0
              have HD1 := hide d1
              have HD2 := hide d2
              have HX6 := hide x6
              have k0 : (0 : Int) ≤ k := by omega
              have k1 : (k : Int) < ys.ml := by omega
              clear hma hq hmx hkl c1 c2 c3 d0 d1 d2
              go_upto_region 19 with fail
              clear x6
              have A0 := hide (Kp.new wr)
              have HS := hide (kp_holds wr)
              go_cut [24, 25] from 175 to 194 (fun v24 v25 wx => ∃ g, v24 = .pointer (some ⟨g, 0, none⟩) ∧ v25 = .bool true ∧ Hid (Blk wx g #[.int .i64 mm, .int .i64 mc] 33) ∧ Hid (Below wr.heap.size wr wx))
              case first =>
                as_aux_lemma =>
                  have R : ∀ wx, Kp wr wx → wx.cell? ⟨b3, 6, none⟩ = some (.slice (some ⟨bo, off, none⟩) ys.ml ys.mc) ∧ wx.cell? ⟨bo, off + k * 4, none⟩ = some (.string (bs mn)) := fun wx h => ⟨h.cell (unhide HX6), h.cell (unhide HD0)⟩
                  refine wp_region_held_drew (S := fun wx => Kp wr wx) (by kernel_rfl) ((unhide HS).drew (unhide A0)) (fun S0 => ?_)
                  generalize wr.drew = wn at S0 ⊢
                  refine takeW 0 176 (sv ys ss) rfl rfl S0 ?_ (hy := Or.inl ⟨by rfl, fun wz hz => run_v (state_load ((unhide XZ).below hz) rfl)⟩)
                  try simp only [Act.put, List.setIfInBounds_toArray, List.set_cons_zero, List.set_cons_succ]
                  refine takeW 1 177 _ rfl rfl S0 ?_
                  try simp only [Act.put, List.setIfInBounds_toArray, List.set_cons_zero, List.set_cons_succ]
                  refine takeW 2 178 (.slice (some ⟨bo, off, none⟩) ys.ml ys.mc) rfl rfl S0 ?_ (hy := Or.inl ⟨by rfl, fun wz hz => by (have hr := R wz hz; clear R; go_simp)⟩)
                  try simp only [Act.put, List.setIfInBounds_toArray, List.set_cons_zero, List.set_cons_succ]
                  refine takeW 3 179 _ rfl rfl S0 ?_
                  try simp only [Act.put, List.setIfInBounds_toArray, List.set_cons_zero, List.set_cons_succ]
                  refine takeW 4 180 (.pointer (some ⟨bo, off + k * 4, none⟩)) rfl rfl S0 ?_ (hy := Or.inl ⟨by rfl, fun wz hz => by (have hr := R wz hz; clear R; go_simp)⟩)
                  try simp only [Act.put, List.setIfInBounds_toArray, List.set_cons_zero, List.set_cons_succ]
                  refine takeW 5 181 (.pointer (some ⟨bo, off + k * 4, none⟩)) rfl rfl S0 ?_ (hy := Or.inl ⟨by rfl, fun wz hz => by (have hr := R wz hz; clear R; go_simp)⟩)
                  try simp only [Act.put, List.setIfInBounds_toArray, List.set_cons_zero, List.set_cons_succ]
                  refine takeW 6 182 (.string (bs mn)) rfl rfl S0 ?_ (hy := Or.inl ⟨by rfl, fun wz hz => by (have hr := R wz hz; clear R; go_simp)⟩)
                  try simp only [Act.put, List.setIfInBounds_toArray, List.set_cons_zero, List.set_cons_succ]
                  refine takeW 8 184 (sv ys ss) rfl rfl S0 ?_ (hy := Or.inl ⟨by rfl, fun wz hz => run_v (state_load ((unhide XZ).below hz) rfl)⟩)
                  try simp only [Act.put, List.setIfInBounds_toArray, List.set_cons_zero, List.set_cons_succ]
                  refine takeW 9 185 _ rfl rfl S0 ?_
                  try simp only [Act.put, List.setIfInBounds_toArray, List.set_cons_zero, List.set_cons_succ]
                  refine takeW 10 186 (.slice (some ⟨bo, off, none⟩) ys.ml ys.mc) rfl rfl S0 ?_ (hy := Or.inl ⟨by rfl, fun wz hz => by (have hr := R wz hz; clear R; go_simp)⟩)
                  try simp only [Act.put, List.setIfInBounds_toArray, List.set_cons_zero, List.set_cons_succ]
                  refine takeW 11 187 _ rfl rfl S0 ?_
                  try simp only [Act.put, List.setIfInBounds_toArray, List.set_cons_zero, List.set_cons_succ]
                  refine takeW 12 188 (.pointer (some ⟨bo, off + k * 4, none⟩)) rfl rfl S0 ?_ (hy := Or.inl ⟨by rfl, fun wz hz => by (have hr := R wz hz; clear R; go_simp)⟩)
                  try simp only [Act.put, List.setIfInBounds_toArray, List.set_cons_zero, List.set_cons_succ]
                  refine takeW 13 189 (.pointer (some ⟨bo, off + k * 4, none⟩)) rfl rfl S0 ?_ (hy := Or.inl ⟨by rfl, fun wz hz => by (have hr := R wz hz; clear R; go_simp)⟩)
                  try simp only [Act.put, List.setIfInBounds_toArray, List.set_cons_zero, List.set_cons_succ]
                  refine takeW 14 190 (.string (bs mn)) rfl rfl S0 ?_ (hy := Or.inl ⟨by rfl, fun wz hz => by (have hr := R wz hz; clear R; go_simp)⟩)
                  try simp only [Act.put, List.setIfInBounds_toArray, List.set_cons_zero, List.set_cons_succ]
                  refine wpAnyH_ready (rs := [7, 20]) (by kernel_rfl) (by simp) (AllReadyH.cons rfl (fun K hK => ?_) (AllReadyH.cons rfl (fun K hK => readyV 24 (by rfl) rfl (run_v (run_allocv _ 33 #[.int .i64 0, .int .i64 0] (by kernel_rfl))) ?_) AllReadyH.nil))
                  · go_simp
                    refine (unhide CA1 _ ((unhide DZ).below S0)).mono ?_
                    rintro e wb1 ⟨rfl, hb⟩
                    have S1 : Kp wr wb1 := below_on S0 hb
                    clear S0 hb
                    go_wp2_with fail
                    refine hK.out _ _ S1 (fun S0 => ?_)
                    clear hK K S1
                    try simp only [Act.put, List.setIfInBounds_toArray, List.set_cons_zero, List.set_cons_succ]
                    refine wpAnyH_ready (rs := [15, 20]) (by kernel_rfl) (by simp) (AllReadyH.cons rfl (fun K hK => ?_) (AllReadyH.cons rfl (fun K hK => readyV 24 (by rfl) rfl (run_v (run_allocv _ 33 #[.int .i64 0, .int .i64 0] (by kernel_rfl))) ?_) AllReadyH.nil))
                    · go_simp
                      refine (unhide CA2 _ ((unhide DZ).below S0)).mono ?_
                      rintro e wb2 ⟨rfl, hb⟩
                      have S1 : Kp wr wb2 := below_on S0 hb
                      clear S0 hb
                      go_wp2_with fail
                      refine hK.out _ _ S1 (fun S0 => ?_)
                      clear hK K S1
                      try simp only [Act.put, List.setIfInBounds_toArray, List.set_cons_zero, List.set_cons_succ]
                      refine wpAnyH_ready (rs := [16, 20]) (by kernel_rfl) (by simp) (AllReadyH.cons rfl (fun K hK => ?_) (AllReadyH.cons rfl (fun K hK => readyV 24 (by rfl) rfl (run_v (run_allocv _ 33 #[.int .i64 0, .int .i64 0] (by kernel_rfl))) ?_) AllReadyH.nil))
                      · go_simp
                        refine (unhide CA3 _).mono ?_
                        rintro e wb3 ⟨rfl, hb⟩
                        have S1 : Kp wr wb3 := below_on S0 hb
                        clear S0 hb
                        go_wp2_with fail
                        refine hK.out _ _ S1 (fun S0 => ?_)
                        clear hK K S1
                        try simp only [Act.put, List.setIfInBounds_toArray, List.set_cons_zero, List.set_cons_succ]
                        refine takeW 17 175 _ rfl rfl S0 ?_
                        try simp only [Act.put, List.setIfInBounds_toArray, List.set_cons_zero, List.set_cons_succ]
                        refine takeW 18 193 (rv mm mc) rfl rfl S0 ?_
                        try simp only [Act.put, List.setIfInBounds_toArray, List.set_cons_zero, List.set_cons_succ]
                        refine takeW 19 194 (.bool true) rfl rfl S0 ?_
                        try simp only [Act.put, List.setIfInBounds_toArray, List.set_cons_zero, List.set_cons_succ]
                        refine wpAnyH_ready (rs := [20]) (by kernel_rfl) (by simp) (AllReadyH.cons rfl (fun K hK => readyV 24 (by rfl) rfl (run_v (run_allocv _ 33 #[.int .i64 0, .int .i64 0] (by kernel_rfl))) ?_) AllReadyH.nil)
                        have hg : wr.heap.size ≤ wb3.heap.size := S0.size
                        have VA := hide (blk_new wb3 #[.int .i64 0, .int .i64 0] 33)
                        have S1 : Kp wr (wb3.alloc (.cells #[.int .i64 0, .int .i64 0] 33)) := below_al S0 _
                        clear S0
                        refine hK.out _ _ S1 (fun S0 => ?_)
                        clear hK K S1
                        try simp only [Act.put, List.setIfInBounds_toArray, List.set_cons_zero, List.set_cons_succ]
                        generalize wb3.alloc (.cells #[.int .i64 0, .int .i64 0] 33) = wb4 at S0 VA ⊢
                        generalize wb3.heap.size = g24 at hg VA ⊢
                        have MM := mks_rw (unhide VA) #[.int .i64 mm, .int .i64 mc] rfl
                        have RR := hide (blk_rw (unhide VA) #[.int .i64 mm, .int .i64 mc])
                        have S1 : Kp wr (World.setRow wb4 g24 #[.int .i64 mm, .int .i64 mc]) := Below.trans S0 (MM.below (fun k e => by subst e; exact hg) S0.size)
                        refine wpAnyH_ready (rs := [21]) (by kernel_rfl) (by simp) (AllReadyH.cons rfl (fun K hK => readyU (by rfl) rfl (run_u (blk_store 33 (arr := #[.int .i64 mm, .int .i64 mc]) (unhide VA) (by kernel_rfl) rfl (by kernel_rfl))) ?_) AllReadyH.nil)
                        clear S0
                        refine hK.out _ _ S1 (fun S0 => ?_)
                        clear hK K S1 MM
                        try simp only [Act.put, List.setIfInBounds_toArray, List.set_cons_zero, List.set_cons_succ]
                        generalize World.setRow wb4 g24 #[.int .i64 mm, .int .i64 mc] = wz at S0 RR ⊢
                        refine takeW 22 25 (.bool true) rfl rfl S0 ?_
                        try simp only [Act.put, List.setIfInBounds_toArray, List.set_cons_zero, List.set_cons_succ]
                        refine wpAnyH_done (by kernel_rfl) ?_ _
                        go_wp2_with fail
                        go_meet
                        exact ⟨g24, rfl, rfl, RR, hide S0⟩
                      · have hg : wr.heap.size ≤ wb2.heap.size := S0.size
                        have VA := hide (blk_new wb2 #[.int .i64 0, .int .i64 0] 33)
                        have S1 : Kp wr (wb2.alloc (.cells #[.int .i64 0, .int .i64 0] 33)) := below_al S0 _
                        clear S0
                        refine hK.out _ _ S1 (fun S0 => ?_)
                        clear hK K S1
                        try simp only [Act.put, List.setIfInBounds_toArray, List.set_cons_zero, List.set_cons_succ]
                        generalize wb2.alloc (.cells #[.int .i64 0, .int .i64 0] 33) = wb5 at S0 VA ⊢
                        generalize wb2.heap.size = g24 at hg VA ⊢
                        refine wpAnyH_ready (rs := [16]) (by kernel_rfl) (by simp) (AllReadyH.cons rfl (fun K hK => ?_) AllReadyH.nil)
                        go_simp
                        refine (unhide CA3 _).mono ?_
                        rintro e wb6 ⟨rfl, hb⟩
                        have S1 : Kp wr wb6 := below_on S0 hb
                        replace VA := hide ((unhide VA).below hb)
                        clear S0 hb
                        go_wp2_with fail
                        refine hK.out _ _ S1 (fun S0 => ?_)
                        clear hK K S1
                        try simp only [Act.put, List.setIfInBounds_toArray, List.set_cons_zero, List.set_cons_succ]
                        refine takeW 17 175 _ rfl rfl S0 ?_
                        try simp only [Act.put, List.setIfInBounds_toArray, List.set_cons_zero, List.set_cons_succ]
                        refine takeW 18 193 (rv mm mc) rfl rfl S0 ?_
                        try simp only [Act.put, List.setIfInBounds_toArray, List.set_cons_zero, List.set_cons_succ]
                        refine takeW 19 194 (.bool true) rfl rfl S0 ?_
                        try simp only [Act.put, List.setIfInBounds_toArray, List.set_cons_zero, List.set_cons_succ]
                        have MM := mks_rw (unhide VA) #[.int .i64 mm, .int .i64 mc] rfl
                        have RR := hide (blk_rw (unhide VA) #[.int .i64 mm, .int .i64 mc])
                        have S1 : Kp wr (World.setRow wb6 g24 #[.int .i64 mm, .int .i64 mc]) := Below.trans S0 (MM.below (fun k e => by subst e; exact hg) S0.size)
                        refine wpAnyH_ready (rs := [21]) (by kernel_rfl) (by simp) (AllReadyH.cons rfl (fun K hK => readyU (by rfl) rfl (run_u (blk_store 33 (arr := #[.int .i64 mm, .int .i64 mc]) (unhide VA) (by kernel_rfl) rfl (by kernel_rfl))) ?_) AllReadyH.nil)
                        clear S0
                        refine hK.out _ _ S1 (fun S0 => ?_)
                        clear hK K S1 MM
                        try simp only [Act.put, List.setIfInBounds_toArray, List.set_cons_zero, List.set_cons_succ]
                        generalize World.setRow wb6 g24 #[.int .i64 mm, .int .i64 mc] = wz at S0 RR ⊢
                        refine takeW 22 25 (.bool true) rfl rfl S0 ?_
                        try simp only [Act.put, List.setIfInBounds_toArray, List.set_cons_zero, List.set_cons_succ]
                        refine wpAnyH_done (by kernel_rfl) ?_ _
                        go_wp2_with fail
                        go_meet
                        exact ⟨g24, rfl, rfl, RR, hide S0⟩
                    · have hg : wr.heap.size ≤ wb1.heap.size := S0.size
                      have VA := hide (blk_new wb1 #[.int .i64 0, .int .i64 0] 33)
                      have S1 : Kp wr (wb1.alloc (.cells #[.int .i64 0, .int .i64 0] 33)) := below_al S0 _
                      clear S0
                      refine hK.out _ _ S1 (fun S0 => ?_)
                      clear hK K S1
                      try simp only [Act.put, List.setIfInBounds_toArray, List.set_cons_zero, List.set_cons_succ]
                      generalize wb1.alloc (.cells #[.int .i64 0, .int .i64 0] 33) = wb7 at S0 VA ⊢
                      generalize wb1.heap.size = g24 at hg VA ⊢
                      refine wpAnyH_ready (rs := [15]) (by kernel_rfl) (by simp) (AllReadyH.cons rfl (fun K hK => ?_) AllReadyH.nil)
                      go_simp
                      refine (unhide CA2 _ ((unhide DZ).below S0)).mono ?_
                      rintro e wb8 ⟨rfl, hb⟩
                      have S1 : Kp wr wb8 := below_on S0 hb
                      replace VA := hide ((unhide VA).below hb)
                      clear S0 hb
                      go_wp2_with fail
                      refine hK.out _ _ S1 (fun S0 => ?_)
                      clear hK K S1
                      try simp only [Act.put, List.setIfInBounds_toArray, List.set_cons_zero, List.set_cons_succ]
                      refine wpAnyH_ready (rs := [16]) (by kernel_rfl) (by simp) (AllReadyH.cons rfl (fun K hK => ?_) AllReadyH.nil)
                      go_simp
                      refine (unhide CA3 _).mono ?_
                      rintro e wb9 ⟨rfl, hb⟩
                      have S1 : Kp wr wb9 := below_on S0 hb
                      replace VA := hide ((unhide VA).below hb)
                      clear S0 hb
                      go_wp2_with fail
                      refine hK.out _ _ S1 (fun S0 => ?_)
                      clear hK K S1
                      try simp only [Act.put, List.setIfInBounds_toArray, List.set_cons_zero, List.set_cons_succ]
                      refine takeW 17 175 _ rfl rfl S0 ?_
                      try simp only [Act.put, List.setIfInBounds_toArray, List.set_cons_zero, List.set_cons_succ]
                      refine takeW 18 193 (rv mm mc) rfl rfl S0 ?_
                      try simp only [Act.put, List.setIfInBounds_toArray, List.set_cons_zero, List.set_cons_succ]
                      refine takeW 19 194 (.bool true) rfl rfl S0 ?_
                      try simp only [Act.put, List.setIfInBounds_toArray, List.set_cons_zero, List.set_cons_succ]
                      have MM := mks_rw (unhide VA) #[.int .i64 mm, .int .i64 mc] rfl
                      have RR := hide (blk_rw (unhide VA) #[.int .i64 mm, .int .i64 mc])
                      have S1 : Kp wr (World.setRow wb9 g24 #[.int .i64 mm, .int .i64 mc]) := Below.trans S0 (MM.below (fun k e => by subst e; exact hg) S0.size)
                      refine wpAnyH_ready (rs := [21]) (by kernel_rfl) (by simp) (AllReadyH.cons rfl (fun K hK => readyU (by rfl) rfl (run_u (blk_store 33 (arr := #[.int .i64 mm, .int .i64 mc]) (unhide VA) (by kernel_rfl) rfl (by kernel_rfl))) ?_) AllReadyH.nil)
                      clear S0
                      refine hK.out _ _ S1 (fun S0 => ?_)
                      clear hK K S1 MM
                      try simp only [Act.put, List.setIfInBounds_toArray, List.set_cons_zero, List.set_cons_succ]
                      generalize World.setRow wb9 g24 #[.int .i64 mm, .int .i64 mc] = wz at S0 RR ⊢
                      refine takeW 22 25 (.bool true) rfl rfl S0 ?_
                      try simp only [Act.put, List.setIfInBounds_toArray, List.set_cons_zero, List.set_cons_succ]
                      refine wpAnyH_done (by kernel_rfl) ?_ _
                      go_wp2_with fail
                      go_meet
                      exact ⟨g24, rfl, rfl, RR, hide S0⟩
                  · have hg : wr.heap.size ≤ wn.heap.size := S0.size
                    have VA := hide (blk_new wn #[.int .i64 0, .int .i64 0] 33)
                    have S1 : Kp wr (wn.alloc (.cells #[.int .i64 0, .int .i64 0] 33)) := below_al S0 _
                    clear S0
                    refine hK.out _ _ S1 (fun S0 => ?_)
                    clear hK K S1
                    try simp only [Act.put, List.setIfInBounds_toArray, List.set_cons_zero, List.set_cons_succ]
                    generalize wn.alloc (.cells #[.int .i64 0, .int .i64 0] 33) = wb10 at S0 VA ⊢
                    generalize wn.heap.size = g24 at hg VA ⊢
                    refine wpAnyH_ready (rs := [7]) (by kernel_rfl) (by simp) (AllReadyH.cons rfl (fun K hK => ?_) AllReadyH.nil)
                    go_simp
                    refine (unhide CA1 _ ((unhide DZ).below S0)).mono ?_
                    rintro e wb11 ⟨rfl, hb⟩
                    have S1 : Kp wr wb11 := below_on S0 hb
                    replace VA := hide ((unhide VA).below hb)
                    clear S0 hb
                    go_wp2_with fail
                    refine hK.out _ _ S1 (fun S0 => ?_)
                    clear hK K S1
                    try simp only [Act.put, List.setIfInBounds_toArray, List.set_cons_zero, List.set_cons_succ]
                    refine wpAnyH_ready (rs := [15]) (by kernel_rfl) (by simp) (AllReadyH.cons rfl (fun K hK => ?_) AllReadyH.nil)
                    go_simp
                    refine (unhide CA2 _ ((unhide DZ).below S0)).mono ?_
                    rintro e wb12 ⟨rfl, hb⟩
                    have S1 : Kp wr wb12 := below_on S0 hb
                    replace VA := hide ((unhide VA).below hb)
                    clear S0 hb
                    go_wp2_with fail
                    refine hK.out _ _ S1 (fun S0 => ?_)
                    clear hK K S1
                    try simp only [Act.put, List.setIfInBounds_toArray, List.set_cons_zero, List.set_cons_succ]
                    refine wpAnyH_ready (rs := [16]) (by kernel_rfl) (by simp) (AllReadyH.cons rfl (fun K hK => ?_) AllReadyH.nil)
                    go_simp
                    refine (unhide CA3 _).mono ?_
                    rintro e wb13 ⟨rfl, hb⟩
                    have S1 : Kp wr wb13 := below_on S0 hb
                    replace VA := hide ((unhide VA).below hb)
                    clear S0 hb
                    go_wp2_with fail
                    refine hK.out _ _ S1 (fun S0 => ?_)
                    clear hK K S1
                    try simp only [Act.put, List.setIfInBounds_toArray, List.set_cons_zero, List.set_cons_succ]
                    refine takeW 17 175 _ rfl rfl S0 ?_
                    try simp only [Act.put, List.setIfInBounds_toArray, List.set_cons_zero, List.set_cons_succ]
                    refine takeW 18 193 (rv mm mc) rfl rfl S0 ?_
                    try simp only [Act.put, List.setIfInBounds_toArray, List.set_cons_zero, List.set_cons_succ]
                    refine takeW 19 194 (.bool true) rfl rfl S0 ?_
                    try simp only [Act.put, List.setIfInBounds_toArray, List.set_cons_zero, List.set_cons_succ]
                    have MM := mks_rw (unhide VA) #[.int .i64 mm, .int .i64 mc] rfl
                    have RR := hide (blk_rw (unhide VA) #[.int .i64 mm, .int .i64 mc])
                    have S1 : Kp wr (World.setRow wb13 g24 #[.int .i64 mm, .int .i64 mc]) := Below.trans S0 (MM.below (fun k e => by subst e; exact hg) S0.size)
                    refine wpAnyH_ready (rs := [21]) (by kernel_rfl) (by simp) (AllReadyH.cons rfl (fun K hK => readyU (by rfl) rfl (run_u (blk_store 33 (arr := #[.int .i64 mm, .int .i64 mc]) (unhide VA) (by kernel_rfl) rfl (by kernel_rfl))) ?_) AllReadyH.nil)
                    clear S0
                    refine hK.out _ _ S1 (fun S0 => ?_)
                    clear hK K S1 MM
                    try simp only [Act.put, List.setIfInBounds_toArray, List.set_cons_zero, List.set_cons_succ]
                    generalize World.setRow wb13 g24 #[.int .i64 mm, .int .i64 mc] = wz at S0 RR ⊢
                    refine takeW 22 25 (.bool true) rfl rfl S0 ?_
                    try simp only [Act.put, List.setIfInBounds_toArray, List.set_cons_zero, List.set_cons_succ]
                    refine wpAnyH_done (by kernel_rfl) ?_ _
                    go_wp2_with fail
                    go_meet
                    exact ⟨g24, rfl, rfl, RR, hide S0⟩
              case rest =>
                obtain ⟨g24, rfl, rfl, VA, hbz⟩ := hcut
                obtain ⟨wr2, rfl⟩ : ∃ z, z = wc := ⟨_, rfl⟩
                have e6 := ((unhide hbz).cell (cell_lt (unhide HX6))).trans (unhide HX6)
                have e1 := ((unhide hbz).cell (cell_lt (unhide HD1))).trans (unhide HD1)
                have e2 := ((unhide hbz).cell (cell_lt (unhide HD2))).trans (unhide HD2)
                have BY := hide (below_on (unhide BZ) (unhide hbz))
                clear hbz BZ HX6 HD0 HD1 HD2 A0 HS CA1 CA2 CA3 DZ XZ
                have A0 := hide (Kp.new wr2)
                have HS := hide (kp_holds wr2)
                have R : ∀ wx, Kp wr2 wx → wx.cell? ⟨b3, 6, none⟩ = some (.slice (some ⟨bo, off, none⟩) ys.ml ys.mc) ∧ wx.cell? ⟨bo, off + k * 4 + 1, none⟩ = some (.int .i64 mm) ∧ wx.cell? ⟨bo, off + k * 4 + 2, none⟩ = some (.int .i64 mc) ∧ wx.cell? ⟨bo, off + k * 4 + 1 + 1, none⟩ = some (.int .i64 mc) := fun wx h => ⟨h.cell e6, h.cell e1, h.cell e2, h.cell e2⟩
                clear e6 e1 e2
                go_upto_region 20 with fail
                refine wp_region_held_drew (S := fun wx => Kp wr2 wx) (by kernel_rfl) ((unhide HS).drew (unhide A0)) (fun S0 => ?_)
                generalize wr2.drew = wn at S0 ⊢
                refine takeW 0 195 _ rfl rfl S0 ?_
                try simp only [Act.put, List.setIfInBounds_toArray, List.set_cons_zero, List.set_cons_succ]
                refine takeW 1 196 (.bool false) rfl rfl S0 ?_
                try simp only [Act.put, List.setIfInBounds_toArray, List.set_cons_zero, List.set_cons_succ]
                refine takeW 2 197 _ rfl rfl S0 ?_
                try simp only [Act.put, List.setIfInBounds_toArray, List.set_cons_zero, List.set_cons_succ]
                refine takeW 3 198 (rv mm mc) rfl rfl S0 ?_ (hy := Or.inl ⟨by rfl, fun wz hz => run_v (res_load ((unhide VA).below hz))⟩)
                try simp only [Act.put, List.setIfInBounds_toArray, List.set_cons_zero, List.set_cons_succ]
                refine takeW 4 199 _ rfl rfl S0 ?_
                try simp only [Act.put, List.setIfInBounds_toArray, List.set_cons_zero, List.set_cons_succ]
                refine takeW 5 200 (.slice (some ⟨bo, off, none⟩) ys.ml ys.mc) rfl rfl S0 ?_ (hy := Or.inl ⟨by rfl, fun wz hz => by (have hr := R wz hz; clear R; go_simp)⟩)
                try simp only [Act.put, List.setIfInBounds_toArray, List.set_cons_zero, List.set_cons_succ]
                refine takeW 6 201 _ rfl rfl S0 ?_
                try simp only [Act.put, List.setIfInBounds_toArray, List.set_cons_zero, List.set_cons_succ]
                refine takeW 7 202 (.pointer (some ⟨bo, off + k * 4, none⟩)) rfl rfl S0 ?_ (hy := Or.inl ⟨by rfl, fun wz hz => by (have hr := R wz hz; clear R; go_simp)⟩)
                try simp only [Act.put, List.setIfInBounds_toArray, List.set_cons_zero, List.set_cons_succ]
                refine takeW 8 203 (.pointer (some ⟨bo, off + k * 4 + 1, none⟩)) rfl rfl S0 ?_ (hy := Or.inl ⟨by rfl, fun wz hz => by (have hr := R wz hz; clear R; go_simp)⟩)
                try simp only [Act.put, List.setIfInBounds_toArray, List.set_cons_zero, List.set_cons_succ]
                refine takeW 9 204 (rv mm mc) rfl rfl S0 ?_ (hy := Or.inl ⟨by rfl, fun wz hz => by (have hr := R wz hz; clear R; go_simp)⟩)
                try simp only [Act.put, List.setIfInBounds_toArray, List.set_cons_zero, List.set_cons_succ]
                refine takeW 10 205 (.bool false) rfl rfl S0 ?_
                try simp only [Act.put, List.setIfInBounds_toArray, List.set_cons_zero, List.set_cons_succ]
                refine takeW 11 206 (.bool false) rfl rfl S0 ?_
                try simp only [Act.put, List.setIfInBounds_toArray, List.set_cons_zero, List.set_cons_succ]
                refine wpAnyH_done (by kernel_rfl) ?_ _
                have BX := hide (below_on (unhide BY) S0)
                clear S0 R A0 HS VA BY
                go_wp2
                go_roundw
                case rel => exact ⟨k + 1, by omega, by go_num, BX⟩
                case measure => simp [intOf]; omega
            · go_wp2_with fail
              go_meet
              exact BZ
      case rest =>
        replace BW := hide (below_on (unhide BW) (unhide hcut))
        replace D3 := hide ((unhide D3).below (unhide hcut))
        replace X3 := hide ((unhide X3).below (unhide hcut))
        replace D7 := hide ((unhide D7).below (unhide hcut))
        replace X7 := hide ((unhide X7).below (unhide hcut))
        clear hcut HOS
        obtain ⟨we, rfl⟩ : ∃ z, z = wc := ⟨_, rfl⟩
        clear D3 X3
        have u0 := (unhide X7).at 0; have u1 := (unhide X7).at 1; have u2 := (unhide X7).at 2; have u3 := (unhide X7).at 3; have u4 := (unhide X7).at 4; have u5 := (unhide X7).at 5; have u6 := (unhide X7).at 6; have u7 := (unhide X7).at 7
        simp at u0 u1 u2 u3 u4 u5 u6 u7
        go_wp2_with fail
        refine (unhide COT _ (unhide D7)).mono ?_
        rintro e w22 ⟨rfl, hb⟩
        clear u0 u1 u2 u3 u4 u5 u6 u7
        replace BW := hide (below_on (unhide BW) (hb))
        replace D7 := hide ((unhide D7).below (hb))
        replace X7 := hide ((unhide X7).below (hb))
        clear hb COT
        cases ot
        · go_wp2
          go_ret
          exact ⟨rfl, unhide BW⟩
        have x0 := (unhide X7).at 0
        simp at x0
        go_wp2_with fail
        refine (unhide CLF _ (unhide D7)).mono ?_
        rintro e w23 ⟨rfl, hb⟩
        clear x0
        replace BW := hide (below_on (unhide BW) (hb))
        replace D7 := hide ((unhide D7).below (hb))
        replace X7 := hide ((unhide X7).below (hb))
        clear hb CLF
        cases lf
        case true =>
          go_wp2
          go_ret
          exact ⟨rfl, unhide BW⟩
        have V26 := hide (blk_new w23 #[.int .i64 0, .int .i64 0] 33)
        have BV := hide (below_al (Below.refl _ w23) (.cells #[.int .i64 0, .int .i64 0] 33))
        obtain ⟨b26, hb26⟩ : ∃ g, w23.heap.size = g := ⟨_, rfl⟩
        rw [hb26] at V26
        have hql : yt.ql ≤ 1048576 := (unhide D7).qlen
        have x0 := ((unhide X7).below (unhide BV)).at 0
        simp at x0
        go_wp2
        clear x0
        have HB26 := hide hb26
        clear hb26
        generalize w23.alloc (.cells #[.int .i64 0, .int .i64 0] 33) = w24 at V26 BV ⊢
        go_loopw [27] (fun i wr => ∃ (k : Nat) (a b : Int), 1 ≤ k ∧ (k ≤ yt.ql ∨ k = 1) ∧ i = .int .i64 k ∧ Hid (kidsU st qu k = (a, b)) ∧ Hid (Blk wr b26 #[.int .i64 a, .int .i64 b] 33) ∧ Hid (Below w23.heap.size w23 wr)) (fun i _ => yt.ql + 1 - (intOf i).toNat)
        case atStart => exact ⟨1, 0, 0, Nat.le_refl _, .inr rfl, rfl, hide (kids_first st qu), V26, BV⟩
        case round =>
          clear V26 BV
          obtain ⟨k, a, b, hk1, hk, rfl, HKU, V, BZ⟩ := hrel
          have XZ := hide ((unhide X7).below (unhide BZ))
          have x0 := (unhide XZ).at 0
          simp at x0
          by_cases hlt : k < yt.ql
          · have hkl : k < st.qs.length := by have := (unhide D7).row.1.1; omega
            obtain ⟨⟨c, d⟩, hcd⟩ : ∃ p, kidsU st qu (k + 1) = p := ⟨_, rfl⟩
            have HCD := hide hcd
            obtain ⟨bo, off, hma, hq⟩ := (unhide D7).row.1.at hlt
            obtain ⟨d0, y1, -⟩ := hq hkl
            have d1 := ((unhide BZ).cell (cell_lt y1)).trans y1
            have z0 := (unhide X7).at 0
            simp at z0
            rw [hma] at x0 z0
            have HY0 := hide z0
            clear y1 z0
            have k0 : (0 : Int) ≤ k := by omega
            have k1 : (k : Int) < yt.ql := by omega
            by_cases he : st.qs[k].parent = qu
            · obtain ⟨u1, u2, c1, c2⟩ := kid_call (y := yt) (hs := hst) (unhide HOT) hk1 hkl he (unhide HKU) hcd
              obtain ⟨pa, hpa⟩ : ∃ s, st.qs[k].parent = s := ⟨_, rfl⟩
              obtain ⟨na, hna⟩ : ∃ s, st.qs[k].name = s := ⟨_, rfl⟩
              rw [hpa] at he d1
              rw [hna] at d0 c1
              have hbe := bs_eq pa qu
              rw [decide_eq_true he] at hbe
              have CA1 := hide c1
              have CA2 := hide c2
              have HYD := hide d0
              clear hma hq hkl c1 c2 d0 hpa hna he hcd
              go_upto_region 29 with fail
              clear x0 d1 hbe
              have hgb : w23.heap.size ≤ b26 := by have := unhide HB26; omega
              refine wp_region_x 9 (fun wx => Below w23.heap.size w23 wx) (fun wx => Below wr.heap.size wr wx) (by kernel_rfl) ((unhide BZ).drew) ((Below.refl _ wr).drew) (fun S0 T0 => ?_)
              generalize wr.drew = wn at S0 T0 ⊢
              refine takeXT 0 233 (rv a b) rfl rfl S0 T0 ?_ (hy := Or.inl ⟨by rfl, fun wz hz => run_v (res_load ((unhide V).below hz))⟩)
              try simp only [Act.put, List.setIfInBounds_toArray, List.set_cons_zero, List.set_cons_succ]
              have RS : ∀ wx, Below w23.heap.size w23 wx → wx.cell? ⟨b7, 0, none⟩ = some (.slice (some ⟨bo, off, none⟩) yt.ql yt.qc) ∧ wx.cell? ⟨bo, off + k * 4, none⟩ = some (.string (bs na)) := fun wx h => ⟨(h.cell (cell_lt (unhide HY0))).trans (unhide HY0), (h.cell (cell_lt (unhide HYD))).trans (unhide HYD)⟩
              refine takeXS 1 234 (sv yt st) rfl rfl S0 T0 ?_ (hy := Or.inl ⟨by rfl, fun wz hz => run_v (state_load ((unhide X7).below hz) rfl)⟩)
              try simp only [Act.put, List.setIfInBounds_toArray, List.set_cons_zero, List.set_cons_succ]
              refine takeXS 2 235 _ rfl rfl S0 T0 ?_
              try simp only [Act.put, List.setIfInBounds_toArray, List.set_cons_zero, List.set_cons_succ]
              refine takeXS 3 236 (.slice (some ⟨bo, off, none⟩) yt.ql yt.qc) rfl rfl S0 T0 ?_ (hy := Or.inl ⟨by rfl, fun wz hz => by (have hr := RS wz hz; clear RS; go_simp)⟩)
              try simp only [Act.put, List.setIfInBounds_toArray, List.set_cons_zero, List.set_cons_succ]
              refine takeXS 4 237 _ rfl rfl S0 T0 ?_
              try simp only [Act.put, List.setIfInBounds_toArray, List.set_cons_zero, List.set_cons_succ]
              refine takeXS 5 238 (.pointer (some ⟨bo, off + k * 4, none⟩)) rfl rfl S0 T0 ?_ (hy := Or.inl ⟨by rfl, fun wz hz => by (have hr := RS wz hz; clear RS; go_simp)⟩)
              try simp only [Act.put, List.setIfInBounds_toArray, List.set_cons_zero, List.set_cons_succ]
              refine takeXS 6 239 (.pointer (some ⟨bo, off + k * 4, none⟩)) rfl rfl S0 T0 ?_ (hy := Or.inl ⟨by rfl, fun wz hz => by (have hr := RS wz hz; clear RS; go_simp)⟩)
              try simp only [Act.put, List.setIfInBounds_toArray, List.set_cons_zero, List.set_cons_succ]
              refine takeXS 7 240 (.string (bs na)) rfl rfl S0 T0 ?_ (hy := Or.inl ⟨by rfl, fun wz hz => by (have hr := RS wz hz; clear RS; go_simp)⟩)
              try simp only [Act.put, List.setIfInBounds_toArray, List.set_cons_zero, List.set_cons_succ]
              refine wpAnyX_ready [8] (AllReadyX.cons rfl (fun K hK => ?_) AllReadyX.nil)
              go_simp
              refine (unhide CA1 _ ((unhide D7).below S0)).mono ?_
              rintro e wm ⟨rfl, hb⟩
              have S1 := below_on S0 hb
              have T1 := below_on T0 hb
              clear S0 T0 hb
              go_wp2_with fail
              refine hK.out _ _ S1 (fun _ => T1) ?_
              clear hK K
              have S0 := S1
              have T0 := T1
              clear S1 T1
              try simp only [Act.put, List.setIfInBounds_toArray, List.set_cons_zero, List.set_cons_succ]
              refine wpAnyX_ready [9] (AllReadyX.cons rfl (fun K hK => ?_) AllReadyX.nil)
              go_simp
              refine (unhide CA2 _).mono ?_
              rintro e wm2 ⟨rfl, hb⟩
              have S1 := below_on S0 hb
              have T1 := below_on T0 hb
              clear S0 T0 hb
              go_wp2_with fail
              refine hK.out _ _ S1 (fun _ => T1) ?_
              clear hK K
              have S0 := S1
              have VV := hide ((unhide V).below T1)
              clear S1 T1 V
              try simp only [Act.put, List.setIfInBounds_toArray, List.set_cons_zero, List.set_cons_succ]
              refine wpAnyX_on _ _ _ _ (by kernel_rfl) ?_
              refine takeW 10 232 _ rfl rfl S0 ?_
              try simp only [Act.put, List.setIfInBounds_toArray, List.set_cons_zero, List.set_cons_succ]
              refine takeW 11 243 (rv c d) rfl rfl S0 ?_
              try simp only [Act.put, List.setIfInBounds_toArray, List.set_cons_zero, List.set_cons_succ]
              refine takeW 12 244 _ rfl rfl S0 ?_
              try simp only [Act.put, List.setIfInBounds_toArray, List.set_cons_zero, List.set_cons_succ]
              have MM := mks_rw (unhide VV) #[.int .i64 c, .int .i64 d] rfl
              have RR := hide (blk_rw (unhide VV) #[.int .i64 c, .int .i64 d])
              have S1 : Below w23.heap.size w23 (World.setRow wm2 b26 #[.int .i64 c, .int .i64 d]) := S0.trans (MM.below (fun k e => by subst e; exact hgb) S0.size)
              refine wpAnyH_ready (rs := [13]) (by kernel_rfl) (by simp) (AllReadyH.cons rfl (fun K hK => readyU (by rfl) rfl (run_u (blk_store 33 (arr := #[.int .i64 c, .int .i64 d]) (unhide VV) (by kernel_rfl) rfl (by kernel_rfl))) ?_) AllReadyH.nil)
              clear S0
              refine hK.out _ _ S1 (fun S0 => ?_)
              clear hK K S1 MM
              try simp only [Act.put, List.setIfInBounds_toArray, List.set_cons_zero, List.set_cons_succ]
              generalize World.setRow wm2 b26 #[.int .i64 c, .int .i64 d] = wz at S0 RR ⊢
              refine wpAnyH_done (by kernel_rfl) ?_ _
              have HS0 := hide S0
              clear S0 RS
              go_wp2
              go_roundw
              case rel => exact ⟨k + 1, c, d, by omega, by omega, by go_num, HCD, RR, HS0⟩
              case measure => simp [intOf]; omega
            · have HSK := hide (show kidsU st qu (k + 1) = (a, b) by rw [kids_skip hk1 hkl he]; exact unhide HKU)
              obtain ⟨pa, hpa⟩ : ∃ s, st.qs[k].parent = s := ⟨_, rfl⟩
              rw [hpa] at he d1
              have hbe := bs_eq pa qu
              rw [decide_eq_false he] at hbe
              clear hma hq hkl d0 hpa he hcd HCD HY0
              go_wp2
              go_roundw
              case rel => exact ⟨k + 1, a, b, by omega, by omega, by go_num, HSK, V, BZ⟩
              case measure => simp [intOf]; omega
          · have hla := kids_last (unhide HOT) (unhide HLF) (n := k) (by have := (unhide D7).row.1.1; omega)
            rw [unhide HKU, unhide HUB] at hla
            simp only [Prod.mk.injEq] at hla
            obtain ⟨ha, hb'⟩ := hla
            subst ha hb'
            go_upto_region 30 with fail
            clear x0
            have A0 := hide (Kp.new wr)
            have HS := hide (kp_holds wr)
            have DZ := hide ((unhide D7).below (unhide BZ))
            refine wp_region_held_drew (S := fun wx => Kp wr wx) (by kernel_rfl) ((unhide HS).drew (unhide A0)) (fun S0 => ?_)
            generalize wr.drew = wn at S0 ⊢
            refine takeW 0 245 (rv a b) rfl rfl S0 ?_ (hy := Or.inl ⟨by rfl, fun wz hz => run_v (res_load ((unhide V).below hz))⟩)
            try simp only [Act.put, List.setIfInBounds_toArray, List.set_cons_zero, List.set_cons_succ]
            refine takeW 1 246 (sv yt st) rfl rfl S0 ?_ (hy := Or.inl ⟨by rfl, fun wz hz => run_v (state_load ((unhide XZ).below hz) rfl)⟩)
            try simp only [Act.put, List.setIfInBounds_toArray, List.set_cons_zero, List.set_cons_succ]
            refine takeW 2 247 _ rfl rfl S0 ?_
            try simp only [Act.put, List.setIfInBounds_toArray, List.set_cons_zero, List.set_cons_succ]
            refine wpAnyH_ready (rs := [3]) (by kernel_rfl) (by simp) (AllReadyH.cons rfl (fun K hK => ?_) AllReadyH.nil)
            go_simp
            refine (unhide CBI _ ((unhide DZ).below S0)).mono ?_
            rintro e wq ⟨rfl, hb⟩
            have S1 : Kp wr wq := below_on S0 hb
            clear S0 hb
            go_wp2_with fail
            refine hK.out _ _ S1 (fun S0 => ?_)
            clear hK K S1
            try simp only [Act.put, List.setIfInBounds_toArray, List.set_cons_zero, List.set_cons_succ]
            refine takeW 4 249 (.bool true) rfl rfl S0 ?_
            try simp only [Act.put, List.setIfInBounds_toArray, List.set_cons_zero, List.set_cons_succ]
            refine takeW 5 2 _ rfl rfl S0 ?_
            try simp only [Act.put, List.setIfInBounds_toArray, List.set_cons_zero, List.set_cons_succ]
            refine wpAnyH_done (by kernel_rfl) ?_ _
            have BX := hide (below_on (unhide BW) (below_on (unhide BZ) S0))
            clear S0
            go_wp2
            go_ret
            exact ⟨rfl, unhide BX⟩

set_option maxRecDepth 100000 in
theorem lifted (os : Os) (started : os.Started) (H : Type) (enc : TypeId × Value → H) :
    ReturnsInHanded {} Tryz.checked os 3 .any (Rows.fnStateSpec.pre6 enc Tryz.prog Tryz.f3 Rows.fnStateRow.domain false) (Rows.fnStateSpec.post enc Tryz.prog Tryz.f3 false true false false) := by
  refine returnsInHanded_of_change (C := Tryz.checked) own started (by kernel_rfl) Tryz.func3
    (ChangeSpec.witness6 (enc := enc) (C := Tryz.checked) false ⟨#[], #[.slice none 0 0], []⟩ 8 (by kernel_rfl) (by kernel_rfl) (by kernel_rfl) (by kernel_rfl)) ?_
  intro W base args ds gs before hval0 hW hcnd _
  have hval : ∀ (j : Nat) t v, Tryz.f3.params[j]? = some t → args[j]? = some v → Value.okWide Tryz.prog W .any base t v := hval0
  have hW' := hW
  obtain ⟨p, q, hA0, hV, rfl, hfz, hnd⟩ := hW
  have hA : DataW.TrodAll enc Tryz.prog W 0 (fun _ => true) true Tryz.f3.params.toList args.toList ds p := hA0
  rw [Tryz.params3] at hA hval
  obtain ⟨v0, vs0, d0, ds0, p0, q0, hargs, rfl, rfl, h0, r0⟩ := trodAll_cons hA
  obtain ⟨rfl, rfl, rfl⟩ := trodAll_nil r0
  obtain rfl : args = #[v0] := by cases args; simp_all
  obtain ⟨rfl, rfl⟩ := trodVars_none hV
  obtain ⟨a0, len0, cap0, rfl⟩ := okWide_slice Tryz.underlying22 (hval 0 22 v0 rfl rfl)
  have k0 := h0
  have lt0 : ∀ x ∈ p0, x.block < W.heap.size := by obtain ⟨m, hm⟩ := k0; exact DataW.trod_lt m _ _ _ hm
  obtain ⟨z0, w0⟩ : ∃ zs, IsRow W a0 len0 cap0 zs := by
    obtain ⟨fuel, hf⟩ := h0
    rcases open_ints Tryz.underlying22 Tryz.underlying5 (by kernel_rfl) hf with ⟨hcs, _⟩ | ⟨x, l, c, zs, hcs, _, hl, hm, hz, _, hcell, hwz⟩
    · simp [Value.cells] at hcs
      obtain ⟨rfl, rfl, rfl⟩ := hcs
      exact ⟨[], .inl ⟨rfl, rfl, rfl, rfl⟩⟩
    · simp [Value.cells] at hcs
      obtain ⟨rfl, rfl, rfl⟩ := hcs
      exact ⟨zs, .inr ⟨_, rfl, hl, hm, by simpa using hz, hcell, hwz⟩⟩
  clear hA0 hval0
  refine (walk a0 len0 cap0 z0 W w0).mono fun e W' ⟨he, bel⟩ => ?_
  subst he
  exact ⟨_, rfl, _, _, _, [], _, [], hW', trodAll_mk1 (shut_bool Tryz.underlying4 _), (trodAll_cons_mk (Below.trod laidOut (by kernel_rfl) (of_decide_eq_true (by kernel_rfl)) k0 bel lt0) trodAll_mk0), rfl, bel.frame _, fun h => by cases h⟩

set_option maxRecDepth 100000 in
set_option maxHeartbeats 16000000 in
theorem closed : joinedFacts Tryz.prog 3 Tryz.f3 Rows.fnStateSpec Rows.fnStateRow = true := by
  unfold joinedFacts
  repeat rw [Bool.and_eq_true]
  repeat' apply And.intro
  all_goals (as_aux_lemma => kernel_rfl)
theorem over : Rows.fnStateRow.holds Tryz.pinned (OpenSpec.ofChange Rows.fnStateSpec) :=
  OpenClaim.holds_of_wide 3 Tryz.f3 rfl rfl rfl rfl rfl rfl rfl ⟨rfl, rfl, rfl, rfl, rfl⟩ rfl rfl rfl rfl rfl (by kernel_rfl) Tryz.func3 closed
    (of_decide_eq_true (by kernel_rfl)) (by unfold Func.isWrapper; first | (rw [if_pos (by decide +kernel)]; kernel_rfl) | (rw [if_neg (by decide +kernel)]; exact ⟨rfl, rfl⟩))
    (fun os started H enc _ => lifted os started H enc)
end Go.Proofs.YtcplnodfcchdhaaGreat.fnState

namespace Go.Proofs.YtcplnodfcchdhaaGreat
theorem fnState_holds : Rows.FnStateSaid := fnState.over
#print axioms fnState_holds
end Go.Proofs.YtcplnodfcchdhaaGreat
