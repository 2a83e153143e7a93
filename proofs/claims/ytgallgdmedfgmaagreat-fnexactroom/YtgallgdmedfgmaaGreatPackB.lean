/-
  Several texts of this claim in one: ResI, PairI, OrI, AddI, SumI4, CapI, CapsI, AddS, SumS4, CapS, CapsS, TotalB, ShareS, OfM, WithM, WithinS, RoomM, FitsM, UpM1, IdxI, QBox, Digit, Name (pack.py put them together); each says in its own remark what is proved.
-/
import Derived.Test.YtgallgdmedfgmaaGreatResV
import Derived.Test.YtgallgdmedfgmaaGreatPackA
import Derived.Deep.RegionHeld3
import Derived.Deep.CutRange
import Derived.Test.YtgallgdmedfgmaaGreatStAll
import Derived.Shelf.Abstract
import Derived.Test.YtgallgdmedfgmaaGreatQV
/-
  Amounts in the program: numberOk, the methods ok and orNothing, two at once; walks over the dump.
-/
namespace Go.Proofs.YtgallgdmedfgmaaGreat
open Go.RowKit
set_option linter.unusedVariables false

/-- two amounts at once -/
abbrev pv (a b c d : Int) : Value := .agg #[.int .i64 a, .int .i64 b, .int .i64 c, .int .i64 d]

set_option maxHeartbeats 400000 in
theorem numberOk_any (n : Int) (w : World) :
    Calls Tryz.prog 89 #[.int .i64 n] w fun e w' => e = .returned (.bool (inB n 0 1000000000)) ∧ w = w' := by
  by_cases h1 : 0 ≤ n
  · by_cases h2 : n ≤ 1000000000
    · go_enter Tryz.func89, Tryz.ntmps89
      go_wp2
      go_ret
      exact ⟨ret_bool (inB_true h1 h2).symm, rfl⟩
    · go_enter Tryz.func89, Tryz.ntmps89
      go_wp2
      go_ret
      exact ⟨ret_bool (inB_false (by omega)).symm, rfl⟩
  · go_enter Tryz.func89, Tryz.ntmps89
    go_wp2
    go_ret
    exact ⟨ret_bool (inB_false (by omega)).symm, rfl⟩

set_option maxRecDepth 100000 in
set_option maxHeartbeats 400000 in
theorem ok_any (a b : Int) (w : World) :
    Calls Tryz.prog 74 #[rv a b] w fun e w' => e = .returned (.bool (resOk a b)) ∧ w' = w.alloc (.cells #[.int .i64 a, .int .i64 b] 39) := by
  cases h1 : inB a 0 1000000000
  · go_enter Tryz.func74, Tryz.ntmps74
    go_wp2_with (go_at_call 89; refine (numberOk_any _ _).mono ?_; rintro e w' ⟨rfl, rfl⟩)
    go_ret
    exact ⟨ret_bool (by simp [resOk, h1]), rfl⟩
  · go_enter Tryz.func74, Tryz.ntmps74
    go_wp2_with (go_at_call 89; refine (numberOk_any _ _).mono ?_; rintro e w' ⟨rfl, rfl⟩)
    go_ret
    exact ⟨ret_bool (by simp [resOk, h1]), rfl⟩
theorem ok_bel (a b : Int) (w : World) :
    Calls Tryz.prog 74 #[rv a b] w fun e w' => e = .returned (.bool (resOk a b)) ∧ Below w.heap.size w w' :=
  (ok_any a b w).mono fun e w' h => ⟨h.1, by rw [h.2]; exact below_al (Below.refl _ _) _⟩
end Go.Proofs.YtgallgdmedfgmaaGreat

/-
  Two amounts at once, and an amount or nothing; walks over the dump.
-/
namespace Go.Proofs.YtgallgdmedfgmaaGreat
open Go.RowKit
set_option linter.unusedVariables false

set_option maxRecDepth 100000 in
set_option maxHeartbeats 1000000 in
theorem pairOk_any (a b c d : Int) (w : World) :
    Calls Tryz.prog 52 #[pv a b c d] w fun e w' => e = .returned (.bool (resOk a b && resOk c d)) ∧ Below w.heap.size w w' := by
  cases h1 : resOk a b
  · go_enter Tryz.func52, Tryz.ntmps52
    go_wp2_with (go_at_call 74; refine (ok_any _ _ _).mono ?_; rintro e w' ⟨rfl, rfl⟩)
    go_ret
    refine ⟨rfl, ?_⟩
    repeat (first | exact Below.refl _ _ | refine below_al ?_ _ | refine Below.drew ?_ | refine below_sc ?_ _ _ _ (by omega))
  · go_enter Tryz.func52, Tryz.ntmps52
    go_wp2_with (go_at_call 74; refine (ok_any _ _ _).mono ?_; rintro e w' ⟨rfl, rfl⟩)
    go_ret
    refine ⟨rfl, ?_⟩
    repeat (first | exact Below.refl _ _ | refine below_al ?_ _ | refine Below.drew ?_ | refine below_sc ?_ _ _ _ (by omega))
end Go.Proofs.YtgallgdmedfgmaaGreat

/-
  An amount, or nothing where it is none; a walk over the dump.
-/
namespace Go.Proofs.YtgallgdmedfgmaaGreat
open Go.RowKit
set_option linter.unusedVariables false

def orV (a b : Int) : Value := if resOk a b then rv a b else rv 0 0
set_option maxRecDepth 100000 in
set_option maxHeartbeats 1000000 in
theorem or_any (a b : Int) (w : World) :
    Calls Tryz.prog 67 #[rv a b] w fun e w' => e = .returned (.tuple #[orV a b, .bool (resOk a b)]) ∧ Below w.heap.size w w' := by
  cases h1 : resOk a b
  · rw [show orV a b = rv 0 0 by simp [orV, h1]]
    go_enter Tryz.func67, Tryz.ntmps67
    go_wp2_with (go_at_call 74; refine (ok_any _ _ _).mono ?_; rintro e w' ⟨rfl, rfl⟩)
    refine bodyPost_ret (v := .tuple #[rv 0 0, .bool false]) (by simp [results, Tryz.results67, go_sem]) rfl ⟨rfl, ?_⟩
    repeat (first | exact Below.refl _ _ | refine below_al ?_ _ | refine Below.drew ?_ | refine below_sc ?_ _ _ _ (by omega))
  · rw [show orV a b = rv a b by simp [orV, h1]]
    go_enter Tryz.func67, Tryz.ntmps67
    go_wp2_with (go_at_call 74; refine (ok_any _ _ _).mono ?_; rintro e w' ⟨rfl, rfl⟩)
    refine bodyPost_ret (v := .tuple #[rv a b, .bool true]) (by simp [results, Tryz.results67, go_sem]) rfl ⟨rfl, ?_⟩
    repeat (first | exact Below.refl _ _ | refine below_al ?_ _ | refine Below.drew ?_ | refine below_sc ?_ _ _ _ (by omega))
end Go.Proofs.YtgallgdmedfgmaaGreat

/-
  What the program's Add answers; a walk over the dump.
-/
namespace Go.Proofs.YtgallgdmedfgmaaGreat
open Go.RowKit
set_option linter.unusedVariables false

set_option maxRecDepth 100000 in
set_option maxHeartbeats 1000000 in
theorem implAdd_any (a b c d : Int) (w : World) :
    Calls Tryz.prog 96 #[rv a b, rv c d] w fun e w' => e = .returned (.tuple #[bothV 1 a b c d, .bool (bothOk 1 a b c d)]) ∧ Below w.heap.size w w' := by
  have V1 := ((var_new w 39 a b).al (.cells #[.int .i64 c, .int .i64 d] 39)).al (.cells #[.int .i64 0, .int .i64 0] 39)
  have V2 := (var_new2 w 39 39 a b c d).al (.cells #[.int .i64 0, .int .i64 0] 39)
  have V3 := var_new2 (w.alloc (.cells #[.int .i64 a, .int .i64 b] 39)) 39 39 c d 0 0
  have B3 := below_al (below_al (below_al (Below.refl _ w) (.cells #[.int .i64 a, .int .i64 b] 39)) (.cells #[.int .i64 c, .int .i64 d] 39)) (.cells #[.int .i64 0, .int .i64 0] 39)
  simp at V3
  have HV1 := hide V1
  have HV2 := hide V2
  have HV3 := hide V3
  have HB3 := hide B3
  have hc := hide (pairOk_any a b c d)
  clear V1 V2 V3 B3
  cases h0 : resOk a b && resOk c d
  · have hb : bothOk 1 a b c d = false := by rw [bothOk, h0]; rfl
    rw [both_no hb, hb]
    go_enter Tryz.func96, Tryz.ntmps96
    go_wp2_with fail
    refine (unhide hc _).mono ?_
    rw [h0]
    rintro e w1 ⟨rfl, hb⟩
    have V3 := (unhide HV3).below hb
    have k2 := V3.f 0
    have k3 := V3.f 1
    have k0 := V3.c0
    have k1 := V3.c1
    have k4 := V3.s0 (.int .i64 0)
    have k5 := V3.s1 (.int .i64 0) (.int .i64 0)
    have HB := hide (below_on (unhide HB3) hb)
    clear hb HV1 HV2 HV3 HB3 V3 hc
    go_wp2
    refine bodyPost_ret (v := .tuple #[rv 0 0, .bool false]) (by simp [results, Tryz.results96, go_sem, k4, k5]) rfl ⟨rfl, ?_⟩
    repeat (first | exact unhide HB | refine below_al ?_ _ | refine Below.drew ?_ | refine below_sc ?_ _ _ _ (by omega))
  · have h0' := h0
    simp only [Bool.and_eq_true] at h0'
    obtain ⟨q1, q2, q3, q4⟩ := resOk_bd h0'.1
    obtain ⟨q5, q6, q7, q8⟩ := resOk_bd h0'.2
    obtain ⟨x, hx⟩ : ∃ x, a + c = x := ⟨_, rfl⟩
    obtain ⟨y, hy⟩ : ∃ y, b + d = y := ⟨_, rfl⟩
    have m3 : IntKind.i64.wrap (a + c) = x := by rw [IntKind.wrap_i64]; omega
    have m4 : IntKind.i64.wrap (b + d) = y := by rw [IntKind.wrap_i64]; omega
    have e1 : bothOk 1 a b c d = resOk x y := by rw [bothOk, h0, show a + 1 * c = x by omega, show b + 1 * d = y by omega]; rfl
    have e2 : bothV 1 a b c d = orV x y := by rw [bothV, orV, e1, show a + 1 * c = x by omega, show b + 1 * d = y by omega]
    obtain ⟨u, v, hv⟩ : ∃ u v, orV x y = rv u v := by unfold orV; split <;> exact ⟨_, _, rfl⟩
    obtain ⟨o, ho⟩ : ∃ o, resOk x y = o := ⟨_, rfl⟩
    have ho2 : ∀ wx, Calls Tryz.prog 67 #[rv x y] wx fun e w' => e = .returned (.tuple #[rv u v, .bool o]) ∧ Below wx.heap.size wx w' := fun wx => by have := or_any x y wx; rw [hv, ho] at this; exact this
    rw [e1, e2, hv, ho]
    have HO := hide ho2
    clear e1 e2 hv ho ho2 h0' q1 q2 q3 q4 q5 q6 q7 q8 hx hy
    go_enter Tryz.func96, Tryz.ntmps96
    go_wp2_with fail
    refine (unhide hc _).mono ?_
    rw [h0]
    rintro e w1 ⟨rfl, hb⟩
    have V1 := (unhide HV1).below hb
    have V2 := (unhide HV2).below hb
    have V3 := hide ((unhide HV3).below hb)
    have a1 := V1.c0
    have a2 := V1.c1
    have a3 := V2.c0
    have a4 := V2.c1
    have HB := hide (below_on (unhide HB3) hb)
    clear hb HV1 HV2 HV3 HB3 V1 V2 hc
    go_wp2_with fail
    refine (unhide HO _).mono ?_
    rintro e w2 ⟨rfl, hb⟩
    have V4 := (unhide V3).below hb
    have k0 := V4.c0
    have k1 := V4.c1
    have k2 := V4.f 0
    have k3 := V4.f 1
    have k4 := V4.s0 (.int .i64 u)
    have k5 := V4.s1 (.int .i64 u) (.int .i64 v)
    have HB2 := hide (below_on (unhide HB) hb)
    clear hb V4 V3 HB HO a1 a2 a3 a4
    go_wp2
    refine bodyPost_ret (v := .tuple #[rv u v, .bool o]) (by simp [results, Tryz.results96, go_sem, k4, k5]) rfl ⟨rfl, ?_⟩
    repeat (first | exact unhide HB2 | refine below_al ?_ _ | refine Below.drew ?_ | refine below_sc ?_ _ _ _ (by omega))
end Go.Proofs.YtgallgdmedfgmaaGreat

/-
  What amounts are together, by the program; a walk over the dump.
-/
namespace Go.Proofs.YtgallgdmedfgmaaGreat
open Go.RowKit
set_option linter.unusedVariables false

set_option maxRecDepth 100000 in
set_option maxHeartbeats 2000000 in
theorem together_any (ao : Option Addr) (len cap : Nat) (l : List (Int × Int)) (w : World) (h : RRow w ao len l) (hl : len ≤ 1048576) :
    Calls Tryz.prog 83 #[.slice ao len cap] w fun e w' => e = .returned (.tuple #[rv (sumR l).1 (sumR l).2.1, .bool (sumR l).2.2]) ∧ Below w.heap.size w w' := by
  have HR := hide h
  have HL := hide h.1
  obtain ⟨⟨sx, sy, so⟩, hs⟩ : ∃ s, sumR l = s := ⟨_, rfl⟩
  have HS := hide (show sumFrom l 0 0 = (sx, sy, so) from hs)
  rw [hs]
  clear h hs
  go_enter Tryz.func83, Tryz.ntmps83
  go_wp2
  go_loopw [12] (fun i wr => ∃ (k : Nat) (x y : Int), k ≤ len ∧ i = .int .i64 k ∧ Hid (sumFrom (l.drop k) x y = (sx, sy, so)) ∧ Hid (Var wr 39 w.heap.size 0 0) ∧ Hid (Var wr 39 (w.heap.size + 1) x y) ∧ Hid (Below w.heap.size w wr)) (fun i _ => len - (intOf i).toNat)
  case atStart => exact ⟨0, 0, 0, Nat.zero_le _, rfl, hide (by simpa using unhide HS), hide ((var_new w _ _ _).al _), hide (var_new2 w _ _ 0 0 0 0), hide (below_al (below_al (Below.refl _ _) _) _)⟩
  case round =>
    obtain ⟨k, x, y, hk, rfl, HQ, HV0, HV1, HB⟩ := hrel
    by_cases hlt : k < len
    · obtain ⟨b, off, rfl, hq⟩ := ((unhide HR).below (unhide HB)).at hlt
      have hkl : k < l.length := by have := unhide HL; omega
      have hst := sumFrom_step hkl x y
      obtain ⟨c0, c1⟩ := hq hkl
      obtain ⟨⟨a, d⟩, hs⟩ : ∃ q, l[k] = q := ⟨_, rfl⟩
      rw [hs] at c0 c1 hst
      simp only at c0 c1 hst
      have HST := hide hst
      have s0 := (unhide HV1).c0
      have s1 := (unhide HV1).c1
      have hsz := (unhide HV1).lt
      have hl2 := World.cell?_alloc_lt wr (.cells #[.int .i64 a, .int .i64 d] 39) ⟨w.heap.size + 1, 0, none⟩ hsz
      have hl3 := World.cell?_alloc_lt wr (.cells #[.int .i64 a, .int .i64 d] 39) ⟨w.heap.size + 1, 1, none⟩ hsz
      rw [s0] at hl2
      rw [s1] at hl3
      clear hq hs hkl hst
      have CA := hide (fun wx => implAdd_any x y a d wx)
      have HA := hide (below_al (Below.refl _ wr) (.cells #[.int .i64 a, .int .i64 d] 39))
      cases ho : bothOk 1 x y a d with
      | true =>
        rw [both_yes ho, ho] at CA
        rw [if_pos ho] at HST
        clear ho
        go_wp2_with fail
        refine (unhide CA _).mono ?_
        rintro e w1 ⟨rfl, hb⟩
        have W0 := hide (((unhide HV0).below (unhide HA)).below hb)
        have W1 := hide (((unhide HV1).below (unhide HA)).below hb)
        have HB1 := hide (below_on (below_on (unhide HB) (unhide HA)) hb)
        have hsz1 := (unhide W1).lt
        have t0 := (unhide W1).c0
        have t1 := (unhide W1).c1
        have f0 := (unhide W1).f 0
        have f1 := (unhide W1).f 1
        have g0 := World.cell?_alloc_lt w1 (.cells #[.int .i64 (x + 1 * a), .int .i64 (y + 1 * d)] 39) ⟨w.heap.size + 1, 0, none⟩ hsz1
        have g1 := World.cell?_alloc_lt w1 (.cells #[.int .i64 (x + 1 * a), .int .i64 (y + 1 * d)] 39) ⟨w.heap.size + 1, 1, none⟩ hsz1
        rw [t0] at g0
        rw [t1] at g1
        clear hb CA HA c0 c1 s0 s1 hl2 hl3 HV0 HV1 HB
        obtain ⟨x', hx'⟩ : ∃ x', x + 1 * a = x' := ⟨_, rfl⟩
        obtain ⟨y', hy'⟩ : ∃ y', y + 1 * d = y' := ⟨_, rfl⟩
        rw [hx', hy'] at HST g0 g1
        rw [hx', hy']
        clear hx' hy'
        have h2 := (unhide W1).al (.cells #[.int .i64 x', .int .i64 y'] 39)
        have ff0 := h2.f 0
        have ff1 := h2.f 1
        have W2 := hide h2
        clear h2
        go_wp2
        go_roundw
        case rel => exact ⟨k + 1, x', y', by omega, by go_num, hide (by rw [← unhide HST]; exact unhide HQ), hide ((((unhide W0).other _ _ _ (show w.heap.size ≠ w.heap.size + 1 by omega)).other _ _ _ (show w.heap.size ≠ w.heap.size + 1 by omega)).al _), hide (((unhide W1).set _ _).al _), hide (below_al (below_sc (below_sc (unhide HB1) _ _ _ (show w.heap.size ≤ w.heap.size + 1 by omega)) _ _ _ (show w.heap.size ≤ w.heap.size + 1 by omega)) _)⟩
        case measure => simp [intOf]; omega
      | false =>
        rw [both_no ho, ho] at CA
        rw [if_neg (by rw [ho]; simp)] at HST
        have hres := (unhide HST).symm.trans (unhide HQ)
        simp only [Prod.mk.injEq] at hres
        obtain ⟨rfl, rfl, rfl⟩ := hres
        clear ho HST HS
        go_wp2_with fail
        refine (unhide CA _).mono ?_
        rintro e w1 ⟨rfl, hb⟩
        have W0 := hide ((((unhide HV0).below (unhide HA)).below hb).al (.cells #[.int .i64 0, .int .i64 0] 39))
        have HB1 := hide (below_al (below_on (below_on (unhide HB) (unhide HA)) hb) (.cells #[.int .i64 0, .int .i64 0] 39))
        clear hb CA HA c0 c1 s0 s1 hl2 hl3 HV0 HV1 HB
        have t0 := (unhide W0).c0
        have t1 := (unhide W0).c1
        have f0 := (unhide W0).f 0
        have f1 := (unhide W0).f 1
        have k4 := (unhide W0).s0 (.int .i64 0)
        have k5 := (unhide W0).s1 (.int .i64 0) (.int .i64 0)
        go_wp2
        refine bodyPost_ret (v := .tuple #[rv 0 0, .bool false]) (by simp [results, Tryz.results83, go_sem, k4, k5]) rfl ⟨rfl, ?_⟩
        repeat (first | exact unhide HB1 | refine below_sc ?_ _ _ _ (by omega))
    · have hres : (x, y, true) = (sx, sy, so) := by rw [← unhide HQ, sumFrom_end (by have := unhide HL; omega)]
      simp only [Prod.mk.injEq] at hres
      obtain ⟨rfl, rfl, rfl⟩ := hres
      have s0 := (unhide HV1).c0
      have s1 := (unhide HV1).c1
      have t0 := (unhide HV0).c0
      have t1 := (unhide HV0).c1
      have f0 := (unhide HV0).f 0
      have f1 := (unhide HV0).f 1
      have k4 := (unhide HV0).s0 (.int .i64 x)
      have k5 := (unhide HV0).s1 (.int .i64 x) (.int .i64 y)
      go_wp2
      refine bodyPost_ret (v := .tuple #[rv x y, .bool true]) (by simp [results, Tryz.results83, go_sem, k4, k5]) rfl ⟨rfl, ?_⟩
      repeat (first | exact unhide HB | refine below_sc ?_ _ _ _ (by omega))
end Go.Proofs.YtgallgdmedfgmaaGreat

/-
  What all machines can together, by the program: Total; walks over the dump.
-/
namespace Go.Proofs.YtgallgdmedfgmaaGreat
open Go.RowKit
set_option linter.unusedVariables false

set_option maxRecDepth 100000 in
set_option maxHeartbeats 2000000 in
theorem caps_any (x : Sls) (s : St) (w : World) (h : MacRow w x.ma x.ml s.ms) (hl : x.ml ≤ 1048576) :
    Calls Tryz.prog 66 #[sv x s] w fun e w' => e = .returned (.tuple #[rv (sumR (capsOf s.ms)).1 (sumR (capsOf s.ms)).2.1, .bool (sumR (capsOf s.ms)).2.2]) ∧ Below w.heap.size w w' := by
  obtain ⟨i0, hi, hz0, hz1, hz2⟩ := info_parts Tryz.infoR
  obtain ⟨qa, ql, qc, aa, al, ac, ma, ml, mc, ca, cl, cc⟩ := x
  obtain ⟨qs, clock, epoch, next, serial, apps, ms, cs⟩ := s
  simp only at h hl ⊢
  have HR := hide h
  have HL := hide h.1
  obtain ⟨c, hc⟩ : ∃ c : Array Value, #[.slice qa ql qc, .int .i64 clock, .int .i64 epoch, .int .i64 next, .int .i64 serial, .slice aa al ac, .slice ma ml mc, .slice ca cl cc] = c := ⟨_, rfl⟩
  have HC := hide hc
  have HB0 := hide (capW_below w c)
  have V0 := hide (capW_var w c)
  have hW := capW_size w c
  have HW := hide hW
  clear h hc hW
  obtain ⟨⟨sx, sy, so⟩, hs⟩ : ∃ s, sumR (capsOf ms) = s := ⟨_, rfl⟩
  have HS := hide hs
  rw [hs]
  clear hs
  go_enter Tryz.func66, Tryz.ntmps66
  go_wp2
  go_loopw [4, 10] (fun v i wr => ∃ (k : Nat), k ≤ ml ∧ i = .int .i64 k ∧ Hid (ROwn (capW w c).heap.size wr v (capsOf (ms.take k))) ∧ Hid (Below (capW w c).heap.size (capW w c) wr)) (fun _ i _ => ml - (intOf i).toNat)
  case atStart =>
    obtain rfl := unhide HC
    exact ⟨0, Nat.zero_le _, rfl, hide (by simpa [capsOf] using rown_nil _ _), hide (Below.refl _ _)⟩
  case round =>
    obtain ⟨k, hk, rfl, HO, HB⟩ := hrel
    by_cases hlt : k < ml
    · obtain ⟨b, off, rfl, hq⟩ := (((unhide HR).below (unhide HB0)).below (unhide HB)).at hlt
      have hkl : k < ms.length := by have := unhide HL; omega
      have hst := hide (capsOf_step hkl)
      obtain ⟨c0, c1, c2, c3⟩ := hq hkl
      obtain ⟨m, hs⟩ : ∃ q, ms[k] = q := ⟨_, rfl⟩
      rw [hs] at c0 c1 c2 c3 hst
      have hal : (capsOf (ms.take k)).length ≤ 1048576 := by simp [capsOf]; omega
      obtain ⟨acc, hacc⟩ : ∃ a, capsOf (ms.take k) = a := ⟨_, rfl⟩
      rw [hacc] at hst hal HO
      obtain ⟨nm, me, cp, se⟩ := m
      simp only at c0 c1 c2 c3 hst
      have HB2 := hide (below_al (unhide HB) (macobj ⟨nm, me, cp, se⟩))
      have HO2 := hide ((unhide HO).below (below_al (Below.refl _ wr) (macobj ⟨nm, me, cp, se⟩)))
      have hs2 : (capW w c).heap.size ≤ (wr.alloc (macobj ⟨nm, me, cp, se⟩)).heap.size := (unhide HB2).size
      have hown : (wr.alloc (macobj ⟨nm, me, cp, se⟩)).ownsRow (capW w c).heap.size 39 2 _ acc.length (rcells acc) := unhide HO2
      clear hq hs hkl hacc HO HB
      go_wp2_with (at_builtin; refine wpList_append_own _ rfl _ _ 81 rfl (capW w c).heap.size 39 i0 (.agg #[.int .i64 0, .int .i64 0]) 2 16 Tryz.underlying81 hi hz0 hz1 hz2 rfl (by decide) _ _ _ rfl (hown.alloc _) ⟨wr.heap.size + 1, 0, none⟩ 1 1 (rcell (me, cp)) rfl rfl ?c1 ?c2 ?c3 ?c4 ?c5 ?_)
      case c1 =>
        intro j x hj
        match j, hj with
        | 0, hj => simp at hj; subst hj; simp [Addr.add]
        | 1, hj => simp at hj; subst hj; simp [Addr.add]
        | _ + 2, hj => simp at hj
      case c2 => intro x hx; simp at hx; rcases hx with rfl | rfl <;> rfl
      case c3 => unfold maxLen; omega
      case c4 => omega
      case c5 => simp at hs2 ⊢; omega
      intro v' w3 hown' hgrow _
      have R := rown_step (q := (me, cp)) (unhide HB2) (unhide HO2) hown' hgrow hs2
      have HR3 := hide R
      clear hown' hgrow hown c0 c1 c2 c3 R
      go_wp2
      go_roundw
      case rel => exact ⟨k + 1, by omega, by go_num, hide (by rw [unhide hst]; exact (unhide HR3).1), hide (unhide HR3).2⟩
      case measure => simp [intOf]; omega
    · have htk : ms.take k = ms := List.take_of_length_le (by have := unhide HL; omega)
      rw [htk] at HO
      obtain ⟨ao, cp, rfl, hrow, hcp⟩ := (unhide HO).row
      have hlc : (capsOf ms).length ≤ 1048576 := by have := unhide HL; simp [capsOf]; omega
      have CT := hide (together_any ao _ cp (capsOf ms) wr hrow hlc)
      rw [unhide HS] at CT
      obtain ⟨n, hn⟩ : ∃ n, (capsOf ms).length = n := ⟨_, rfl⟩
      rw [hn] at CT ⊢
      clear hrow hn htk hcp hlc HO
      go_wp2_with fail
      refine (unhide CT).mono ?_
      rintro e w1 ⟨rfl, hb⟩
      have hsz : w.heap.size + 1 < (capW w c).heap.size := by have := unhide HW; omega
      have V1 : Var w1 39 (w.heap.size + 1) 0 0 := Var.below ((unhide HB).block _ hsz |>.trans (unhide V0)) hb
      have HB1 := hide (below_on (below_on (unhide HB0) (unhide HB)) hb)
      have t0 := V1.c0
      have t1 := V1.c1
      have f0 := V1.f 0
      have f1 := V1.f 1
      have k4 := V1.s0 (.int .i64 sx)
      have k5 := V1.s1 (.int .i64 sx) (.int .i64 sy)
      clear hb V1 CT HB HB0
      go_wp2
      refine bodyPost_ret (v := .tuple #[rv sx sy, .bool so]) (by simp [results, Tryz.results66, go_sem, k4, k5]) rfl ⟨rfl, ?_⟩
      repeat (first | exact unhide HB1 | refine below_sc ?_ _ _ _ (by omega))
end Go.Proofs.YtgallgdmedfgmaaGreat

/-
  What all machines can together, by the program: Total; a walk over the dump.
-/
namespace Go.Proofs.YtgallgdmedfgmaaGreat
open Go.RowKit
set_option linter.unusedVariables false

set_option maxRecDepth 100000 in
set_option maxHeartbeats 2000000 in
theorem implTotal_any (x : Sls) (s : St) (w : World) (h : MacRow w x.ma x.ml s.ms) (hl : x.ml ≤ 1048576) :
    Calls Tryz.prog 48 #[sv x s] w fun e w' => e = .returned (rv (sumR (capsOf s.ms)).1 (sumR (capsOf s.ms)).2.1) ∧ Below w.heap.size w w' := by
  have HR := hide h
  clear h
  obtain ⟨⟨sx, sy, so⟩, hs⟩ : ∃ y, sumR (capsOf s.ms) = y := ⟨_, rfl⟩
  have CC := hide (fun wx (hb : Below w.heap.size w wx) => by have := caps_any x s wx ((unhide HR).below hb) hl; rw [hs] at this; exact this)
  rw [hs]
  clear hs
  obtain ⟨qa, ql, qc, aa, al, ac, ma, ml, mc, ca, cl, cc⟩ := x
  obtain ⟨qs, clock, epoch, next, serial, apps, ms, cs⟩ := s
  go_enter Tryz.func48, Tryz.ntmps48
  go_wp2_with fail
  refine (unhide CC _ (capW_below w _)).mono ?_
  rintro e w1 ⟨rfl, hb⟩
  have V1 := (capW_var w _).below hb
  have HB1 := hide (below_on (capW_below w _) hb)
  have V2 := V1.al (.cells #[.int .i64 sx, .int .i64 sy] 39)
  have t0 := V2.c0
  have t1 := V2.c1
  have f0 := V2.f 0
  have f1 := V2.f 1
  have u0 := V1.c0
  have u1 := V1.c1
  have e0 := V1.f 0
  have e1 := V1.f 1
  have VG := V2.set sx sy
  have k6 := VG.c0
  have k7 := VG.c1
  clear hb V1 V2 VG CC
  go_wp2
  refine bodyPost_ret (v := rv sx sy) (by simp [results, Tryz.results48, go_sem, k6, k7]) rfl ⟨rfl, ?_⟩
  repeat (first | exact unhide HB1 | refine below_al ?_ _ | refine below_sc ?_ _ _ _ (by omega))
end Go.Proofs.YtgallgdmedfgmaaGreat

/-
  What the model's Add answers; a walk over the dump.
-/
namespace Go.Proofs.YtgallgdmedfgmaaGreat
open Go.RowKit
set_option linter.unusedVariables false

set_option maxRecDepth 100000 in
set_option maxHeartbeats 1000000 in
theorem specAdd_any (a b c d : Int) (w : World) :
    Calls Tryz.prog 16 #[rv a b, rv c d] w fun e w' => e = .returned (.tuple #[bothV 1 a b c d, .bool (bothOk 1 a b c d)]) ∧ Below w.heap.size w w' := by
  have hv : ∃ x y, bothV 1 a b c d = rv x y := by unfold bothV; split <;> exact ⟨_, _, rfl⟩
  obtain ⟨x, y, hv⟩ := hv
  have hc := l02Both_any a b c d 1 ((w.alloc (.cells #[.int .i64 a, .int .i64 b] 39)).alloc (.cells #[.int .i64 c, .int .i64 d] 39) |>.alloc (.cells #[.int .i64 0, .int .i64 0] 39)) (by decide)
  rw [hv] at hc ⊢
  go_enter Tryz.func16, Tryz.ntmps16
  go_wp2_with fail
  refine hc.mono ?_
  rintro e w1 ⟨rfl, hb⟩
  have hk : Var w1 39 (w.heap.size + 1 + 1) 0 0 := Var.below (by simpa using var_new ((w.alloc (.cells #[.int .i64 a, .int .i64 b] 39)).alloc (.cells #[.int .i64 c, .int .i64 d] 39)) 39 0 0) hb
  have k0 := hk.c0
  have k1 := hk.c1
  have k2 := hk.f 0
  have k3 := hk.f 1
  have k4 := hk.s0 (.int .i64 x)
  have k5 := hk.s1 (.int .i64 x) (.int .i64 y)
  have HB := hide (below_on (below_al (below_al (below_al (Below.refl _ _) _) _) _) hb)
  clear hb hc hk
  go_wp2
  refine bodyPost_ret (v := .tuple #[rv x y, .bool (bothOk 1 a b c d)]) (by simp [results, Tryz.results16, go_sem, k4, k5]) rfl ⟨rfl, ?_⟩
  repeat (first | exact unhide HB | refine below_al ?_ _ | refine below_sc ?_ _ _ _ (by omega))
end Go.Proofs.YtgallgdmedfgmaaGreat

/-
  What amounts are together, by the model; a walk over the dump.
-/
namespace Go.Proofs.YtgallgdmedfgmaaGreat
open Go.RowKit
set_option linter.unusedVariables false

/-- the sum so far and the next amount stand; so does the result -/
def SumHeld (w0 : World) (b p : Nat) (r : Int × Int) (x y : Int) (w : World) : Prop := RAt w b p r ∧ Var w 39 (w0.heap.size + 1) x y ∧ Var w 39 w0.heap.size 0 0 ∧ Below w0.heap.size w0 w
theorem SumHeld.call {w0 w w' : World} {b p : Nat} {r : Int × Int} {x y : Int} (h : SumHeld w0 b p r x y w) (hb : Below w.heap.size w w') : SumHeld w0 b p r x y w' := ⟨h.1.below hb, h.2.1.below hb, h.2.2.1.below hb, below_on h.2.2.2 hb⟩
theorem SumHeld.drew {w0 w : World} {b p : Nat} {r : Int × Int} {x y : Int} (h : SumHeld w0 b p r x y w) : SumHeld w0 b p r x y w.drew := h.call (Below.refl _ _).drew
theorem SumHeld.al {w0 w : World} {b p : Nat} {r : Int × Int} {x y : Int} (h : SumHeld w0 b p r x y w) (o : Obj) : SumHeld w0 b p r x y (w.alloc o) := h.call (below_al (Below.refl _ _) o)
theorem SumHeld.set {w0 w : World} {b p : Nat} {r : Int × Int} {x y : Int} (h : SumHeld w0 b p r x y w) (k j : Nat) (v : Value) (h1 : w0.heap.size + 1 < k) (h2 : b ≠ k) : SumHeld w0 b p r x y (w.setCell ⟨k, j, none⟩ v) := by
  have hc : ∀ q, (w.setCell ⟨k, j, none⟩ v).cell? ⟨b, q, none⟩ = w.cell? ⟨b, q, none⟩ := fun q => by unfold World.cell?; rw [heap_setCell_other w ⟨k, j, none⟩ b v h2]
  exact ⟨⟨(hc _).trans h.1.1, (hc _).trans h.1.2⟩, h.2.1.other _ _ _ (by omega), h.2.2.1.other _ _ _ (by omega), below_sc h.2.2.2 _ _ _ (by omega)⟩
theorem SumHeld.read (w0 : World) (b p : Nat) (r : Int × Int) (x y : Int) : ∀ wx, SumHeld w0 b p r x y wx → wx.cell? ⟨b, p, none⟩ = some (.int .i64 r.1) ∧ wx.cell? ⟨b, p + 1, none⟩ = some (.int .i64 r.2) ∧ wx.cell? ⟨w0.heap.size + 1, 0, none⟩ = some (.int .i64 x) ∧ wx.cell? ⟨w0.heap.size + 1, 1, none⟩ = some (.int .i64 y) :=
  fun wx h => ⟨h.1.1, h.1.2, h.2.1.c0, h.2.1.c1⟩

set_option maxRecDepth 100000 in
set_option maxHeartbeats 4000000 in
theorem l04Sum_any (ao : Option Addr) (len cap : Nat) (l : List (Int × Int)) (w : World) (h : RRow w ao len l) (hl : len ≤ 1048576) :
    Calls Tryz.prog 36 #[.slice ao len cap] w fun e w' => e = .returned (.tuple #[rv (sumR l).1 (sumR l).2.1, .bool (sumR l).2.2]) ∧ Below w.heap.size w w' := by
  have HR := hide h
  have HL := hide h.1
  obtain ⟨⟨sx, sy, so⟩, hs⟩ : ∃ s, sumR l = s := ⟨_, rfl⟩
  have HS := hide (show sumFrom l 0 0 = (sx, sy, so) from hs)
  rw [hs]
  clear h hs
  go_enter Tryz.func36, Tryz.ntmps36
  go_wp2
  go_loopw [5] (fun i wr => ∃ (k : Nat) (x y : Int), k ≤ len ∧ i = .int .i64 k ∧ Hid (sumFrom (l.drop k) x y = (sx, sy, so)) ∧ Hid (Var wr 39 w.heap.size 0 0) ∧ Hid (Var wr 39 (w.heap.size + 1) x y) ∧ Hid (Below w.heap.size w wr)) (fun i _ => len - (intOf i).toNat)
  case atStart => exact ⟨0, 0, 0, Nat.zero_le _, rfl, hide (by simpa using unhide HS), hide ((var_new w _ _ _).al _), hide (var_new2 w _ _ 0 0 0 0), hide (below_al (below_al (Below.refl _ _) _) _)⟩
  case round =>
    obtain ⟨k, x, y, hk, rfl, HQ, HV0, HV1, HB⟩ := hrel
    by_cases hlt : k < len
    · obtain ⟨b, off, rfl, hq⟩ := ((unhide HR).below (unhide HB)).at hlt
      have hkl : k < l.length := by have := unhide HL; omega
      have hst := sumFrom_step hkl x y
      have A0 := hide (show SumHeld w b (off + k * 2) l[k] x y wr from ⟨hq hkl, unhide HV1, unhide HV0, unhide HB⟩)
      obtain ⟨⟨a, d⟩, hs⟩ : ∃ q, l[k] = q := ⟨_, rfl⟩
      rw [hs] at A0 hst
      simp only at hst
      have HST := hide hst
      have R := SumHeld.read w b (off + k * 2) (a, d) x y
      simp only at R
      have k0 : (0 : Int) ≤ k := by omega
      have k1 : (k : Int) < len := by omega
      clear hq hs hkl hst HV0 HV1 HB
      have CA := hide (fun wx => specAdd_any x y a d wx)
      obtain ⟨x', y', ok, hv⟩ : ∃ x' y' ok, bothV 1 x y a d = rv x' y' ∧ bothOk 1 x y a d = ok := by
        cases ho : bothOk 1 x y a d
        · exact ⟨0, 0, _, both_no ho, rfl⟩
        · exact ⟨_, _, _, both_yes ho, rfl⟩
      have HVV := hide hv
      rw [hv.1, hv.2] at CA
      clear hv
      have sz1 := (unhide A0).2.1.lt
      have sb1 := (unhide A0).1.lt
      go_wp2_with fail
      go_cut [6, 7] from 15 to 24 (fun v6 v7 wx => ∃ g, v6 = .pointer (some ⟨g, 0, none⟩) ∧ v7 = .bool ok ∧ SumHeld w b (off + k * 2) (a, d) x y wx ∧ Var wx 39 g x' y' ∧ w.heap.size + 1 < g)
      case first =>
        go_region_held3 (fun wx => SumHeld w b (off + k * 2) (a, d) x y wx)
          (first | (with_reducible assumption) | exact unhide SA | exact (unhide A0).drew | exact SumHeld.al (unhide SA) _ | exact SumHeld.al (by assumption) _ | exact SumHeld.al (unhide A0).drew _ | exact SumHeld.call (by assumption) (by assumption) | exact SumHeld.set (SumHeld.set (unhide SA) _ _ _ (by first | omega | (simp <;> omega)) (by first | omega | (simp <;> omega))) _ _ _ (by first | omega | (simp <;> omega)) (by first | omega | (simp <;> omega)) | exact SumHeld.set (SumHeld.set (by assumption) _ _ _ (by first | omega | (simp <;> omega)) (by first | omega | (simp <;> omega))) _ _ _ (by first | omega | (simp <;> omega)) (by first | omega | (simp <;> omega)))
          (first
          | (go_at_call 16; refine (unhide CA _).mono ?_; rintro e wt ⟨rfl, hb⟩; have SA := hide (SumHeld.call (w0 := w) (b := b) (p := off + k * 2) (r := (a, d)) (x := x) (y := y) (by assumption) hb); have sz := (unhide SA).2.1.lt; have sb := (unhide SA).1.lt
             first
               | (have V5 := (var_new _ 39 0 0).below hb; (try simp at V5); have c50 := V5.c0; have c51 := V5.c1; have f50 := V5.f 0; have f51 := V5.f 1; have V5 := hide V5)
               | (have V5 := (var_new _ 39 0 0).drew.below hb; (try simp at V5); have c50 := V5.c0; have c51 := V5.c1; have f50 := V5.f 0; have f51 := V5.f 1; have V5 := hide V5)
               | skip))
        all_goals
          go_wp2_with fail
          go_meet
          exact ⟨_, rfl, rfl, by first | assumption | exact unhide SA | exact SumHeld.al (unhide SA) _, by first | exact var_new _ _ _ _ | exact (unhide V5).set _ _, by first | omega | (simp <;> omega)⟩
      case rest =>
        obtain ⟨g, rfl, rfl, hA, hV, hg⟩ := hcut
        have A1 := hide hA
        have W1 := hide hV
        clear hA hV A0 CA R
        have v0 := (unhide W1).c0
        have v1 := (unhide W1).c1
        have s0 := (unhide A1).2.1.c0
        have s1 := (unhide A1).2.1.c1
        have sf0 := (unhide A1).2.1.f 0
        have sf1 := (unhide A1).2.1.f 1
        have t0 := (unhide A1).2.2.1.c0
        have t1 := (unhide A1).2.2.1.c1
        have tf0 := (unhide A1).2.2.1.f 0
        have tf1 := (unhide A1).2.2.1.f 1
        cases ok with
        | true =>
          have hxy := both_yes (unhide HVV).2
          rw [(unhide HVV).1] at hxy
          simp only [rv, Value.agg.injEq, Array.mk.injEq, List.cons.injEq, Value.int.injEq, and_true, true_and] at hxy
          rw [if_pos (unhide HVV).2, ← hxy.1, ← hxy.2] at HST
          clear hxy HVV
          go_wp2
          go_roundw
          case rel => exact ⟨k + 1, x', y', by omega, by go_num, hide (by rw [← unhide HST]; exact unhide HQ), hide (((unhide A1).2.2.1.other _ _ _ (show w.heap.size ≠ w.heap.size + 1 by omega)).other _ _ _ (show w.heap.size ≠ w.heap.size + 1 by omega)), hide ((unhide A1).2.1.set _ _), hide (below_sc (below_sc (unhide A1).2.2.2 _ _ _ (show w.heap.size ≤ w.heap.size + 1 by omega)) _ _ _ (show w.heap.size ≤ w.heap.size + 1 by omega))⟩
          case measure => simp [intOf]; omega
        | false =>
          rw [if_neg (by rw [(unhide HVV).2]; simp)] at HST
          have hres := (unhide HST).symm.trans (unhide HQ)
          simp only [Prod.mk.injEq] at hres
          obtain ⟨rfl, rfl, rfl⟩ := hres
          have k4 := (unhide A1).2.2.1.s0 (.int .i64 0)
          have k5 := (unhide A1).2.2.1.s1 (.int .i64 0) (.int .i64 0)
          have HB1 := hide (unhide A1).2.2.2
          clear HST HS HVV
          go_wp2
          refine bodyPost_ret (v := .tuple #[rv 0 0, .bool false]) (by simp [results, Tryz.results36, go_sem, k4, k5]) rfl ⟨rfl, ?_⟩
          repeat (first | exact unhide HB1 | refine below_sc ?_ _ _ _ (by omega))
    · have hres : (x, y, true) = (sx, sy, so) := by rw [← unhide HQ, sumFrom_end (by have := unhide HL; omega)]
      simp only [Prod.mk.injEq] at hres
      obtain ⟨rfl, rfl, rfl⟩ := hres
      have s0 := (unhide HV1).c0
      have s1 := (unhide HV1).c1
      have t0 := (unhide HV0).c0
      have t1 := (unhide HV0).c1
      have f0 := (unhide HV0).f 0
      have f1 := (unhide HV0).f 1
      have k4 := (unhide HV0).s0 (.int .i64 x)
      have k5 := (unhide HV0).s1 (.int .i64 x) (.int .i64 y)
      go_wp2
      refine bodyPost_ret (v := .tuple #[rv x y, .bool true]) (by simp [results, Tryz.results36, go_sem, k4, k5]) rfl ⟨rfl, ?_⟩
      repeat (first | exact unhide HB | refine below_sc ?_ _ _ _ (by omega))
end Go.Proofs.YtgallgdmedfgmaaGreat

/-
  What the machines can, by the model: l04Caps; a walk over the dump.
-/
namespace Go.Proofs.YtgallgdmedfgmaaGreat
open Go.RowKit
set_option linter.unusedVariables false

set_option maxRecDepth 100000 in
set_option maxHeartbeats 2000000 in
theorem l04Caps_any (x : Sls) (s : St) (w : World) (h : MacRow w x.ma x.ml s.ms) (hl : x.ml ≤ 1048576) :
    Calls Tryz.prog 37 #[sv x s] w fun e w' => ∃ v, e = .returned v ∧ ROwn w.heap.size w' v (capsOf s.ms) ∧ Below w.heap.size w w' := by
  obtain ⟨i0, hi, hz0, hz1, hz2⟩ := info_parts Tryz.infoR
  obtain ⟨qa, ql, qc, aa, al, ac, ma, ml, mc, ca, cl, cc⟩ := x
  obtain ⟨qs, clock, epoch, next, serial, apps, ms, cs⟩ := s
  simp only at h hl ⊢
  have HR := hide h
  have HL := hide h.1
  have HB0 := hide (boxW_below w #[.slice qa ql qc, .int .i64 clock, .int .i64 epoch, .int .i64 next, .int .i64 serial, .slice aa al ac, .slice ma ml mc, .slice ca cl cc])
  have P0 := hide (boxW_blk w #[.slice qa ql qc, .int .i64 clock, .int .i64 epoch, .int .i64 next, .int .i64 serial, .slice aa al ac, .slice ma ml mc, .slice ca cl cc])
  have HW := hide (boxW_size w #[.slice qa ql qc, .int .i64 clock, .int .i64 epoch, .int .i64 next, .int .i64 serial, .slice aa al ac, .slice ma ml mc, .slice ca cl cc])
  have HO0 := hide (rown_empty (boxW w #[.slice qa ql qc, .int .i64 clock, .int .i64 epoch, .int .i64 next, .int .i64 serial, .slice aa al ac, .slice ma ml mc, .slice ca cl cc]))
  obtain ⟨c, hc⟩ : ∃ c : Array Value, #[.slice qa ql qc, .int .i64 clock, .int .i64 epoch, .int .i64 next, .int .i64 serial, .slice aa al ac, .slice ma ml mc, .slice ca cl cc] = c := ⟨_, rfl⟩
  rw [hc] at HB0 HW HO0
  have P0 := hide (show Blk (boxW w c) w.heap.size #[.slice qa ql qc, .int .i64 clock, .int .i64 epoch, .int .i64 next, .int .i64 serial, .slice aa al ac, .slice ma ml mc, .slice ca cl cc] 37 by rw [hc]; exact boxW_blk w c)
  have HC := hide hc
  clear h hc
  go_enter Tryz.func37, Tryz.ntmps37
  go_wp2
  go_loopw [3, 4] (fun v i wr => ∃ (k : Nat), k ≤ ml ∧ i = .int .i64 k ∧ Hid (ROwn (boxW w c).heap.size wr v (capsOf (ms.take k))) ∧ Hid (Below (boxW w c).heap.size (boxW w c) wr)) (fun _ i _ => ml - (intOf i).toNat)
  case atStart =>
    obtain rfl := unhide HC
    have h1 := unhide HW
    refine ⟨0, Nat.zero_le _, rfl, hide ?_, hide (below_al (Below.refl _ _) _)⟩
    have := unhide HO0
    rw [h1] at this
    rw [h1]
    exact this
  case round =>
    obtain ⟨k, hk, rfl, HO, HB⟩ := hrel
    have hn1 : w.heap.size < (boxW w c).heap.size := by have := unhide HW; omega
    have p6 := Blk.at (show Blk wr w.heap.size _ 37 from ((unhide HB).block _ hn1).trans (unhide P0)) 6
    simp at p6
    by_cases hlt : k < ml
    · obtain ⟨b, off, rfl, hq⟩ := (((unhide HR).below (unhide HB0)).below (unhide HB)).at hlt
      have hkl : k < ms.length := by have := unhide HL; omega
      have hst := hide (capsOf_step hkl)
      obtain ⟨c0, c1, c2, c3⟩ := hq hkl
      obtain ⟨m, hs⟩ : ∃ q, ms[k] = q := ⟨_, rfl⟩
      rw [hs] at c0 c1 c2 c3 hst
      have hal : (capsOf (ms.take k)).length ≤ 1048576 := by simp [capsOf]; omega
      obtain ⟨acc, hacc⟩ : ∃ a, capsOf (ms.take k) = a := ⟨_, rfl⟩
      rw [hacc] at hst hal HO
      obtain ⟨nm, me, cp, se⟩ := m
      simp only at c0 c1 c2 c3 hst
      have hs2 : (boxW w c).heap.size ≤ wr.heap.size := (unhide HB).size
      have hown : wr.ownsRow (boxW w c).heap.size 39 2 _ acc.length (rcells acc) := unhide HO
      clear hq hs hkl hacc
      go_wp2_with (at_builtin; refine wpList_append_own _ rfl _ _ 81 rfl (boxW w c).heap.size 39 i0 (.agg #[.int .i64 0, .int .i64 0]) 2 16 Tryz.underlying81 hi hz0 hz1 hz2 rfl (by decide) _ _ _ rfl (hown.alloc _) ⟨wr.heap.size, 0, none⟩ 1 1 (rcell (me, cp)) rfl rfl ?c1 ?c2 ?c3 ?c4 ?c5 ?_)
      case c1 =>
        intro j x hj
        match j, hj with
        | 0, hj => simp at hj; subst hj; simp [Addr.add]
        | 1, hj => simp at hj; subst hj; simp [Addr.add]
        | _ + 2, hj => simp at hj
      case c2 => intro x hx; simp at hx; rcases hx with rfl | rfl <;> rfl
      case c3 => unfold maxLen; omega
      case c4 => omega
      case c5 => simp at hs2 ⊢; omega
      intro v' w3 hown' hgrow _
      have R := rown_step (q := (me, cp)) (unhide HB) (unhide HO) hown' hgrow hs2
      have HR3 := hide R
      clear hown' hgrow hown c0 c1 c2 c3 R p6
      go_wp2
      go_roundw
      case rel => exact ⟨k + 1, by omega, by go_num, hide (by rw [unhide hst]; exact (unhide HR3).1), hide (unhide HR3).2⟩
      case measure => simp [intOf]; omega
    · have htk : ms.take k = ms := List.take_of_length_le (by have := unhide HL; omega)
      rw [htk] at HO
      go_wp2
      go_ret
      exact ⟨_, rfl, (unhide HO).base (by omega), below_on (unhide HB0) (unhide HB)⟩

end Go.Proofs.YtgallgdmedfgmaaGreat

/-
  What all machines can together, and what is on one of them, by the model: Total, UsedOn; walks over the dump.
-/
namespace Go.Proofs.YtgallgdmedfgmaaGreat
open Go.RowKit
set_option linter.unusedVariables false

set_option maxRecDepth 100000 in
set_option maxHeartbeats 2000000 in
theorem specTotal_any (x : Sls) (s : St) (w : World) (h : MacRow w x.ma x.ml s.ms) (hl : x.ml ≤ 1048576) :
    Calls Tryz.prog 15 #[sv x s] w fun e w' => e = .returned (rv (sumR (capsOf s.ms)).1 (sumR (capsOf s.ms)).2.1) ∧ Below w.heap.size w w' := by
  have hlc : (capsOf s.ms).length ≤ 1048576 := by have := h.1; simp [capsOf]; omega
  have HR := hide h
  clear h
  obtain ⟨⟨sx, sy, so⟩, hs⟩ : ∃ y, sumR (capsOf s.ms) = y := ⟨_, rfl⟩
  have CC := hide (fun wx (hb : Below w.heap.size w wx) => l04Caps_any x s wx ((unhide HR).below hb) hl)
  have CS := hide (fun ao cap wx (h : RRow wx ao (capsOf s.ms).length (capsOf s.ms)) => by have := l04Sum_any ao _ cap (capsOf s.ms) wx h hlc; rw [hs] at this; exact this)
  rw [hs]
  clear hs
  obtain ⟨qa, ql, qc, aa, al, ac, ma, ml, mc, ca, cl, cc⟩ := x
  obtain ⟨qs, clock, epoch, next, serial, apps, ms, cs⟩ := s
  simp only at CC CS hlc
  go_enter Tryz.func15, Tryz.ntmps15
  go_wp2_with fail
  refine (unhide CC _ (capW_below w _)).mono ?_
  rintro e w1 ⟨v, rfl, ho, hb⟩
  obtain ⟨ao, cp, rfl, hrow, _⟩ := ho.row
  have V1 := (capW_var w _).below hb
  have HV1 := hide V1
  have HB1 := hide (below_on (capW_below w _) hb)
  have HROW := hide hrow
  obtain ⟨n, hn⟩ : ∃ n, (capsOf ms).length = n := ⟨_, rfl⟩
  rw [hn] at CS HROW ⊢
  clear hb V1 CC ho hrow hn hlc
  go_wp2_with fail
  refine (unhide CS _ _ _ (unhide HROW)).mono ?_
  rintro e w2 ⟨rfl, hb⟩
  have V1 := (unhide HV1).below hb
  have HB2 := hide (below_on (unhide HB1) hb)
  have V2 := V1.al (.cells #[.int .i64 sx, .int .i64 sy] 39)
  have t0 := V2.c0
  have t1 := V2.c1
  have f0 := V2.f 0
  have f1 := V2.f 1
  have VG := V2.set sx sy
  have k6 := VG.c0
  have k7 := VG.c1
  clear hb V1 V2 VG CS HV1 HB1 HROW
  go_wp2
  refine bodyPost_ret (v := rv sx sy) (by simp [results, Tryz.results15, go_sem, k6, k7]) rfl ⟨rfl, ?_⟩
  repeat (first | exact unhide HB2 | refine below_al ?_ _ | refine below_sc ?_ _ _ _ (by omega))
end Go.Proofs.YtgallgdmedfgmaaGreat

/-
  What all machines can together: the two sides in one form.
-/
namespace Go.Proofs.YtgallgdmedfgmaaGreat
open Go.RowKit
def totalV (s : St) : Int × Int := ((sumR (capsOf s.ms)).1, (sumR (capsOf s.ms)).2.1)
theorem SRow.ml {w : World} {x : Sls} {s : St} (h : SRow w x s) (hf : FitSt s) : x.ml ≤ 1048576 := by have := h.len.2.2.1; have := hf.2.2.1.1; omega
theorem SRow.al {w : World} {x : Sls} {s : St} (h : SRow w x s) (hf : FitSt s) : x.al ≤ 1048576 := by have := h.len.2.1; have := hf.2.1.1; omega
theorem SRow.ql {w : World} {x : Sls} {s : St} (h : SRow w x s) (hf : FitSt s) : x.ql ≤ 1048576 := by have := h.len.1; have := hf.1.1; omega
end Go.Proofs.YtgallgdmedfgmaaGreat

/-
  A share of an amount: what the model's Share answers; a walk over the dump.
-/
namespace Go.Proofs.YtgallgdmedfgmaaGreat
open Go.RowKit
set_option linter.unusedVariables false

def shareOk (a b n : Int) : Bool := resOk a b && inB n 0 10000
def shareM (a b n : Int) : Int := if shareOk a b n then a * n / 10000 else 0
def shareC (a b n : Int) : Int := if shareOk a b n then b * n / 10000 else 0
theorem mul_bd {a n A N : Int} (h0 : 0 ≤ a) (h1 : a ≤ A) (h2 : 0 ≤ n) (h3 : n ≤ N) : 0 ≤ a * n ∧ a * n ≤ A * N :=
  ⟨Int.mul_nonneg h0 h2, Int.mul_le_mul h1 h3 h2 (Int.le_trans h0 h1)⟩
set_option maxRecDepth 100000 in
set_option maxHeartbeats 1000000 in
theorem specShare_any (a b n : Int) (w : World) :
    Calls Tryz.prog 61 #[rv a b, .int .i64 n] w fun e w' => e = .returned (rv (shareM a b n) (shareC a b n)) ∧ Below w.heap.size w w' := by
  cases h1 : resOk a b
  · rw [show shareM a b n = 0 by simp [shareM, shareOk, h1], show shareC a b n = 0 by simp [shareC, shareOk, h1]]
    go_enter Tryz.func61, Tryz.ntmps61
    go_wp2_with (first | (go_at_call 41; refine (specResOk_any _ _ _).mono ?_; rintro e w' ⟨rfl, rfl⟩) | (go_at_call 59; refine (l01In_any _ _ _ _).mono ?_; rintro e w' ⟨rfl, rfl⟩))
    refine bodyPost_ret (v := rv 0 0) (by simp [results, Tryz.results61, go_sem]) rfl ⟨rfl, ?_⟩
    repeat (first | exact Below.refl _ _ | refine below_al ?_ _ | refine Below.drew ?_ | refine below_sc ?_ _ _ _ (by omega))
  · cases h2 : inB n 0 10000
    · rw [show shareM a b n = 0 by simp [shareM, shareOk, h2], show shareC a b n = 0 by simp [shareC, shareOk, h2]]
      go_enter Tryz.func61, Tryz.ntmps61
      go_wp2_with (first | (go_at_call 41; refine (specResOk_any _ _ _).mono ?_; rintro e w' ⟨rfl, rfl⟩) | (go_at_call 59; refine (l01In_any _ _ _ _).mono ?_; rintro e w' ⟨rfl, rfl⟩))
      refine bodyPost_ret (v := rv 0 0) (by simp [results, Tryz.results61, go_sem]) rfl ⟨rfl, ?_⟩
      repeat (first | exact Below.refl _ _ | refine below_al ?_ _ | refine Below.drew ?_ | refine below_sc ?_ _ _ _ (by omega))
    · rw [show shareM a b n = a * n / 10000 by simp [shareM, shareOk, h1, h2], show shareC a b n = b * n / 10000 by simp [shareC, shareOk, h1, h2]]
      obtain ⟨q1, q2, q3, q4⟩ := resOk_bd h1
      have hn : 0 ≤ n ∧ n ≤ 10000 := by simpa [inB] using h2
      obtain ⟨m1, m2⟩ := mul_bd q1 q2 hn.1 hn.2
      obtain ⟨m3, m4⟩ := mul_bd q3 q4 hn.1 hn.2
      go_enter Tryz.func61, Tryz.ntmps61
      go_wp2_with (first | (go_at_call 41; refine (specResOk_any _ _ _).mono ?_; rintro e w' ⟨rfl, rfl⟩) | (go_at_call 59; refine (l01In_any _ _ _ _).mono ?_; rintro e w' ⟨rfl, rfl⟩))
      refine bodyPost_ret (v := rv (a * n / 10000) (b * n / 10000)) (by simp [results, Tryz.results61, go_sem]) rfl ⟨rfl, ?_⟩
      repeat (first | exact Below.refl _ _ | refine below_al ?_ _ | refine Below.drew ?_ | refine below_sc ?_ _ _ _ (by omega))
end Go.Proofs.YtgallgdmedfgmaaGreat

/-
  What is due to a queue of a total, and the most that it may have: in plain words.
-/
namespace Go.Proofs.YtgallgdmedfgmaaGreat
open Go.RowKit
set_option linter.unusedVariables false

def fieldOf (most : Bool) (q : Q) : Int := if most then q.most else q.due
def byName (l : List Q) (n : List UInt8) : Q := l.getD (place l n).toNat ⟨[], [], 0, 0⟩
def ofP (l : List Q) (most : Bool) (t : Int × Int) : List (List UInt8) → Int × Int
  | [] => t
  | [_] => t
  | n :: m :: r => (shareM (ofP l most t (m :: r)).1 (ofP l most t (m :: r)).2 (fieldOf most (byName l n)), shareC (ofP l most t (m :: r)).1 (ofP l most t (m :: r)).2 (fieldOf most (byName l n)))
def ofR (l : List Q) (nm : List UInt8) (a b : Int) (most : Bool) : Int × Int := if path l nm = [] ∨ resOk a b = false then (0, 0) else ofP l most (a, b) (path l nm)
theorem ofP_last (l : List Q) (most : Bool) (t : Int × Int) {p : List (List UInt8)} (h : p ≠ []) : ofP l most t (p.drop (p.length - 1)) = t := by
  have hl : 0 < p.length := List.length_pos_iff.2 h
  rw [List.drop_eq_getElem_cons (by omega), show p.length - 1 + 1 = p.length by omega, List.drop_length]
  rfl
theorem ofP_step (l : List Q) (most : Bool) (t : Int × Int) {p : List (List UInt8)} {j : Nat} (h : j + 1 < p.length) :
    ofP l most t (p.drop j) = (shareM (ofP l most t (p.drop (j + 1))).1 (ofP l most t (p.drop (j + 1))).2 (fieldOf most (byName l p[j])), shareC (ofP l most t (p.drop (j + 1))).1 (ofP l most t (p.drop (j + 1))).2 (fieldOf most (byName l p[j]))) := by
  rw [List.drop_eq_getElem_cons (show j < p.length by omega), List.drop_eq_getElem_cons h, ofP]
theorem pathAt_names {l : List Q} (h : queuesOk l = true) : ∀ (n : Nat) (p : Int), ∀ x ∈ pathAt l n p, ∃ k : Nat, ∃ hk : k < l.length, place l x = k ∧ l[k].name = x
  | 0, _, x, hx => by simp [pathAt] at hx
  | n + 1, p, x, hx => by
    rw [pathAt] at hx
    split at hx
    · rename_i hp
      rcases List.mem_cons.1 hx with rfl | hx
      · refine ⟨p.toNat, hp.2, ?_, rfl⟩
        have := ok_at h p.toNat hp.2
        simp only [qOk, Bool.and_eq_true, decide_eq_true_eq] at this
        exact this.1.1.1.2
      · exact pathAt_names h n _ x hx
    · simp at hx
theorem path_names {l : List Q} {nm : List UInt8} : ∀ x ∈ path l nm, ∃ k : Nat, ∃ hk : k < l.length, place l x = k ∧ byName l x = l[k] := fun x hx => by
  unfold path at hx
  split at hx
  · rename_i h
    obtain ⟨k, hk, h1, h2⟩ := pathAt_names h _ _ x hx
    exact ⟨k, hk, h1, by rw [byName, h1]; simp [List.getD_eq_getElem?_getD, List.getElem?_eq_getElem hk]⟩
  · simp at hx
theorem pathAt_len {l : List Q} : ∀ (n : Nat) (p : Int), (pathAt l n p).length ≤ n
  | 0, _ => by simp [pathAt]
  | n + 1, p => by
    rw [pathAt]
    split
    · have := pathAt_len (l := l) n (place l l[p.toNat].parent); simp; exact this
    · simp
theorem path_len (l : List Q) (nm : List UInt8) : (path l nm).length ≤ l.length + 1 := by
  unfold path; split
  · exact pathAt_len _ _
  · simp
end Go.Proofs.YtgallgdmedfgmaaGreat

/-
  One amount within another: in plain words.
-/
namespace Go.Proofs.YtgallgdmedfgmaaGreat
def within (a b c d : Int) : Bool := resOk a b && resOk c d && decide (a ≤ c) && decide (b ≤ d)
end Go.Proofs.YtgallgdmedfgmaaGreat

/-
  Whether one amount is within another: what the model's Within answers; a walk over the dump.
-/
namespace Go.Proofs.YtgallgdmedfgmaaGreat
open Go.RowKit
set_option linter.unusedVariables false

set_option maxRecDepth 100000 in
set_option maxHeartbeats 1000000 in
theorem specWithin_any (a b c d : Int) (w : World) :
    Calls Tryz.prog 18 #[rv a b, rv c d] w fun e w' => e = .returned (.bool (within a b c d)) ∧ Below w.heap.size w w' := by
  cases h1 : resOk a b
  · rw [show within a b c d = false by simp [within, h1]]
    go_enter Tryz.func18, Tryz.ntmps18
    go_wp2_with (go_at_call 41; refine (specResOk_any _ _ _).mono ?_; rintro e w' ⟨rfl, rfl⟩)
    go_ret
    refine ⟨rfl, ?_⟩
    repeat (first | exact Below.refl _ _ | refine below_al ?_ _ | refine Below.drew ?_ | refine below_sc ?_ _ _ _ (by omega))
  · cases h2 : resOk c d
    · rw [show within a b c d = false by simp [within, h2]]
      go_enter Tryz.func18, Tryz.ntmps18
      go_wp2_with (go_at_call 41; refine (specResOk_any _ _ _).mono ?_; rintro e w' ⟨rfl, rfl⟩)
      go_ret
      refine ⟨rfl, ?_⟩
      repeat (first | exact Below.refl _ _ | refine below_al ?_ _ | refine Below.drew ?_ | refine below_sc ?_ _ _ _ (by omega))
    · by_cases h3 : a ≤ c
      · by_cases h4 : b ≤ d
        · rw [show within a b c d = true by simp [within, h1, h2, h3, h4]]
          go_enter Tryz.func18, Tryz.ntmps18
          go_wp2_with (go_at_call 41; refine (specResOk_any _ _ _).mono ?_; rintro e w' ⟨rfl, rfl⟩)
          go_ret
          refine ⟨rfl, ?_⟩
          repeat (first | exact Below.refl _ _ | refine below_al ?_ _ | refine Below.drew ?_ | refine below_sc ?_ _ _ _ (by omega))
        · rw [show within a b c d = false by simp [within, h4]]
          go_enter Tryz.func18, Tryz.ntmps18
          go_wp2_with (go_at_call 41; refine (specResOk_any _ _ _).mono ?_; rintro e w' ⟨rfl, rfl⟩)
          go_ret
          refine ⟨ret_bool (decide_eq_false (by omega)), ?_⟩
          repeat (first | exact Below.refl _ _ | refine below_al ?_ _ | refine Below.drew ?_ | refine below_sc ?_ _ _ _ (by omega))
      · rw [show within a b c d = false by simp [within, h3]]
        go_enter Tryz.func18, Tryz.ntmps18
        go_wp2_with (go_at_call 41; refine (specResOk_any _ _ _).mono ?_; rintro e w' ⟨rfl, rfl⟩)
        go_ret
        refine ⟨rfl, ?_⟩
        repeat (first | exact Below.refl _ _ | refine below_al ?_ _ | refine Below.drew ?_ | refine below_sc ?_ _ _ _ (by omega))
end Go.Proofs.YtgallgdmedfgmaaGreat

/-
  Whether a queue has room for an amount: in plain words; the two ways to ask are one.
-/
namespace Go.Proofs.YtgallgdmedfgmaaGreat
open Go.RowKit
set_option linter.unusedVariables false

def mostV (s : St) (x : List UInt8) : Int × Int := ofR s.qs x (totalV s).1 (totalV s).2 true
def roomAt (s : St) (rx ry : Int) (x : List UInt8) : Bool :=
  bothOk 1 (usedByV s x).1 (usedByV s x).2 rx ry && within ((usedByV s x).1 + 1 * rx) ((usedByV s x).2 + 1 * ry) (mostV s x).1 (mostV s x).2
def roomV (s : St) (nm : List UInt8) (rx ry : Int) : Bool := decide (0 < (path s.qs nm).length) && (path s.qs nm).all (roomAt s rx ry)
/-- what is left on a path, and whether there is such -/
def leftFrom (s : St) : List (List UInt8) → Int → Int → Int × Int × Bool
  | [], a, b => (a, b, true)
  | x :: t, a, b => if bothOk (-1) (mostV s x).1 (mostV s x).2 (usedByV s x).1 (usedByV s x).2 = true then leftFrom s t (min a ((mostV s x).1 + -1 * (usedByV s x).1)) (min b ((mostV s x).2 + -1 * (usedByV s x).2)) else (0, 0, false)
theorem leftFrom_step {s : St} {l : List (List UInt8)} {k : Nat} (h : k < l.length) (a b : Int) : leftFrom s (l.drop k) a b = if bothOk (-1) (mostV s l[k]).1 (mostV s l[k]).2 (usedByV s l[k]).1 (usedByV s l[k]).2 = true then leftFrom s (l.drop (k + 1)) (min a ((mostV s l[k]).1 + -1 * (usedByV s l[k]).1)) (min b ((mostV s l[k]).2 + -1 * (usedByV s l[k]).2)) else (0, 0, false) := by
  rw [List.drop_eq_getElem_cons h, leftFrom]
theorem leftFrom_end {s : St} {l : List (List UInt8)} {k : Nat} (h : l.length ≤ k) (a b : Int) : leftFrom s (l.drop k) a b = (a, b, true) := by
  rw [List.drop_of_length_le h]; rfl
theorem room_yes (m1 m2 u1 u2 rx ry : Int) (hr : resOk rx ry = true) (hb : bothOk (-1) m1 m2 u1 u2 = true) : (bothOk 1 u1 u2 rx ry && within (u1 + 1 * rx) (u2 + 1 * ry) m1 m2) = (decide (rx ≤ m1 + -1 * u1) && decide (ry ≤ m2 + -1 * u2)) := by
  rw [Bool.eq_iff_iff]
  simp only [bothOk, within, resOk, inB, Bool.and_eq_true, decide_eq_true_eq] at hr hb ⊢
  omega
theorem room_no (m1 m2 u1 u2 rx ry : Int) (hr : resOk rx ry = true) (hb : bothOk (-1) m1 m2 u1 u2 = false) : (bothOk 1 u1 u2 rx ry && within (u1 + 1 * rx) (u2 + 1 * ry) m1 m2) = false := by
  rw [Bool.eq_false_iff] at hb ⊢
  intro h
  apply hb
  simp only [bothOk, within, resOk, inB, Bool.and_eq_true, decide_eq_true_eq] at hr h ⊢
  omega
theorem roomAt_yes {s : St} {rx ry : Int} {x : List UInt8} (hr : resOk rx ry = true) (hb : bothOk (-1) (mostV s x).1 (mostV s x).2 (usedByV s x).1 (usedByV s x).2 = true) : roomAt s rx ry x = (decide (rx ≤ (mostV s x).1 + -1 * (usedByV s x).1) && decide (ry ≤ (mostV s x).2 + -1 * (usedByV s x).2)) := room_yes _ _ _ _ _ _ hr hb
theorem roomAt_no {s : St} {rx ry : Int} {x : List UInt8} (hr : resOk rx ry = true) (hb : bothOk (-1) (mostV s x).1 (mostV s x).2 (usedByV s x).1 (usedByV s x).2 = false) : roomAt s rx ry x = false := room_no _ _ _ _ _ _ hr hb
theorem room_left {s : St} {rx ry : Int} (hr : resOk rx ry = true) : ∀ (ps : List (List UInt8)) (a b : Int), resOk a b = true → ((leftFrom s ps a b).2.2 && within rx ry (leftFrom s ps a b).1 (leftFrom s ps a b).2.1) = (decide (rx ≤ a) && decide (ry ≤ b) && ps.all (roomAt s rx ry))
  | [], a, b, h => by rw [Bool.eq_iff_iff]; simp [leftFrom, within, hr, h]; exact ⟨fun h => ⟨of_decide_eq_true h.1, of_decide_eq_true h.2⟩, fun h => ⟨decide_eq_true h.1, decide_eq_true h.2⟩⟩
  | x :: t, a, b, h => by
    rw [leftFrom, List.all_cons]
    cases hb : bothOk (-1) (mostV s x).1 (mostV s x).2 (usedByV s x).1 (usedByV s x).2 with
    | true =>
      rw [if_pos rfl, room_left hr t _ _ ?_, roomAt_yes hr hb]
      · rw [Bool.eq_iff_iff]
        simp only [Bool.and_eq_true, decide_eq_true_eq]
        constructor
        · rintro ⟨⟨h1, h2⟩, h3⟩
          exact ⟨⟨by omega, by omega⟩, ⟨by omega, by omega⟩, h3⟩
        · rintro ⟨⟨h1, h2⟩, ⟨h3, h4⟩, h5⟩
          exact ⟨⟨by omega, by omega⟩, h5⟩
      · simp only [bothOk, resOk, inB, Bool.and_eq_true, decide_eq_true_eq] at h hb ⊢
        omega
    | false =>
      rw [if_neg (by simp), roomAt_no hr hb]
      simp
theorem room_eq (s : St) (nm : List UInt8) (rx ry : Int) : roomV s nm rx ry = ((leftFrom s (path s.qs nm) 1000000000 1000000000).2.2 && decide (0 < (path s.qs nm).length) && within rx ry (leftFrom s (path s.qs nm) 1000000000 1000000000).1 (leftFrom s (path s.qs nm) 1000000000 1000000000).2.1) := by
  rw [roomV]
  cases hr : resOk rx ry with
  | false =>
    have h1 : ∀ a b, within rx ry a b = false := fun a b => by rw [within, hr]; rfl
    rw [h1, Bool.and_false]
    cases hp : path s.qs nm with
    | nil => simp
    | cons x t =>
      have h2 : roomAt s rx ry x = false := by rw [roomAt, bothOk, hr]; simp
      simp [h2]
  | true =>
    have e := room_left (s := s) hr (path s.qs nm) 1000000000 1000000000 (by decide)
    have hr' := hr
    simp only [resOk, inB, Bool.and_eq_true, decide_eq_true_eq] at hr'
    rw [decide_eq_true (show rx ≤ 1000000000 by omega), decide_eq_true (show ry ≤ 1000000000 by omega)] at e
    simp only [Bool.true_and] at e
    rw [← e]
    cases (leftFrom s (path s.qs nm) 1000000000 1000000000).2.2 <;> simp [Bool.and_comm]
/-- behind the box of a state and that of an amount -/
def roomW (w : World) (c : Array Value) (rx ry : Int) : World := (w.alloc (.cells c 37)).alloc (.cells #[.int .i64 rx, .int .i64 ry] 39)
theorem roomW_below (w : World) (c : Array Value) (rx ry : Int) : Below w.heap.size w (roomW w c rx ry) := below_al (below_al (Below.refl _ w) _) _
theorem roomW_box (w : World) (c : Array Value) (rx ry : Int) : Blk (roomW w c rx ry) w.heap.size c 37 := (blk_new w c _).al _
theorem roomW_var (w : World) (c : Array Value) (rx ry : Int) : Var (roomW w c rx ry) 39 (w.heap.size + 1) rx ry := by
  have := var_new (w.alloc (.cells c 37)) 39 rx ry
  rwa [al_size] at this
end Go.Proofs.YtgallgdmedfgmaaGreat

/-
  A tree of queues, one queue at a time: what is asked of one more behind a tree, in plain words.
-/
namespace Go.Proofs.YtgallgdmedfgmaaGreat
open Go.RowKit
set_option linter.unusedVariables false

/-- a tree of queues, or nothing, is one with this one behind it -/
def fits (l : List Q) (q : Q) : Bool :=
  decide (l.length < 20) && nameOk q.name && decide (place l q.name < 0) && decide (0 ≤ q.due ∧ q.due ≤ q.most ∧ q.most ≤ 10000)
    && (if l.length = 0 then decide (q.parent = [] ∧ q.due = 10000 ∧ q.most = 10000) else decide (0 ≤ place l q.parent ∧ dueSum q.parent l + q.due ≤ 10000))
/-- a tree of queues, or nothing -/
def okT (l : List Q) : Bool := okFrom l l 0 && sumsOk l l && decide (l.length ≤ 20)
theorem placeFrom_snoc (nm : List UInt8) (q : Q) : ∀ (l : List Q) (k : Nat), placeFrom nm (l ++ [q]) k = if placeFrom nm l k < 0 then (if q.name = nm then ((k + l.length : Nat) : Int) else -1) else placeFrom nm l k
  | [], k => by simp [placeFrom]
  | x :: t, k => by
    rw [List.cons_append, placeFrom, placeFrom]
    by_cases h : x.name = nm
    · rw [if_pos h, if_pos h, if_neg (by omega)]
    · rw [if_neg h, if_neg h, placeFrom_snoc nm q t (k + 1)]
      simp only [List.length_cons, show k + 1 + t.length = k + (t.length + 1) by omega]
theorem place_snoc (l : List Q) (q : Q) (nm : List UInt8) : place (l ++ [q]) nm = if place l nm < 0 then (if q.name = nm then (l.length : Int) else -1) else place l nm := by
  unfold place
  rw [placeFrom_snoc, Nat.zero_add]
theorem placeFrom_mem {nm : List UInt8} : ∀ {l : List Q} {k : Nat}, (∃ q ∈ l, q.name = nm) → 0 ≤ placeFrom nm l k
  | [], _, h => by obtain ⟨q, hq, _⟩ := h; simp at hq
  | x :: t, k, h => by
    rw [placeFrom]
    by_cases e : x.name = nm
    · rw [if_pos e]; omega
    · rw [if_neg e]
      obtain ⟨q, hq, hn⟩ := h
      rcases List.mem_cons.1 hq with rfl | hq
      · exact absurd hn e
      · exact placeFrom_mem ⟨q, hq, hn⟩
theorem place_mem {l : List Q} {nm : List UInt8} (h : ∃ q ∈ l, q.name = nm) : 0 ≤ place l nm := placeFrom_mem h
theorem place_has {l : List Q} {nm : List UInt8} (h : 0 ≤ place l nm) : ∃ q ∈ l, q.name = nm := by
  refine Classical.byContradiction fun hc => ?_
  have : place l nm = -1 := placeFrom_none (fun q hq e => hc ⟨q, hq, e⟩)
  omega
theorem place_not {l : List Q} {nm : List UInt8} (h : place l nm < 0) : ∀ q ∈ l, q.name ≠ nm := fun q hq e => by
  have := place_mem (l := l) (nm := nm) ⟨q, hq, e⟩
  omega
theorem dueSum_append (nm : List UInt8) (q : Q) : ∀ l : List Q, dueSum nm (l ++ [q]) = dueSum nm l + (if q.parent = nm then q.due else 0)
  | [] => by simp [dueSum]
  | x :: t => by rw [List.cons_append, dueSum, dueSum, dueSum_append nm q t]; omega
theorem kidsSum_snoc (l : List Q) (q : Q) (nm : List UInt8) (h : 0 < l.length) : kidsSum (l ++ [q]) nm = kidsSum l nm + (if q.parent = nm then q.due else 0) := by
  cases l with
  | nil => simp at h
  | cons x t => exact dueSum_append nm q t
theorem dueSum_zero {nm : List UInt8} : ∀ {l : List Q}, (∀ q ∈ l, q.parent ≠ nm) → dueSum nm l = 0
  | [], _ => rfl
  | x :: t, h => by rw [dueSum, if_neg (h x (by simp)), dueSum_zero (fun q hq => h q (by simp [hq]))]; omega
theorem okFrom_iff {l : List Q} : ∀ (m : List Q) (k : Nat), okFrom l m k = true ↔ ∀ i (h : i < m.length), qOk l (k + i) m[i] = true
  | [], k => by simp [okFrom]
  | x :: t, k => by
    constructor
    · exact okFrom_at (x :: t) k
    · intro h
      rw [okFrom, Bool.and_eq_true]
      refine ⟨by have := h 0 (by simp); rw [Nat.add_zero] at this; exact this, (okFrom_iff t (k + 1)).2 fun i hi => ?_⟩
      have := h (i + 1) (by simpa using hi)
      rw [show k + 1 + i = k + (i + 1) by omega]
      simpa using this
theorem sumsOk_iff {l : List Q} : ∀ (m : List Q), sumsOk l m = true ↔ ∀ q ∈ m, kidsSum l q.name ≤ 10000
  | [] => by simp [sumsOk]
  | x :: t => by rw [sumsOk, Bool.and_eq_true, sumsOk_iff t]; simp
theorem okT_iff {l : List Q} : okT l = true ↔ (∀ i (h : i < l.length), qOk l i l[i] = true) ∧ (∀ q ∈ l, kidsSum l q.name ≤ 10000) ∧ l.length ≤ 20 := by
  rw [okT, Bool.and_eq_true, Bool.and_eq_true, okFrom_iff l 0, sumsOk_iff l, and_assoc]
  simp
theorem queuesOk_okT (l : List Q) : queuesOk l = (okT l && decide (0 < l.length)) := by
  rw [queuesOk, okT]
  cases okFrom l l 0 <;> cases sumsOk l l <;> simp [inB]
  rw [Bool.eq_iff_iff]; simp; omega
theorem qOk_snoc {l : List Q} {q : Q} {i : Nat} (hi : i < l.length) : qOk (l ++ [q]) i l[i] = qOk l i l[i] := by
  have h1 : 0 ≤ place l l[i].name := place_mem ⟨l[i], List.getElem_mem _, rfl⟩
  have h2 : place (l ++ [q]) l[i].name = place l l[i].name := by rw [place_snoc, if_neg (by omega)]
  have h3 : inB (place (l ++ [q]) l[i].parent) 0 ((i : Int) - 1) = inB (place l l[i].parent) 0 ((i : Int) - 1) := by
    rw [place_snoc]
    by_cases h : place l l[i].parent < 0
    · rw [if_pos h]
      simp only [inB]
      rw [decide_eq_false (p := 0 ≤ place l l[i].parent ∧ _) (by omega)]
      refine decide_eq_false ?_
      split <;> omega
    · rw [if_neg h]
  simp only [qOk, h2, h3]
theorem kid_due {l : List Q} (h : ∀ i (h : i < l.length), qOk l i l[i] = true) : ∀ q ∈ l, nameOk q.name = true ∧ 0 ≤ q.due ∧ q.due ≤ 10000 ∧ (q.parent = [] ∨ ∃ x ∈ l, x.name = q.parent) := fun q hq => by
  obtain ⟨i, hi, rfl⟩ := List.mem_iff_getElem.1 hq
  have := h i hi
  simp only [qOk, Bool.and_eq_true, decide_eq_true_eq, inB] at this
  obtain ⟨⟨⟨⟨a1, a2⟩, a3⟩, a4⟩, a5⟩ := this
  refine ⟨a1, a4.1, by omega, ?_⟩
  by_cases e : i = 0
  · rw [if_pos e] at a5
    simp only [Bool.and_eq_true, decide_eq_true_eq] at a5
    exact .inl a5.1
  · rw [if_neg e] at a5
    simp only [decide_eq_true_eq] at a5
    exact .inr (place_has a5.1)
theorem nameOk_ne {n : List UInt8} (h : nameOk n = true) : n ≠ [] := fun e => by simp [nameOk, e, inB] at h
theorem okT_snoc (l : List Q) (q : Q) : okT (l ++ [q]) = (okT l && fits l q) := by
  rw [Bool.eq_iff_iff, Bool.and_eq_true, okT_iff, okT_iff]
  have hA : (∀ i (h : i < (l ++ [q]).length), qOk (l ++ [q]) i (l ++ [q])[i] = true) ↔ (∀ i (h : i < l.length), qOk l i l[i] = true) ∧ qOk (l ++ [q]) l.length q = true := by
    constructor
    · intro h
      refine ⟨fun i hi => ?_, ?_⟩
      · have := h i (by simp; omega)
        rw [List.getElem_append_left hi, qOk_snoc hi] at this
        exact this
      · have := h l.length (by simp)
        simpa using this
    · rintro ⟨h1, h2⟩ i hi
      by_cases e : i < l.length
      · rw [List.getElem_append_left e, qOk_snoc e]; exact h1 i e
      · have : i = l.length := by simp at hi; omega
        subst this
        simpa using h2
  rw [hA]
  have hP : qOk (l ++ [q]) l.length q = true ↔ nameOk q.name = true ∧ place l q.name < 0 ∧ (0 ≤ q.due ∧ q.due ≤ q.most ∧ q.most ≤ 10000) ∧ (if l.length = 0 then q.parent = [] ∧ q.due = 10000 else 0 ≤ place l q.parent) := by
    simp only [qOk, Bool.and_eq_true, decide_eq_true_eq, inB]
    have e1 : place (l ++ [q]) q.name = (l.length : Int) ↔ place l q.name < 0 := by
      rw [place_snoc]
      have := place_range l q.name
      by_cases h : place l q.name < 0
      · simp [h]
      · rw [if_neg h]; constructor <;> intro _ <;> omega
    rw [e1]
    by_cases h0 : l.length = 0
    · rw [if_pos h0, if_pos h0]
      simp only [Bool.and_eq_true, decide_eq_true_eq]
      constructor
      · rintro ⟨⟨⟨⟨a, b⟩, c⟩, d⟩, e⟩; exact ⟨a, b, by omega, e⟩
      · rintro ⟨a, b, c, e⟩; exact ⟨⟨⟨⟨a, b⟩, by omega⟩, by omega⟩, e⟩
    · rw [if_neg h0, if_neg h0]
      simp only [decide_eq_true_eq]
      have e2 : (0 ≤ place (l ++ [q]) q.parent ∧ place (l ++ [q]) q.parent ≤ (l.length : Int) - 1) ↔ 0 ≤ place l q.parent := by
        rw [place_snoc]
        have := place_range l q.parent
        by_cases h : place l q.parent < 0
        · rw [if_pos h]; constructor
          · intro h'; split at h' <;> omega
          · intro h'; omega
        · rw [if_neg h]; constructor <;> intro _ <;> omega
      rw [e2]
      constructor
      · rintro ⟨⟨⟨⟨a, b⟩, c⟩, d⟩, e⟩; exact ⟨a, b, by omega, e⟩
      · rintro ⟨a, b, c, e⟩; exact ⟨⟨⟨⟨a, b⟩, by omega⟩, by omega⟩, e⟩
  have hF : fits l q = true ↔ l.length < 20 ∧ nameOk q.name = true ∧ place l q.name < 0 ∧ (0 ≤ q.due ∧ q.due ≤ q.most ∧ q.most ≤ 10000) ∧ (if l.length = 0 then q.parent = [] ∧ q.due = 10000 ∧ q.most = 10000 else 0 ≤ place l q.parent ∧ dueSum q.parent l + q.due ≤ 10000) := by
    by_cases h0 : l.length = 0 <;> simp only [fits, h0, if_true, if_false, Bool.and_eq_true, decide_eq_true_eq, and_assoc]
  rw [hP, hF]
  by_cases h0 : l.length = 0
  · have hl : l = [] := List.eq_nil_of_length_eq_zero h0
    subst hl
    simp only [List.length_nil, if_true, List.nil_append, List.length_cons, List.mem_singleton, forall_eq]
    have hk : kidsSum [q] q.name = 0 := rfl
    rw [hk]
    constructor
    · rintro ⟨⟨_, a, b, c, d, e⟩, _⟩
      exact ⟨⟨fun i hi => by simp at hi, fun x hx => by simp at hx, by omega⟩, by omega, a, b, c, d, e, by omega⟩
    · rintro ⟨_, _, a, b, c, d, e, f⟩
      exact ⟨⟨fun i hi => by simp at hi, a, b, c, d, e⟩, by omega, by omega⟩
  · rw [if_neg h0, if_neg h0]
    have hlp : 0 < l.length := by omega
    constructor
    · rintro ⟨⟨h1, a, b, c, d⟩, h2, h3⟩
      have hk := kid_due h1
      have h4 : ∀ x ∈ l, kidsSum l x.name + (if q.parent = x.name then q.due else 0) ≤ 10000 := fun x hx => by
        have := h2 x (by simp [hx])
        rwa [kidsSum_snoc l q x.name hlp] at this
      refine ⟨⟨h1, fun x hx => ?_, by simp at h3; omega⟩, by simp at h3; omega, a, b, c, d, ?_⟩
      · have := h4 x hx
        split at this <;> omega
      · obtain ⟨x, hx, hn⟩ := place_has d
        have := h4 x hx
        rw [hn, if_pos rfl] at this
        have hd : dueSum q.parent l = kidsSum l q.parent := by
          cases l with
          | nil => simp at hlp
          | cons y t =>
            show dueSum q.parent (y :: t) = dueSum q.parent t
            rw [dueSum, if_neg, Int.zero_add]
            intro e
            have hy := h1 0 (by simp)
            simp only [qOk, List.getElem_cons_zero, if_true, Bool.and_eq_true, decide_eq_true_eq] at hy
            exact nameOk_ne (hk x hx).1 (by rw [hn, ← e, hy.2.1])
        omega
    · rintro ⟨⟨h1, h2, h3⟩, h4, a, b, c, d, e⟩
      have hk := kid_due h1
      have hd : kidsSum l q.parent ≤ dueSum q.parent l := by
        cases l with
        | nil => simp at hlp
        | cons y t =>
          show dueSum q.parent t ≤ dueSum q.parent (y :: t)
          rw [dueSum]
          have := (hk y (by simp)).2.1
          split <;> omega
      refine ⟨⟨h1, a, b, c, d⟩, fun x hx => ?_, by simp; omega⟩
      rw [kidsSum_snoc l q x.name hlp]
      rcases List.mem_append.1 hx with hx | hx
      · have := h2 x hx
        split
        · rename_i hq
          rw [hq] at hd e
          omega
        · omega
      · have : x = q := by simpa using hx
        subst this
        have hz : kidsSum l x.name = 0 := by
          cases l with
          | nil => simp at hlp
          | cons y t =>
            refine dueSum_zero (l := t) fun z hz hp => ?_
            rcases (hk z (by simp [hz])).2.2.2 with hn | ⟨u, hu, hn⟩
            · exact nameOk_ne a (by rw [← hp, hn])
            · exact place_not b u hu (by rw [hn, hp])
        have : x.parent ≠ x.name := fun hp => by rw [hp] at d; omega
        rw [if_neg this, hz]
        omega
theorem okT_nil : okT [] = true := rfl
theorem okT_take_succ {l : List Q} {k : Nat} (h : k < l.length) : okT (l.take (k + 1)) = (okT (l.take k) && fits (l.take k) l[k]) := by
  rw [List.take_succ_eq_append_getElem h, okT_snoc]
/-- where a beginning is none, the whole is none -/
theorem okT_take_false {l : List Q} {k : Nat} (h : okT (l.take k) = false) : okT l = false := by
  by_cases hk : k < l.length
  · have : ∀ n, k ≤ n → n ≤ l.length → okT (l.take n) = false := by
      intro n hn
      induction n with
      | zero => intro _; have : k = 0 := by omega
                subst this; exact h
      | succ m ih =>
        intro hm
        by_cases e : k = m + 1
        · subst e; exact h
        · rw [okT_take_succ (by omega), ih (by omega) (by omega)]; rfl
    have := this l.length (by omega) (Nat.le_refl _)
    rwa [List.take_length] at this
  · rwa [List.take_of_length_le (by omega)] at h
theorem okT_due {l : List Q} (h : okT l = true) : ∀ q ∈ l, 0 ≤ q.due ∧ q.due ≤ 10000 := fun q hq => by
  have := kid_due (okT_iff.1 h).1 q hq
  exact ⟨this.2.1, this.2.2.1⟩
theorem okT_len {l : List Q} (h : okT l = true) : l.length ≤ 20 := (okT_iff.1 h).2.2
end Go.Proofs.YtgallgdmedfgmaaGreat

/-
  A queue, its parent, and so on, each looked for ahead of its kid: in plain words, without shares.
-/
namespace Go.Proofs.YtgallgdmedfgmaaGreat
open Go.RowKit
set_option linter.unusedVariables false

def upsFrom : Nat → List Q → List UInt8 → List Q
  | 0, _, _ => []
  | n + 1, l, nm => if h : 0 ≤ place l nm ∧ (place l nm).toNat < l.length then l[(place l nm).toNat] :: upsFrom n (l.take (place l nm).toNat) l[(place l nm).toNat].parent else []
def ups (l : List Q) (nm : List UInt8) : List Q := upsFrom (l.length + 1) l nm
theorem upsFrom_more : ∀ (n m : Nat) (l : List Q) (nm : List UInt8), l.length < n → l.length < m → upsFrom n l nm = upsFrom m l nm
  | 0, _, _, _, h, _ => by omega
  | _ + 1, 0, _, _, _, h => by omega
  | n + 1, m + 1, l, nm, h1, h2 => by
    rw [upsFrom, upsFrom]
    split
    · rename_i h
      rw [upsFrom_more n m _ _ (by simp; omega) (by simp; omega)]
    · rfl
theorem ups_none {l : List Q} {nm : List UInt8} (h : place l nm < 0) : ups l nm = [] := by
  rw [ups, upsFrom, dif_neg (by omega)]
theorem ups_step {l : List Q} {nm : List UInt8} {k : Nat} (hk : k < l.length) (h : place l nm = k) : ups l nm = l[k] :: ups (l.take k) l[k].parent := by
  rw [ups, upsFrom]
  simp only [h, Int.toNat_natCast]
  rw [dif_pos (by simp; omega), ups, upsFrom_more l.length ((l.take k).length + 1) _ _ (by simp; omega) (by simp)]
theorem ups_len : ∀ (n : Nat) (l : List Q) (nm : List UInt8), (upsFrom n l nm).length ≤ l.length
  | 0, l, nm => by simp [upsFrom]
  | n + 1, l, nm => by
    rw [upsFrom]
    split
    · rename_i h
      have := ups_len n (l.take (place l nm).toNat) l[(place l nm).toNat].parent
      simp at this ⊢
      omega
    · simp
theorem ups_mem : ∀ (n : Nat) (l : List Q) (nm : List UInt8), ∀ q ∈ upsFrom n l nm, q ∈ l
  | 0, l, nm, q, h => by simp [upsFrom] at h
  | n + 1, l, nm, q, h => by
    rw [upsFrom] at h
    split at h
    · rcases List.mem_cons.1 h with rfl | h
      · exact List.getElem_mem _
      · exact List.mem_of_mem_take (ups_mem n _ _ q h)
    · simp at h
theorem placeFrom_take (nm : List UInt8) : ∀ (l : List Q) (k j : Nat), placeFrom nm (l.take j) k = if placeFrom nm l k < ((k + j : Nat) : Int) then placeFrom nm l k else -1
  | [], k, j => by simp [placeFrom]; omega
  | x :: t, k, 0 => by
    rw [List.take_zero, placeFrom]
    rcases placeFrom_range nm (x :: t) k with h | h
    · rw [h, if_pos (by omega)]
    · rw [if_neg (by omega)]
  | x :: t, k, j + 1 => by
    rw [List.take_succ_cons, placeFrom, placeFrom]
    by_cases h : x.name = nm
    · rw [if_pos h, if_pos h, if_pos (by omega)]
    · rw [if_neg h, if_neg h, placeFrom_take nm t (k + 1) j, show k + 1 + j = k + (j + 1) by omega]
theorem place_take (l : List Q) (nm : List UInt8) (j : Nat) : place (l.take j) nm = if place l nm < j then place l nm else -1 := by
  have := placeFrom_take nm l 0 j
  rw [Nat.zero_add] at this
  exact this
/-- in a tree: what is told from the queue at place p on, up to the first one -/
def upAt (l : List Q) : Nat → Int → List Q
  | 0, _ => []
  | n + 1, p => if h : 0 ≤ p ∧ p.toNat < l.length then l[p.toNat] :: upAt l n (place l l[p.toNat].parent) else []
theorem upAt_names (l : List Q) : ∀ (n : Nat) (p : Int), (upAt l n p).map Q.name = pathAt l n p
  | 0, _ => rfl
  | n + 1, p => by
    rw [upAt, pathAt]
    split
    · rw [List.map_cons, upAt_names l n]
    · rfl
theorem upsFrom_upAt {l : List Q} (h : queuesOk l = true) : ∀ (n j : Nat) (nm : List UInt8), place l nm < j → upsFrom n (l.take j) nm = upAt l n (place l nm)
  | 0, _, _, _ => rfl
  | n + 1, j, nm, hj => by
    have hp : place (l.take j) nm = place l nm := by rw [place_take, if_pos hj]
    have hr := place_range l nm
    rw [upsFrom, upAt]
    simp only [hp]
    by_cases h0 : 0 ≤ place l nm
    · rw [dif_pos ⟨h0, by simp; omega⟩, dif_pos ⟨h0, by omega⟩]
      rw [List.getElem_take, List.take_take, show min (place l nm).toNat j = (place l nm).toNat by omega]
      rw [upsFrom_upAt h n _ _ (parent_ahead h (by omega))]
    · rw [dif_neg (by omega), dif_neg (by omega)]
theorem ups_up {l : List Q} (h : queuesOk l = true) (nm : List UInt8) : ups l nm = upAt l (l.length + 1) (place l nm) := by
  have hr := place_range l nm
  have := upsFrom_upAt h (l.length + 1) l.length nm (by omega)
  rwa [List.take_length] at this
theorem ups_path {l : List Q} (h : queuesOk l = true) (nm : List UInt8) : (ups l nm).map Q.name = path l nm := by
  rw [ups_up h, upAt_names, path, h]; rfl
end Go.Proofs.YtgallgdmedfgmaaGreat

/-
  The first queue of which something holds: what the library's IndexFunc and ContainsFunc answer over queues; where a queue stands, by the program; walks over the dump.
-/
namespace Go.Proofs.YtgallgdmedfgmaaGreat
open Go.RowKit
set_option linter.unusedVariables false

def idxFrom (p : Q → Bool) : List Q → Nat → Int
  | [], _ => -1
  | q :: t, k => if p q = true then (k : Int) else idxFrom p t (k + 1)
theorem idxFrom_step {p : Q → Bool} {l : List Q} {k : Nat} (h : k < l.length) : idxFrom p (l.drop k) k = if p l[k] = true then (k : Int) else idxFrom p (l.drop (k + 1)) (k + 1) := by
  rw [List.drop_eq_getElem_cons h, idxFrom]
theorem idxFrom_end {p : Q → Bool} {l : List Q} {k : Nat} (h : l.length ≤ k) : idxFrom p (l.drop k) k = -1 := by
  rw [List.drop_of_length_le h]; rfl
theorem idx_place (nm : List UInt8) : ∀ (l : List Q) (k : Nat), idxFrom (fun q => decide (q.name = nm)) l k = placeFrom nm l k
  | [], _ => rfl
  | q :: t, k => by
    rw [idxFrom, placeFrom, idx_place nm t (k + 1)]
    by_cases h : q.name = nm <;> simp [h]
theorem idx_has (p : Q → Bool) : ∀ (l : List Q) (k : Nat), decide (0 ≤ idxFrom p l k) = l.any p
  | [], _ => by simp [idxFrom]
  | q :: t, k => by
    rw [idxFrom, List.any_cons]
    by_cases h : p q = true
    · rw [if_pos h, h]; simp
    · rw [if_neg h, idx_has p t (k + 1)]; simp [h]

set_option maxRecDepth 100000 in
set_option maxHeartbeats 2000000 in
theorem indexFunc_any (g : Nat) (lb : Array Value) (eg : ∀ args w, (callFunc g args).run Tryz.prog w = .ok (.enter g args) w) (p : Q → Bool) (ao : Option Addr) (len cap : Nat) (l : List Q) (w : World) (h : QRow w ao len l) (hl : len ≤ 1048576)
    (hp : ∀ wx q, Below w.heap.size w wx → Calls Tryz.prog g (#[qv q] ++ lb) wx fun e w' => e = .returned (.bool (p q)) ∧ Below wx.heap.size wx w') :
    Calls Tryz.prog 94 #[.slice ao len cap, .func (.func g) #[] lb] w fun e w' => e = .returned (.int .i64 (idxFrom p l 0)) ∧ Below w.heap.size w w' := by
  have HR := hide h
  have HL := hide h.1
  have HP := hide hp
  clear h hp
  go_enter Tryz.func94, Tryz.ntmps94
  go_wp2
  go_loopw [5, 8] (fun _ i wr => ∃ k : Nat, k ≤ len ∧ i = .int .i64 k ∧ Hid (idxFrom p l 0 = idxFrom p (l.drop k) k) ∧ Hid (Below w.heap.size w wr)) (fun _ i _ => len - (intOf i).toNat)
  case atStart => exact ⟨0, Nat.zero_le _, rfl, hide (by simp), hide (Below.refl _ _)⟩
  case round =>
    obtain ⟨k, hk, rfl, hq, HB⟩ := hrel
    by_cases hlt : k < len
    · obtain ⟨b, off, rfl, hx⟩ := ((unhide HR).below (unhide HB)).at hlt
      have hkl : k < l.length := by have := unhide HL; omega
      have hst := hide (idxFrom_step (p := p) (l := l) (k := k) hkl)
      obtain ⟨c0, c1, c2, c3⟩ := hx hkl
      clear hx
      obtain ⟨⟨nm, pa, du, mo⟩, hs⟩ : ∃ s, l[k] = s := ⟨_, rfl⟩
      rw [hs] at c0 c1 c2 c3 hst
      simp only at c0 c1 c2 c3
      have HC := hide (unhide HP wr ⟨nm, pa, du, mo⟩ (unhide HB))
      clear hs hkl HP
      cases hpq : p ⟨nm, pa, du, mo⟩ with
      | true =>
        rw [hpq] at HC
        have HQ := hide hpq
        clear hpq
        go_wp2_with (go_at_fn g; refine (unhide HC).mono ?_; rintro e w' ⟨rfl, hb⟩)
        go_ret
        exact ⟨ret_int (by rw [unhide hq, unhide hst, if_pos (unhide HQ)]), below_on (unhide HB) hb⟩
      | false =>
        rw [hpq] at HC
        have HQ := hide hpq
        clear hpq
        go_wp2_with (go_at_fn g; refine (unhide HC).mono ?_; rintro e w' ⟨rfl, hb⟩)
        go_roundw
        case rel => exact ⟨k + 1, by omega, by go_num, hide (by rw [unhide hq, unhide hst, if_neg (by rw [unhide HQ]; simp)]), hide (below_on (unhide HB) hb)⟩
        case measure => simp [intOf]; omega
    · go_wp2
      go_ret
      exact ⟨ret_int (by rw [unhide hq, idxFrom_end (by have := unhide HL; omega)]), unhide HB⟩

set_option maxRecDepth 100000 in
set_option maxHeartbeats 1000000 in
theorem placeFn_any (B : Nat) (nm : List UInt8) (q : Q) (w : World) (hc : w.cell? ⟨B, 0, none⟩ = some (.string (bs nm))) :
    Calls Tryz.prog 95 #[qv q, .pointer (some ⟨B, 0, none⟩)] w fun e w' => e = .returned (.bool (decide (q.name = nm))) ∧ Below w.heap.size w w' := by
  have hlt := cell_lt hc
  have hc2 : (w.alloc (.cells #[.string (bs q.name), .string (bs q.parent), .int .i64 q.due, .int .i64 q.most] 79)).cell? ⟨B, 0, none⟩ = some (.string (bs nm)) := by rw [World.cell?_alloc_lt _ _ ⟨B, 0, none⟩ hlt]; exact hc
  have hbe := bs_eq q.name nm
  clear hc hlt
  go_enter Tryz.func95, Tryz.ntmps95
  go_wp2
  go_ret
  exact ⟨rfl, below_al (Below.refl _ _) _⟩

set_option maxRecDepth 100000 in
set_option maxHeartbeats 1000000 in
theorem place_any (ao : Option Addr) (len cap : Nat) (l : List Q) (nm : List UInt8) (w : World) (h : QRow w ao len l) (hl : len ≤ 1048576) :
    Calls Tryz.prog 81 #[.slice ao len cap, .string (bs nm)] w fun e w' => e = .returned (.int .i64 (place l nm)) ∧ Below w.heap.size w w' := by
  have hmf : ∀ (fn : Fn) (first cap : Array Value) (w : World), (Instr.makeFunc fn first cap).run Tryz.prog w = .ok (.func fn first cap) w := fun _ _ _ _ => rfl
  have hb0 := below_al (Below.refl _ w) (.cells #[.string (bs nm)] 9)
  have C := hide (indexFunc_any 95 #[.pointer (some ⟨w.heap.size, 0, none⟩)] (enters_of Tryz.func95 (by kernel_rfl) rfl) (fun q => decide (q.name = nm)) ao len cap l _ (h.below hb0) hl
    (fun wx q hb => placeFn_any w.heap.size nm q wx ((hb.cell (p := ⟨w.heap.size, 0, none⟩) (by simp)).trans (by simp))))
  rw [idx_place] at C
  obtain ⟨p, hp⟩ : ∃ p, placeFrom nm l 0 = p := ⟨_, rfl⟩
  rw [show place l nm = p from hp]
  rw [hp] at C
  have HB0 := hide hb0
  clear h hb0 hp
  go_enter Tryz.func81, Tryz.ntmps81
  go_wp2_with fail
  refine (unhide C).mono ?_
  rintro e w1 ⟨rfl, hb⟩
  have HB := hide (below_on (unhide HB0) hb)
  clear hb
  go_wp2
  go_ret
  exact ⟨rfl, unhide HB⟩
end Go.Proofs.YtgallgdmedfgmaaGreat

/-
  A variable that holds a queue.
-/
namespace Go.Proofs.YtgallgdmedfgmaaGreat
open Go.RowKit
set_option linter.unusedVariables false

abbrev qobj (q : Q) : Obj := .cells #[.string (bs q.name), .string (bs q.parent), .int .i64 q.due, .int .i64 q.most] 79
def QBox (w : World) (g : Nat) (q : Q) : Prop := w.heap[g]? = some (qobj q)
theorem QBox.new (w : World) (q : Q) : QBox (w.alloc (qobj q)) w.heap.size q := by show (w.heap.push _)[w.heap.size]? = _; simp
theorem QBox.lt {w : World} {g : Nat} {q : Q} (h : QBox w g q) : g < w.heap.size := lt_of_block h
theorem QBox.below {w w' : World} {g : Nat} {q : Q} (h : QBox w g q) (hb : Below w.heap.size w w') : QBox w' g q := (hb.block g h.lt).trans h
theorem QBox.c0 {w : World} {g : Nat} {q : Q} (h : QBox w g q) : w.cell? ⟨g, 0, none⟩ = some (.string (bs q.name)) := by unfold QBox at h; simp [World.cell?, h]
theorem QBox.c1 {w : World} {g : Nat} {q : Q} (h : QBox w g q) : w.cell? ⟨g, 1, none⟩ = some (.string (bs q.parent)) := by unfold QBox at h; simp [World.cell?, h]
theorem QBox.c2 {w : World} {g : Nat} {q : Q} (h : QBox w g q) : w.cell? ⟨g, 2, none⟩ = some (.int .i64 q.due) := by unfold QBox at h; simp [World.cell?, h]
theorem QBox.c3 {w : World} {g : Nat} {q : Q} (h : QBox w g q) : w.cell? ⟨g, 3, none⟩ = some (.int .i64 q.most) := by unfold QBox at h; simp [World.cell?, h]
/-- the variable holds the queue, and nothing of w0 has turned -/
def QB (w0 : World) (g : Nat) (q : Q) (w : World) : Prop := QBox w g q ∧ Below w0.heap.size w0 w
theorem QB.call {w0 w w' : World} {g : Nat} {q : Q} (h : QB w0 g q w) (hb : Below w.heap.size w w') : QB w0 g q w' := ⟨h.1.below hb, below_on h.2 hb⟩
theorem QB.drew {w0 w : World} {g : Nat} {q : Q} (h : QB w0 g q w) : QB w0 g q w.drew := h.call (Below.refl _ _).drew
theorem QB.read (w0 : World) (g : Nat) (q : Q) : ∀ wx, QB w0 g q wx → wx.cell? ⟨g, 0, none⟩ = some (.string (bs q.name)) ∧ wx.cell? ⟨g, 1, none⟩ = some (.string (bs q.parent)) ∧ wx.cell? ⟨g, 2, none⟩ = some (.int .i64 q.due) ∧ wx.cell? ⟨g, 3, none⟩ = some (.int .i64 q.most) := fun wx h => ⟨h.1.c0, h.1.c1, h.1.c2, h.1.c3⟩
end Go.Proofs.YtgallgdmedfgmaaGreat

/-
  What the program's isDigit answers; a walk over the dump.
-/
namespace Go.Proofs.YtgallgdmedfgmaaGreat
open Go.RowKit

set_option maxHeartbeats 400000 in
theorem isDigit_any (x : Int) (w : World) :
    Calls Tryz.prog 99 #[.int .u8 x] w fun e w' => e = .returned (.bool (inB x 48 57)) ∧ w' = w := by
  by_cases h1 : 48 ≤ x
  · by_cases h2 : x ≤ 57
    · go_enter Tryz.func99, Tryz.ntmps99
      go_wp2
      go_ret
      exact ⟨ret_bool (inB_true h1 h2).symm, rfl⟩
    · go_enter Tryz.func99, Tryz.ntmps99
      go_wp2
      go_ret
      exact ⟨ret_bool (inB_false (by omega)).symm, rfl⟩
  · go_enter Tryz.func99, Tryz.ntmps99
    go_wp2
    go_ret
    exact ⟨ret_bool (inB_false (by omega)).symm, rfl⟩
end Go.Proofs.YtgallgdmedfgmaaGreat

/-
  What the program's NameOk answers: as the model's; a walk over the dump.
-/
namespace Go.Proofs.YtgallgdmedfgmaaGreat
open Go.RowKit

set_option maxHeartbeats 800000 in
theorem implNameOk_any (s : ByteArray) (w : World) (hs : s.size ≤ 1048576) :
    Calls Tryz.prog 91 #[.string s] w fun e w' => e = .returned (.bool (nameOk s.data.toList)) ∧ w' = w := by
  by_cases h0 : 1 ≤ s.size
  · by_cases h1 : s.size ≤ 10
    · have hin : Hid (inB (s.data.toList.length : Int) 1 10 = true) := hide (by rw [len_eq]; exact inB_true (by omega) (by omega))
      go_enter Tryz.func91, Tryz.ntmps91
      go_wp2
      go_loop [14] (fun i => ∃ k : Nat, k ≤ s.size ∧ i = .int .i64 k ∧ (s.data.toList.take k).all nameB = true) (fun i => s.size - (intOf i).toNat)
      case atStart => exact ⟨0, Nat.zero_le _, rfl, by simp⟩
      case round =>
        obtain ⟨k, hk, rfl, hall⟩ := hrel
        have HA := hide hall
        clear hall
        by_cases hlt : k < s.size
        · have hb : (s[k].toNat : Int) ≤ 255 := byte_le _
          by_cases h3 : 48 ≤ (s[k].toNat : Int) ∧ (s[k].toNat : Int) ≤ 57
          · have e1 : inB (s[k].toNat : Int) 48 57 = true := inB_true h3.1 h3.2
            clear h3
            go_wp2_with (go_at_call 99; refine (isDigit_any _ _).mono ?_; rintro e w' ⟨rfl, rfl⟩)
            go_round
            case rel => exact ⟨k + 1, by omega, by go_num, all_snoc s k hlt _ (unhide HA) (by simp [nameB, e1])⟩
            case measure => simp [intOf]; omega
          · have e1 : inB (s[k].toNat : Int) 48 57 = false := inB_false h3
            clear h3
            by_cases h4 : 97 ≤ (s[k].toNat : Int)
            · by_cases h5 : (s[k].toNat : Int) ≤ 122
              · have HN : Hid (nameB s[k] = true) := hide (by simp [nameB, e1, inB_true h4 h5])
                go_wp2_with (go_at_call 99; refine (isDigit_any _ _).mono ?_; rintro e w' ⟨rfl, rfl⟩)
                go_round
                case rel => exact ⟨k + 1, by omega, by go_num, all_snoc s k hlt _ (unhide HA) (unhide HN)⟩
                case measure => simp [intOf]; omega
              · have hf : Hid (nameOk s.data.toList = false) := hide (by rw [nameOk, not_all s k hlt nameB (by simp [nameB, e1, inB_false (x := (s[k].toNat : Int)) (a := 97) (b := 122) (by omega)])]; simp)
                go_wp2_with (go_at_call 99; refine (isDigit_any _ _).mono ?_; rintro e w' ⟨rfl, rfl⟩)
                go_ret
                exact ⟨ret_bool (unhide hf).symm, rfl⟩
            · have hf : Hid (nameOk s.data.toList = false) := hide (by rw [nameOk, not_all s k hlt nameB (by simp [nameB, e1, inB_false (x := (s[k].toNat : Int)) (a := 97) (b := 122) (by omega)])]; simp)
              go_wp2_with (go_at_call 99; refine (isDigit_any _ _).mono ?_; rintro e w' ⟨rfl, rfl⟩)
              go_ret
              exact ⟨ret_bool (unhide hf).symm, rfl⟩
        · have hf : Hid (nameOk s.data.toList = true) := hide (by rw [nameOk, unhide hin, ← take_all s k (by omega), unhide HA]; rfl)
          go_wp2
          go_ret
          exact ⟨ret_bool (unhide hf).symm, rfl⟩
    · have hf : Hid (nameOk s.data.toList = false) := hide (by rw [nameOk, len_eq, inB_false (by omega)]; simp)
      go_enter Tryz.func91, Tryz.ntmps91
      go_wp2
      go_ret
      exact ⟨ret_bool (unhide hf).symm, rfl⟩
  · have hf : Hid (nameOk s.data.toList = false) := hide (by rw [nameOk, len_eq, inB_false (by omega)]; simp)
    go_enter Tryz.func91, Tryz.ntmps91
    go_wp2
    go_ret
    exact ⟨ret_bool (unhide hf).symm, rfl⟩
end Go.Proofs.YtgallgdmedfgmaaGreat
