/-
  What amounts are together, by the program; a walk over the dump.
-/
import Derived.Test.YtgallgdmedfgmaaROwn
import Derived.Test.YtgallgdmedfgmaaAddI
namespace Go.Proofs.Ytgallgdmedfgmaa
open Go.RowKit
set_option linter.unusedVariables false

set_option maxRecDepth 100000 in
set_option maxHeartbeats 2000000 in
theorem together_any (ao : Option Addr) (len cap : Nat) (l : List (Int × Int)) (w : World) (h : RRow w ao len l) (hl : len ≤ 1048576) :
    Calls Try.prog 95 #[.slice ao len cap] w fun e w' => e = .returned (.tuple #[rv (sumR l).1 (sumR l).2.1, .bool (sumR l).2.2]) ∧ Below w.heap.size w w' := by
  have HR := hide h
  have HL := hide h.1
  obtain ⟨⟨sx, sy, so⟩, hs⟩ : ∃ s, sumR l = s := ⟨_, rfl⟩
  have HS := hide (show sumFrom l 0 0 = (sx, sy, so) from hs)
  rw [hs]
  clear h hs
  go_enter Try.func95, Try.ntmps95
  go_wp2
  go_loopw [12] (fun i wr => ∃ (k : Nat) (x y : Int), k ≤ len ∧ i = .int .i64 k ∧ Hid (sumFrom (l.drop k) x y = (sx, sy, so)) ∧ Hid (Var wr 28 w.heap.size 0 0) ∧ Hid (Var wr 28 (w.heap.size + 1) x y) ∧ Hid (Below w.heap.size w wr)) (fun i _ => len - (intOf i).toNat)
  case atStart => exact ⟨0, 0, 0, Nat.zero_le _, rfl, hide (by simpa using unhide HS), hide ((var_new w _ _ _).al _), hide (var_new2 w _ _ 0 0 0 0), hide (below_al (below_al (Below.refl _ _) _) _)⟩
  case round =>
    obtain ⟨k, x, y, hk, rfl, HQ, HV0, HV1, HB⟩ := hrel
    by_cases hlt : k < len
    · obtain ⟨b, off, rfl, hq⟩ := ((unhide HR).below (unhide HB)).at hlt
      have hkl : k < l.length := by have := unhide HL; omega
      have hst := sumFrom_step hkl x y
      obtain ⟨c0, c1⟩ := hq hkl
      obtain ⟨⟨a, d⟩, hs⟩ : ∃ q, l[k] = q := ⟨_, rfl⟩
      rw [hs] at c0 c1 hst
      simp only at c0 c1 hst
      have HST := hide hst
      have s0 := (unhide HV1).c0
      have s1 := (unhide HV1).c1
      have hsz := (unhide HV1).lt
      have hl2 := World.cell?_alloc_lt wr (.cells #[.int .i64 a, .int .i64 d] 28) ⟨w.heap.size + 1, 0, none⟩ hsz
      have hl3 := World.cell?_alloc_lt wr (.cells #[.int .i64 a, .int .i64 d] 28) ⟨w.heap.size + 1, 1, none⟩ hsz
      rw [s0] at hl2
      rw [s1] at hl3
      clear hq hs hkl hst
      have CA := hide (fun wx => implAdd_any x y a d wx)
      have HA := hide (below_al (Below.refl _ wr) (.cells #[.int .i64 a, .int .i64 d] 28))
      cases ho : bothOk 1 x y a d with
      | true =>
        rw [both_yes ho, ho] at CA
        rw [if_pos ho] at HST
        clear ho
        go_wp2_with fail
        refine (unhide CA _).mono ?_
        rintro e w1 ⟨rfl, hb⟩
        have W0 := hide (((unhide HV0).below (unhide HA)).below hb)
        have W1 := hide (((unhide HV1).below (unhide HA)).below hb)
        have HB1 := hide (below_on (below_on (unhide HB) (unhide HA)) hb)
        have hsz1 := (unhide W1).lt
        have t0 := (unhide W1).c0
        have t1 := (unhide W1).c1
        have f0 := (unhide W1).f 0
        have f1 := (unhide W1).f 1
        have g0 := World.cell?_alloc_lt w1 (.cells #[.int .i64 (x + 1 * a), .int .i64 (y + 1 * d)] 28) ⟨w.heap.size + 1, 0, none⟩ hsz1
        have g1 := World.cell?_alloc_lt w1 (.cells #[.int .i64 (x + 1 * a), .int .i64 (y + 1 * d)] 28) ⟨w.heap.size + 1, 1, none⟩ hsz1
        rw [t0] at g0
        rw [t1] at g1
        clear hb CA HA c0 c1 s0 s1 hl2 hl3 HV0 HV1 HB
        obtain ⟨x', hx'⟩ : ∃ x', x + 1 * a = x' := ⟨_, rfl⟩
        obtain ⟨y', hy'⟩ : ∃ y', y + 1 * d = y' := ⟨_, rfl⟩
        rw [hx', hy'] at HST g0 g1
        rw [hx', hy']
        clear hx' hy'
        have h2 := (unhide W1).al (.cells #[.int .i64 x', .int .i64 y'] 28)
        have ff0 := h2.f 0
        have ff1 := h2.f 1
        have W2 := hide h2
        clear h2
        go_wp2
        go_roundw
        case rel => exact ⟨k + 1, x', y', by omega, by go_num, hide (by rw [← unhide HST]; exact unhide HQ), hide ((((unhide W0).other _ _ _ (show w.heap.size ≠ w.heap.size + 1 by omega)).other _ _ _ (show w.heap.size ≠ w.heap.size + 1 by omega)).al _), hide (((unhide W1).set _ _).al _), hide (below_al (below_sc (below_sc (unhide HB1) _ _ _ (show w.heap.size ≤ w.heap.size + 1 by omega)) _ _ _ (show w.heap.size ≤ w.heap.size + 1 by omega)) _)⟩
        case measure => simp [intOf]; omega
      | false =>
        rw [both_no ho, ho] at CA
        rw [if_neg (by rw [ho]; simp)] at HST
        have hres := (unhide HST).symm.trans (unhide HQ)
        simp only [Prod.mk.injEq] at hres
        obtain ⟨rfl, rfl, rfl⟩ := hres
        clear ho HST HS
        go_wp2_with fail
        refine (unhide CA _).mono ?_
        rintro e w1 ⟨rfl, hb⟩
        have W0 := hide ((((unhide HV0).below (unhide HA)).below hb).al (.cells #[.int .i64 0, .int .i64 0] 28))
        have HB1 := hide (below_al (below_on (below_on (unhide HB) (unhide HA)) hb) (.cells #[.int .i64 0, .int .i64 0] 28))
        clear hb CA HA c0 c1 s0 s1 hl2 hl3 HV0 HV1 HB
        have t0 := (unhide W0).c0
        have t1 := (unhide W0).c1
        have f0 := (unhide W0).f 0
        have f1 := (unhide W0).f 1
        have k4 := (unhide W0).s0 (.int .i64 0)
        have k5 := (unhide W0).s1 (.int .i64 0) (.int .i64 0)
        go_wp2
        refine bodyPost_ret (v := .tuple #[rv 0 0, .bool false]) (by simp [results, Try.results95, go_sem, k4, k5]) rfl ⟨rfl, ?_⟩
        repeat (first | exact unhide HB1 | refine below_sc ?_ _ _ _ (by omega))
    · have hres : (x, y, true) = (sx, sy, so) := by rw [← unhide HQ, sumFrom_end (by have := unhide HL; omega)]
      simp only [Prod.mk.injEq] at hres
      obtain ⟨rfl, rfl, rfl⟩ := hres
      have s0 := (unhide HV1).c0
      have s1 := (unhide HV1).c1
      have t0 := (unhide HV0).c0
      have t1 := (unhide HV0).c1
      have f0 := (unhide HV0).f 0
      have f1 := (unhide HV0).f 1
      have k4 := (unhide HV0).s0 (.int .i64 x)
      have k5 := (unhide HV0).s1 (.int .i64 x) (.int .i64 y)
      go_wp2
      refine bodyPost_ret (v := .tuple #[rv x y, .bool true]) (by simp [results, Try.results95, go_sem, k4, k5]) rfl ⟨rfl, ?_⟩
      repeat (first | exact unhide HB | refine below_sc ?_ _ _ _ (by omega))
end Go.Proofs.Ytgallgdmedfgmaa
