/-
  Several texts of this claim in one: OkC, PairI, OrI, AddI, SumI4, CapI (pack.py put them together); each says in its own remark what is proved.
-/
import Derived.Test.YtcplnodfcchdhaaGreatPackN
import Derived.Test.YtcplnodfcchdhaaGreatPackQ
import Derived.Test.YtcplnodfcchdhaaGreatPackM
import Derived.Test.YtcplnodfcchdhaaGreatPackK
import Derived.Test.YtcplnodfcchdhaaGreatPackL
/-
  The applications of a state are right: appsOk, by the program; a walk over the dump.
-/
namespace Go.Proofs.YtcplnodfcchdhaaGreat
open Go.RowKit
set_option linter.unusedVariables false
def appsFrom (qs : List Q) (nx : Int) : Int → List Appl → Bool
  | _, [] => true
  | last, a :: t => decide (last < a.id) && (decide (a.id < nx) && (lone qs a.queue && (asksOk a.asks && appsFrom qs nx a.id t)))
def appsOkV (s : St) : Bool := decide (s.apps.length ≤ 40) && appsFrom s.qs s.next 0 s.apps
theorem appsFrom_step {qs : List Q} {nx last : Int} {l : List Appl} {k : Nat} (h : k < l.length) : appsFrom qs nx last (l.drop k) = (decide (last < l[k].id) && (decide (l[k].id < nx) && (lone qs l[k].queue && (asksOk l[k].asks && appsFrom qs nx l[k].id (l.drop (k + 1)))))) := by
  rw [List.drop_eq_getElem_cons h, appsFrom]
theorem appsFrom_end {qs : List Q} {nx last : Int} {l : List Appl} {k : Nat} (h : l.length ≤ k) : appsFrom qs nx last (l.drop k) = true := by
  rw [List.drop_of_length_le h]; rfl

set_option maxRecDepth 100000 in
set_option maxHeartbeats 4000000 in
theorem appsOk_any (x : Sls) (s : St) (w : World) (h : SRow w x s) (hf : FitSt s) :
    Calls Tryz.prog 62 #[sv x s] w fun e w' => e = .returned (.bool (appsOkV s)) ∧ Below w.heap.size w w' := by
  have hql : x.ql ≤ 1048576 := by have := h.len.1; have := hf.1.1; omega
  have hal : x.al ≤ 1048576 := by have := h.len.2.1; have := hf.2.1.1; omega
  have HR := hide h.2.1
  have HL := hide h.2.1.1
  have HFA := hide hf.2.1
  have CL := hide (fun wx (hb : Below w.heap.size w wx) (nm : List UInt8) => lone_any x.qa x.ql x.qc s.qs nm wx (h.1.below hb) hql)
  have HS := hide (show appsOkV s = (decide (x.al ≤ 40) && appsFrom s.qs s.next 0 s.apps) by rw [appsOkV, ← h.2.1.1])
  obtain ⟨o, ho⟩ : ∃ o, appsOkV s = o := ⟨_, rfl⟩
  rw [ho] at HS ⊢
  clear h hf ho
  have hb0 := below_al (Below.refl _ w) (.cells (svc x s) 29)
  have P0 := hide (blk_new w (svc x s) 29)
  obtain ⟨qa, ql, qc, aa, al, ac, ma, ml, mc, ca, cl, cc⟩ := x
  obtain ⟨qs, clock, epoch, next, serial, apps, ms, cs⟩ := s
  simp only at hql hal HR HL HFA CL HS P0 hb0
  have HB0 := hide hb0
  clear hb0
  by_cases h40 : al ≤ 40
  case neg =>
    have hi : (40 : Int) < al := by omega
    rw [decide_eq_false h40] at HS
    go_enter Tryz.func62, Tryz.ntmps62
    go_wp2
    go_ret
    exact ⟨ret_bool (by rw [unhide HS]; simp), unhide HB0⟩
  have hi : ¬ (40 : Int) < al := by omega
  rw [decide_eq_true h40, Bool.true_and] at HS
  clear h40
  go_enter Tryz.func62, Tryz.ntmps62
  go_wp2
  go_loopw [3, 13] (fun la i wr => ∃ (k : Nat) (last : Int), k ≤ al ∧ i = .int .i64 k ∧ la = .int .i64 last ∧ Hid (o = appsFrom qs next last (apps.drop k)) ∧ Hid (Blk wr w.heap.size (svc ⟨qa, ql, qc, aa, al, ac, ma, ml, mc, ca, cl, cc⟩ ⟨qs, clock, epoch, next, serial, apps, ms, cs⟩) 29) ∧ Hid (Below w.heap.size w wr)) (fun _ i _ => al - (intOf i).toNat)
  case atStart => exact ⟨0, 0, Nat.zero_le _, rfl, rfl, hide (by rw [unhide HS]; simp), P0, HB0⟩
  case round =>
    obtain ⟨k, last, hk, rfl, rfl, HO, P1, HB⟩ := hrel
    clear P0 HB0 HS
    by_cases hlt : k < al
    · obtain ⟨b, off, rfl, hq⟩ := ((unhide HR).below (unhide HB)).at hlt
      have hkl : k < apps.length := by have := unhide HL; omega
      have hst := hide (appsFrom_step (qs := qs) (nx := next) (last := last) (l := apps) (k := k) hkl)
      have hfa := (unhide HFA).2 _ (List.getElem_mem hkl)
      obtain ⟨xo, xl, xc, c0, c1, c2, hrow, _⟩ := hq hkl
      obtain ⟨⟨id, qu, asks⟩, hs⟩ : ∃ s, apps[k] = s := ⟨_, rfl⟩
      rw [hs] at c0 c1 hst hrow hfa
      simp only at c0 c1 hst hrow
      have hxl : xl ≤ 1048576 := by have h1 := hrow.1; have h2 := hfa.2.1; simp only at h2; omega
      obtain ⟨lo, hlo⟩ : ∃ b, lone qs qu = b := ⟨_, rfl⟩
      obtain ⟨so, hso⟩ : ∃ b, asksOk asks = b := ⟨_, rfl⟩
      have C1 := hide (fun wx (hb : Below w.heap.size w wx) => by have := unhide CL wx hb qu; rw [hlo] at this; exact this)
      have C2 := hide (fun wx (hb : Below wr.heap.size wr wx) => by have := asksOk_any id qu xo xl xc asks wx (hrow.below hb) hxl hfa.2.2; rw [hso] at this; exact this)
      rw [hlo, hso] at hst
      have hb2 := below_al (Below.refl _ wr) (.cells #[.int .i64 id, .string (bs qu), .slice xo xl xc] 41)
      have P2 := hide ((unhide P1).below hb2)
      have V2 := hide (blk_new wr #[.int .i64 id, .string (bs qu), .slice xo xl xc] 41)
      have HB2 := hide (below_on (unhide HB) hb2)
      have HW2 := hide hb2
      have p0 := (unhide P2).at 0
      have p3 := (unhide P2).at 3
      have q5 := (unhide P1).at 5
      simp at p0 p3 q5
      clear hq hs hkl hrow hfa hb2 hlo hso CL
      by_cases h1 : last < id
      case neg =>
        have h1' : id ≤ last := by omega
        go_wp2
        go_ret
        exact ⟨ret_bool (by rw [unhide HO, unhide hst, decide_eq_false (show ¬ last < id by omega)]; simp), unhide HB2⟩
      by_cases h2 : id < next
      case neg =>
        have h2' : next ≤ id := by omega
        have h1' : ¬ id ≤ last := by omega
        go_wp2
        go_ret
        exact ⟨ret_bool (by rw [unhide HO, unhide hst, decide_eq_false (show ¬ id < next by omega)]; simp), unhide HB2⟩
      have h2' : ¬ next ≤ id := by omega
      have h1' : ¬ id ≤ last := by omega
      have HO2 := hide (show o = (lo && (so && appsFrom qs next id (apps.drop (k + 1)))) by rw [unhide HO, unhide hst, decide_eq_true h1, decide_eq_true h2]; simp)
      clear HO hst
      go_wp2_with fail
      refine (unhide C1 _ (unhide HB2)).mono ?_
      rintro e w1 ⟨rfl, hb⟩
      have P3 := hide ((unhide P2).below hb)
      have V3 := hide ((unhide V2).below hb)
      have HB3 := hide (below_on (unhide HB2) hb)
      have HW3 := hide (below_on (unhide HW2) hb)
      have a0 := (unhide V3).at 0
      have a1 := (unhide V3).at 1
      have a2 := (unhide V3).at 2
      simp at a0 a1 a2
      clear hb P2 V2 HB2 HW2 C1 p0 p3 q5
      cases lo with
      | false =>
        go_wp2
        go_ret
        exact ⟨ret_bool (by rw [unhide HO2]; simp), unhide HB3⟩
      | true =>
      go_wp2_with fail
      refine (unhide C2 _ (unhide HW3)).mono ?_
      rintro e w2 ⟨rfl, hb⟩
      have P4 := hide ((unhide P3).below hb)
      have V4 := hide ((unhide V3).below hb)
      have HB4 := hide (below_on (unhide HB3) hb)
      have d0 := (unhide V4).at 0
      simp at d0
      clear hb P3 V3 HB3 HW3 C2 a0 a1 a2
      cases so with
      | false =>
        go_wp2
        go_ret
        exact ⟨ret_bool (by rw [unhide HO2]; simp), unhide HB4⟩
      | true =>
      go_wp2
      go_roundw
      case rel => exact ⟨k + 1, id, by omega, by go_num, rfl, hide (by rw [unhide HO2]; simp), P4, HB4⟩
      case measure => simp [intOf]; omega
    · go_wp2
      go_ret
      exact ⟨ret_bool (by rw [unhide HO, appsFrom_end (by have := unhide HL; omega)]), unhide HB⟩
end Go.Proofs.YtcplnodfcchdhaaGreat

/-
  Two amounts at once, and an amount or nothing; walks over the dump.
-/
namespace Go.Proofs.YtcplnodfcchdhaaGreat
open Go.RowKit
set_option linter.unusedVariables false
set_option maxRecDepth 100000 in
set_option maxHeartbeats 1000000 in
theorem pairOk_any (a b c d : Int) (w : World) :
    Calls Tryz.prog 76 #[pv a b c d] w fun e w' => e = .returned (.bool (resOk a b && resOk c d)) ∧ Below w.heap.size w w' := by
  cases h1 : resOk a b
  · go_enter Tryz.func76, Tryz.ntmps76
    go_wp2_with (go_at_call 113; refine (ok_any _ _ _).mono ?_; rintro e w' ⟨rfl, rfl⟩)
    go_ret
    refine ⟨rfl, ?_⟩
    repeat (first | exact Below.refl _ _ | refine below_al ?_ _ | refine Below.drew ?_ | refine below_sc ?_ _ _ _ (by omega))
  · go_enter Tryz.func76, Tryz.ntmps76
    go_wp2_with (go_at_call 113; refine (ok_any _ _ _).mono ?_; rintro e w' ⟨rfl, rfl⟩)
    go_ret
    refine ⟨rfl, ?_⟩
    repeat (first | exact Below.refl _ _ | refine below_al ?_ _ | refine Below.drew ?_ | refine below_sc ?_ _ _ _ (by omega))
end Go.Proofs.YtcplnodfcchdhaaGreat

/-
  An amount, or nothing where it is none; a walk over the dump.
-/
namespace Go.Proofs.YtcplnodfcchdhaaGreat
open Go.RowKit
set_option linter.unusedVariables false
def orV (a b : Int) : Value := if resOk a b then rv a b else rv 0 0
set_option maxRecDepth 100000 in
set_option maxHeartbeats 1000000 in
theorem or_any (a b : Int) (w : World) :
    Calls Tryz.prog 77 #[rv a b] w fun e w' => e = .returned (.tuple #[orV a b, .bool (resOk a b)]) ∧ Below w.heap.size w w' := by
  cases h1 : resOk a b
  · rw [show orV a b = rv 0 0 by simp [orV, h1]]
    go_enter Tryz.func77, Tryz.ntmps77
    go_wp2_with (go_at_call 113; refine (ok_any _ _ _).mono ?_; rintro e w' ⟨rfl, rfl⟩)
    refine bodyPost_ret (v := .tuple #[rv 0 0, .bool false]) (by simp [results, Tryz.results77, go_sem]) rfl ⟨rfl, ?_⟩
    repeat (first | exact Below.refl _ _ | refine below_al ?_ _ | refine Below.drew ?_ | refine below_sc ?_ _ _ _ (by omega))
  · rw [show orV a b = rv a b by simp [orV, h1]]
    go_enter Tryz.func77, Tryz.ntmps77
    go_wp2_with (go_at_call 113; refine (ok_any _ _ _).mono ?_; rintro e w' ⟨rfl, rfl⟩)
    refine bodyPost_ret (v := .tuple #[rv a b, .bool true]) (by simp [results, Tryz.results77, go_sem]) rfl ⟨rfl, ?_⟩
    repeat (first | exact Below.refl _ _ | refine below_al ?_ _ | refine Below.drew ?_ | refine below_sc ?_ _ _ _ (by omega))
end Go.Proofs.YtcplnodfcchdhaaGreat

/-
  What the program's Add answers; a walk over the dump.
-/
namespace Go.Proofs.YtcplnodfcchdhaaGreat
open Go.RowKit
set_option linter.unusedVariables false
set_option maxRecDepth 100000 in
set_option maxHeartbeats 1000000 in
theorem implAdd_any (a b c d : Int) (w : World) :
    Calls Tryz.prog 30 #[rv a b, rv c d] w fun e w' => e = .returned (.tuple #[bothV 1 a b c d, .bool (bothOk 1 a b c d)]) ∧ Below w.heap.size w w' := by
  have V1 := ((var_new w 33 a b).al (.cells #[.int .i64 c, .int .i64 d] 33)).al (.cells #[.int .i64 0, .int .i64 0] 33)
  have V2 := (var_new2 w 33 33 a b c d).al (.cells #[.int .i64 0, .int .i64 0] 33)
  have V3 := var_new2 (w.alloc (.cells #[.int .i64 a, .int .i64 b] 33)) 33 33 c d 0 0
  have B3 := below_al (below_al (below_al (Below.refl _ w) (.cells #[.int .i64 a, .int .i64 b] 33)) (.cells #[.int .i64 c, .int .i64 d] 33)) (.cells #[.int .i64 0, .int .i64 0] 33)
  simp at V3
  have HV1 := hide V1
  have HV2 := hide V2
  have HV3 := hide V3
  have HB3 := hide B3
  have hc := hide (pairOk_any a b c d)
  clear V1 V2 V3 B3
  cases h0 : resOk a b && resOk c d
  · have hb : bothOk 1 a b c d = false := by rw [bothOk, h0]; rfl
    rw [both_no hb, hb]
    go_enter Tryz.func30, Tryz.ntmps30
    go_wp2_with fail
    refine (unhide hc _).mono ?_
    rw [h0]
    rintro e w1 ⟨rfl, hb⟩
    have V3 := (unhide HV3).below hb
    have k2 := V3.f 0
    have k3 := V3.f 1
    have k0 := V3.c0
    have k1 := V3.c1
    have k4 := V3.s0 (.int .i64 0)
    have k5 := V3.s1 (.int .i64 0) (.int .i64 0)
    have HB := hide (below_on (unhide HB3) hb)
    clear hb HV1 HV2 HV3 HB3 V3 hc
    go_wp2
    refine bodyPost_ret (v := .tuple #[rv 0 0, .bool false]) (by simp [results, Tryz.results30, go_sem, k4, k5]) rfl ⟨rfl, ?_⟩
    repeat (first | exact unhide HB | refine below_al ?_ _ | refine Below.drew ?_ | refine below_sc ?_ _ _ _ (by omega))
  · have h0' := h0
    simp only [Bool.and_eq_true] at h0'
    obtain ⟨q1, q2, q3, q4⟩ := resOk_bd h0'.1
    obtain ⟨q5, q6, q7, q8⟩ := resOk_bd h0'.2
    obtain ⟨x, hx⟩ : ∃ x, a + c = x := ⟨_, rfl⟩
    obtain ⟨y, hy⟩ : ∃ y, b + d = y := ⟨_, rfl⟩
    have m3 : IntKind.i64.wrap (a + c) = x := by rw [IntKind.wrap_i64]; omega
    have m4 : IntKind.i64.wrap (b + d) = y := by rw [IntKind.wrap_i64]; omega
    have e1 : bothOk 1 a b c d = resOk x y := by rw [bothOk, h0, show a + 1 * c = x by omega, show b + 1 * d = y by omega]; rfl
    have e2 : bothV 1 a b c d = orV x y := by rw [bothV, orV, e1, show a + 1 * c = x by omega, show b + 1 * d = y by omega]
    obtain ⟨u, v, hv⟩ : ∃ u v, orV x y = rv u v := by unfold orV; split <;> exact ⟨_, _, rfl⟩
    obtain ⟨o, ho⟩ : ∃ o, resOk x y = o := ⟨_, rfl⟩
    have ho2 : ∀ wx, Calls Tryz.prog 77 #[rv x y] wx fun e w' => e = .returned (.tuple #[rv u v, .bool o]) ∧ Below wx.heap.size wx w' := fun wx => by have := or_any x y wx; rw [hv, ho] at this; exact this
    rw [e1, e2, hv, ho]
    have HO := hide ho2
    clear e1 e2 hv ho ho2 h0' q1 q2 q3 q4 q5 q6 q7 q8 hx hy
    go_enter Tryz.func30, Tryz.ntmps30
    go_wp2_with fail
    refine (unhide hc _).mono ?_
    rw [h0]
    rintro e w1 ⟨rfl, hb⟩
    have V1 := (unhide HV1).below hb
    have V2 := (unhide HV2).below hb
    have V3 := hide ((unhide HV3).below hb)
    have a1 := V1.c0
    have a2 := V1.c1
    have a3 := V2.c0
    have a4 := V2.c1
    have HB := hide (below_on (unhide HB3) hb)
    clear hb HV1 HV2 HV3 HB3 V1 V2 hc
    go_wp2_with fail
    refine (unhide HO _).mono ?_
    rintro e w2 ⟨rfl, hb⟩
    have V4 := (unhide V3).below hb
    have k0 := V4.c0
    have k1 := V4.c1
    have k2 := V4.f 0
    have k3 := V4.f 1
    have k4 := V4.s0 (.int .i64 u)
    have k5 := V4.s1 (.int .i64 u) (.int .i64 v)
    have HB2 := hide (below_on (unhide HB) hb)
    clear hb V4 V3 HB HO a1 a2 a3 a4
    go_wp2
    refine bodyPost_ret (v := .tuple #[rv u v, .bool o]) (by simp [results, Tryz.results30, go_sem, k4, k5]) rfl ⟨rfl, ?_⟩
    repeat (first | exact unhide HB2 | refine below_al ?_ _ | refine Below.drew ?_ | refine below_sc ?_ _ _ _ (by omega))
end Go.Proofs.YtcplnodfcchdhaaGreat

/-
  What amounts are together, by the program; a walk over the dump.
-/
namespace Go.Proofs.YtcplnodfcchdhaaGreat
open Go.RowKit
set_option linter.unusedVariables false
set_option maxRecDepth 100000 in
set_option maxHeartbeats 2000000 in
theorem together_any (ao : Option Addr) (len cap : Nat) (l : List (Int × Int)) (w : World) (h : RRow w ao len l) (hl : len ≤ 1048576) :
    Calls Tryz.prog 84 #[.slice ao len cap] w fun e w' => e = .returned (.tuple #[rv (sumR l).1 (sumR l).2.1, .bool (sumR l).2.2]) ∧ Below w.heap.size w w' := by
  have HR := hide h
  have HL := hide h.1
  obtain ⟨⟨sx, sy, so⟩, hs⟩ : ∃ s, sumR l = s := ⟨_, rfl⟩
  have HS := hide (show sumFrom l 0 0 = (sx, sy, so) from hs)
  rw [hs]
  clear h hs
  go_enter Tryz.func84, Tryz.ntmps84
  go_wp2
  go_loopw [12] (fun i wr => ∃ (k : Nat) (x y : Int), k ≤ len ∧ i = .int .i64 k ∧ Hid (sumFrom (l.drop k) x y = (sx, sy, so)) ∧ Hid (Var wr 33 w.heap.size 0 0) ∧ Hid (Var wr 33 (w.heap.size + 1) x y) ∧ Hid (Below w.heap.size w wr)) (fun i _ => len - (intOf i).toNat)
  case atStart => exact ⟨0, 0, 0, Nat.zero_le _, rfl, hide (by simpa using unhide HS), hide ((var_new w _ _ _).al _), hide (var_new2 w _ _ 0 0 0 0), hide (below_al (below_al (Below.refl _ _) _) _)⟩
  case round =>
    obtain ⟨k, x, y, hk, rfl, HQ, HV0, HV1, HB⟩ := hrel
    by_cases hlt : k < len
    · obtain ⟨b, off, rfl, hq⟩ := ((unhide HR).below (unhide HB)).at hlt
      have hkl : k < l.length := by have := unhide HL; omega
      have hst := sumFrom_step hkl x y
      obtain ⟨c0, c1⟩ := hq hkl
      obtain ⟨⟨a, d⟩, hs⟩ : ∃ q, l[k] = q := ⟨_, rfl⟩
      rw [hs] at c0 c1 hst
      simp only at c0 c1 hst
      have HST := hide hst
      have s0 := (unhide HV1).c0
      have s1 := (unhide HV1).c1
      have hsz := (unhide HV1).lt
      have hl2 := World.cell?_alloc_lt wr (.cells #[.int .i64 a, .int .i64 d] 33) ⟨w.heap.size + 1, 0, none⟩ hsz
      have hl3 := World.cell?_alloc_lt wr (.cells #[.int .i64 a, .int .i64 d] 33) ⟨w.heap.size + 1, 1, none⟩ hsz
      rw [s0] at hl2
      rw [s1] at hl3
      clear hq hs hkl hst
      have CA := hide (fun wx => implAdd_any x y a d wx)
      have HA := hide (below_al (Below.refl _ wr) (.cells #[.int .i64 a, .int .i64 d] 33))
      cases ho : bothOk 1 x y a d with
      | true =>
        rw [both_yes ho, ho] at CA
        rw [if_pos ho] at HST
        clear ho
        go_wp2_with fail
        refine (unhide CA _).mono ?_
        rintro e w1 ⟨rfl, hb⟩
        have W0 := hide (((unhide HV0).below (unhide HA)).below hb)
        have W1 := hide (((unhide HV1).below (unhide HA)).below hb)
        have HB1 := hide (below_on (below_on (unhide HB) (unhide HA)) hb)
        have hsz1 := (unhide W1).lt
        have t0 := (unhide W1).c0
        have t1 := (unhide W1).c1
        have f0 := (unhide W1).f 0
        have f1 := (unhide W1).f 1
        have g0 := World.cell?_alloc_lt w1 (.cells #[.int .i64 (x + 1 * a), .int .i64 (y + 1 * d)] 33) ⟨w.heap.size + 1, 0, none⟩ hsz1
        have g1 := World.cell?_alloc_lt w1 (.cells #[.int .i64 (x + 1 * a), .int .i64 (y + 1 * d)] 33) ⟨w.heap.size + 1, 1, none⟩ hsz1
        rw [t0] at g0
        rw [t1] at g1
        clear hb CA HA c0 c1 s0 s1 hl2 hl3 HV0 HV1 HB
        obtain ⟨x', hx'⟩ : ∃ x', x + 1 * a = x' := ⟨_, rfl⟩
        obtain ⟨y', hy'⟩ : ∃ y', y + 1 * d = y' := ⟨_, rfl⟩
        rw [hx', hy'] at HST g0 g1
        rw [hx', hy']
        clear hx' hy'
        have h2 := (unhide W1).al (.cells #[.int .i64 x', .int .i64 y'] 33)
        have ff0 := h2.f 0
        have ff1 := h2.f 1
        have W2 := hide h2
        clear h2
        go_wp2
        go_roundw
        case rel => exact ⟨k + 1, x', y', by omega, by go_num, hide (by rw [← unhide HST]; exact unhide HQ), hide ((((unhide W0).other _ _ _ (show w.heap.size ≠ w.heap.size + 1 by omega)).other _ _ _ (show w.heap.size ≠ w.heap.size + 1 by omega)).al _), hide (((unhide W1).set _ _).al _), hide (below_al (below_sc (below_sc (unhide HB1) _ _ _ (show w.heap.size ≤ w.heap.size + 1 by omega)) _ _ _ (show w.heap.size ≤ w.heap.size + 1 by omega)) _)⟩
        case measure => simp [intOf]; omega
      | false =>
        rw [both_no ho, ho] at CA
        rw [if_neg (by rw [ho]; simp)] at HST
        have hres := (unhide HST).symm.trans (unhide HQ)
        simp only [Prod.mk.injEq] at hres
        obtain ⟨rfl, rfl, rfl⟩ := hres
        clear ho HST HS
        go_wp2_with fail
        refine (unhide CA _).mono ?_
        rintro e w1 ⟨rfl, hb⟩
        have W0 := hide ((((unhide HV0).below (unhide HA)).below hb).al (.cells #[.int .i64 0, .int .i64 0] 33))
        have HB1 := hide (below_al (below_on (below_on (unhide HB) (unhide HA)) hb) (.cells #[.int .i64 0, .int .i64 0] 33))
        clear hb CA HA c0 c1 s0 s1 hl2 hl3 HV0 HV1 HB
        have t0 := (unhide W0).c0
        have t1 := (unhide W0).c1
        have f0 := (unhide W0).f 0
        have f1 := (unhide W0).f 1
        have k4 := (unhide W0).s0 (.int .i64 0)
        have k5 := (unhide W0).s1 (.int .i64 0) (.int .i64 0)
        go_wp2
        refine bodyPost_ret (v := .tuple #[rv 0 0, .bool false]) (by simp [results, Tryz.results84, go_sem, k4, k5]) rfl ⟨rfl, ?_⟩
        repeat (first | exact unhide HB1 | refine below_sc ?_ _ _ _ (by omega))
    · have hres : (x, y, true) = (sx, sy, so) := by rw [← unhide HQ, sumFrom_end (by have := unhide HL; omega)]
      simp only [Prod.mk.injEq] at hres
      obtain ⟨rfl, rfl, rfl⟩ := hres
      have s0 := (unhide HV1).c0
      have s1 := (unhide HV1).c1
      have t0 := (unhide HV0).c0
      have t1 := (unhide HV0).c1
      have f0 := (unhide HV0).f 0
      have f1 := (unhide HV0).f 1
      have k4 := (unhide HV0).s0 (.int .i64 x)
      have k5 := (unhide HV0).s1 (.int .i64 x) (.int .i64 y)
      go_wp2
      refine bodyPost_ret (v := .tuple #[rv x y, .bool true]) (by simp [results, Tryz.results84, go_sem, k4, k5]) rfl ⟨rfl, ?_⟩
      repeat (first | exact unhide HB | refine below_sc ?_ _ _ _ (by omega))
end Go.Proofs.YtcplnodfcchdhaaGreat

/-
  What all machines can together, by the program: Total; walks over the dump.
-/
namespace Go.Proofs.YtcplnodfcchdhaaGreat
open Go.RowKit
set_option linter.unusedVariables false
set_option maxRecDepth 100000 in
set_option maxHeartbeats 2000000 in
theorem caps_any (x : Sls) (s : St) (w : World) (h : MacRow w x.ma x.ml s.ms) (hl : x.ml ≤ 1048576) :
    Calls Tryz.prog 70 #[sv x s] w fun e w' => e = .returned (.tuple #[rv (sumR (capsOf s.ms)).1 (sumR (capsOf s.ms)).2.1, .bool (sumR (capsOf s.ms)).2.2]) ∧ Below w.heap.size w w' := by
  obtain ⟨i0, hi, hz0, hz1, hz2⟩ := info_parts Tryz.infoR
  obtain ⟨qa, ql, qc, aa, al, ac, ma, ml, mc, ca, cl, cc⟩ := x
  obtain ⟨qs, clock, epoch, next, serial, apps, ms, cs⟩ := s
  simp only at h hl ⊢
  have HR := hide h
  have HL := hide h.1
  obtain ⟨c, hc⟩ : ∃ c : Array Value, #[.slice qa ql qc, .int .i64 clock, .int .i64 epoch, .int .i64 next, .int .i64 serial, .slice aa al ac, .slice ma ml mc, .slice ca cl cc] = c := ⟨_, rfl⟩
  have HC := hide hc
  have HB0 := hide (capW_below w c)
  have V0 := hide (capW_var w c)
  have hW := capW_size w c
  have HW := hide hW
  clear h hc hW
  obtain ⟨⟨sx, sy, so⟩, hs⟩ : ∃ s, sumR (capsOf ms) = s := ⟨_, rfl⟩
  have HS := hide hs
  rw [hs]
  clear hs
  go_enter Tryz.func70, Tryz.ntmps70
  go_wp2
  go_loopw [4, 10] (fun v i wr => ∃ (k : Nat), k ≤ ml ∧ i = .int .i64 k ∧ Hid (ROwn (capW w c).heap.size wr v (capsOf (ms.take k))) ∧ Hid (Below (capW w c).heap.size (capW w c) wr)) (fun _ i _ => ml - (intOf i).toNat)
  case atStart =>
    obtain rfl := unhide HC
    exact ⟨0, Nat.zero_le _, rfl, hide (by simpa [capsOf] using rown_nil _ _), hide (Below.refl _ _)⟩
  case round =>
    obtain ⟨k, hk, rfl, HO, HB⟩ := hrel
    by_cases hlt : k < ml
    · obtain ⟨b, off, rfl, hq⟩ := (((unhide HR).below (unhide HB0)).below (unhide HB)).at hlt
      have hkl : k < ms.length := by have := unhide HL; omega
      have hst := hide (capsOf_step hkl)
      obtain ⟨c0, c1, c2, c3⟩ := hq hkl
      obtain ⟨m, hs⟩ : ∃ q, ms[k] = q := ⟨_, rfl⟩
      rw [hs] at c0 c1 c2 c3 hst
      have hal : (capsOf (ms.take k)).length ≤ 1048576 := by simp [capsOf]; omega
      obtain ⟨acc, hacc⟩ : ∃ a, capsOf (ms.take k) = a := ⟨_, rfl⟩
      rw [hacc] at hst hal HO
      obtain ⟨nm, me, cp, se⟩ := m
      simp only at c0 c1 c2 c3 hst
      have HB2 := hide (below_al (unhide HB) (macobj ⟨nm, me, cp, se⟩))
      have HO2 := hide ((unhide HO).below (below_al (Below.refl _ wr) (macobj ⟨nm, me, cp, se⟩)))
      have hs2 : (capW w c).heap.size ≤ (wr.alloc (macobj ⟨nm, me, cp, se⟩)).heap.size := (unhide HB2).size
      have hown : (wr.alloc (macobj ⟨nm, me, cp, se⟩)).ownsRow (capW w c).heap.size 33 2 _ acc.length (rcells acc) := unhide HO2
      clear hq hs hkl hacc HO HB
      go_wp2_with (at_builtin; refine wpList_append_own _ rfl _ _ 85 rfl (capW w c).heap.size 33 i0 (.agg #[.int .i64 0, .int .i64 0]) 2 16 Tryz.underlying85 hi hz0 hz1 hz2 rfl (by decide) _ _ _ rfl (hown.alloc _) ⟨wr.heap.size + 1, 0, none⟩ 1 1 (rcell (me, cp)) rfl rfl ?c1 ?c2 ?c3 ?c4 ?c5 ?_)
      case c1 =>
        intro j x hj
        match j, hj with
        | 0, hj => simp at hj; subst hj; simp [Addr.add]
        | 1, hj => simp at hj; subst hj; simp [Addr.add]
        | _ + 2, hj => simp at hj
      case c2 => intro x hx; simp at hx; rcases hx with rfl | rfl <;> rfl
      case c3 => unfold maxLen; omega
      case c4 => omega
      case c5 => simp at hs2 ⊢; omega
      intro v' w3 hown' hgrow _
      have R := rown_step (q := (me, cp)) (unhide HB2) (unhide HO2) hown' hgrow hs2
      have HR3 := hide R
      clear hown' hgrow hown c0 c1 c2 c3 R
      go_wp2
      go_roundw
      case rel => exact ⟨k + 1, by omega, by go_num, hide (by rw [unhide hst]; exact (unhide HR3).1), hide (unhide HR3).2⟩
      case measure => simp [intOf]; omega
    · have htk : ms.take k = ms := List.take_of_length_le (by have := unhide HL; omega)
      rw [htk] at HO
      obtain ⟨ao, cp, rfl, hrow, hcp⟩ := (unhide HO).row
      have hlc : (capsOf ms).length ≤ 1048576 := by have := unhide HL; simp [capsOf]; omega
      have CT := hide (together_any ao _ cp (capsOf ms) wr hrow hlc)
      rw [unhide HS] at CT
      obtain ⟨n, hn⟩ : ∃ n, (capsOf ms).length = n := ⟨_, rfl⟩
      rw [hn] at CT ⊢
      clear hrow hn htk hcp hlc HO
      go_wp2_with fail
      refine (unhide CT).mono ?_
      rintro e w1 ⟨rfl, hb⟩
      have hsz : w.heap.size + 1 < (capW w c).heap.size := by have := unhide HW; omega
      have V1 : Var w1 33 (w.heap.size + 1) 0 0 := Var.below ((unhide HB).block _ hsz |>.trans (unhide V0)) hb
      have HB1 := hide (below_on (below_on (unhide HB0) (unhide HB)) hb)
      have t0 := V1.c0
      have t1 := V1.c1
      have f0 := V1.f 0
      have f1 := V1.f 1
      have k4 := V1.s0 (.int .i64 sx)
      have k5 := V1.s1 (.int .i64 sx) (.int .i64 sy)
      clear hb V1 CT HB HB0
      go_wp2
      refine bodyPost_ret (v := .tuple #[rv sx sy, .bool so]) (by simp [results, Tryz.results70, go_sem, k4, k5]) rfl ⟨rfl, ?_⟩
      repeat (first | exact unhide HB1 | refine below_sc ?_ _ _ _ (by omega))
end Go.Proofs.YtcplnodfcchdhaaGreat
