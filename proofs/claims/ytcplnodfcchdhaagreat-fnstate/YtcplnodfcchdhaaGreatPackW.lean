/-
  Several texts of this claim in one: WithM, WithinS, AddS, SumS4, OnS, CapS (pack.py put them together); each says in its own remark what is proved.
-/
import Derived.Test.YtcplnodfcchdhaaGreatPackA
import Derived.Test.YtcplnodfcchdhaaGreatPackK
import Derived.Test.YtcplnodfcchdhaaGreatPackL
import Derived.Deep.RegionHeld3
import Derived.Deep.CutRange
import Derived.Test.YtcplnodfcchdhaaGreatPackG
import Derived.Test.YtcplnodfcchdhaaGreatStAll
/-
  One amount within another: in plain words.
-/
namespace Go.Proofs.YtcplnodfcchdhaaGreat
def within (a b c d : Int) : Bool := resOk a b && resOk c d && decide (a ≤ c) && decide (b ≤ d)
end Go.Proofs.YtcplnodfcchdhaaGreat

/-
  Whether one amount is within another: what the model's Within answers; a walk over the dump.
-/
namespace Go.Proofs.YtcplnodfcchdhaaGreat
open Go.RowKit
set_option linter.unusedVariables false
set_option maxRecDepth 100000 in
set_option maxHeartbeats 1000000 in
theorem specWithin_any (a b c d : Int) (w : World) :
    Calls Tryz.prog 59 #[rv a b, rv c d] w fun e w' => e = .returned (.bool (within a b c d)) ∧ Below w.heap.size w w' := by
  cases h1 : resOk a b
  · rw [show within a b c d = false by simp [within, h1]]
    go_enter Tryz.func59, Tryz.ntmps59
    go_wp2_with (go_at_call 100; refine (specResOk_any _ _ _).mono ?_; rintro e w' ⟨rfl, rfl⟩)
    go_ret
    refine ⟨rfl, ?_⟩
    repeat (first | exact Below.refl _ _ | refine below_al ?_ _ | refine Below.drew ?_ | refine below_sc ?_ _ _ _ (by omega))
  · cases h2 : resOk c d
    · rw [show within a b c d = false by simp [within, h2]]
      go_enter Tryz.func59, Tryz.ntmps59
      go_wp2_with (go_at_call 100; refine (specResOk_any _ _ _).mono ?_; rintro e w' ⟨rfl, rfl⟩)
      go_ret
      refine ⟨rfl, ?_⟩
      repeat (first | exact Below.refl _ _ | refine below_al ?_ _ | refine Below.drew ?_ | refine below_sc ?_ _ _ _ (by omega))
    · by_cases h3 : a ≤ c
      · by_cases h4 : b ≤ d
        · rw [show within a b c d = true by simp [within, h1, h2, h3, h4]]
          go_enter Tryz.func59, Tryz.ntmps59
          go_wp2_with (go_at_call 100; refine (specResOk_any _ _ _).mono ?_; rintro e w' ⟨rfl, rfl⟩)
          go_ret
          refine ⟨rfl, ?_⟩
          repeat (first | exact Below.refl _ _ | refine below_al ?_ _ | refine Below.drew ?_ | refine below_sc ?_ _ _ _ (by omega))
        · rw [show within a b c d = false by simp [within, h4]]
          go_enter Tryz.func59, Tryz.ntmps59
          go_wp2_with (go_at_call 100; refine (specResOk_any _ _ _).mono ?_; rintro e w' ⟨rfl, rfl⟩)
          go_ret
          refine ⟨ret_bool (decide_eq_false (by omega)), ?_⟩
          repeat (first | exact Below.refl _ _ | refine below_al ?_ _ | refine Below.drew ?_ | refine below_sc ?_ _ _ _ (by omega))
      · rw [show within a b c d = false by simp [within, h3]]
        go_enter Tryz.func59, Tryz.ntmps59
        go_wp2_with (go_at_call 100; refine (specResOk_any _ _ _).mono ?_; rintro e w' ⟨rfl, rfl⟩)
        go_ret
        refine ⟨rfl, ?_⟩
        repeat (first | exact Below.refl _ _ | refine below_al ?_ _ | refine Below.drew ?_ | refine below_sc ?_ _ _ _ (by omega))
end Go.Proofs.YtcplnodfcchdhaaGreat

/-
  What the model's Add answers; a walk over the dump.
-/
namespace Go.Proofs.YtcplnodfcchdhaaGreat
open Go.RowKit
set_option linter.unusedVariables false
set_option maxRecDepth 100000 in
set_option maxHeartbeats 1000000 in
theorem specAdd_any (a b c d : Int) (w : World) :
    Calls Tryz.prog 58 #[rv a b, rv c d] w fun e w' => e = .returned (.tuple #[bothV 1 a b c d, .bool (bothOk 1 a b c d)]) ∧ Below w.heap.size w w' := by
  have hv : ∃ x y, bothV 1 a b c d = rv x y := by unfold bothV; split <;> exact ⟨_, _, rfl⟩
  obtain ⟨x, y, hv⟩ := hv
  have hc := l02Both_any a b c d 1 ((w.alloc (.cells #[.int .i64 a, .int .i64 b] 33)).alloc (.cells #[.int .i64 c, .int .i64 d] 33) |>.alloc (.cells #[.int .i64 0, .int .i64 0] 33)) (by decide)
  rw [hv] at hc ⊢
  go_enter Tryz.func58, Tryz.ntmps58
  go_wp2_with fail
  refine hc.mono ?_
  rintro e w1 ⟨rfl, hb⟩
  have hk : Var w1 33 (w.heap.size + 1 + 1) 0 0 := Var.below (by simpa using var_new ((w.alloc (.cells #[.int .i64 a, .int .i64 b] 33)).alloc (.cells #[.int .i64 c, .int .i64 d] 33)) 33 0 0) hb
  have k0 := hk.c0
  have k1 := hk.c1
  have k2 := hk.f 0
  have k3 := hk.f 1
  have k4 := hk.s0 (.int .i64 x)
  have k5 := hk.s1 (.int .i64 x) (.int .i64 y)
  have HB := hide (below_on (below_al (below_al (below_al (Below.refl _ _) _) _) _) hb)
  clear hb hc hk
  go_wp2
  refine bodyPost_ret (v := .tuple #[rv x y, .bool (bothOk 1 a b c d)]) (by simp [results, Tryz.results58, go_sem, k4, k5]) rfl ⟨rfl, ?_⟩
  repeat (first | exact unhide HB | refine below_al ?_ _ | refine below_sc ?_ _ _ _ (by omega))
end Go.Proofs.YtcplnodfcchdhaaGreat

/-
  What amounts are together, by the model; a walk over the dump.
-/
namespace Go.Proofs.YtcplnodfcchdhaaGreat
open Go.RowKit
set_option linter.unusedVariables false
/-- the sum so far and the next amount stand; so does the result -/
def SumHeld (w0 : World) (b p : Nat) (r : Int × Int) (x y : Int) (w : World) : Prop := RAt w b p r ∧ Var w 33 (w0.heap.size + 1) x y ∧ Var w 33 w0.heap.size 0 0 ∧ Below w0.heap.size w0 w
theorem SumHeld.call {w0 w w' : World} {b p : Nat} {r : Int × Int} {x y : Int} (h : SumHeld w0 b p r x y w) (hb : Below w.heap.size w w') : SumHeld w0 b p r x y w' := ⟨h.1.below hb, h.2.1.below hb, h.2.2.1.below hb, below_on h.2.2.2 hb⟩
theorem SumHeld.drew {w0 w : World} {b p : Nat} {r : Int × Int} {x y : Int} (h : SumHeld w0 b p r x y w) : SumHeld w0 b p r x y w.drew := h.call (Below.refl _ _).drew
theorem SumHeld.al {w0 w : World} {b p : Nat} {r : Int × Int} {x y : Int} (h : SumHeld w0 b p r x y w) (o : Obj) : SumHeld w0 b p r x y (w.alloc o) := h.call (below_al (Below.refl _ _) o)
theorem SumHeld.set {w0 w : World} {b p : Nat} {r : Int × Int} {x y : Int} (h : SumHeld w0 b p r x y w) (k j : Nat) (v : Value) (h1 : w0.heap.size + 1 < k) (h2 : b ≠ k) : SumHeld w0 b p r x y (w.setCell ⟨k, j, none⟩ v) := by
  have hc : ∀ q, (w.setCell ⟨k, j, none⟩ v).cell? ⟨b, q, none⟩ = w.cell? ⟨b, q, none⟩ := fun q => by unfold World.cell?; rw [heap_setCell_other w ⟨k, j, none⟩ b v h2]
  exact ⟨⟨(hc _).trans h.1.1, (hc _).trans h.1.2⟩, h.2.1.other _ _ _ (by omega), h.2.2.1.other _ _ _ (by omega), below_sc h.2.2.2 _ _ _ (by omega)⟩
theorem SumHeld.read (w0 : World) (b p : Nat) (r : Int × Int) (x y : Int) : ∀ wx, SumHeld w0 b p r x y wx → wx.cell? ⟨b, p, none⟩ = some (.int .i64 r.1) ∧ wx.cell? ⟨b, p + 1, none⟩ = some (.int .i64 r.2) ∧ wx.cell? ⟨w0.heap.size + 1, 0, none⟩ = some (.int .i64 x) ∧ wx.cell? ⟨w0.heap.size + 1, 1, none⟩ = some (.int .i64 y) :=
  fun wx h => ⟨h.1.1, h.1.2, h.2.1.c0, h.2.1.c1⟩

set_option maxRecDepth 100000 in
set_option maxHeartbeats 4000000 in
theorem l04Sum_any (ao : Option Addr) (len cap : Nat) (l : List (Int × Int)) (w : World) (h : RRow w ao len l) (hl : len ≤ 1048576) :
    Calls Tryz.prog 49 #[.slice ao len cap] w fun e w' => e = .returned (.tuple #[rv (sumR l).1 (sumR l).2.1, .bool (sumR l).2.2]) ∧ Below w.heap.size w w' := by
  have HR := hide h
  have HL := hide h.1
  obtain ⟨⟨sx, sy, so⟩, hs⟩ : ∃ s, sumR l = s := ⟨_, rfl⟩
  have HS := hide (show sumFrom l 0 0 = (sx, sy, so) from hs)
  rw [hs]
  clear h hs
  go_enter Tryz.func49, Tryz.ntmps49
  go_wp2
  go_loopw [5] (fun i wr => ∃ (k : Nat) (x y : Int), k ≤ len ∧ i = .int .i64 k ∧ Hid (sumFrom (l.drop k) x y = (sx, sy, so)) ∧ Hid (Var wr 33 w.heap.size 0 0) ∧ Hid (Var wr 33 (w.heap.size + 1) x y) ∧ Hid (Below w.heap.size w wr)) (fun i _ => len - (intOf i).toNat)
  case atStart => exact ⟨0, 0, 0, Nat.zero_le _, rfl, hide (by simpa using unhide HS), hide ((var_new w _ _ _).al _), hide (var_new2 w _ _ 0 0 0 0), hide (below_al (below_al (Below.refl _ _) _) _)⟩
  case round =>
    obtain ⟨k, x, y, hk, rfl, HQ, HV0, HV1, HB⟩ := hrel
    by_cases hlt : k < len
    · obtain ⟨b, off, rfl, hq⟩ := ((unhide HR).below (unhide HB)).at hlt
      have hkl : k < l.length := by have := unhide HL; omega
      have hst := sumFrom_step hkl x y
      have A0 := hide (show SumHeld w b (off + k * 2) l[k] x y wr from ⟨hq hkl, unhide HV1, unhide HV0, unhide HB⟩)
      obtain ⟨⟨a, d⟩, hs⟩ : ∃ q, l[k] = q := ⟨_, rfl⟩
      rw [hs] at A0 hst
      simp only at hst
      have HST := hide hst
      have R := SumHeld.read w b (off + k * 2) (a, d) x y
      simp only at R
      have k0 : (0 : Int) ≤ k := by omega
      have k1 : (k : Int) < len := by omega
      clear hq hs hkl hst HV0 HV1 HB
      have CA := hide (fun wx => specAdd_any x y a d wx)
      obtain ⟨x', y', ok, hv⟩ : ∃ x' y' ok, bothV 1 x y a d = rv x' y' ∧ bothOk 1 x y a d = ok := by
        cases ho : bothOk 1 x y a d
        · exact ⟨0, 0, _, both_no ho, rfl⟩
        · exact ⟨_, _, _, both_yes ho, rfl⟩
      have HVV := hide hv
      rw [hv.1, hv.2] at CA
      clear hv
      have sz1 := (unhide A0).2.1.lt
      have sb1 := (unhide A0).1.lt
      go_wp2_with fail
      go_cut [6, 7] from 15 to 24 (fun v6 v7 wx => ∃ g, v6 = .pointer (some ⟨g, 0, none⟩) ∧ v7 = .bool ok ∧ SumHeld w b (off + k * 2) (a, d) x y wx ∧ Var wx 33 g x' y' ∧ w.heap.size + 1 < g)
      case first =>
        go_region_held3 (fun wx => SumHeld w b (off + k * 2) (a, d) x y wx)
          (first | (with_reducible assumption) | exact unhide SA | exact (unhide A0).drew | exact SumHeld.al (unhide SA) _ | exact SumHeld.al (by assumption) _ | exact SumHeld.al (unhide A0).drew _ | exact SumHeld.call (by assumption) (by assumption) | exact SumHeld.set (SumHeld.set (unhide SA) _ _ _ (by first | omega | (simp <;> omega)) (by first | omega | (simp <;> omega))) _ _ _ (by first | omega | (simp <;> omega)) (by first | omega | (simp <;> omega)) | exact SumHeld.set (SumHeld.set (by assumption) _ _ _ (by first | omega | (simp <;> omega)) (by first | omega | (simp <;> omega))) _ _ _ (by first | omega | (simp <;> omega)) (by first | omega | (simp <;> omega)))
          (first
          | (go_at_call 58; refine (unhide CA _).mono ?_; rintro e wt ⟨rfl, hb⟩; have SA := hide (SumHeld.call (w0 := w) (b := b) (p := off + k * 2) (r := (a, d)) (x := x) (y := y) (by assumption) hb); have sz := (unhide SA).2.1.lt; have sb := (unhide SA).1.lt
             first
               | (have V5 := (var_new _ 33 0 0).below hb; (try simp at V5); have c50 := V5.c0; have c51 := V5.c1; have f50 := V5.f 0; have f51 := V5.f 1; have V5 := hide V5)
               | (have V5 := (var_new _ 33 0 0).drew.below hb; (try simp at V5); have c50 := V5.c0; have c51 := V5.c1; have f50 := V5.f 0; have f51 := V5.f 1; have V5 := hide V5)
               | skip))
        all_goals
          go_wp2_with fail
          go_meet
          exact ⟨_, rfl, rfl, by first | assumption | exact unhide SA | exact SumHeld.al (unhide SA) _, by first | exact var_new _ _ _ _ | exact (unhide V5).set _ _, by first | omega | (simp <;> omega)⟩
      case rest =>
        obtain ⟨g, rfl, rfl, hA, hV, hg⟩ := hcut
        have A1 := hide hA
        have W1 := hide hV
        clear hA hV A0 CA R
        have v0 := (unhide W1).c0
        have v1 := (unhide W1).c1
        have s0 := (unhide A1).2.1.c0
        have s1 := (unhide A1).2.1.c1
        have sf0 := (unhide A1).2.1.f 0
        have sf1 := (unhide A1).2.1.f 1
        have t0 := (unhide A1).2.2.1.c0
        have t1 := (unhide A1).2.2.1.c1
        have tf0 := (unhide A1).2.2.1.f 0
        have tf1 := (unhide A1).2.2.1.f 1
        cases ok with
        | true =>
          have hxy := both_yes (unhide HVV).2
          rw [(unhide HVV).1] at hxy
          simp only [rv, Value.agg.injEq, Array.mk.injEq, List.cons.injEq, Value.int.injEq, and_true, true_and] at hxy
          rw [if_pos (unhide HVV).2, ← hxy.1, ← hxy.2] at HST
          clear hxy HVV
          go_wp2
          go_roundw
          case rel => exact ⟨k + 1, x', y', by omega, by go_num, hide (by rw [← unhide HST]; exact unhide HQ), hide (((unhide A1).2.2.1.other _ _ _ (show w.heap.size ≠ w.heap.size + 1 by omega)).other _ _ _ (show w.heap.size ≠ w.heap.size + 1 by omega)), hide ((unhide A1).2.1.set _ _), hide (below_sc (below_sc (unhide A1).2.2.2 _ _ _ (show w.heap.size ≤ w.heap.size + 1 by omega)) _ _ _ (show w.heap.size ≤ w.heap.size + 1 by omega))⟩
          case measure => simp [intOf]; omega
        | false =>
          rw [if_neg (by rw [(unhide HVV).2]; simp)] at HST
          have hres := (unhide HST).symm.trans (unhide HQ)
          simp only [Prod.mk.injEq] at hres
          obtain ⟨rfl, rfl, rfl⟩ := hres
          have k4 := (unhide A1).2.2.1.s0 (.int .i64 0)
          have k5 := (unhide A1).2.2.1.s1 (.int .i64 0) (.int .i64 0)
          have HB1 := hide (unhide A1).2.2.2
          clear HST HS HVV
          go_wp2
          refine bodyPost_ret (v := .tuple #[rv 0 0, .bool false]) (by simp [results, Tryz.results49, go_sem, k4, k5]) rfl ⟨rfl, ?_⟩
          repeat (first | exact unhide HB1 | refine below_sc ?_ _ _ _ (by omega))
    · have hres : (x, y, true) = (sx, sy, so) := by rw [← unhide HQ, sumFrom_end (by have := unhide HL; omega)]
      simp only [Prod.mk.injEq] at hres
      obtain ⟨rfl, rfl, rfl⟩ := hres
      have s0 := (unhide HV1).c0
      have s1 := (unhide HV1).c1
      have t0 := (unhide HV0).c0
      have t1 := (unhide HV0).c1
      have f0 := (unhide HV0).f 0
      have f1 := (unhide HV0).f 1
      have k4 := (unhide HV0).s0 (.int .i64 x)
      have k5 := (unhide HV0).s1 (.int .i64 x) (.int .i64 y)
      go_wp2
      refine bodyPost_ret (v := .tuple #[rv x y, .bool true]) (by simp [results, Tryz.results49, go_sem, k4, k5]) rfl ⟨rfl, ?_⟩
      repeat (first | exact unhide HB | refine below_sc ?_ _ _ _ (by omega))
end Go.Proofs.YtcplnodfcchdhaaGreat

/-
  What is on a machine, by the model: l04On; a walk over the dump.
-/
namespace Go.Proofs.YtcplnodfcchdhaaGreat
open Go.RowKit
set_option linter.unusedVariables false
set_option maxRecDepth 100000 in
set_option maxHeartbeats 2000000 in
theorem l04On_any (x : Sls) (s : St) (nd : List UInt8) (w : World) (h : ConRow w x.ca x.cl s.cs) (hl : x.cl ≤ 1048576) :
    Calls Tryz.prog 50 #[sv x s, .string (bs nd)] w fun e w' => ∃ v, e = .returned v ∧ ROwn w.heap.size w' v (usedL (fun q => decide (q.node = nd)) s.cs) ∧ Below w.heap.size w w' := by
  obtain ⟨i0, hi, hz0, hz1, hz2⟩ := info_parts Tryz.infoR
  obtain ⟨qa, ql, qc, aa, al, ac, ma, ml, mc, ca, cl, cc⟩ := x
  obtain ⟨qs, clock, epoch, next, serial, apps, ms, cs⟩ := s
  simp only at h hl ⊢
  have HR := hide h
  have HL := hide h.1
  have HB0 := hide (boxW_below w #[.slice qa ql qc, .int .i64 clock, .int .i64 epoch, .int .i64 next, .int .i64 serial, .slice aa al ac, .slice ma ml mc, .slice ca cl cc])
  have P0 := hide (boxW_blk w #[.slice qa ql qc, .int .i64 clock, .int .i64 epoch, .int .i64 next, .int .i64 serial, .slice aa al ac, .slice ma ml mc, .slice ca cl cc])
  have HW := hide (boxW_size w #[.slice qa ql qc, .int .i64 clock, .int .i64 epoch, .int .i64 next, .int .i64 serial, .slice aa al ac, .slice ma ml mc, .slice ca cl cc])
  have HO0 := hide (rown_empty (boxW w #[.slice qa ql qc, .int .i64 clock, .int .i64 epoch, .int .i64 next, .int .i64 serial, .slice aa al ac, .slice ma ml mc, .slice ca cl cc]))
  obtain ⟨c, hc⟩ : ∃ c : Array Value, #[.slice qa ql qc, .int .i64 clock, .int .i64 epoch, .int .i64 next, .int .i64 serial, .slice aa al ac, .slice ma ml mc, .slice ca cl cc] = c := ⟨_, rfl⟩
  rw [hc] at HB0 HW HO0
  have P0 := hide (show Blk (boxW w c) w.heap.size #[.slice qa ql qc, .int .i64 clock, .int .i64 epoch, .int .i64 next, .int .i64 serial, .slice aa al ac, .slice ma ml mc, .slice ca cl cc] 29 by rw [hc]; exact boxW_blk w c)
  have HC := hide hc
  clear h hc
  go_enter Tryz.func50, Tryz.ntmps50
  go_wp2
  go_loopw [5, 6] (fun v i wr => ∃ (k : Nat), k ≤ cl ∧ i = .int .i64 k ∧ Hid (ROwn (boxW w c).heap.size wr v (usedL (fun q => decide (q.node = nd)) (cs.take k))) ∧ Hid (Below (boxW w c).heap.size (boxW w c) wr)) (fun _ i _ => cl - (intOf i).toNat)
  case atStart =>
    obtain rfl := unhide HC
    have h1 := unhide HW
    refine ⟨0, Nat.zero_le _, rfl, hide ?_, hide (below_al (Below.refl _ _) _)⟩
    have := unhide HO0
    rw [h1] at this
    rw [h1]
    exact this
  case round =>
    obtain ⟨k, hk, rfl, HO, HB⟩ := hrel
    have hn1 : w.heap.size < (boxW w c).heap.size := by have := unhide HW; omega
    have p7 := Blk.at (show Blk wr w.heap.size _ 29 from ((unhide HB).block _ hn1).trans (unhide P0)) 7
    simp at p7
    by_cases hlt : k < cl
    · obtain ⟨b, off, rfl, hq⟩ := (((unhide HR).below (unhide HB0)).below (unhide HB)).at hlt
      have hkl : k < cs.length := by have := unhide HL; omega
      have hst := usedL_step (p := fun q => decide (q.node = nd)) hkl
      obtain ⟨c0, c1, c2, c3, c4⟩ := hq hkl
      obtain ⟨m, hs⟩ : ∃ q, cs[k] = q := ⟨_, rfl⟩
      rw [hs] at c0 c1 c2 c3 c4 hst
      have hal : (usedL (fun q => decide (q.node = nd)) (cs.take k)).length ≤ 1048576 := by have : (usedL (fun q : Con => decide (q.node = nd)) (cs.take k)).length ≤ (cs.take k).length := (by simp only [usedL, List.length_map]; exact List.length_filter_le _ _); simp at this; omega
      obtain ⟨acc, hacc⟩ : ∃ a, usedL (fun q => decide (q.node = nd)) (cs.take k) = a := ⟨_, rfl⟩
      rw [hacc] at hst hal HO
      obtain ⟨id, ap, no, me, cp⟩ := m
      simp only at c0 c1 c2 c3 c4 hst
      have hs2 : (boxW w c).heap.size ≤ wr.heap.size := (unhide HB).size
      have hown : wr.ownsRow (boxW w c).heap.size 33 2 _ acc.length (rcells acc) := unhide HO
      have hbe := bs_eq no nd
      clear hq hs hkl hacc
      by_cases hnd : no = nd
      · rw [decide_eq_true hnd] at hbe hst
        have HST := hide (show usedL (fun q => decide (q.node = nd)) (cs.take (k + 1)) = acc ++ [(me, cp)] by have := hst; rw [if_pos rfl] at this; exact this)
        clear hst hnd
        go_wp2_with (at_builtin; refine wpList_append_own _ rfl _ _ 85 rfl (boxW w c).heap.size 33 i0 (.agg #[.int .i64 0, .int .i64 0]) 2 16 Tryz.underlying85 hi hz0 hz1 hz2 rfl (by decide) _ _ _ rfl (hown.alloc _) ⟨wr.heap.size, 0, none⟩ 1 1 (rcell (me, cp)) rfl rfl ?c1 ?c2 ?c3 ?c4 ?c5 ?_)
        case c1 =>
          intro j x hj
          match j, hj with
          | 0, hj => simp at hj; subst hj; simp [Addr.add]
          | 1, hj => simp at hj; subst hj; simp [Addr.add]
          | _ + 2, hj => simp at hj
        case c2 => intro x hx; simp at hx; rcases hx with rfl | rfl <;> rfl
        case c3 => unfold maxLen; omega
        case c4 => omega
        case c5 => simp at hs2 ⊢; omega
        intro v' w3 hown' hgrow _
        have R := rown_step (q := (me, cp)) (unhide HB) (unhide HO) hown' hgrow hs2
        have HR3 := hide R
        clear hown' hgrow hown c0 c1 c2 c3 c4 R p7
        go_wp2
        go_roundw
        case rel => exact ⟨k + 1, by omega, by go_num, hide (by rw [unhide HST]; exact (unhide HR3).1), hide (unhide HR3).2⟩
        case measure => simp [intOf]; omega
      · rw [decide_eq_false hnd] at hbe hst
        have HST := hide (show usedL (fun q => decide (q.node = nd)) (cs.take (k + 1)) = acc by have := hst; rw [if_neg (by simp)] at this; exact this)
        clear hst hnd hown
        go_wp2
        go_roundw
        case rel => exact ⟨k + 1, by omega, by go_num, hide (by rw [unhide HST]; exact unhide HO), HB⟩
        case measure => simp [intOf]; omega
    · have htk : cs.take k = cs := List.take_of_length_le (by have := unhide HL; omega)
      rw [htk] at HO
      go_wp2
      go_ret
      exact ⟨_, rfl, (unhide HO).base (by omega), below_on (unhide HB0) (unhide HB)⟩

end Go.Proofs.YtcplnodfcchdhaaGreat

/-
  What the machines can, by the model: l04Caps; a walk over the dump.
-/
namespace Go.Proofs.YtcplnodfcchdhaaGreat
open Go.RowKit
set_option linter.unusedVariables false
set_option maxRecDepth 100000 in
set_option maxHeartbeats 2000000 in
theorem l04Caps_any (x : Sls) (s : St) (w : World) (h : MacRow w x.ma x.ml s.ms) (hl : x.ml ≤ 1048576) :
    Calls Tryz.prog 71 #[sv x s] w fun e w' => ∃ v, e = .returned v ∧ ROwn w.heap.size w' v (capsOf s.ms) ∧ Below w.heap.size w w' := by
  obtain ⟨i0, hi, hz0, hz1, hz2⟩ := info_parts Tryz.infoR
  obtain ⟨qa, ql, qc, aa, al, ac, ma, ml, mc, ca, cl, cc⟩ := x
  obtain ⟨qs, clock, epoch, next, serial, apps, ms, cs⟩ := s
  simp only at h hl ⊢
  have HR := hide h
  have HL := hide h.1
  have HB0 := hide (boxW_below w #[.slice qa ql qc, .int .i64 clock, .int .i64 epoch, .int .i64 next, .int .i64 serial, .slice aa al ac, .slice ma ml mc, .slice ca cl cc])
  have P0 := hide (boxW_blk w #[.slice qa ql qc, .int .i64 clock, .int .i64 epoch, .int .i64 next, .int .i64 serial, .slice aa al ac, .slice ma ml mc, .slice ca cl cc])
  have HW := hide (boxW_size w #[.slice qa ql qc, .int .i64 clock, .int .i64 epoch, .int .i64 next, .int .i64 serial, .slice aa al ac, .slice ma ml mc, .slice ca cl cc])
  have HO0 := hide (rown_empty (boxW w #[.slice qa ql qc, .int .i64 clock, .int .i64 epoch, .int .i64 next, .int .i64 serial, .slice aa al ac, .slice ma ml mc, .slice ca cl cc]))
  obtain ⟨c, hc⟩ : ∃ c : Array Value, #[.slice qa ql qc, .int .i64 clock, .int .i64 epoch, .int .i64 next, .int .i64 serial, .slice aa al ac, .slice ma ml mc, .slice ca cl cc] = c := ⟨_, rfl⟩
  rw [hc] at HB0 HW HO0
  have P0 := hide (show Blk (boxW w c) w.heap.size #[.slice qa ql qc, .int .i64 clock, .int .i64 epoch, .int .i64 next, .int .i64 serial, .slice aa al ac, .slice ma ml mc, .slice ca cl cc] 29 by rw [hc]; exact boxW_blk w c)
  have HC := hide hc
  clear h hc
  go_enter Tryz.func71, Tryz.ntmps71
  go_wp2
  go_loopw [3, 4] (fun v i wr => ∃ (k : Nat), k ≤ ml ∧ i = .int .i64 k ∧ Hid (ROwn (boxW w c).heap.size wr v (capsOf (ms.take k))) ∧ Hid (Below (boxW w c).heap.size (boxW w c) wr)) (fun _ i _ => ml - (intOf i).toNat)
  case atStart =>
    obtain rfl := unhide HC
    have h1 := unhide HW
    refine ⟨0, Nat.zero_le _, rfl, hide ?_, hide (below_al (Below.refl _ _) _)⟩
    have := unhide HO0
    rw [h1] at this
    rw [h1]
    exact this
  case round =>
    obtain ⟨k, hk, rfl, HO, HB⟩ := hrel
    have hn1 : w.heap.size < (boxW w c).heap.size := by have := unhide HW; omega
    have p6 := Blk.at (show Blk wr w.heap.size _ 29 from ((unhide HB).block _ hn1).trans (unhide P0)) 6
    simp at p6
    by_cases hlt : k < ml
    · obtain ⟨b, off, rfl, hq⟩ := (((unhide HR).below (unhide HB0)).below (unhide HB)).at hlt
      have hkl : k < ms.length := by have := unhide HL; omega
      have hst := hide (capsOf_step hkl)
      obtain ⟨c0, c1, c2, c3⟩ := hq hkl
      obtain ⟨m, hs⟩ : ∃ q, ms[k] = q := ⟨_, rfl⟩
      rw [hs] at c0 c1 c2 c3 hst
      have hal : (capsOf (ms.take k)).length ≤ 1048576 := by simp [capsOf]; omega
      obtain ⟨acc, hacc⟩ : ∃ a, capsOf (ms.take k) = a := ⟨_, rfl⟩
      rw [hacc] at hst hal HO
      obtain ⟨nm, me, cp, se⟩ := m
      simp only at c0 c1 c2 c3 hst
      have hs2 : (boxW w c).heap.size ≤ wr.heap.size := (unhide HB).size
      have hown : wr.ownsRow (boxW w c).heap.size 33 2 _ acc.length (rcells acc) := unhide HO
      clear hq hs hkl hacc
      go_wp2_with (at_builtin; refine wpList_append_own _ rfl _ _ 85 rfl (boxW w c).heap.size 33 i0 (.agg #[.int .i64 0, .int .i64 0]) 2 16 Tryz.underlying85 hi hz0 hz1 hz2 rfl (by decide) _ _ _ rfl (hown.alloc _) ⟨wr.heap.size, 0, none⟩ 1 1 (rcell (me, cp)) rfl rfl ?c1 ?c2 ?c3 ?c4 ?c5 ?_)
      case c1 =>
        intro j x hj
        match j, hj with
        | 0, hj => simp at hj; subst hj; simp [Addr.add]
        | 1, hj => simp at hj; subst hj; simp [Addr.add]
        | _ + 2, hj => simp at hj
      case c2 => intro x hx; simp at hx; rcases hx with rfl | rfl <;> rfl
      case c3 => unfold maxLen; omega
      case c4 => omega
      case c5 => simp at hs2 ⊢; omega
      intro v' w3 hown' hgrow _
      have R := rown_step (q := (me, cp)) (unhide HB) (unhide HO) hown' hgrow hs2
      have HR3 := hide R
      clear hown' hgrow hown c0 c1 c2 c3 R p6
      go_wp2
      go_roundw
      case rel => exact ⟨k + 1, by omega, by go_num, hide (by rw [unhide hst]; exact (unhide HR3).1), hide (unhide HR3).2⟩
      case measure => simp [intOf]; omega
    · have htk : ms.take k = ms := List.take_of_length_le (by have := unhide HL; omega)
      rw [htk] at HO
      go_wp2
      go_ret
      exact ⟨_, rfl, (unhide HO).base (by omega), below_on (unhide HB0) (unhide HB)⟩

end Go.Proofs.YtcplnodfcchdhaaGreat
