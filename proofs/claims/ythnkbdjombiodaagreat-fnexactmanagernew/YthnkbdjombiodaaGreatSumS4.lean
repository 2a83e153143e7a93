/-
  What amounts are together, by the model; a walk over the dump.
-/
import Derived.Test.YthnkbdjombiodaaGreatPackD
import Derived.Test.YthnkbdjombiodaaGreatAddS
import Derived.Deep.RegionHeld3
import Derived.Deep.CutRange
namespace Go.Proofs.YthnkbdjombiodaaGreat
open Go.RowKit
set_option linter.unusedVariables false

/-- the sum so far and the next amount stand; so does the result -/
def SumHeld (w0 : World) (b p : Nat) (r : Int × Int) (x y : Int) (w : World) : Prop := RAt w b p r ∧ Var w 71 (w0.heap.size + 1) x y ∧ Var w 71 w0.heap.size 0 0 ∧ Below w0.heap.size w0 w
theorem SumHeld.call {w0 w w' : World} {b p : Nat} {r : Int × Int} {x y : Int} (h : SumHeld w0 b p r x y w) (hb : Below w.heap.size w w') : SumHeld w0 b p r x y w' := ⟨h.1.below hb, h.2.1.below hb, h.2.2.1.below hb, below_on h.2.2.2 hb⟩
theorem SumHeld.drew {w0 w : World} {b p : Nat} {r : Int × Int} {x y : Int} (h : SumHeld w0 b p r x y w) : SumHeld w0 b p r x y w.drew := h.call (Below.refl _ _).drew
theorem SumHeld.al {w0 w : World} {b p : Nat} {r : Int × Int} {x y : Int} (h : SumHeld w0 b p r x y w) (o : Obj) : SumHeld w0 b p r x y (w.alloc o) := h.call (below_al (Below.refl _ _) o)
theorem SumHeld.set {w0 w : World} {b p : Nat} {r : Int × Int} {x y : Int} (h : SumHeld w0 b p r x y w) (k j : Nat) (v : Value) (h1 : w0.heap.size + 1 < k) (h2 : b ≠ k) : SumHeld w0 b p r x y (w.setCell ⟨k, j, none⟩ v) := by
  have hc : ∀ q, (w.setCell ⟨k, j, none⟩ v).cell? ⟨b, q, none⟩ = w.cell? ⟨b, q, none⟩ := fun q => by unfold World.cell?; rw [heap_setCell_other w ⟨k, j, none⟩ b v h2]
  exact ⟨⟨(hc _).trans h.1.1, (hc _).trans h.1.2⟩, h.2.1.other _ _ _ (by omega), h.2.2.1.other _ _ _ (by omega), below_sc h.2.2.2 _ _ _ (by omega)⟩
theorem SumHeld.read (w0 : World) (b p : Nat) (r : Int × Int) (x y : Int) : ∀ wx, SumHeld w0 b p r x y wx → wx.cell? ⟨b, p, none⟩ = some (.int .i64 r.1) ∧ wx.cell? ⟨b, p + 1, none⟩ = some (.int .i64 r.2) ∧ wx.cell? ⟨w0.heap.size + 1, 0, none⟩ = some (.int .i64 x) ∧ wx.cell? ⟨w0.heap.size + 1, 1, none⟩ = some (.int .i64 y) :=
  fun wx h => ⟨h.1.1, h.1.2, h.2.1.c0, h.2.1.c1⟩

set_option maxRecDepth 100000 in
set_option maxHeartbeats 4000000 in
theorem l04Sum_any (ao : Option Addr) (len cap : Nat) (l : List (Int × Int)) (w : World) (h : RRow w ao len l) (hl : len ≤ 1048576) :
    Calls Tryz.prog 66 #[.slice ao len cap] w fun e w' => e = .returned (.tuple #[rv (sumR l).1 (sumR l).2.1, .bool (sumR l).2.2]) ∧ Below w.heap.size w w' := by
  have HR := hide h
  have HL := hide h.1
  obtain ⟨⟨sx, sy, so⟩, hs⟩ : ∃ s, sumR l = s := ⟨_, rfl⟩
  have HS := hide (show sumFrom l 0 0 = (sx, sy, so) from hs)
  rw [hs]
  clear h hs
  go_enter Tryz.func66, Tryz.ntmps66
  go_wp2
  go_loopw [5] (fun i wr => ∃ (k : Nat) (x y : Int), k ≤ len ∧ i = .int .i64 k ∧ Hid (sumFrom (l.drop k) x y = (sx, sy, so)) ∧ Hid (Var wr 71 w.heap.size 0 0) ∧ Hid (Var wr 71 (w.heap.size + 1) x y) ∧ Hid (Below w.heap.size w wr)) (fun i _ => len - (intOf i).toNat)
  case atStart => exact ⟨0, 0, 0, Nat.zero_le _, rfl, hide (by simpa using unhide HS), hide ((var_new w _ _ _).al _), hide (var_new2 w _ _ 0 0 0 0), hide (below_al (below_al (Below.refl _ _) _) _)⟩
  case round =>
    obtain ⟨k, x, y, hk, rfl, HQ, HV0, HV1, HB⟩ := hrel
    by_cases hlt : k < len
    · obtain ⟨b, off, rfl, hq⟩ := ((unhide HR).below (unhide HB)).at hlt
      have hkl : k < l.length := by have := unhide HL; omega
      have hst := sumFrom_step hkl x y
      have A0 := hide (show SumHeld w b (off + k * 2) l[k] x y wr from ⟨hq hkl, unhide HV1, unhide HV0, unhide HB⟩)
      obtain ⟨⟨a, d⟩, hs⟩ : ∃ q, l[k] = q := ⟨_, rfl⟩
      rw [hs] at A0 hst
      simp only at hst
      have HST := hide hst
      have R := SumHeld.read w b (off + k * 2) (a, d) x y
      simp only at R
      have k0 : (0 : Int) ≤ k := by omega
      have k1 : (k : Int) < len := by omega
      clear hq hs hkl hst HV0 HV1 HB
      have CA := hide (fun wx => specAdd_any x y a d wx)
      obtain ⟨x', y', ok, hv⟩ : ∃ x' y' ok, bothV 1 x y a d = rv x' y' ∧ bothOk 1 x y a d = ok := by
        cases ho : bothOk 1 x y a d
        · exact ⟨0, 0, _, both_no ho, rfl⟩
        · exact ⟨_, _, _, both_yes ho, rfl⟩
      have HVV := hide hv
      rw [hv.1, hv.2] at CA
      clear hv
      have sz1 := (unhide A0).2.1.lt
      have sb1 := (unhide A0).1.lt
      go_wp2_with fail
      go_cut [6, 7] from 15 to 24 (fun v6 v7 wx => ∃ g, v6 = .pointer (some ⟨g, 0, none⟩) ∧ v7 = .bool ok ∧ SumHeld w b (off + k * 2) (a, d) x y wx ∧ Var wx 71 g x' y' ∧ w.heap.size + 1 < g)
      case first =>
        go_region_held3 (fun wx => SumHeld w b (off + k * 2) (a, d) x y wx)
          (first | (with_reducible assumption) | exact unhide SA | exact (unhide A0).drew | exact SumHeld.al (unhide SA) _ | exact SumHeld.al (by assumption) _ | exact SumHeld.al (unhide A0).drew _ | exact SumHeld.call (by assumption) (by assumption) | exact SumHeld.set (SumHeld.set (unhide SA) _ _ _ (by first | omega | (simp <;> omega)) (by first | omega | (simp <;> omega))) _ _ _ (by first | omega | (simp <;> omega)) (by first | omega | (simp <;> omega)) | exact SumHeld.set (SumHeld.set (by assumption) _ _ _ (by first | omega | (simp <;> omega)) (by first | omega | (simp <;> omega))) _ _ _ (by first | omega | (simp <;> omega)) (by first | omega | (simp <;> omega)))
          (first
          | (go_at_call 87; refine (unhide CA _).mono ?_; rintro e wt ⟨rfl, hb⟩; have SA := hide (SumHeld.call (w0 := w) (b := b) (p := off + k * 2) (r := (a, d)) (x := x) (y := y) (by assumption) hb); have sz := (unhide SA).2.1.lt; have sb := (unhide SA).1.lt
             first
               | (have V5 := (var_new _ 71 0 0).below hb; (try simp at V5); have c50 := V5.c0; have c51 := V5.c1; have f50 := V5.f 0; have f51 := V5.f 1; have V5 := hide V5)
               | (have V5 := (var_new _ 71 0 0).drew.below hb; (try simp at V5); have c50 := V5.c0; have c51 := V5.c1; have f50 := V5.f 0; have f51 := V5.f 1; have V5 := hide V5)
               | skip))
        all_goals
          go_wp2_with fail
          go_meet
          exact ⟨_, rfl, rfl, by first | assumption | exact unhide SA | exact SumHeld.al (unhide SA) _, by first | exact var_new _ _ _ _ | exact (unhide V5).set _ _, by first | omega | (simp <;> omega)⟩
      case rest =>
        obtain ⟨g, rfl, rfl, hA, hV, hg⟩ := hcut
        have A1 := hide hA
        have W1 := hide hV
        clear hA hV A0 CA R
        have v0 := (unhide W1).c0
        have v1 := (unhide W1).c1
        have s0 := (unhide A1).2.1.c0
        have s1 := (unhide A1).2.1.c1
        have sf0 := (unhide A1).2.1.f 0
        have sf1 := (unhide A1).2.1.f 1
        have t0 := (unhide A1).2.2.1.c0
        have t1 := (unhide A1).2.2.1.c1
        have tf0 := (unhide A1).2.2.1.f 0
        have tf1 := (unhide A1).2.2.1.f 1
        cases ok with
        | true =>
          have hxy := both_yes (unhide HVV).2
          rw [(unhide HVV).1] at hxy
          simp only [rv, Value.agg.injEq, Array.mk.injEq, List.cons.injEq, Value.int.injEq, and_true, true_and] at hxy
          rw [if_pos (unhide HVV).2, ← hxy.1, ← hxy.2] at HST
          clear hxy HVV
          go_wp2
          go_roundw
          case rel => exact ⟨k + 1, x', y', by omega, by go_num, hide (by rw [← unhide HST]; exact unhide HQ), hide (((unhide A1).2.2.1.other _ _ _ (show w.heap.size ≠ w.heap.size + 1 by omega)).other _ _ _ (show w.heap.size ≠ w.heap.size + 1 by omega)), hide ((unhide A1).2.1.set _ _), hide (below_sc (below_sc (unhide A1).2.2.2 _ _ _ (show w.heap.size ≤ w.heap.size + 1 by omega)) _ _ _ (show w.heap.size ≤ w.heap.size + 1 by omega))⟩
          case measure => simp [intOf]; omega
        | false =>
          rw [if_neg (by rw [(unhide HVV).2]; simp)] at HST
          have hres := (unhide HST).symm.trans (unhide HQ)
          simp only [Prod.mk.injEq] at hres
          obtain ⟨rfl, rfl, rfl⟩ := hres
          have k4 := (unhide A1).2.2.1.s0 (.int .i64 0)
          have k5 := (unhide A1).2.2.1.s1 (.int .i64 0) (.int .i64 0)
          have HB1 := hide (unhide A1).2.2.2
          clear HST HS HVV
          go_wp2
          refine bodyPost_ret (v := .tuple #[rv 0 0, .bool false]) (by simp [results, Tryz.results66, go_sem, k4, k5]) rfl ⟨rfl, ?_⟩
          repeat (first | exact unhide HB1 | refine below_sc ?_ _ _ _ (by omega))
    · have hres : (x, y, true) = (sx, sy, so) := by rw [← unhide HQ, sumFrom_end (by have := unhide HL; omega)]
      simp only [Prod.mk.injEq] at hres
      obtain ⟨rfl, rfl, rfl⟩ := hres
      have s0 := (unhide HV1).c0
      have s1 := (unhide HV1).c1
      have t0 := (unhide HV0).c0
      have t1 := (unhide HV0).c1
      have f0 := (unhide HV0).f 0
      have f1 := (unhide HV0).f 1
      have k4 := (unhide HV0).s0 (.int .i64 x)
      have k5 := (unhide HV0).s1 (.int .i64 x) (.int .i64 y)
      go_wp2
      refine bodyPost_ret (v := .tuple #[rv x y, .bool true]) (by simp [results, Tryz.results66, go_sem, k4, k5]) rfl ⟨rfl, ?_⟩
      repeat (first | exact unhide HB | refine below_sc ?_ _ _ _ (by omega))
end Go.Proofs.YthnkbdjombiodaaGreat
