/-
  How many go into an amount: what the program's Times answers; walks over the dump.
-/
import Derived.Test.YtoejklldpceghaaDoorTimesS
import Derived.Test.YtoejklldpceghaaDoorPairI
import Derived.Deep.RegionHeld3
namespace Go.Proofs.YtoejklldpceghaaDoor
open Go.RowKit
set_option linter.unusedVariables false

theorem goIn_min {a b c d : Int} (hn : goIn 1000 a c ≤ 1000) : goIn (goIn 1000 a c) b d = min (goIn 1000 a c) (goIn 1000 b d) := by
  generalize goIn 1000 a c = n at *
  unfold goIn
  split <;> split <;> omega
theorem goIn_top (a c : Int) : goIn 1000 a c ≤ 1000 := by unfold goIn; split <;> omega
theorem goIn_low {a c : Int} (ha : 0 ≤ a) (hc : 0 ≤ c) : 0 ≤ goIn 1000 a c := by
  unfold goIn; split
  · exact Int.ediv_nonneg ha hc
  · omega
set_option maxRecDepth 100000 in
set_option maxHeartbeats 1000000 in
theorem timesOf_any (a c : Int) (w : World) (ha : 0 ≤ a) (ha1 : a ≤ 1000000000) (hc : 0 ≤ c) (hc1 : c ≤ 1000000000) :
    Calls Tryd.prog 38 #[.int .i64 a, .int .i64 c] w fun e w' => e = .returned (.int .i64 (goIn 1000 a c)) ∧ w = w' := by
  by_cases h : c = 0
  · rw [goIn_no (n := 1000) (fun h' => by omega)]
    go_enter Tryd.func38, Tryd.ntmps38
    go_wp2
    go_ret
    exact ⟨rfl, rfl⟩
  · have d1 := Int.ediv_nonneg ha hc
    have d3 : a / c ≤ a := Int.ediv_le_self _ ha
    by_cases c2 : a / c < 1000
    · rw [goIn_yes (n := 1000) ⟨by omega, c2⟩]
      go_enter Tryd.func38, Tryd.ntmps38
      go_wp2
      go_ret
      exact ⟨rfl, rfl⟩
    · rw [goIn_no (n := 1000) (fun h => c2 h.2)]
      go_enter Tryd.func38, Tryd.ntmps38
      go_wp2
      all_goals
        go_ret
        exact ⟨ret_int (by omega), rfl⟩
/-- both amounts that came in stand, boxed; nothing of w0 has turned -/
def Two (w0 : World) (a b c d : Int) (wx : World) : Prop := Var wx 25 w0.heap.size a b ∧ Var wx 25 (w0.heap.size + 1) c d ∧ Below w0.heap.size w0 wx
theorem Two.call {w0 w1 w2 : World} {a b c d : Int} (h : Two w0 a b c d w1) (hb : Below w1.heap.size w1 w2) : Two w0 a b c d w2 := ⟨h.1.below hb, h.2.1.below hb, below_on h.2.2 hb⟩
theorem Two.drew {w0 w1 : World} {a b c d : Int} (h : Two w0 a b c d w1) : Two w0 a b c d w1.drew := h.call (Below.refl _ _).drew
theorem Two.read (w0 : World) (a b c d : Int) : ∀ wx, Two w0 a b c d wx → wx.cell? ⟨w0.heap.size, 0, none⟩ = some (.int .i64 a) ∧ wx.cell? ⟨w0.heap.size, 1, none⟩ = some (.int .i64 b) ∧ wx.cell? ⟨w0.heap.size + 1, 0, none⟩ = some (.int .i64 c) ∧ wx.cell? ⟨w0.heap.size + 1, 1, none⟩ = some (.int .i64 d) := fun wx h => ⟨h.1.c0, h.1.c1, h.2.1.c0, h.2.1.c1⟩
set_option maxRecDepth 100000 in
set_option maxHeartbeats 1000000 in
theorem implTimes_any (a b c d : Int) (w : World) :
    Calls Tryd.prog 18 #[rv a b, rv c d] w fun e w' => e = .returned (.int .i64 (times a b c d)) ∧ Below w.heap.size w w' := by
  have HV1 := hide ((var_new w 25 a b).al (.cells #[.int .i64 c, .int .i64 d] 25))
  have HV2 := hide (var_new2 w 25 25 a b c d)
  have HB0 := hide (below_al (below_al (Below.refl _ w) (.cells #[.int .i64 a, .int .i64 b] 25)) (.cells #[.int .i64 c, .int .i64 d] 25))
  have hc := hide (pairOk_any a b c d)
  cases h0 : resOk a b && resOk c d
  · rw [show times a b c d = -1 by rw [times, h0]; rfl]
    go_enter Tryd.func18, Tryd.ntmps18
    go_wp2_with fail
    refine (unhide hc _).mono ?_
    rw [h0]
    rintro e w1 ⟨rfl, hb⟩
    have HB := hide (below_on (unhide HB0) hb)
    clear hb HV1 HV2 HB0 hc
    go_wp2
    go_ret
    exact ⟨rfl, unhide HB⟩
  · have h0' := h0
    simp only [Bool.and_eq_true] at h0'
    obtain ⟨q1, q2, q3, q4⟩ := resOk_bd h0'.1
    obtain ⟨q5, q6, q7, q8⟩ := resOk_bd h0'.2
    rw [show times a b c d = goIn (goIn 1000 a c) b d by rw [times, h0]; rfl, goIn_min (goIn_top a c)]
    have t1 := hide (fun wx => timesOf_any a c wx q1 q2 q5 q6)
    have t2 := hide (fun wx => timesOf_any b d wx q3 q4 q7 q8)
    have n1 := goIn_low q1 q5
    have n2 := goIn_low q3 q7
    have n3 := goIn_top a c
    have n4 := goIn_top b d
    obtain ⟨x, hx⟩ : ∃ x, goIn 1000 a c = x := ⟨_, rfl⟩
    obtain ⟨y, hy⟩ : ∃ y, goIn 1000 b d = y := ⟨_, rfl⟩
    rw [hx] at t1 n1 n3 ⊢
    rw [hy] at t2 n2 n4 ⊢
    clear hx hy h0' q1 q2 q3 q4 q5 q6 q7 q8
    go_enter Tryd.func18, Tryd.ntmps18
    go_wp2_with fail
    refine (unhide hc _).mono ?_
    rw [h0]
    rintro e w1 ⟨rfl, hb⟩
    have A0 := hide (show Two w a b c d w1 from ⟨(unhide HV1).below hb, (unhide HV2).below hb, below_on (unhide HB0) hb⟩)
    have R := Two.read w a b c d
    have hmin : ∀ wx : World, (Builtin.min_ #[3, 3] 3 #[.int .i64 x, .int .i64 y]).run Tryd.prog wx = .ok (.int .i64 (min x y)) wx := fun wx => by
      have : (if y < x then y else x) = min x y := by omega
      rw [← this]; simp [go_sem]
    clear hb HV1 HV2 HB0 hc
    go_wp2_with fail
    go_region_held3 (fun wx => Two w a b c d wx)
      (first | (with_reducible assumption) | exact (unhide A0).drew | exact Two.call (by assumption) (by assumption))
      (first
      | (go_at_call_of 38 a; refine (unhide t1 _).mono ?_; rintro e wt ⟨rfl, rfl⟩)
      | (go_at_call_of 38 b; refine (unhide t2 _).mono ?_; rintro e wt ⟨rfl, rfl⟩))
    have HB := hide (Two.drew (unhide A0)).2.2
    go_wp2
    go_ret
    exact ⟨rfl, unhide HB⟩
end Go.Proofs.YtoejklldpceghaaDoor
