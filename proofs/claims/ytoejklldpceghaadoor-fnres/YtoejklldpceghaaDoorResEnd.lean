/-
  Two shares and that of both: what the program answers of them, in one place.
-/
import Derived.Test.YtoejklldpceghaaDoorResM
import Derived.Test.YtoejklldpceghaaDoorShareI
import Derived.Test.YtoejklldpceghaaDoorAddI
import Derived.Test.YtoejklldpceghaaDoorWithinI
namespace Go.Proofs.YtoejklldpceghaaDoor
open Go.RowKit
set_option linter.unusedVariables false

theorem share_end {t1 t2 n c h1 h2 : Int} (hs : shareOk t1 t2 n = true) (hn : 0 ≤ n ∧ n ≤ 10000) (hc0 : 0 ≤ c) (hc1 : c ≤ 255) (hh1 : shareM t1 t2 n = h1) (hh2 : shareC t1 t2 n = h2) :
    ∃ m m1 m2 r1 r2 q1 q2 : Int, c * (10000 - n) / 256 = m ∧ IntKind.i64.wrap (n + m) = n + m
      ∧ (∀ wx, Calls Tryd.prog 11 #[rv t1 t2, .int .i64 m] wx fun e w' => e = .returned (rv m1 m2) ∧ Below wx.heap.size wx w')
      ∧ (∀ wx, Calls Tryd.prog 11 #[rv t1 t2, .int .i64 (n + m)] wx fun e w' => e = .returned (rv r1 r2) ∧ Below wx.heap.size wx w')
      ∧ (∀ wx, Calls Tryd.prog 6 #[rv h1 h2, rv m1 m2] wx fun e w' => e = .returned (.tuple #[rv q1 q2, .bool true]) ∧ Below wx.heap.size wx w')
      ∧ (∀ wx, Calls Tryd.prog 16 #[rv h1 h2, rv t1 t2] wx fun e w' => e = .returned (.bool true) ∧ Below wx.heap.size wx w')
      ∧ (∀ wx, Calls Tryd.prog 16 #[rv q1 q2, rv r1 r2] wx fun e w' => e = .returned (.bool true) ∧ Below wx.heap.size wx w') := by
  subst hh1 hh2
  have hm1 : 0 ≤ c * (10000 - n) := Int.mul_nonneg hc0 (by omega)
  have hm2 : c * (10000 - n) ≤ 255 * (10000 - n) := Int.mul_le_mul_of_nonneg_right hc1 (by omega)
  have hm0 : 0 ≤ c * (10000 - n) / 256 := by omega
  have hms : n + c * (10000 - n) / 256 ≤ 10000 := by omega
  obtain ⟨g1, g2⟩ := share_both hs hm0 hms
  have g3 := (share_ok hs).2
  have g4 := both_yes g1
  refine ⟨c * (10000 - n) / 256, shareM t1 t2 (c * (10000 - n) / 256), shareC t1 t2 (c * (10000 - n) / 256), shareM t1 t2 (n + (c * (10000 - n) / 256)), shareC t1 t2 (n + (c * (10000 - n) / 256)), shareM t1 t2 n + 1 * shareM t1 t2 (c * (10000 - n) / 256), shareC t1 t2 n + 1 * shareC t1 t2 (c * (10000 - n) / 256), rfl, by rw [IntKind.wrap_i64]; omega, fun wx => implShare_any _ _ _ wx, fun wx => implShare_any _ _ _ wx, fun wx => ?_, fun wx => ?_, fun wx => ?_⟩
  · have := implAdd_any (shareM t1 t2 n) (shareC t1 t2 n) (shareM t1 t2 (c * (10000 - n) / 256)) (shareC t1 t2 (c * (10000 - n) / 256)) wx
    rw [g1, g4] at this
    exact this
  · have := implWithin_any (shareM t1 t2 n) (shareC t1 t2 n) t1 t2 wx
    rw [g3] at this
    exact this
  · have := implWithin_any (shareM t1 t2 n + 1 * shareM t1 t2 (c * (10000 - n) / 256)) (shareC t1 t2 n + 1 * shareC t1 t2 (c * (10000 - n) / 256)) (shareM t1 t2 (n + c * (10000 - n) / 256)) (shareC t1 t2 (n + c * (10000 - n) / 256)) wx
    rw [g2] at this
    exact this
end Go.Proofs.YtoejklldpceghaaDoor
