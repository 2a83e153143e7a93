/-
  The text of an amount: what the model's ResText answers; a walk over the dump.
-/
import Derived.Test.YtfhnjghjibklcaaDoorResV
import Derived.Test.YtfhnjghjibklcaaDoorDec
import Derived.Deep.RegionWith
namespace Go.Proofs.YtfhnjghjibklcaaDoor
open Go.RowKit
set_option linter.unusedVariables false

def resText (a b : Int) : ByteArray := bs (Lib.itoa a ++ 120 :: Lib.itoa b)
theorem resText_eq (a b : Int) : bs (Lib.itoa a) ++ ByteArray.mk #[120] ++ bs (Lib.itoa b) = resText a b := by
  unfold bs resText
  rw [ByteArray.mk_append_mk, ByteArray.mk_append_mk]
  simp [bs]
set_option maxRecDepth 100000 in
set_option maxHeartbeats 1000000 in
theorem specResText_any (a b : Int) (w : World) (ha0 : -9223372036854775808 ≤ a) (ha1 : a ≤ 9223372036854775807) (hb0 : -9223372036854775808 ≤ b) (hb1 : b ≤ 9223372036854775807) :
    Calls Tryd.prog 24 #[rv a b] w fun e w' => e = .returned (.string (resText a b)) ∧ Below w.heap.size w w' := by
  have l1 : (bs (Lib.itoa a)).size ≤ 21 := by rw [bs_size]; exact Lib.itoa_length_le a ha0 ha1
  have l2 : (bs (Lib.itoa b)).size ≤ 21 := by rw [bs_size]; exact Lib.itoa_length_le b hb0 hb1
  go_enter Tryd.func24, Tryd.ntmps24
  have e3 := resText_eq a b
  go_wp2_with fail
  go_region_with (first | (go_at_call_of 22 a; refine (specDecText_any a _ ha0 ha1).mono ?_; rintro e w1 ⟨rfl, rfl⟩) | (go_at_call_of 22 b; refine (specDecText_any b _ hb0 hb1).mono ?_; rintro e w1 ⟨rfl, rfl⟩))
  all_goals
    go_wp2
    go_ret
    refine ⟨rfl, ?_⟩
    repeat (first | exact Below.refl _ _ | refine below_al ?_ _ | refine Below.drew ?_ | refine below_sc ?_ _ _ _ (by omega))
end Go.Proofs.YtfhnjghjibklcaaDoor
