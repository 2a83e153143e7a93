/-
  The text of an amount: what the program's ResText answers; a walk over the dump.
-/
import Derived.Test.YthnkbdjombiodaaDoorResTextS
import Derived.Test.YthnkbdjombiodaaDoorTab
import Derived.Deep.RegionHeld3
namespace Go.Proofs.YthnkbdjombiodaaDoor
open Go.RowKit
set_option linter.unusedVariables false

set_option maxRecDepth 100000 in
set_option maxHeartbeats 2000000 in
theorem implResText_any (a b : Int) (w : World) (ha0 : -9223372036854775808 ≤ a) (ha1 : a ≤ 9223372036854775807) (hb0 : -9223372036854775808 ≤ b) (hb1 : b ≤ 9223372036854775807) (htab : Lib.TabIs Tryd.prog w "internal/strconv.uint64pow10" .u64 Lib.pow10Tab) :
    Calls Tryd.prog 68 #[rv a b] w fun e w' => e = .returned (.string (resText a b)) ∧ Below w.heap.size w w' := by
  have l1 : (bs (Lib.itoa a)).size ≤ 21 := by rw [bs_size]; exact Lib.itoa_length_le a ha0 ha1
  have l2 : (bs (Lib.itoa b)).size ≤ 21 := by rw [bs_size]; exact Lib.itoa_length_le b hb0 hb1
  have n1 : ¬ 9223372036854775807 < (bs (Lib.itoa a)).size + 1 := by omega
  have n2 : ¬ 9223372036854775807 < (bs (Lib.itoa a)).size + 1 + (bs (Lib.itoa b)).size := by omega
  have HT := hide htab
  have A0 := hide (Boxed.new w 31 a b)
  have R := Boxed.read w 31 a b
  have e3 := resText_eq a b
  clear htab
  go_enter Tryd.func68, Tryd.ntmps68
  go_wp2_with fail
  go_region_held3 (fun wx => Boxed w 31 a b wx)
    (first | assumption | exact (unhide A0).drew | exact Boxed.call (by assumption) (by assumption))
    (first
    | (go_at_call_of 20 a; refine (implDecText_any a _ ha0 ha1 (tab_on (unhide HT) (Boxed.bel (w0 := w) (t := 31) (a := a) (b := b) (by assumption)))).mono ?_; rintro e wt ⟨rfl, hb⟩; have SA := Boxed.call (w0 := w) (t := 31) (a := a) (b := b) (by assumption) hb)
    | (go_at_call_of 20 b; refine (implDecText_any b _ hb0 hb1 (tab_on (unhide HT) (Boxed.bel (w0 := w) (t := 31) (a := a) (b := b) (by assumption)))).mono ?_; rintro e wt ⟨rfl, hb⟩; have SA := Boxed.call (w0 := w) (t := 31) (a := a) (b := b) (by assumption) hb))
  have HB := hide SA.2
  go_wp2
  go_ret
  exact ⟨rfl, unhide HB⟩
end Go.Proofs.YthnkbdjombiodaaDoor
