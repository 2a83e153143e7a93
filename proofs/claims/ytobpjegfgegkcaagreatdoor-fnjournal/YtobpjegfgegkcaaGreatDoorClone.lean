/-
  What strings.Clone answers: the same text.
-/
import Derived.Test.YtobpjegfgegkcaaGreatDoorRows
import Derived.Test.YtobpjegfgegkcaaGreatDoorShelf
import Derived.WalkKit
namespace Go.Proofs.YtobpjegfgegkcaaGreatDoor
open Go.RowKit
set_option maxHeartbeats 400000 in
theorem clone_any (s : ByteArray) (w : World) (hs : s.size ≤ 281474976710656) :
    Calls Tryz.prog 37 #[.string s] w fun e w' => e = .returned (.string s) ∧ Below w.heap.size w w' := by
  go_enter Tryz.func37, Tryz.ntmps37
  go_wp2_with fail
  refine (Tryz.stringslite_Clone s _ hs).mono ?_
  rintro e w1 ⟨rfl, hb⟩
  have HB : Hid (Below w.heap.size w w1) := hb
  clear hb
  go_wp2
  go_ret
  exact ⟨rfl, HB⟩
end Go.Proofs.YtobpjegfgegkcaaGreatDoor
