/-
  What is on a machine together: the two sides in one form.
-/
import Derived.Test.YtgallgdmedfgmabUsedOnI
import Derived.Test.YtgallgdmedfgmabUsedOnS
import Derived.Test.YtgallgdmedfgmabStAll
namespace Go.Proofs.Ytgallgdmedfgmab
open Go.RowKit
theorem SRow.cl {w : World} {x : Sls} {s : St} (h : SRow w x s) (hf : FitSt s) : x.cl ≤ 1048576 := by have := h.len.2.2.2; have := hf.2.2.2.1; omega
theorem specUsedOn_v (x : Sls) (s : St) (nd : List UInt8) (w : World) (h : ConRow w x.ca x.cl s.cs) (hl : x.cl ≤ 1048576) :
    Calls Try.prog 6 #[sv x s, .string (bs nd)] w fun e w' => e = .returned (rv (usedOnV s nd).1 (usedOnV s nd).2) ∧ Below w.heap.size w w' := specUsedOn_any x s nd w h hl
end Go.Proofs.Ytgallgdmedfgmab
