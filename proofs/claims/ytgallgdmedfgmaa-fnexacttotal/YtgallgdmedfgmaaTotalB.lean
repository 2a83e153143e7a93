/-
  What all machines can together: the two sides in one form.
-/
import Derived.Test.YtgallgdmedfgmaaCapsI
import Derived.Test.YtgallgdmedfgmaaCapsS
import Derived.Test.YtgallgdmedfgmaaStAll
namespace Go.Proofs.Ytgallgdmedfgmaa
open Go.RowKit
def totalV (s : St) : Int × Int := ((sumR (capsOf s.ms)).1, (sumR (capsOf s.ms)).2.1)
theorem SRow.ml {w : World} {x : Sls} {s : St} (h : SRow w x s) (hf : FitSt s) : x.ml ≤ 1048576 := by have := h.len.2.2.1; have := hf.2.2.1.1; omega
theorem SRow.al {w : World} {x : Sls} {s : St} (h : SRow w x s) (hf : FitSt s) : x.al ≤ 1048576 := by have := h.len.2.1; have := hf.2.1.1; omega
theorem SRow.ql {w : World} {x : Sls} {s : St} (h : SRow w x s) (hf : FitSt s) : x.ql ≤ 1048576 := by have := h.len.1; have := hf.1.1; omega
end Go.Proofs.Ytgallgdmedfgmaa
