/-
  What is free on a machine: in plain words; where the model looks for a machine; a walk over the dump.
-/
import Derived.Test.YtgallgdmedfgmaaMKey
import Derived.Test.YtgallgdmedfgmaaUsedOnI
import Derived.Test.YtgallgdmedfgmaaMacAt
namespace Go.Proofs.Ytgallgdmedfgmaa
open Go.RowKit Go.Maps
set_option linter.unusedVariables false

def lessV (a b c d : Int) : Int × Int := if bothOk (-1) a b c d then (a + -1 * c, b + -1 * d) else (0, 0)
theorem less_both (a b c d : Int) : bothV (-1) a b c d = rv (lessV a b c d).1 (lessV a b c d).2 := by
  cases h : bothOk (-1) a b c d
  · rw [both_no h, lessV, h]; rfl
  · rw [both_yes h, lessV, h]; rfl
def freeOnV (s : St) (nm : List UInt8) : Int × Int := match findM nm s.ms with
  | none => (0, 0)
  | some m => lessV m.mem m.cpu (usedOnV s nm).1 (usedOnV s nm).2
end Go.Proofs.Ytgallgdmedfgmaa
