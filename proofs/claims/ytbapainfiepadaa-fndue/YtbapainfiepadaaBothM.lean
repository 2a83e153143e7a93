/-
  Two amounts together, or one less the other: in plain words.
-/
import Derived.Test.YtbapainfiepadaaResV
namespace Go.Proofs.Ytbapainfiepadaa
open Go.RowKit
/-- a and b together, or a less b -/
def bothOk (s a b c d : Int) : Bool := resOk a b && resOk c d && resOk (a + s * c) (b + s * d)
def bothV (s a b c d : Int) : Value := if bothOk s a b c d then rv (a + s * c) (b + s * d) else rv 0 0
theorem both_no {s a b c d : Int} (h : bothOk s a b c d = false) : bothV s a b c d = rv 0 0 := by simp [bothV, h]
theorem both_yes {s a b c d : Int} (h : bothOk s a b c d = true) : bothV s a b c d = rv (a + s * c) (b + s * d) := by simp [bothV, h]
end Go.Proofs.Ytbapainfiepadaa
