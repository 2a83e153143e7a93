/-
  One amount within another: in plain words.
-/
import Derived.Test.YthnkbdjombiodaaGreatPackA
namespace Go.Proofs.YthnkbdjombiodaaGreat
def within (a b c d : Int) : Bool := resOk a b && resOk c d && decide (a ≤ c) && decide (b ≤ d)
end Go.Proofs.YthnkbdjombiodaaGreat
