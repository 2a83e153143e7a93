/-
  One amount within another: in plain words.
-/
import Derived.Test.YtdkgmfogeabaoaaGreatPackA
namespace Go.Proofs.YtdkgmfogeabaoaaGreat
def within (a b c d : Int) : Bool := resOk a b && resOk c d && decide (a ≤ c) && decide (b ≤ d)
end Go.Proofs.YtdkgmfogeabaoaaGreat
