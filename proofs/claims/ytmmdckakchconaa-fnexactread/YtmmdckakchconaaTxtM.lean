/-
  Texts as lists of bytes.
-/
import Derived.Test.YtmmdckakchconaaBase
namespace Go.Proofs.Ytmmdckakchconaa
set_option linter.unusedVariables false
theorem bs_empty (l : List UInt8) : (bs l).toList.isEmpty = decide (l = []) := by
  rw [ByteArray.toList_eq]
  cases l <;> simp [bs]
end Go.Proofs.Ytmmdckakchconaa
