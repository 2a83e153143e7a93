/-
  Texts as lists of bytes.
-/
import Derived.Test.YtfhnjghjibklcaaDoorBase
namespace Go.Proofs.YtfhnjghjibklcaaDoor
set_option linter.unusedVariables false

theorem bs_back (s : ByteArray) : bs s.data.toList = s := by simp [bs]
theorem bs_eq (l m : List UInt8) : ((bs l).toList == (bs m).toList) = decide (l = m) := by
  rw [ByteArray.toList_eq, ByteArray.toList_eq]
  by_cases h : l = m
  · subst h; simp
  · simp [bs, h]
theorem bs_empty (l : List UInt8) : (bs l).toList.isEmpty = decide (l = []) := by
  rw [ByteArray.toList_eq]
  cases l <;> simp [bs]
end Go.Proofs.YtfhnjghjibklcaaDoor
