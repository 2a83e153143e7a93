/-
  Where a queue stands, in plain words; texts held against each other.
-/
import Derived.Test.YtdkgmfogeabaoaaGreatPackA
namespace Go.Proofs.YtdkgmfogeabaoaaGreat
open Go.RowKit
set_option linter.unusedVariables false

/-- the place of the first queue of that name, from place k on; -1 where there is none -/
def placeFrom (nm : List UInt8) : List Q → Nat → Int
  | [], _ => -1
  | q :: t, k => if q.name = nm then k else placeFrom nm t (k + 1)
def place (l : List Q) (nm : List UInt8) : Int := placeFrom nm l 0
theorem placeFrom_step {nm : List UInt8} {l : List Q} {k : Nat} (h : k < l.length) : placeFrom nm (l.drop k) k = if l[k].name = nm then (k : Int) else placeFrom nm (l.drop (k + 1)) (k + 1) := by
  rw [List.drop_eq_getElem_cons h, placeFrom]
theorem placeFrom_end {nm : List UInt8} {l : List Q} {k : Nat} (h : l.length ≤ k) : placeFrom nm (l.drop k) k = -1 := by
  rw [List.drop_of_length_le h]; rfl
theorem bs_eq (l m : List UInt8) : ((bs l).toList == (bs m).toList) = decide (l = m) := by
  rw [ByteArray.toList_eq, ByteArray.toList_eq]
  by_cases h : l = m
  · subst h; simp
  · simp [bs, h]

end Go.Proofs.YtdkgmfogeabaoaaGreat
