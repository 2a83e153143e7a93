/-
  The leaves of a tree, and those of them that starve: in plain words.
-/
import Derived.Test.YtbgamlegiikggaaGreatPackA
import Derived.Test.YtbgamlegiikggaaGreatPackF
import Derived.Test.YtbgamlegiikggaaGreatPendB
import Derived.Test.YtbgamlegiikggaaGreatPackG
namespace Go.Proofs.YtbgamlegiikggaaGreat
open Go.RowKit
set_option linter.unusedVariables false

/-- the names of the leaves, in their order -/
def leavesOf (l : List Q) : List (List UInt8) := (l.map Q.name).filter (leaf l)
theorem leavesOf_len (l : List Q) : (leavesOf l).length ≤ l.length := by
  have := List.length_filter_le (leaf l) (l.map Q.name)
  rw [List.length_map] at this
  exact this
theorem leavesOf_bad {l : List Q} (h : queuesOk l = false) : leavesOf l = [] := by
  rw [leavesOf, List.filter_eq_nil_iff]
  intro a _
  rw [leaf_lone, h]; simp
theorem leavesOf_short {l : List Q} (hn : ∀ q ∈ l, q.name.length ≤ 1048576) : ∀ x ∈ leavesOf l, x.length ≤ 1048576 := fun x hx => by
  obtain ⟨q, hq, rfl⟩ := List.mem_map.1 (List.mem_filter.1 hx).1
  exact hn q hq
/-- a leaf that waits for something, and has less than is due -/
def starveP (s : St) (x : List UInt8) : Bool := pendingV s x && (within (usedByV s x).1 (usedByV s x).2 (dueV s x).1 (dueV s x).2 && !decide (usedByV s x = dueV s x))
def starveL (s : St) : List (List UInt8) := (leavesOf s.qs).filter (starveP s)
def starveV (s : St) : List (List UInt8) := (starveL s).mergeSort fun x y => decide (x ≤ y)
theorem starveL_len (s : St) : (starveL s).length ≤ s.qs.length := Nat.le_trans (List.length_filter_le _ _) (leavesOf_len _)
theorem starveV_len (s : St) : (starveV s).length ≤ s.qs.length := by
  rw [starveV, List.length_mergeSort]
  exact starveL_len s
/-- the same, one queue after the other, each in its place -/
def starveF (s : St) (k : Nat) : List (List UInt8) := insAll (((s.qs.take k).map Q.name).filter (fun x => leaf s.qs x && starveP s x)) []
theorem starveF_end (s : St) {k : Nat} (h : s.qs.length ≤ k) : starveF s k = starveV s := by
  rw [starveF, starveV, insAll_eq, List.take_of_length_le h, starveL, leavesOf, List.filter_filter]
  congr 1
  apply List.filter_congr
  intro x _
  rw [Bool.and_comm]
theorem starveF_step (s : St) {k : Nat} (h : k < s.qs.length) : starveF s (k + 1) = if (leaf s.qs s.qs[k].name && starveP s s.qs[k].name) = true then OrdM.ins Op.bytesLess s.qs[k].name (starveF s k) else starveF s k := by
  rw [starveF, List.take_succ_eq_append_getElem h, List.map_append, List.filter_append]
  cases hb : leaf s.qs s.qs[k].name && starveP s s.qs[k].name with
  | true =>
    rw [if_pos rfl]
    simp only [List.map_cons, List.map_nil, List.filter_cons, hb, if_true, List.filter_nil]
    rw [insAll_snoc]; rfl
  | false =>
    rw [if_neg (by simp)]
    simp only [List.map_cons, List.map_nil, List.filter_cons, hb, List.filter_nil]
    rw [if_neg (by simp), List.append_nil]; rfl
theorem starveF_len (s : St) (k : Nat) : (starveF s k).length ≤ k := by
  rw [starveF, (insAll_perm _ _).length_eq, List.append_nil]
  refine Nat.le_trans (List.length_filter_le _ _) ?_
  simp
  omega
end Go.Proofs.YtbgamlegiikggaaGreat
