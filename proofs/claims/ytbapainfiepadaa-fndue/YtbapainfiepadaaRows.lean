/-
  No cell of these rows narrows 'for every input' (looked for: loops, veiled, ifaces, maps, wideKeys, modest, calm, conditions, laid).
  DERIVED. THE GIVEN ROWS OF THIS SEAT. 6 by the template 'for every input the law returns true; each argument reads behind the call as it read before'; 0 by the template 'total and deterministic' (their statements: YtbapainfiepadaaTotals.lean).
  GIVEN WITH THE SEED: the statements are not yours to turn. If you find one false, say at which input.
  Laid BY PROGRAM, IN A SANDBOX (cutbox-rows.mjs): the forced cells as the released guide's own fill.sh prints them over the translation 0ffd9c9a9c26e020… (all of the seat's roots in one cut). By AI agents, Wed Nov 11 2026. No macro, syntax, notation, axiom, sorry.
-/
import Derived.Test.YtbapainfiepadaaChecked
import GoSem.Claim
import GoSem.ClaimJoined
import GoSem.ClaimMapViews
import Derived.JoinedTies
import Derived.KernelRfl
namespace Go.Proofs.Ytbapainfiepadaa
/- THE CELL 'sum', in the pinned program and in every row, IS THE sha256 OF THE DUMP (.gsa) THAT YtbapainfiepadaaProg.lean LOADS. Nothing in Lean hashes anything: it is a label: what it is worth is what the hold of that sum in a sandbox is worth. -/
noncomputable def Try.pinned : Pinned := { name := "ytbapainfiepadaa", sum := "0ffd9c9a9c26e020280dcd663d60d559db8a83eb6731b10ce86264689f86a6b9", checked := Try.checked }
namespace Rows
def none {H : Type} : Left H := { results := [], args := [] }

/-- 'laws.FnDue': WHATEVER THE INPUT: true; the input reads as it did. -/
def fnDueSpec : ChangeSpec := { name := "fnDue", fn := fun _ => fun
  | [d] => { results := [.lit (.bool true)], args := [d] }
  | _ => none }
def fnDueRow : OpenClaim := { program := "ytbapainfiepadaa", sum := "0ffd9c9a9c26e020280dcd663d60d559db8a83eb6731b10ce86264689f86a6b9", func := "loop.example/g00275/laws.FnDue", spec := "fnDue", unfollowed := true, recurses := true, apart := false }
def FnDueSaid : Prop := fnDueRow.holds Try.pinned (OpenSpec.ofChange fnDueSpec)

/-- ITS FALSE NEIGHBOUR: 'it returns false'. Refute it at one input. -/
def fnDueWrong : ChangeSpec := { name := "fnDue", fn := fun _ => fun
  | [d] => { results := [.lit (.bool false)], args := [d] }
  | _ => none }
def FnDueWrongFalsely : Prop := fnDueRow.holds Try.pinned (OpenSpec.ofChange fnDueWrong)

/-- 'laws.FnExactQueuesOk': WHATEVER THE INPUT: true; the input reads as it did. -/
def fnExactQueuesOkSpec : ChangeSpec := { name := "fnExactQueuesOk", fn := fun _ => fun
  | [d] => { results := [.lit (.bool true)], args := [d] }
  | _ => none }
def fnExactQueuesOkRow : OpenClaim := { program := "ytbapainfiepadaa", sum := "0ffd9c9a9c26e020280dcd663d60d559db8a83eb6731b10ce86264689f86a6b9", func := "loop.example/g00275/laws.FnExactQueuesOk", spec := "fnExactQueuesOk", unfollowed := true, recurses := true, apart := false }
def FnExactQueuesOkSaid : Prop := fnExactQueuesOkRow.holds Try.pinned (OpenSpec.ofChange fnExactQueuesOkSpec)

/-- ITS FALSE NEIGHBOUR: 'it returns false'. Refute it at one input. -/
def fnExactQueuesOkWrong : ChangeSpec := { name := "fnExactQueuesOk", fn := fun _ => fun
  | [d] => { results := [.lit (.bool false)], args := [d] }
  | _ => none }
def FnExactQueuesOkWrongFalsely : Prop := fnExactQueuesOkRow.holds Try.pinned (OpenSpec.ofChange fnExactQueuesOkWrong)

/-- 'laws.FnExactLeaf': WHATEVER THE INPUT: true; the input reads as it did. -/
def fnExactLeafSpec : ChangeSpec := { name := "fnExactLeaf", fn := fun _ => fun
  | [d1, d2] => { results := [.lit (.bool true)], args := [d1, d2] }
  | _ => none }
def fnExactLeafRow : OpenClaim := { program := "ytbapainfiepadaa", sum := "0ffd9c9a9c26e020280dcd663d60d559db8a83eb6731b10ce86264689f86a6b9", func := "loop.example/g00275/laws.FnExactLeaf", spec := "fnExactLeaf", unfollowed := true, recurses := true, apart := false }
def FnExactLeafSaid : Prop := fnExactLeafRow.holds Try.pinned (OpenSpec.ofChange fnExactLeafSpec)

/-- ITS FALSE NEIGHBOUR: 'it returns false'. Refute it at one input. -/
def fnExactLeafWrong : ChangeSpec := { name := "fnExactLeaf", fn := fun _ => fun
  | [d1, d2] => { results := [.lit (.bool false)], args := [d1, d2] }
  | _ => none }
def FnExactLeafWrongFalsely : Prop := fnExactLeafRow.holds Try.pinned (OpenSpec.ofChange fnExactLeafWrong)

/-- 'laws.FnExactDueOf': WHATEVER THE INPUT: true; the input reads as it did. -/
def fnExactDueOfSpec : ChangeSpec := { name := "fnExactDueOf", fn := fun _ => fun
  | [d1, d2, d3] => { results := [.lit (.bool true)], args := [d1, d2, d3] }
  | _ => none }
def fnExactDueOfRow : OpenClaim := { program := "ytbapainfiepadaa", sum := "0ffd9c9a9c26e020280dcd663d60d559db8a83eb6731b10ce86264689f86a6b9", func := "loop.example/g00275/laws.FnExactDueOf", spec := "fnExactDueOf", unfollowed := true, recurses := true, apart := false }
def FnExactDueOfSaid : Prop := fnExactDueOfRow.holds Try.pinned (OpenSpec.ofChange fnExactDueOfSpec)

/-- ITS FALSE NEIGHBOUR: 'it returns false'. Refute it at one input. -/
def fnExactDueOfWrong : ChangeSpec := { name := "fnExactDueOf", fn := fun _ => fun
  | [d1, d2, d3] => { results := [.lit (.bool false)], args := [d1, d2, d3] }
  | _ => none }
def FnExactDueOfWrongFalsely : Prop := fnExactDueOfRow.holds Try.pinned (OpenSpec.ofChange fnExactDueOfWrong)

/-- 'laws.FnExactMostOf': WHATEVER THE INPUT: true; the input reads as it did. -/
def fnExactMostOfSpec : ChangeSpec := { name := "fnExactMostOf", fn := fun _ => fun
  | [d1, d2, d3] => { results := [.lit (.bool true)], args := [d1, d2, d3] }
  | _ => none }
def fnExactMostOfRow : OpenClaim := { program := "ytbapainfiepadaa", sum := "0ffd9c9a9c26e020280dcd663d60d559db8a83eb6731b10ce86264689f86a6b9", func := "loop.example/g00275/laws.FnExactMostOf", spec := "fnExactMostOf", unfollowed := true, recurses := true, apart := false }
def FnExactMostOfSaid : Prop := fnExactMostOfRow.holds Try.pinned (OpenSpec.ofChange fnExactMostOfSpec)

/-- ITS FALSE NEIGHBOUR: 'it returns false'. Refute it at one input. -/
def fnExactMostOfWrong : ChangeSpec := { name := "fnExactMostOf", fn := fun _ => fun
  | [d1, d2, d3] => { results := [.lit (.bool false)], args := [d1, d2, d3] }
  | _ => none }
def FnExactMostOfWrongFalsely : Prop := fnExactMostOfRow.holds Try.pinned (OpenSpec.ofChange fnExactMostOfWrong)

/-- 'laws.FnExactPath': WHATEVER THE INPUT: true; the input reads as it did. -/
def fnExactPathSpec : ChangeSpec := { name := "fnExactPath", fn := fun _ => fun
  | [d1, d2] => { results := [.lit (.bool true)], args := [d1, d2] }
  | _ => none }
def fnExactPathRow : OpenClaim := { program := "ytbapainfiepadaa", sum := "0ffd9c9a9c26e020280dcd663d60d559db8a83eb6731b10ce86264689f86a6b9", func := "loop.example/g00275/laws.FnExactPath", spec := "fnExactPath", unfollowed := true, recurses := true, apart := false }
def FnExactPathSaid : Prop := fnExactPathRow.holds Try.pinned (OpenSpec.ofChange fnExactPathSpec)

/-- ITS FALSE NEIGHBOUR: 'it returns false'. Refute it at one input. -/
def fnExactPathWrong : ChangeSpec := { name := "fnExactPath", fn := fun _ => fun
  | [d1, d2] => { results := [.lit (.bool false)], args := [d1, d2] }
  | _ => none }
def FnExactPathWrongFalsely : Prop := fnExactPathRow.holds Try.pinned (OpenSpec.ofChange fnExactPathWrong)

/- THE SECOND FORM. 'bulk': how many values and letters a reading holds, each counted each time it is reached (what is shared counts as often as it is met; a slice's spare places count too). A statement '..UptoSaid' is the law's where the arguments, and the package variables that the reading takes, are together of bulk at most 1048576: NARROWER than '..Said'. Prove '..Said' where nothing that the law and all that it calls make is longer than what came in: it says more and counts as full. Else prove '..UptoSaid'. A law counts once. -/
mutual
def uptoBulk {H : Type} : DataW H → Nat
  | .lit (.string bytes) => bytes.length + 1
  | .lit _ => 1
  | .nil => 1
  | .ptr d => uptoBulk d + 1
  | .slice elems spare => uptoBulkAll elems + uptoBulkAll spare + 1
  | .agg parts => uptoBulkAll parts + 1
  | .iface _ d => uptoBulk d + 1
  | .map entries => uptoBulkEntries entries + 1
  | .held _ => 1
def uptoBulkAll {H : Type} : List (DataW H) → Nat
  | [] => 0
  | d :: r => uptoBulk d + uptoBulkAll r
def uptoBulkEntries {H : Type} : List (Lit × DataW H) → Nat
  | [] => 0
  | x :: r => uptoBulkEntry x + uptoBulkEntries r
def uptoBulkEntry {H : Type} : Lit × DataW H → Nat
  | (.string bytes, d) => bytes.length + uptoBulk d + 1
  | (_, d) => uptoBulk d + 1
 end
def uptoSmall : (H : Type) → List (DataW H) → Bool := fun _ ds => decide (uptoBulkAll ds ≤ 1048576)
def OpenSpec.upto (s : _root_.Go.ChangeSpec) : _root_.Go.OpenSpec := { _root_.Go.OpenSpec.ofChange s with cond := some uptoSmall }

/-- 'laws.FnDue', WHERE WHAT IT READS IS OF BULK AT MOST 1048576: true; the input reads as it did. -/
def fnDueUptoRow : OpenClaim := { program := "ytbapainfiepadaa", sum := "0ffd9c9a9c26e020280dcd663d60d559db8a83eb6731b10ce86264689f86a6b9", func := "loop.example/g00275/laws.FnDue", spec := "fnDue", unfollowed := true, recurses := true, apart := false, narrowed := true }
def FnDueUptoSaid : Prop := fnDueUptoRow.holds Try.pinned (OpenSpec.upto fnDueSpec)

/-- 'laws.FnExactQueuesOk', WHERE WHAT IT READS IS OF BULK AT MOST 1048576: true; the input reads as it did. -/
def fnExactQueuesOkUptoRow : OpenClaim := { program := "ytbapainfiepadaa", sum := "0ffd9c9a9c26e020280dcd663d60d559db8a83eb6731b10ce86264689f86a6b9", func := "loop.example/g00275/laws.FnExactQueuesOk", spec := "fnExactQueuesOk", unfollowed := true, recurses := true, apart := false, narrowed := true }
def FnExactQueuesOkUptoSaid : Prop := fnExactQueuesOkUptoRow.holds Try.pinned (OpenSpec.upto fnExactQueuesOkSpec)

/-- 'laws.FnExactLeaf', WHERE WHAT IT READS IS OF BULK AT MOST 1048576: true; the input reads as it did. -/
def fnExactLeafUptoRow : OpenClaim := { program := "ytbapainfiepadaa", sum := "0ffd9c9a9c26e020280dcd663d60d559db8a83eb6731b10ce86264689f86a6b9", func := "loop.example/g00275/laws.FnExactLeaf", spec := "fnExactLeaf", unfollowed := true, recurses := true, apart := false, narrowed := true }
def FnExactLeafUptoSaid : Prop := fnExactLeafUptoRow.holds Try.pinned (OpenSpec.upto fnExactLeafSpec)

/-- 'laws.FnExactDueOf', WHERE WHAT IT READS IS OF BULK AT MOST 1048576: true; the input reads as it did. -/
def fnExactDueOfUptoRow : OpenClaim := { program := "ytbapainfiepadaa", sum := "0ffd9c9a9c26e020280dcd663d60d559db8a83eb6731b10ce86264689f86a6b9", func := "loop.example/g00275/laws.FnExactDueOf", spec := "fnExactDueOf", unfollowed := true, recurses := true, apart := false, narrowed := true }
def FnExactDueOfUptoSaid : Prop := fnExactDueOfUptoRow.holds Try.pinned (OpenSpec.upto fnExactDueOfSpec)

/-- 'laws.FnExactMostOf', WHERE WHAT IT READS IS OF BULK AT MOST 1048576: true; the input reads as it did. -/
def fnExactMostOfUptoRow : OpenClaim := { program := "ytbapainfiepadaa", sum := "0ffd9c9a9c26e020280dcd663d60d559db8a83eb6731b10ce86264689f86a6b9", func := "loop.example/g00275/laws.FnExactMostOf", spec := "fnExactMostOf", unfollowed := true, recurses := true, apart := false, narrowed := true }
def FnExactMostOfUptoSaid : Prop := fnExactMostOfUptoRow.holds Try.pinned (OpenSpec.upto fnExactMostOfSpec)

/-- 'laws.FnExactPath', WHERE WHAT IT READS IS OF BULK AT MOST 1048576: true; the input reads as it did. -/
def fnExactPathUptoRow : OpenClaim := { program := "ytbapainfiepadaa", sum := "0ffd9c9a9c26e020280dcd663d60d559db8a83eb6731b10ce86264689f86a6b9", func := "loop.example/g00275/laws.FnExactPath", spec := "fnExactPath", unfollowed := true, recurses := true, apart := false, narrowed := true }
def FnExactPathUptoSaid : Prop := fnExactPathUptoRow.holds Try.pinned (OpenSpec.upto fnExactPathSpec)

end Rows
end Go.Proofs.Ytbapainfiepadaa
