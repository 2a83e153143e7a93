/-
  No cell of these rows narrows 'for every input' (looked for: loops, veiled, ifaces, maps, wideKeys, modest, calm, conditions, laid).
  DERIVED. THE GIVEN ROWS OF THIS SEAT. 5 by the template 'for every input the law returns true; each argument reads behind the call as it read before'; 0 by the template 'total and deterministic' (their statements: YtgallgdmedfgmaaTotals.lean).
  GIVEN WITH THE SEED: the statements are not yours to turn. If you find one false, say at which input.
  Laid BY PROGRAM, IN A SANDBOX (cutbox-rows.mjs): the forced cells as the released guide's own fill.sh prints them over the translation af1fd503e910c6c3… (all of the seat's roots in one cut). By AI agents, Wed Nov 11 2026. No macro, syntax, notation, axiom, sorry.
-/
import Derived.Test.YtgallgdmedfgmaaChecked
import GoSem.Claim
import GoSem.ClaimJoined
import GoSem.ClaimMapViews
import Derived.JoinedTies
import Derived.KernelRfl
namespace Go.Proofs.Ytgallgdmedfgmaa
/- THE CELL 'sum', in the pinned program and in every row, IS THE sha256 OF THE DUMP (.gsa) THAT YtgallgdmedfgmaaProg.lean LOADS. Nothing in Lean hashes anything: it is a label: what it is worth is what the hold of that sum in a sandbox is worth. -/
noncomputable def Try.pinned : Pinned := { name := "ytgallgdmedfgmaa", sum := "af1fd503e910c6c3435a78410034acf4f523c31f81ae015152486e143bc5091d", checked := Try.checked }
namespace Rows
def none {H : Type} : Left H := { results := [], args := [] }

/-- 'laws.FnExactSuits': WHATEVER THE INPUT: true; the input reads as it did. -/
def fnExactSuitsSpec : ChangeSpec := { name := "fnExactSuits", fn := fun _ => fun
  | [d1, d2] => { results := [.lit (.bool true)], args := [d1, d2] }
  | _ => none }
def fnExactSuitsRow : OpenClaim := { program := "ytgallgdmedfgmaa", sum := "af1fd503e910c6c3435a78410034acf4f523c31f81ae015152486e143bc5091d", func := "loop.example/g00275/laws.FnExactSuits", spec := "fnExactSuits", plainKeys := false, apart := false }
def FnExactSuitsSaid : Prop := fnExactSuitsRow.holds Try.pinned (OpenSpec.ofChange fnExactSuitsSpec)

/-- ITS FALSE NEIGHBOUR: 'it returns false'. Refute it at one input. -/
def fnExactSuitsWrong : ChangeSpec := { name := "fnExactSuits", fn := fun _ => fun
  | [d1, d2] => { results := [.lit (.bool false)], args := [d1, d2] }
  | _ => none }
def FnExactSuitsWrongFalsely : Prop := fnExactSuitsRow.holds Try.pinned (OpenSpec.ofChange fnExactSuitsWrong)

/-- 'laws.FnExactFreeOn': WHATEVER THE INPUT: true; the input reads as it did. -/
def fnExactFreeOnSpec : ChangeSpec := { name := "fnExactFreeOn", fn := fun _ => fun
  | [d1, d2] => { results := [.lit (.bool true)], args := [d1, d2] }
  | _ => none }
def fnExactFreeOnRow : OpenClaim := { program := "ytgallgdmedfgmaa", sum := "af1fd503e910c6c3435a78410034acf4f523c31f81ae015152486e143bc5091d", func := "loop.example/g00275/laws.FnExactFreeOn", spec := "fnExactFreeOn", unfollowed := true, recurses := true, plainKeys := false, apart := false }
def FnExactFreeOnSaid : Prop := fnExactFreeOnRow.holds Try.pinned (OpenSpec.ofChange fnExactFreeOnSpec)

/-- ITS FALSE NEIGHBOUR: 'it returns false'. Refute it at one input. -/
def fnExactFreeOnWrong : ChangeSpec := { name := "fnExactFreeOn", fn := fun _ => fun
  | [d1, d2] => { results := [.lit (.bool false)], args := [d1, d2] }
  | _ => none }
def FnExactFreeOnWrongFalsely : Prop := fnExactFreeOnRow.holds Try.pinned (OpenSpec.ofChange fnExactFreeOnWrong)

/-- 'laws.FnExactAppOf': WHATEVER THE INPUT: true; the input reads as it did. -/
def fnExactAppOfSpec : ChangeSpec := { name := "fnExactAppOf", fn := fun _ => fun
  | [d1, d2] => { results := [.lit (.bool true)], args := [d1, d2] }
  | _ => none }
def fnExactAppOfRow : OpenClaim := { program := "ytgallgdmedfgmaa", sum := "af1fd503e910c6c3435a78410034acf4f523c31f81ae015152486e143bc5091d", func := "loop.example/g00275/laws.FnExactAppOf", spec := "fnExactAppOf", unfollowed := true, recurses := true, plainKeys := false, apart := false }
def FnExactAppOfSaid : Prop := fnExactAppOfRow.holds Try.pinned (OpenSpec.ofChange fnExactAppOfSpec)

/-- ITS FALSE NEIGHBOUR: 'it returns false'. Refute it at one input. -/
def fnExactAppOfWrong : ChangeSpec := { name := "fnExactAppOf", fn := fun _ => fun
  | [d1, d2] => { results := [.lit (.bool false)], args := [d1, d2] }
  | _ => none }
def FnExactAppOfWrongFalsely : Prop := fnExactAppOfRow.holds Try.pinned (OpenSpec.ofChange fnExactAppOfWrong)

/-- 'laws.FnExactUsedBy': WHATEVER THE INPUT: true; the input reads as it did. -/
def fnExactUsedBySpec : ChangeSpec := { name := "fnExactUsedBy", fn := fun _ => fun
  | [d1, d2] => { results := [.lit (.bool true)], args := [d1, d2] }
  | _ => none }
def fnExactUsedByRow : OpenClaim := { program := "ytgallgdmedfgmaa", sum := "af1fd503e910c6c3435a78410034acf4f523c31f81ae015152486e143bc5091d", func := "loop.example/g00275/laws.FnExactUsedBy", spec := "fnExactUsedBy", unfollowed := true, recurses := true, plainKeys := false, apart := false }
def FnExactUsedBySaid : Prop := fnExactUsedByRow.holds Try.pinned (OpenSpec.ofChange fnExactUsedBySpec)

/-- ITS FALSE NEIGHBOUR: 'it returns false'. Refute it at one input. -/
def fnExactUsedByWrong : ChangeSpec := { name := "fnExactUsedBy", fn := fun _ => fun
  | [d1, d2] => { results := [.lit (.bool false)], args := [d1, d2] }
  | _ => none }
def FnExactUsedByWrongFalsely : Prop := fnExactUsedByRow.holds Try.pinned (OpenSpec.ofChange fnExactUsedByWrong)

/-- 'laws.FnExactTotal': WHATEVER THE INPUT: true; the input reads as it did. -/
def fnExactTotalSpec : ChangeSpec := { name := "fnExactTotal", fn := fun _ => fun
  | [d] => { results := [.lit (.bool true)], args := [d] }
  | _ => none }
def fnExactTotalRow : OpenClaim := { program := "ytgallgdmedfgmaa", sum := "af1fd503e910c6c3435a78410034acf4f523c31f81ae015152486e143bc5091d", func := "loop.example/g00275/laws.FnExactTotal", spec := "fnExactTotal", plainKeys := false, apart := false }
def FnExactTotalSaid : Prop := fnExactTotalRow.holds Try.pinned (OpenSpec.ofChange fnExactTotalSpec)

/-- ITS FALSE NEIGHBOUR: 'it returns false'. Refute it at one input. -/
def fnExactTotalWrong : ChangeSpec := { name := "fnExactTotal", fn := fun _ => fun
  | [d] => { results := [.lit (.bool false)], args := [d] }
  | _ => none }
def FnExactTotalWrongFalsely : Prop := fnExactTotalRow.holds Try.pinned (OpenSpec.ofChange fnExactTotalWrong)

/- THE SECOND FORM. 'bulk': how many values and letters a reading holds, each counted each time it is reached (what is shared counts as often as it is met; a slice's spare places count too). A statement '..UptoSaid' is the law's where the arguments, and the package variables that the reading takes, are together of bulk at most 1048576: NARROWER than '..Said'. Prove '..Said' where nothing that the law and all that it calls make is longer than what came in: it says more and counts as full. Else prove '..UptoSaid'. A law counts once. -/
mutual
def uptoBulk {H : Type} : DataW H → Nat
  | .lit (.string bytes) => bytes.length + 1
  | .lit _ => 1
  | .nil => 1
  | .ptr d => uptoBulk d + 1
  | .slice elems spare => uptoBulkAll elems + uptoBulkAll spare + 1
  | .agg parts => uptoBulkAll parts + 1
  | .iface _ d => uptoBulk d + 1
  | .map entries => uptoBulkEntries entries + 1
  | .held _ => 1
def uptoBulkAll {H : Type} : List (DataW H) → Nat
  | [] => 0
  | d :: r => uptoBulk d + uptoBulkAll r
def uptoBulkEntries {H : Type} : List (Lit × DataW H) → Nat
  | [] => 0
  | x :: r => uptoBulkEntry x + uptoBulkEntries r
def uptoBulkEntry {H : Type} : Lit × DataW H → Nat
  | (.string bytes, d) => bytes.length + uptoBulk d + 1
  | (_, d) => uptoBulk d + 1
 end
def uptoSmall : (H : Type) → List (DataW H) → Bool := fun _ ds => decide (uptoBulkAll ds ≤ 1048576)
def OpenSpec.upto (s : _root_.Go.ChangeSpec) : _root_.Go.OpenSpec := { _root_.Go.OpenSpec.ofChange s with cond := some uptoSmall }

/-- 'laws.FnExactSuits', WHERE WHAT IT READS IS OF BULK AT MOST 1048576: true; the input reads as it did. -/
def fnExactSuitsUptoRow : OpenClaim := { program := "ytgallgdmedfgmaa", sum := "af1fd503e910c6c3435a78410034acf4f523c31f81ae015152486e143bc5091d", func := "loop.example/g00275/laws.FnExactSuits", spec := "fnExactSuits", plainKeys := false, apart := false, narrowed := true }
def FnExactSuitsUptoSaid : Prop := fnExactSuitsUptoRow.holds Try.pinned (OpenSpec.upto fnExactSuitsSpec)

/-- 'laws.FnExactFreeOn', WHERE WHAT IT READS IS OF BULK AT MOST 1048576: true; the input reads as it did. -/
def fnExactFreeOnUptoRow : OpenClaim := { program := "ytgallgdmedfgmaa", sum := "af1fd503e910c6c3435a78410034acf4f523c31f81ae015152486e143bc5091d", func := "loop.example/g00275/laws.FnExactFreeOn", spec := "fnExactFreeOn", unfollowed := true, recurses := true, plainKeys := false, apart := false, narrowed := true }
def FnExactFreeOnUptoSaid : Prop := fnExactFreeOnUptoRow.holds Try.pinned (OpenSpec.upto fnExactFreeOnSpec)

/-- 'laws.FnExactAppOf', WHERE WHAT IT READS IS OF BULK AT MOST 1048576: true; the input reads as it did. -/
def fnExactAppOfUptoRow : OpenClaim := { program := "ytgallgdmedfgmaa", sum := "af1fd503e910c6c3435a78410034acf4f523c31f81ae015152486e143bc5091d", func := "loop.example/g00275/laws.FnExactAppOf", spec := "fnExactAppOf", unfollowed := true, recurses := true, plainKeys := false, apart := false, narrowed := true }
def FnExactAppOfUptoSaid : Prop := fnExactAppOfUptoRow.holds Try.pinned (OpenSpec.upto fnExactAppOfSpec)

/-- 'laws.FnExactUsedBy', WHERE WHAT IT READS IS OF BULK AT MOST 1048576: true; the input reads as it did. -/
def fnExactUsedByUptoRow : OpenClaim := { program := "ytgallgdmedfgmaa", sum := "af1fd503e910c6c3435a78410034acf4f523c31f81ae015152486e143bc5091d", func := "loop.example/g00275/laws.FnExactUsedBy", spec := "fnExactUsedBy", unfollowed := true, recurses := true, plainKeys := false, apart := false, narrowed := true }
def FnExactUsedByUptoSaid : Prop := fnExactUsedByUptoRow.holds Try.pinned (OpenSpec.upto fnExactUsedBySpec)

/-- 'laws.FnExactTotal', WHERE WHAT IT READS IS OF BULK AT MOST 1048576: true; the input reads as it did. -/
def fnExactTotalUptoRow : OpenClaim := { program := "ytgallgdmedfgmaa", sum := "af1fd503e910c6c3435a78410034acf4f523c31f81ae015152486e143bc5091d", func := "loop.example/g00275/laws.FnExactTotal", spec := "fnExactTotal", plainKeys := false, apart := false, narrowed := true }
def FnExactTotalUptoSaid : Prop := fnExactTotalUptoRow.holds Try.pinned (OpenSpec.upto fnExactTotalSpec)

end Rows
end Go.Proofs.Ytgallgdmedfgmaa
