/-
  No cell of these rows narrows 'for every input' (looked for: loops, veiled, ifaces, maps, wideKeys, modest, calm, conditions, laid).
  DERIVED. THE GIVEN ROWS OF THIS SEAT. 5 by the template 'for every input the law returns true; each argument reads behind the call as it read before'; 0 by the template 'total and deterministic' (their statements: YtoejklldpceghabTotals.lean).
  GIVEN WITH THE SEED: the statements are not yours to turn. If you find one false, say at which input.
  Laid BY PROGRAM, IN A SANDBOX (cutbox-rows.mjs): the forced cells as the released guide's own fill.sh prints them over the translation 57e040cb2812b1ae… (all of the seat's roots in one cut). By AI agents, Wed Nov 11 2026. No macro, syntax, notation, axiom, sorry.
-/
import Derived.Test.YtoejklldpceghabChecked
import GoSem.Claim
import GoSem.ClaimJoined
import GoSem.ClaimMapViews
import Derived.JoinedTies
import Derived.KernelRfl
namespace Go.Proofs.Ytoejklldpceghab
/- THE CELL 'sum', in the pinned program and in every row, IS THE sha256 OF THE DUMP (.gsa) THAT YtoejklldpceghabProg.lean LOADS. Nothing in Lean hashes anything: it is a label: what it is worth is what the hold of that sum in a sandbox is worth. -/
noncomputable def Try.pinned : Pinned := { name := "ytoejklldpceghab", sum := "57e040cb2812b1aef362e8210dfd805f9f9670d75b1a601359ac365da2966523", checked := Try.checked }
namespace Rows
def none {H : Type} : Left H := { results := [], args := [] }

/-- 'laws.FnExactShare': WHATEVER THE INPUT: true; the input reads as it did. -/
def fnExactShareSpec : ChangeSpec := { name := "fnExactShare", fn := fun _ => fun
  | [d1, d2] => { results := [.lit (.bool true)], args := [d1, d2] }
  | _ => none }
def fnExactShareRow : OpenClaim := { program := "ytoejklldpceghab", sum := "57e040cb2812b1aef362e8210dfd805f9f9670d75b1a601359ac365da2966523", func := "loop.example/g00275/laws.FnExactShare", spec := "fnExactShare", plainKeys := false, apart := false }
def FnExactShareSaid : Prop := fnExactShareRow.holds Try.pinned (OpenSpec.ofChange fnExactShareSpec)

/-- ITS FALSE NEIGHBOUR: 'it returns false'. Refute it at one input. -/
def fnExactShareWrong : ChangeSpec := { name := "fnExactShare", fn := fun _ => fun
  | [d1, d2] => { results := [.lit (.bool false)], args := [d1, d2] }
  | _ => none }
def FnExactShareWrongFalsely : Prop := fnExactShareRow.holds Try.pinned (OpenSpec.ofChange fnExactShareWrong)

/-- 'laws.FnExactTimes': WHATEVER THE INPUT: true; the input reads as it did. -/
def fnExactTimesSpec : ChangeSpec := { name := "fnExactTimes", fn := fun _ => fun
  | [d1, d2] => { results := [.lit (.bool true)], args := [d1, d2] }
  | _ => none }
def fnExactTimesRow : OpenClaim := { program := "ytoejklldpceghab", sum := "57e040cb2812b1aef362e8210dfd805f9f9670d75b1a601359ac365da2966523", func := "loop.example/g00275/laws.FnExactTimes", spec := "fnExactTimes", plainKeys := false, apart := false }
def FnExactTimesSaid : Prop := fnExactTimesRow.holds Try.pinned (OpenSpec.ofChange fnExactTimesSpec)

/-- ITS FALSE NEIGHBOUR: 'it returns false'. Refute it at one input. -/
def fnExactTimesWrong : ChangeSpec := { name := "fnExactTimes", fn := fun _ => fun
  | [d1, d2] => { results := [.lit (.bool false)], args := [d1, d2] }
  | _ => none }
def FnExactTimesWrongFalsely : Prop := fnExactTimesRow.holds Try.pinned (OpenSpec.ofChange fnExactTimesWrong)

/-- 'laws.FnExactRatio': WHATEVER THE INPUT: true; the input reads as it did. -/
def fnExactRatioSpec : ChangeSpec := { name := "fnExactRatio", fn := fun _ => fun
  | [d1, d2] => { results := [.lit (.bool true)], args := [d1, d2] }
  | _ => none }
def fnExactRatioRow : OpenClaim := { program := "ytoejklldpceghab", sum := "57e040cb2812b1aef362e8210dfd805f9f9670d75b1a601359ac365da2966523", func := "loop.example/g00275/laws.FnExactRatio", spec := "fnExactRatio", plainKeys := false, apart := false }
def FnExactRatioSaid : Prop := fnExactRatioRow.holds Try.pinned (OpenSpec.ofChange fnExactRatioSpec)

/-- ITS FALSE NEIGHBOUR: 'it returns false'. Refute it at one input. -/
def fnExactRatioWrong : ChangeSpec := { name := "fnExactRatio", fn := fun _ => fun
  | [d1, d2] => { results := [.lit (.bool false)], args := [d1, d2] }
  | _ => none }
def FnExactRatioWrongFalsely : Prop := fnExactRatioRow.holds Try.pinned (OpenSpec.ofChange fnExactRatioWrong)

/-- 'laws.FnExactLessRatio': WHATEVER THE INPUT: true; the input reads as it did. -/
def fnExactLessRatioSpec : ChangeSpec := { name := "fnExactLessRatio", fn := fun _ => fun
  | [d1, d2, d3, d4] => { results := [.lit (.bool true)], args := [d1, d2, d3, d4] }
  | _ => none }
def fnExactLessRatioRow : OpenClaim := { program := "ytoejklldpceghab", sum := "57e040cb2812b1aef362e8210dfd805f9f9670d75b1a601359ac365da2966523", func := "loop.example/g00275/laws.FnExactLessRatio", spec := "fnExactLessRatio", plainKeys := false, apart := false }
def FnExactLessRatioSaid : Prop := fnExactLessRatioRow.holds Try.pinned (OpenSpec.ofChange fnExactLessRatioSpec)

/-- ITS FALSE NEIGHBOUR: 'it returns false'. Refute it at one input. -/
def fnExactLessRatioWrong : ChangeSpec := { name := "fnExactLessRatio", fn := fun _ => fun
  | [d1, d2, d3, d4] => { results := [.lit (.bool false)], args := [d1, d2, d3, d4] }
  | _ => none }
def FnExactLessRatioWrongFalsely : Prop := fnExactLessRatioRow.holds Try.pinned (OpenSpec.ofChange fnExactLessRatioWrong)

/-- 'laws.FnExactReadRes': WHATEVER THE INPUT: true; the input reads as it did. -/
def fnExactReadResSpec : ChangeSpec := { name := "fnExactReadRes", fn := fun _ => fun
  | [d] => { results := [.lit (.bool true)], args := [d] }
  | _ => none }
def fnExactReadResRow : OpenClaim := { program := "ytoejklldpceghab", sum := "57e040cb2812b1aef362e8210dfd805f9f9670d75b1a601359ac365da2966523", func := "loop.example/g00275/laws.FnExactReadRes", spec := "fnExactReadRes", inPlace := ["internal/bytealg.IndexByteString", "internal/bytealg.IndexString"], named := ["internal/bytealg.MaxLen"], plainKeys := false, apart := false }
def FnExactReadResSaid : Prop := fnExactReadResRow.holds Try.pinned (OpenSpec.ofChange fnExactReadResSpec)

/-- ITS FALSE NEIGHBOUR: 'it returns false'. Refute it at one input. -/
def fnExactReadResWrong : ChangeSpec := { name := "fnExactReadRes", fn := fun _ => fun
  | [d] => { results := [.lit (.bool false)], args := [d] }
  | _ => none }
def FnExactReadResWrongFalsely : Prop := fnExactReadResRow.holds Try.pinned (OpenSpec.ofChange fnExactReadResWrong)

/- THE SECOND FORM. 'bulk': how many values and letters a reading holds, each counted each time it is reached (what is shared counts as often as it is met; a slice's spare places count too). A statement '..UptoSaid' is the law's where the arguments, and the package variables that the reading takes, are together of bulk at most 1048576: NARROWER than '..Said'. Prove '..Said' where nothing that the law and all that it calls make is longer than what came in: it says more and counts as full. Else prove '..UptoSaid'. A law counts once. -/
mutual
def uptoBulk {H : Type} : DataW H → Nat
  | .lit (.string bytes) => bytes.length + 1
  | .lit _ => 1
  | .nil => 1
  | .ptr d => uptoBulk d + 1
  | .slice elems spare => uptoBulkAll elems + uptoBulkAll spare + 1
  | .agg parts => uptoBulkAll parts + 1
  | .iface _ d => uptoBulk d + 1
  | .map entries => uptoBulkEntries entries + 1
  | .held _ => 1
def uptoBulkAll {H : Type} : List (DataW H) → Nat
  | [] => 0
  | d :: r => uptoBulk d + uptoBulkAll r
def uptoBulkEntries {H : Type} : List (Lit × DataW H) → Nat
  | [] => 0
  | x :: r => uptoBulkEntry x + uptoBulkEntries r
def uptoBulkEntry {H : Type} : Lit × DataW H → Nat
  | (.string bytes, d) => bytes.length + uptoBulk d + 1
  | (_, d) => uptoBulk d + 1
 end
def uptoSmall : (H : Type) → List (DataW H) → Bool := fun _ ds => decide (uptoBulkAll ds ≤ 1048576)
def OpenSpec.upto (s : _root_.Go.ChangeSpec) : _root_.Go.OpenSpec := { _root_.Go.OpenSpec.ofChange s with cond := some uptoSmall }

/-- 'laws.FnExactShare', WHERE WHAT IT READS IS OF BULK AT MOST 1048576: true; the input reads as it did. -/
def fnExactShareUptoRow : OpenClaim := { program := "ytoejklldpceghab", sum := "57e040cb2812b1aef362e8210dfd805f9f9670d75b1a601359ac365da2966523", func := "loop.example/g00275/laws.FnExactShare", spec := "fnExactShare", plainKeys := false, apart := false, narrowed := true }
def FnExactShareUptoSaid : Prop := fnExactShareUptoRow.holds Try.pinned (OpenSpec.upto fnExactShareSpec)

/-- 'laws.FnExactTimes', WHERE WHAT IT READS IS OF BULK AT MOST 1048576: true; the input reads as it did. -/
def fnExactTimesUptoRow : OpenClaim := { program := "ytoejklldpceghab", sum := "57e040cb2812b1aef362e8210dfd805f9f9670d75b1a601359ac365da2966523", func := "loop.example/g00275/laws.FnExactTimes", spec := "fnExactTimes", plainKeys := false, apart := false, narrowed := true }
def FnExactTimesUptoSaid : Prop := fnExactTimesUptoRow.holds Try.pinned (OpenSpec.upto fnExactTimesSpec)

/-- 'laws.FnExactRatio', WHERE WHAT IT READS IS OF BULK AT MOST 1048576: true; the input reads as it did. -/
def fnExactRatioUptoRow : OpenClaim := { program := "ytoejklldpceghab", sum := "57e040cb2812b1aef362e8210dfd805f9f9670d75b1a601359ac365da2966523", func := "loop.example/g00275/laws.FnExactRatio", spec := "fnExactRatio", plainKeys := false, apart := false, narrowed := true }
def FnExactRatioUptoSaid : Prop := fnExactRatioUptoRow.holds Try.pinned (OpenSpec.upto fnExactRatioSpec)

/-- 'laws.FnExactLessRatio', WHERE WHAT IT READS IS OF BULK AT MOST 1048576: true; the input reads as it did. -/
def fnExactLessRatioUptoRow : OpenClaim := { program := "ytoejklldpceghab", sum := "57e040cb2812b1aef362e8210dfd805f9f9670d75b1a601359ac365da2966523", func := "loop.example/g00275/laws.FnExactLessRatio", spec := "fnExactLessRatio", plainKeys := false, apart := false, narrowed := true }
def FnExactLessRatioUptoSaid : Prop := fnExactLessRatioUptoRow.holds Try.pinned (OpenSpec.upto fnExactLessRatioSpec)

/-- 'laws.FnExactReadRes', WHERE WHAT IT READS IS OF BULK AT MOST 1048576: true; the input reads as it did. -/
def fnExactReadResUptoRow : OpenClaim := { program := "ytoejklldpceghab", sum := "57e040cb2812b1aef362e8210dfd805f9f9670d75b1a601359ac365da2966523", func := "loop.example/g00275/laws.FnExactReadRes", spec := "fnExactReadRes", inPlace := ["internal/bytealg.IndexByteString", "internal/bytealg.IndexString"], named := ["internal/bytealg.MaxLen"], plainKeys := false, apart := false, narrowed := true }
def FnExactReadResUptoSaid : Prop := fnExactReadResUptoRow.holds Try.pinned (OpenSpec.upto fnExactReadResSpec)

end Rows
end Go.Proofs.Ytoejklldpceghab
