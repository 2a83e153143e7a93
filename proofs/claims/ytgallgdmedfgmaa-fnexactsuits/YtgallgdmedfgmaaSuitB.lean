/-
  Whether an ask suits a machine: what the program's and the model's Suits answer, and an ask that comes in as an argument; walks over the dump.
-/
import Derived.Test.YtgallgdmedfgmaaStAll
import Derived.Test.YtgallgdmedfgmaaPlace
import Derived.Test.YtgallgdmedfgmaaQueuesOkM
namespace Go.Proofs.Ytgallgdmedfgmaa
open Go.ChangeShapes Go.WideShapes Go.ChangeAt Go.RowKit
set_option linter.unusedVariables false

def suitsV (q : Ask) (nm : List UInt8) : Bool := decide (q.node = []) || (decide (q.node = nm) || decide (3 ≤ q.missed))

set_option maxRecDepth 100000 in
set_option maxHeartbeats 1000000 in
theorem implSuits_any (q : Ask) (nm : List UInt8) (w : World) :
    Calls Try.prog 11 #[askv q, .string (bs nm)] w fun e w' => e = .returned (.bool (suitsV q nm)) ∧ Below w.heap.size w w' := by
  obtain ⟨x0, x1, x2, nd, x4⟩ := q
  have hbe := bs_eq nd nm
  have hbz := bs_empty nd
  simp only [suitsV]
  by_cases h1 : nd = [] <;> by_cases h2 : nd = nm <;> by_cases h3 : 3 ≤ x4
  all_goals
    first | rw [decide_eq_true h1] at hbz ⊢ | rw [decide_eq_false h1] at hbz ⊢
    first | rw [decide_eq_true h2] at hbe ⊢ | rw [decide_eq_false h2] at hbe ⊢
    first | rw [decide_eq_true h3] | rw [decide_eq_false h3]
    clear h1 h2
    go_enter Try.func11, Try.ntmps11
    go_wp2
    go_ret
    refine ⟨rfl, ?_⟩
    repeat (first | exact Below.refl _ _ | refine below_al ?_ _ | refine Below.drew ?_ | refine below_sc ?_ _ _ _ (by omega))

set_option maxRecDepth 100000 in
set_option maxHeartbeats 1000000 in
theorem specSuits_any (q : Ask) (nm : List UInt8) (w : World) :
    Calls Try.prog 9 #[askv q, .string (bs nm)] w fun e w' => e = .returned (.bool (suitsV q nm)) ∧ Below w.heap.size w w' := by
  obtain ⟨x0, x1, x2, nd, x4⟩ := q
  have hbe := bs_eq nd nm
  have hbz := bs_empty nd
  simp only [suitsV]
  by_cases h1 : nd = [] <;> by_cases h2 : nd = nm <;> by_cases h3 : 3 ≤ x4
  all_goals
    first | rw [decide_eq_true h1] at hbz ⊢ | rw [decide_eq_false h1] at hbz ⊢
    first | rw [decide_eq_true h2] at hbe ⊢ | rw [decide_eq_false h2] at hbe ⊢
    first | rw [decide_eq_true h3] | rw [decide_eq_false h3]
    clear h1 h2
    go_enter Try.func9, Try.ntmps9
    go_wp2
    go_ret
    refine ⟨rfl, ?_⟩
    repeat (first | exact Below.refl _ _ | refine below_al ?_ _ | refine Below.drew ?_ | refine below_sc ?_ _ _ _ (by omega))

set_option maxRecDepth 100000 in
theorem open_askv {H : Type} {enc : TypeId × Value → H} {W : World} {base b0 : Nat} {r : Reach} {sp : Nat → Bool} {held : Bool} {v : Value} {d : DataW H} {p : List MemPlace}
    (hv : Value.okWide Try.prog W r b0 25 v) (h : DataW.Trod enc Try.prog W base sp held 25 v d p) :
    ∃ q : Ask, v = askv q ∧ AskFit q := by
  obtain ⟨cs, rfl, hsz⟩ := okWide_struct Try.underlying25 hv
  obtain ⟨fuel, hf⟩ := h
  obtain ⟨l⟩ := cs
  have hcells : (Value.agg ⟨l⟩).cells.toList = l := by simp [Value.cells]
  rw [hcells] at hf
  obtain ⟨q, rfl, hq⟩ := open_ask1 hf
  exact ⟨q, rfl, hq⟩
end Go.Proofs.Ytgallgdmedfgmaa
