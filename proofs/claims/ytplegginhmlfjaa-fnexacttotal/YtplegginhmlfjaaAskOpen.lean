/-
  A slice of Ask values that came in: what it holds (mkrow.py wrote this).
-/
import Derived.Test.YtplegginhmlfjaaAskV
import Derived.Test.YtplegginhmlfjaaOpenQ
import Derived.Test.YtplegginhmlfjaaOpenSt
namespace Go.Proofs.Ytplegginhmlfjaa
open Go.ChangeShapes Go.WideShapes Go.ChangeAt Go.RowKit Go.Deep
set_option linter.unusedVariables false

theorem cells_lAsk : Try.prog.cellsOf 153 = 5 := by kernel_rfl
def AskFit (q : Ask) : Prop := q.node.length ≤ 9223372036854775807 ∧ (Lit.int .i64 q.mem).wf = true ∧ (Lit.int .i64 q.cpu).wf = true ∧ (Lit.int .i64 q.count).wf = true ∧ (Lit.int .i64 q.missed).wf = true
set_option maxRecDepth 100000 in
theorem open_ask1 {H : Type} {enc : TypeId × Value → H} {W : World} {base : Nat} {sp : Nat → Bool} {held : Bool} {fuel : Nat} {cs : List Value} {x : DataW H × List MemPlace}
    (h : DataW.trod enc Try.prog W base sp held fuel 153 cs = some x) :
    ∃ q : Ask, cs = [.int .i64 q.mem, .int .i64 q.cpu, .int .i64 q.count, .string (bs q.node), .int .i64 q.missed] ∧ AskFit q := by
  obtain ⟨xs, n, rfl, rfl, hlen, hxs, hf⟩ := DataW.trod_struct Try.underlying153 h
  rw [cells_lAsk] at hlen
  have hxs : xs.length = 4 := hxs
  match cs, hlen, xs, hxs with
  | [c0, c1, c2, c3, c4], _, [x0, x1, x2, x3], _ =>
    have h0 := hf 0 _ rfl
    have h1 := hf 1 _ rfl
    have h2 := hf 2 _ rfl
    have h3 := hf 3 _ rfl
    obtain ⟨s0, s1, e0, b0, b1⟩ := open_rescells h0
    obtain ⟨s2, e2, _, b2⟩ := DataW.trod_int Try.underlying3 h1
    obtain ⟨s3, e3, _, b3⟩ := DataW.trod_string Try.underlying9 h2
    obtain ⟨s4, e4, _, b4⟩ := DataW.trod_int Try.underlying3 h3
    simp [cells_qs, cells_qi, cells_lr1] at e0 e2 e3 e4
    obtain ⟨q0, q1⟩ := e0
    subst q0 q1 e2 e3 e4
    refine ⟨⟨s0, s1, s2, s3.data.toList, s4⟩, by simp only [bs_back], ?_, b0, b1, b2, b4⟩
    simpa [maxLen] using b3
theorem open_asks {H : Type} {enc : TypeId × Value → H} {W : World} {base : Nat} {held : Bool} {ao : Option Addr} {len cap fuel : Nat} {x : DataW H × List MemPlace}
    (hf : DataW.trod enc Try.prog W base (fun _ => true) held fuel 98 [.slice ao len cap] = some x) :
    ∃ l : List Ask, AskRow W ao len l ∧ len ≤ 9223372036854775807 ∧ ∀ q ∈ l, AskFit q := by
  rcases open_slice Try.underlying98 hf with ⟨hcs, _⟩ | ⟨a, len', cap', m, n, D, Pl, hcs, hb, hl, hm, hmm, hx, hel⟩
  · simp at hcs
    obtain ⟨rfl, rfl, rfl⟩ := hcs
    exact ⟨[], AskRow.nil _ _, by omega, by simp⟩
  · simp at hcs
    obtain ⟨rfl, rfl, rfl⟩ := hcs
    simp only [if_true] at hmm
    subst hmm
    rw [cells_lAsk] at hel
    obtain ⟨F, hF⟩ := choose_lt (α := Ask) (n := len) (p := fun i q => W.cells? base (a.add (i * 5)) 5 = some [.int .i64 q.mem, .int .i64 q.cpu, .int .i64 q.count, .string (bs q.node), .int .i64 q.missed] ∧ AskFit q) (fun i hi => by
      obtain ⟨cs', h1, h2⟩ := hel i (by omega)
      obtain ⟨q, rfl, h3⟩ := open_ask1 h2
      exact ⟨q, h1, h3⟩)
    refine ⟨(List.range len).map F, ?_, by have : maxLen = 9223372036854775807 := rfl; omega, ?_⟩
    · refine ⟨by simp, ?_⟩
      by_cases h0 : len = 0
      · exact .inl h0
      · right
        obtain ⟨b, off, spot⟩ := a
        have hc0 := (World.cells?_some (hF 0 (by omega)).1).2.2 0 (by omega)
        have hspot : spot = none := by simpa [Addr.add] using World.cell?_spot hc0
        subst hspot
        refine ⟨b, off, rfl, fun i hi => ?_⟩
        have hi' : i < len := by simpa using hi
        obtain ⟨_, _, hc⟩ := World.cells?_some (hF i hi').1
        rw [Lib.add_plain] at hc
        have k0 := hc 0 (by omega)
        have k1 := hc 1 (by omega)
        have k2 := hc 2 (by omega)
        have k3 := hc 3 (by omega)
        have k4 := hc 4 (by omega)
        rw [Lib.add_plain] at k0 k1 k2 k3 k4
        simp only [List.getElem_map, List.getElem_range]
        exact ⟨k0, k1, k2, k3, k4⟩
    · intro q hq
      obtain ⟨i, hi, rfl⟩ := List.mem_map.1 hq
      exact (hF i (by simpa using hi)).2
end Go.Proofs.Ytplegginhmlfjaa
