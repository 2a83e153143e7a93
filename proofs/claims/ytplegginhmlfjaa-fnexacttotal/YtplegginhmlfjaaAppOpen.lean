/-
  A slice of App values that came in: what it holds.
-/
import Derived.Test.YtplegginhmlfjaaAppSz
import Derived.Test.YtplegginhmlfjaaAskOpen
namespace Go.Proofs.Ytplegginhmlfjaa
open Go.ChangeShapes Go.WideShapes Go.ChangeAt Go.RowKit Go.Deep
set_option linter.unusedVariables false

theorem cells_lAppl : Try.prog.cellsOf 100 = 3 := by kernel_rfl
theorem cells_lAskS : Try.prog.cellsOf 98 = 1 := by kernel_rfl
def ApplFit (q : Appl) : Prop := q.queue.length ≤ 9223372036854775807 ∧ (Lit.int .i64 q.id).wf = true ∧ q.asks.length ≤ 9223372036854775807 ∧ ∀ a ∈ q.asks, AskFit a
theorem ApplFit.big {q : Appl} (h : ApplFit q) : ApplBig q := ⟨h.1, h.2.2.1, fun a ha => (h.2.2.2 a ha).1⟩
set_option maxRecDepth 100000 in
theorem open_appl1 {H : Type} {enc : TypeId × Value → H} {W : World} {base : Nat} {held : Bool} {fuel : Nat} {cs : List Value} {x : DataW H × List MemPlace}
    (h : DataW.trod enc Try.prog W base (fun _ => true) held fuel 100 cs = some x) :
    ∃ (q : Appl) (ao : Option Addr) (len cap : Nat), cs = [.int .i64 q.id, .string (bs q.queue), .slice ao len cap] ∧ AskRow W ao len q.asks ∧ len ≤ cap ∧ ApplFit q := by
  obtain ⟨xs, n, rfl, rfl, hlen, hxs, hf⟩ := DataW.trod_struct Try.underlying100 h
  rw [cells_lAppl] at hlen
  have hxs : xs.length = 3 := hxs
  match cs, hlen, xs, hxs with
  | [c0, c1, c2], _, [x0, x1, x2], _ =>
    have h0 := hf 0 _ rfl
    have h1 := hf 1 _ rfl
    have h2 := hf 2 _ rfl
    obtain ⟨s0, e0, _, b0⟩ := DataW.trod_int Try.underlying3 h0
    obtain ⟨s1, e1, _, b1⟩ := DataW.trod_string Try.underlying9 h1
    have h3 := h2
    simp [cells_qs, cells_qi, cells_lAskS] at e0 e1 h3
    rcases open_slice Try.underlying98 h3 with ⟨hcs, _⟩ | ⟨a, len', cap', m, n, D, Pl, hcs, hb, hl, hm, hmm, hx, hel⟩
    · simp at hcs
      subst hcs e0 e1
      exact ⟨⟨s0, s1.data.toList, []⟩, none, 0, 0, by simp only [bs_back], AskRow.nil _ _, Nat.le_refl _, by simpa [maxLen] using b1, b0, by simp, by simp⟩
    · simp at hcs
      subst hcs e0 e1
      obtain ⟨l, hr, hle, hfit⟩ := open_asks h3
      refine ⟨⟨s0, s1.data.toList, l⟩, some a, len', cap', by simp only [bs_back], hr, hl, by simpa [maxLen] using b1, b0, ?_, hfit⟩
      have := hr.1
      show l.length ≤ _
      omega
theorem open_appls {H : Type} {enc : TypeId × Value → H} {W : World} {base : Nat} {held : Bool} {ao : Option Addr} {len cap fuel : Nat} {x : DataW H × List MemPlace}
    (hf : DataW.trod enc Try.prog W base (fun _ => true) held fuel 23 [.slice ao len cap] = some x) :
    ∃ l : List Appl, ApplRow W ao len l ∧ len ≤ 9223372036854775807 ∧ ∀ q ∈ l, ApplFit q := by
  rcases open_slice Try.underlying23 hf with ⟨hcs, _⟩ | ⟨a, len', cap', m, n, D, Pl, hcs, hb, hl, hm, hmm, hx, hel⟩
  · simp at hcs
    obtain ⟨rfl, rfl, rfl⟩ := hcs
    exact ⟨[], ApplRow.nil _ _, by omega, by simp⟩
  · simp at hcs
    obtain ⟨rfl, rfl, rfl⟩ := hcs
    simp only [if_true] at hmm
    subst hmm
    rw [cells_lAppl] at hel
    obtain ⟨F, hF⟩ := choose_lt (α := Appl) (n := len) (p := fun i q => ∃ (xo : Option Addr) (xl xc : Nat), W.cells? base (a.add (i * 3)) 3 = some [.int .i64 q.id, .string (bs q.queue), .slice xo xl xc] ∧ AskRow W xo xl q.asks ∧ xl ≤ xc ∧ ApplFit q) (fun i hi => by
      obtain ⟨cs', h1, h2⟩ := hel i (by omega)
      obtain ⟨q, xo, xl, xc, rfl, h3⟩ := open_appl1 h2
      exact ⟨q, xo, xl, xc, h1, h3⟩)
    refine ⟨(List.range len).map F, ?_, by have : maxLen = 9223372036854775807 := rfl; omega, ?_⟩
    · refine ⟨by simp, ?_⟩
      by_cases h0 : len = 0
      · exact .inl h0
      · right
        obtain ⟨b, off, spot⟩ := a
        obtain ⟨_, _, _, hF0, _⟩ := hF 0 (by omega)
        have hc0 := (World.cells?_some hF0).2.2 0 (by omega)
        have hspot : spot = none := by simpa [Addr.add] using World.cell?_spot hc0
        subst hspot
        refine ⟨b, off, rfl, fun i hi => ?_⟩
        have hi' : i < len := by simpa using hi
        obtain ⟨xo, xl, xc, hFi, hrow, hle, _⟩ := hF i hi'
        obtain ⟨_, _, hc⟩ := World.cells?_some hFi
        rw [Lib.add_plain] at hc
        have k0 := hc 0 (by omega)
        have k1 := hc 1 (by omega)
        have k2 := hc 2 (by omega)
        rw [Lib.add_plain] at k0 k1 k2
        simp only [List.getElem_map, List.getElem_range]
        exact ⟨xo, xl, xc, k0, k1, k2, hrow, hle⟩
    · intro q hq
      obtain ⟨i, hi, rfl⟩ := List.mem_map.1 hq
      obtain ⟨_, _, _, _, _, _, h⟩ := hF i (by simpa using hi)
      exact h
end Go.Proofs.Ytplegginhmlfjaa
