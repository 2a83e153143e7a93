/-
  A slice of queues that came in: what it holds.
-/
import Derived.Test.YtfpdhlpbcgobiaaDoorQV
import Derived.ProofKit
import Derived.OpenShut
import Derived.ChangeSame
import Derived.Deep.Slices
import Derived.Lib.ItoaMem
namespace Go.Proofs.YtfpdhlpbcgobiaaDoor
open Go.ChangeShapes Go.WideShapes Go.ChangeAt Go.RowKit Go.Deep
set_option linter.unusedVariables false

theorem cells_lq : Tryd.prog.cellsOf 72 = 4 := by kernel_rfl
theorem cells_qs : Tryd.prog.cellsOf 9 = 1 := by kernel_rfl
theorem cells_qi : Tryd.prog.cellsOf 3 = 1 := by kernel_rfl
/-- sizes that a reading allows -/
def QFit (q : Q) : Prop := q.name.length ≤ 9223372036854775807 ∧ q.parent.length ≤ 9223372036854775807
theorem bs_back (s : ByteArray) : bs s.data.toList = s := by simp [bs]
set_option maxRecDepth 100000 in
theorem open_q1 {H : Type} {enc : TypeId × Value → H} {W : World} {base : Nat} {sp : Nat → Bool} {held : Bool} {fuel : Nat} {cs : List Value} {x : DataW H × List MemPlace}
    (h : DataW.trod enc Tryd.prog W base sp held fuel 72 cs = some x) :
    ∃ q : Q, cs = [.string (bs q.name), .string (bs q.parent), .int .i64 q.due, .int .i64 q.most] ∧ QFit q ∧ (Lit.int .i64 q.due).wf = true ∧ (Lit.int .i64 q.most).wf = true := by
  obtain ⟨xs, n, rfl, rfl, hlen, hxs, hf⟩ := DataW.trod_struct Tryd.underlying72 h
  rw [cells_lq] at hlen
  have hxs : xs.length = 4 := hxs
  match cs, hlen, xs, hxs with
  | [c0, c1, c2, c3], _, [x0, x1, x2, x3], _ =>
    have h0 := hf 0 _ rfl
    have h1 := hf 1 _ rfl
    have h2 := hf 2 _ rfl
    have h3 := hf 3 _ rfl
    obtain ⟨s0, e0, _, b0⟩ := DataW.trod_string Tryd.underlying9 h0
    obtain ⟨s1, e1, _, b1⟩ := DataW.trod_string Tryd.underlying9 h1
    obtain ⟨d, e2, _, b2⟩ := DataW.trod_int Tryd.underlying3 h2
    obtain ⟨m, e3, _, b3⟩ := DataW.trod_int Tryd.underlying3 h3
    simp [cells_qs, cells_qi] at e0 e1 e2 e3
    subst e0 e1 e2 e3
    refine ⟨⟨s0.data.toList, s1.data.toList, d, m⟩, by simp only [bs_back], ⟨?_, ?_⟩, b2, b3⟩
    · simpa [maxLen] using b0
    · simpa [maxLen] using b1
theorem open_queues {H : Type} {enc : TypeId × Value → H} {W : World} {base : Nat} {held : Bool} {ao : Option Addr} {len cap : Nat} {d : DataW H} {p : List MemPlace}
    (h : DataW.Trod enc Tryd.prog W base (fun _ => true) held 40 (.slice ao len cap) d p) :
    ∃ l : List Q, QRow W ao len l ∧ len ≤ 9223372036854775807 ∧ ∀ q ∈ l, QFit q ∧ (Lit.int .i64 q.due).wf = true ∧ (Lit.int .i64 q.most).wf = true := by
  obtain ⟨fuel, hf⟩ := h
  rcases open_slice Tryd.underlying40 hf with ⟨hcs, _⟩ | ⟨a, len', cap', m, n, D, Pl, hcs, hb, hl, hm, hmm, hx, hel⟩
  · simp [Value.cells] at hcs
    obtain ⟨rfl, rfl, rfl⟩ := hcs
    exact ⟨[], QRow.nil _ _, by omega, by simp⟩
  · simp [Value.cells] at hcs
    obtain ⟨rfl, rfl, rfl⟩ := hcs
    simp only [if_true] at hmm
    subst hmm
    rw [cells_lq] at hel
    have inh : Inhabited Q := ⟨⟨[], [], 0, 0⟩⟩
    obtain ⟨F, hF⟩ := choose_lt (α := Q) (n := len) (p := fun i q => W.cells? base (a.add (i * 4)) 4 = some [.string (bs q.name), .string (bs q.parent), .int .i64 q.due, .int .i64 q.most] ∧ QFit q ∧ (Lit.int .i64 q.due).wf = true ∧ (Lit.int .i64 q.most).wf = true) (fun i hi => by
      obtain ⟨cs', h1, h2⟩ := hel i (by omega)
      obtain ⟨q, rfl, h3⟩ := open_q1 h2
      exact ⟨q, h1, h3⟩)
    refine ⟨(List.range len).map F, ?_, by have : maxLen = 9223372036854775807 := rfl; omega, ?_⟩
    · refine ⟨by simp, ?_⟩
      by_cases h0 : len = 0
      · exact .inl h0
      · right
        obtain ⟨b, off, spot⟩ := a
        have hc0 := (World.cells?_some (hF 0 (by omega)).1).2.2 0 (by omega)
        have hspot : spot = none := by simpa [Addr.add] using World.cell?_spot hc0
        subst hspot
        refine ⟨b, off, rfl, fun i hi => ?_⟩
        have hi' : i < len := by simpa using hi
        obtain ⟨_, _, hc⟩ := World.cells?_some (hF i hi').1
        rw [Lib.add_plain] at hc
        have k0 := hc 0 (by omega)
        have k1 := hc 1 (by omega)
        have k2 := hc 2 (by omega)
        have k3 := hc 3 (by omega)
        rw [Lib.add_plain] at k0 k1 k2 k3
        simp only [List.getElem_map, List.getElem_range]
        exact ⟨k0, k1, k2, k3⟩
    · intro q hq
      obtain ⟨i, hi, rfl⟩ := List.mem_map.1 hq
      exact (hF i (by simpa using hi)).2
end Go.Proofs.YtfpdhlpbcgobiaaDoor
