/-
  A state that comes in as an argument.
-/
import Derived.Test.YtplegginhmlfjaaStSz
import Derived.Test.YtplegginhmlfjaaAppOpen
import Derived.Test.YtplegginhmlfjaaMacOpen
import Derived.Test.YtplegginhmlfjaaConOpen
namespace Go.Proofs.Ytplegginhmlfjaa
open Go.ChangeShapes Go.WideShapes Go.ChangeAt Go.RowKit Go.Deep
set_option linter.unusedVariables false

theorem cells_lSt : Try.prog.cellsOf 27 = 8 := by kernel_rfl
theorem cells_lQS : Try.prog.cellsOf 22 = 1 := by kernel_rfl
theorem cells_lAS : Try.prog.cellsOf 23 = 1 := by kernel_rfl
theorem cells_lMS : Try.prog.cellsOf 24 = 1 := by kernel_rfl
theorem cells_lCS : Try.prog.cellsOf 25 = 1 := by kernel_rfl
/-- what is known of a state that came in -/
def StFit (x : Sls) (s : St) : Prop := (x.ql ≤ 9223372036854775807 ∧ ∀ q ∈ s.qs, QFit q ∧ (Lit.int .i64 q.due).wf = true ∧ (Lit.int .i64 q.most).wf = true) ∧ (x.al ≤ 9223372036854775807 ∧ ∀ q ∈ s.apps, ApplFit q) ∧ (x.ml ≤ 9223372036854775807 ∧ ∀ q ∈ s.ms, MacFit q) ∧ (x.cl ≤ 9223372036854775807 ∧ ∀ q ∈ s.cs, ConFit q) ∧ (Lit.int .i64 s.clock).wf = true ∧ (Lit.int .i64 s.epoch).wf = true ∧ (Lit.int .i64 s.next).wf = true ∧ (Lit.int .i64 s.serial).wf = true
theorem StFit.big {x : Sls} {s : St} (h : StFit x s) : StBig x s := ⟨⟨h.1.1, fun q hq => (h.1.2 q hq).1⟩, ⟨h.2.1.1, fun q hq => (h.2.1.2 q hq).big⟩, ⟨h.2.2.1.1, fun q hq => (h.2.2.1.2 q hq).1⟩, h.2.2.2.1.1, fun q hq => (h.2.2.2.1.2 q hq).1⟩
theorem slice_cells {H : Type} {enc : TypeId × Value → H} {W : World} {base : Nat} {held : Bool} {t e : TypeId} {fuel : Nat} {c : Value} {x : DataW H × List MemPlace} (hu : Try.prog.underlying t = some (.slice e))
    (h : DataW.trod enc Try.prog W base (fun _ => true) held fuel t [c] = some x) : ∃ ao len cap, c = .slice ao len cap := by
  rcases open_slice hu h with ⟨hcs, _⟩ | ⟨a, len', cap', m, n, D, Pl, hcs, _⟩
  · simp at hcs; exact ⟨_, _, _, hcs⟩
  · simp at hcs; exact ⟨_, _, _, hcs⟩
set_option maxRecDepth 100000 in
theorem open_state {H : Type} {enc : TypeId × Value → H} {W : World} {base b0 : Nat} {r : Reach} {held : Bool} {v : Value} {d : DataW H} {p : List MemPlace}
    (hv : Value.okWide Try.prog W r b0 27 v) (h : DataW.Trod enc Try.prog W base (fun _ => true) held 27 v d p) :
    ∃ (x : Sls) (s : St), v = sv x s ∧ SRow W x s ∧ StFit x s := by
  obtain ⟨cs, rfl, hsz⟩ := okWide_struct Try.underlying27 hv
  obtain ⟨fuel, hf0⟩ := h
  obtain ⟨cs⟩ := cs
  have hcells : (Value.agg ⟨cs⟩).cells.toList = cs := by simp [Value.cells]
  rw [hcells] at hf0
  obtain ⟨xs, n, rfl, _, hlen, hxs, hf⟩ := DataW.trod_struct Try.underlying27 hf0
  rw [cells_lSt] at hlen
  have hxs : xs.length = 8 := hxs
  match cs, hlen, xs, hxs with
  | [c0, c1, c2, c3, c4, c5, c6, c7], _, [x0, x1, x2, x3, x4, x5, x6, x7], _ =>
    have h0 := hf 0 _ rfl
    have h1 := hf 1 _ rfl
    have h2 := hf 2 _ rfl
    have h3 := hf 3 _ rfl
    have h4 := hf 4 _ rfl
    have h5 := hf 5 _ rfl
    have h6 := hf 6 _ rfl
    have h7 := hf 7 _ rfl
    obtain ⟨s1, e1, _, b1⟩ := DataW.trod_int Try.underlying3 h1
    obtain ⟨s2, e2, _, b2⟩ := DataW.trod_int Try.underlying3 h2
    obtain ⟨s3, e3, _, b3⟩ := DataW.trod_int Try.underlying3 h3
    obtain ⟨s4, e4, _, b4⟩ := DataW.trod_int Try.underlying3 h4
    simp [cells_qi, cells_lQS, cells_lAS, cells_lMS, cells_lCS] at e1 e2 e3 e4 h0 h5 h6 h7
    obtain ⟨qa, ql, qc, rfl⟩ := slice_cells Try.underlying22 h0
    obtain ⟨aa, al, ac, rfl⟩ := slice_cells Try.underlying23 h5
    obtain ⟨ma, ml, mc, rfl⟩ := slice_cells Try.underlying24 h6
    obtain ⟨ca, cl, cc, rfl⟩ := slice_cells Try.underlying25 h7
    subst e1 e2 e3 e4
    obtain ⟨lq, hq, q1, q2⟩ := open_queues (ao := qa) (len := ql) (cap := qc) ⟨_, by simpa [Value.cells] using h0⟩
    obtain ⟨la, ha, a1, a2⟩ := open_appls h5
    obtain ⟨lm, hm, m1, m2⟩ := open_macs h6
    obtain ⟨lc, hc, k1, k2⟩ := open_cons h7
    exact ⟨⟨qa, ql, qc, aa, al, ac, ma, ml, mc, ca, cl, cc⟩, ⟨lq, s1, s2, s3, s4, la, lm, lc⟩, rfl, ⟨hq, ha, hm, hc⟩, ⟨q1, q2⟩, ⟨a1, a2⟩, ⟨m1, m2⟩, ⟨k1, k2⟩, b1, b2, b3, b4⟩
end Go.Proofs.Ytplegginhmlfjaa
