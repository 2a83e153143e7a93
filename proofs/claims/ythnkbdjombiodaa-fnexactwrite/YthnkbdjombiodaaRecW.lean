/-
  Records: the laws' own helpers (szRec, toRec), a record that came in; walks over the dump.
-/
import Derived.Test.YthnkbdjombiodaaRecV
import Derived.ProofKit
import Derived.OpenShut
import Derived.ChangeSame
import Derived.Deep.Slices
namespace Go.Proofs.Ythnkbdjombiodaa
open Go.ChangeShapes Go.WideShapes Go.ChangeAt Go.RowKit Go.Deep
set_option linter.unusedVariables false

def szRc (r : Rc) (a : Int) : Int := if a - r.queue.length < 0 then -1 else a - r.queue.length
set_option maxRecDepth 100000 in
set_option maxHeartbeats 1000000 in
theorem szRec_any (r : Rc) (a : Int) (w : World) (ha0 : 0 ≤ a) (ha1 : a ≤ 1048576) (hn : r.queue.length ≤ 9223372036854775807) :
    Calls Try.prog 8 #[rcv r, .int .i64 a] w fun e w' => e = .returned (.int .i64 (szRc r a)) ∧ Below w.heap.size w w' := by
  obtain ⟨x0, x1, x3⟩ := r
  have z1 := bs_size x3
  simp only at hn
  unfold szRc
  simp only
  by_cases h1 : a - x3.length < 0
  · rw [if_pos h1]
    go_enter Try.func8, Try.ntmps8
    go_wp2
    go_ret
    refine ⟨rfl, ?_⟩
    repeat (first | exact Below.refl _ _ | refine below_al ?_ _ | refine Below.drew ?_ | refine below_sc ?_ _ _ _ (by omega))
  · rw [if_neg h1]
    go_enter Try.func8, Try.ntmps8
    go_wp2
    go_ret
    refine ⟨rfl, ?_⟩
    repeat (first | exact Below.refl _ _ | refine below_al ?_ _ | refine Below.drew ?_ | refine below_sc ?_ _ _ _ (by omega))
theorem szRec_cases (r : Rc) (a : Int) (ha0 : 0 ≤ a) (ha1 : a ≤ 1048576) : szRc r a = -1 ∨ (0 ≤ szRc r a ∧ szRc r a ≤ a ∧ r.queue.length ≤ 1048576) := by
  unfold szRc
  split
  · exact .inl rfl
  · right; omega

set_option maxRecDepth 100000 in
set_option maxHeartbeats 1000000 in
theorem toRec_any (r : Rc) (w : World) :
    Calls Try.prog 10 #[rcv r] w fun e w' => e = .returned (rcv r) ∧ Below w.heap.size w w' := by
  obtain ⟨x0, x1, x2⟩ := r
  go_enter Try.func10, Try.ntmps10
  go_wp2
  refine bodyPost_ret (v := rcv ⟨x0, x1, x2⟩) (by simp [results, Try.results10, go_sem]) rfl ⟨rfl, ?_⟩
  repeat (first | exact Below.refl _ _ | refine below_al ?_ _ | refine Below.drew ?_ | refine below_sc ?_ _ _ _ (by omega))

theorem cells_lrec : Try.prog.cellsOf 26 = 3 := by kernel_rfl
theorem cells_rs : Try.prog.cellsOf 9 = 1 := by kernel_rfl
theorem cells_ri : Try.prog.cellsOf 3 = 1 := by kernel_rfl
set_option maxRecDepth 100000 in
theorem open_rec1 {H : Type} {enc : TypeId × Value → H} {W : World} {base : Nat} {sp : Nat → Bool} {held : Bool} {fuel : Nat} {cs : List Value} {x : DataW H × List MemPlace}
    (h : DataW.trod enc Try.prog W base sp held fuel 26 cs = some x) :
    ∃ q : Rc, cs = [.int .i64 q.kind, .int .i64 q.app, .string (bs q.queue)] ∧ RcFit q := by
  obtain ⟨xs, n, rfl, rfl, hlen, hxs, hf⟩ := DataW.trod_struct Try.underlying26 h
  rw [cells_lrec] at hlen
  have hxs : xs.length = 3 := hxs
  match cs, hlen, xs, hxs with
  | [c0, c1, c2], _, [x0, x1, x2], _ =>
    have h0 := hf 0 _ rfl
    have h1 := hf 1 _ rfl
    have h2 := hf 2 _ rfl
    obtain ⟨s0, e0, _, b0⟩ := DataW.trod_int Try.underlying3 h0
    obtain ⟨s1, e1, _, b1⟩ := DataW.trod_int Try.underlying3 h1
    obtain ⟨s2, e2, _, b2⟩ := DataW.trod_string Try.underlying9 h2
    simp [cells_rs, cells_ri] at e0 e1 e2
    subst e0 e1 e2
    refine ⟨⟨s0, s1, s2.data.toList⟩, by simp only [bs_back], ?_, b0, b1⟩
    simpa [maxLen] using b2
set_option maxRecDepth 100000 in
theorem open_recv {H : Type} {enc : TypeId × Value → H} {W : World} {base b0 : Nat} {r : Reach} {sp : Nat → Bool} {held : Bool} {v : Value} {d : DataW H} {p : List MemPlace}
    (hv : Value.okWide Try.prog W r b0 26 v) (h : DataW.Trod enc Try.prog W base sp held 26 v d p) :
    ∃ q : Rc, v = rcv q ∧ RcFit q := by
  obtain ⟨cs, rfl, hsz⟩ := okWide_struct Try.underlying26 hv
  obtain ⟨fuel, hf⟩ := h
  obtain ⟨l⟩ := cs
  have hcells : (Value.agg ⟨l⟩).cells.toList = l := by simp [Value.cells]
  rw [hcells] at hf
  obtain ⟨q, rfl, hq⟩ := open_rec1 hf
  exact ⟨q, rfl, hq⟩
end Go.Proofs.Ythnkbdjombiodaa
