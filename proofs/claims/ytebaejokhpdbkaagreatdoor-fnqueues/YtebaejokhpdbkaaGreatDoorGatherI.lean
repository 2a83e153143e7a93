/-
  What a round of a range over a function gathers in a list: one element more.
-/
import Derived.Test.YtebaejokhpdbkaaGreatDoorAboveI
import Derived.Maps.AppendAt
namespace Go.Proofs.YtebaejokhpdbkaaGreatDoor
open Go.RowKit Go.Shelf
set_option linter.unusedVariables false

/-- a queue's variable is no row of another type -/
theorem qbox_row {w w1 : World} {k : Nat} {q : Q} (h : QBox w k q) {base size n e : Nat} {v : Value} {xs : List Value} (hr : w.ownsRow base e size v n xs) (he : e ≠ 39) (hg : w.grownBy w1 v.ownBlock) : QBox w1 k q := by
  refine (hg.block k h.lt ?_).trans h
  rcases hr.2 with ⟨rfl, _⟩ | ⟨g, cap, cur, rfl, _, hgb, _⟩
  · simp [Value.ownBlock]
  · intro e'
    obtain rfl : k = g := by simpa [Value.ownBlock] using e'
    have := (show w.heap[k]? = _ from h).symm.trans hgb
    simp [qobj] at this
    exact he this.2.symm
theorem qbox_store {w : World} {k B t : Nat} {q : Q} {v u : Value} (h : QBox w k q) (hv : Go.Boxed w B t v) : QBox (w.setCell ⟨B, 0, none⟩ u) k q := by
  refine ((grownBy_setCell' w B u).block k h.lt ?_).trans h
  intro e'
  obtain rfl : k = B := by simpa using e'
  have := (show w.heap[k]? = _ from h).symm.trans hv
  simp [qobj] at this
theorem boxed_below {w w' : World} {B t : Nat} {v : Value} (h : Go.Boxed w B t v) (hb : Below w.heap.size w w') : Go.Boxed w' B t v := (hb.block B h.lt).trans h
theorem keeps_below {w w' : World} (hb : Below w.heap.size w w') : KeepsOthers w w' := KeepsOthers.of_grownBy (row := none) (grownBy_below (grownBy_refl w none) hb) (fun j o e => by cases e)

theorem row_below {w w' : World} {B e size n : Nat} {v : Value} {xs : List Value} (h : w.ownsRow B e size v n xs) (hb : Below w.heap.size w w') : w'.ownsRow B e size v n xs :=
  h.kept (grownBy_below (grownBy_refl w none) hb) (by by_cases e : v.ownBlock = none; exact .inl e; exact .inr e)
theorem gather_step (T E : TypeId) (z : Value) (bytes : Nat) (i0 : TypeInfo) (hu : Tryz.prog.underlying T = some (.slice E)) (hi : Tryz.prog.info? E = some i0) (hz0 : i0.zero = some z) (hz1 : i0.size = 1) (hz2 : i0.bytes = bytes) (hzc : z.cells.size = 1) (hTE : T ≠ E) (hEQ : E ≠ 39) (hby : bytes ≤ 16)
    {base B n : Nat} {v : Value} {xs : List Value} {w3 : World} (hv : Go.Boxed w3 B T v) (hr : w3.ownsRow base E 1 v n xs) (hn : n ≤ 1048576) (hbase : base ≤ w3.heap.size) (hB : base ≤ B) (y : Value) (hy : y.oneCell' = true) :
    ∃ g cp w4, (Builtin.append_ #[T, T] T #[v, .slice (some ⟨w3.heap.size, 0, none⟩) 1 1]).run Tryz.prog (w3.alloc (.cells #[y] E)) = .ok (.slice (some ⟨g, 0, none⟩) (n + 1) cp) w4 ∧ w4.cell? ⟨B, 0, none⟩ = some v ∧ w4.frozen? ⟨B, 0, none⟩ = false
      ∧ Hid (Go.Boxed (w4.setCell ⟨B, 0, none⟩ (.slice (some ⟨g, 0, none⟩) (n + 1) cp)) B T (.slice (some ⟨g, 0, none⟩) (n + 1) cp) ∧ (w4.setCell ⟨B, 0, none⟩ (.slice (some ⟨g, 0, none⟩) (n + 1) cp)).ownsRow base E 1 (.slice (some ⟨g, 0, none⟩) (n + 1) cp) (n + 1) (xs ++ [y])
        ∧ KeepsOthers w3 (w4.setCell ⟨B, 0, none⟩ (.slice (some ⟨g, 0, none⟩) (n + 1) cp)) ∧ Below base w3 (w4.setCell ⟨B, 0, none⟩ (.slice (some ⟨g, 0, none⟩) (n + 1) cp)) ∧ ∀ k q, QBox w3 k q → QBox (w4.setCell ⟨B, 0, none⟩ (.slice (some ⟨g, 0, none⟩) (n + 1) cp)) k q) := by
  have h16 : (n + 1) * bytes ≤ 140737488355328 := by
    have : (n + 1) * bytes ≤ 1048577 * 16 := Nat.mul_le_mul (by omega) hby
    omega
  obtain ⟨v', w4, hrun, hown', hgrow, _⟩ := run_append_own (P := Tryz.prog) (w3.alloc (.cells #[y] E)) base T T E i0 z 1 bytes hu hi hz0 hz1 hz2 hzc (by decide) v n xs (hr.alloc _) ⟨w3.heap.size, 0, none⟩ 1 1 [y] rfl
    (by intro j u hj; match j, hj with | 0, hj => simp at hj; subst hj; simp [Addr.add]) (by intro u hu; simp at hu; subst hu; exact hy) (by unfold maxLen; omega) h16 (by simp; omega)
  obtain ⟨g, cp, rfl⟩ := ownsRow_succ hown'
  obtain ⟨hv1, hv2, hr2, hk2, hb2⟩ := hv.appended hTE hr hbase hB hown' hgrow
  refine ⟨g, cp, w4, hrun, hv1.cell, hv1.frozen, hide ⟨hv2, hr2, hk2, hb2, fun k q hq => ?_⟩⟩
  have h1 : QBox (w3.alloc (.cells #[y] E)) k q := hq.below (below_al (Below.refl _ w3) _)
  exact qbox_store (qbox_row h1 (hr.alloc _) hEQ hgrow) hv1
end Go.Proofs.YtebaejokhpdbkaaGreatDoor
