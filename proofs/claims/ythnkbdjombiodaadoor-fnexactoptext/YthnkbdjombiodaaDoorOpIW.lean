/-
  Words that a call gathers.
-/
import Derived.Test.YthnkbdjombiodaaDoorSOwn
import Derived.Test.YthnkbdjombiodaaDoorKeptV
import Derived.Maps.AppendAt
namespace Go.Proofs.YthnkbdjombiodaaDoor
open Go.RowKit
set_option linter.unusedVariables false

/-- what a call that gathers words ends with -/
def WAns (w : World) (ws : List (List UInt8)) (e : Ending) (w' : World) : Prop := ∃ v, e = .returned v ∧ Texts w.heap.size w' v ws ∧ Below w.heap.size w w'
theorem texts_made (B : Nat) (w : World) (hB : B ≤ w.heap.size) (ps : List (List UInt8)) (hn : ps.length ≤ 1048576) : Texts B (w.alloc (.cells (scells (ps.map bs)).toArray 9)) (.slice (some ⟨w.heap.size, 0, none⟩) ps.length ps.length) ps := by
  have e : ps.length = (ps.map bs).length := by simp
  unfold Texts
  rw [e]
  refine ⟨by simp [scells], .inr ⟨w.heap.size, (ps.map bs).length, (scells (ps.map bs)).toArray, rfl, hB, ?_, Nat.le_refl _, ?_, ?_, ?_⟩⟩
  · show (w.heap.push _)[w.heap.size]? = _
    simp
  · unfold maxLen; simp; omega
  · simp [scells]
  · simp only [Nat.mul_one]
    rw [List.take_of_length_le (by simp [scells])]
theorem texts_base {B B' : Nat} {w : World} {v : Value} {ps : List (List UInt8)} (h : Texts B w v ps) (hb : B' ≤ B) : Texts B' w v ps := by
  refine ⟨h.1, ?_⟩
  rcases h.2 with h | ⟨g, cap, cur, h0, h1, r⟩
  · exact .inl h
  · exact .inr ⟨g, cap, cur, h0, Nat.le_trans hb h1, r⟩
/-- a variable of another type is no row of texts -/
theorem blk_texts {w w1 : World} {k B : Nat} {t : TypeId} {arr : Array Value} {v : Value} {ps : List (List UInt8)} (h : Blk w k arr t) (hr : Texts B w v ps) (ht : t ≠ 9) (hg : w.grownBy w1 v.ownBlock) : Blk w1 k arr t := by
  refine (hg.block k h.lt ?_).trans h
  rcases hr.2 with ⟨rfl, _⟩ | ⟨g, cap, cur, rfl, _, hgb, _⟩
  · simp [Value.ownBlock]
  · intro e'
    obtain rfl : k = g := by simpa [Value.ownBlock] using e'
    have := (show w.heap[k]? = _ from h).symm.trans hgb
    simp at this
    exact ht this.2
/-- one word more -/
theorem words_step {B : Nat} {w : World} {v : Value} {ps : List (List UInt8)} (h : Texts B w v ps) (hn : ps.length ≤ 2097152) (hB : B ≤ w.heap.size) (y : List UInt8) :
    ∃ g cp w4, (Builtin.append_ #[49, 49] 49 #[v, .slice (some ⟨w.heap.size, 0, none⟩) 1 1]).run Tryd.prog (w.alloc (.cells #[.string (bs y)] 9)) = .ok (.slice (some ⟨g, 0, none⟩) (ps.length + 1) cp) w4
      ∧ Hid (Texts B w4 (.slice (some ⟨g, 0, none⟩) (ps.length + 1) cp) (ps ++ [y]) ∧ Below B w w4 ∧ ∀ k arr t, Blk w k arr t → t ≠ 9 → Blk w4 k arr t) := by
  obtain ⟨i0, hi, hz0, hz1, hz2⟩ := info_parts Tryd.infoS
  have hl : (ps.map bs).length = ps.length := by simp
  have hr : w.ownsRow B 9 1 v (ps.map bs).length (scells (ps.map bs)) := h
  obtain ⟨v', w4, hrun, hown', hgrow, _⟩ := run_append_own (P := Tryd.prog) (w.alloc (.cells #[.string (bs y)] 9)) B 49 49 9 i0 (.string ByteArray.empty) 1 16 Tryd.underlying49 hi hz0 hz1 hz2 rfl (by decide) v (ps.map bs).length (scells (ps.map bs)) (hr.alloc _) ⟨w.heap.size, 0, none⟩ 1 1 [.string (bs y)] rfl
    (by intro j u hj; match j, hj with | 0, hj => simp at hj; subst hj; simp [Addr.add]) (by intro u hu; simp at hu; subst hu; rfl) (by unfold maxLen; omega) (by omega) (by simp; omega)
  obtain ⟨g, cp, rfl⟩ : ∃ g cp, v' = .slice (some ⟨g, 0, none⟩) ((ps.map bs).length + 1) cp := by
    rcases hown'.2 with ⟨_, h0⟩ | ⟨g, cap, cur, hv, _⟩
    · omega
    · exact ⟨g, cap, hv⟩
  have R := srow_step (o := ps.map bs) (x := bs y) (Below.refl B w) hr hown' hgrow hB
  rw [hl] at hrun R
  refine ⟨g, cp, w4, hrun, hide ⟨?_, R.2, fun k arr t hk ht => ?_⟩⟩
  · exact Texts.of R.1 (by simp)
  · exact blk_texts (hk.al _) (h.below (below_al (Below.refl _ w) _)) ht hgrow
end Go.Proofs.YthnkbdjombiodaaDoor
