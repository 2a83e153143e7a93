/-
  The library's Sort at lists of texts: they stand in order; nothing else turns.
-/
import Derived.Test.YtbgamlegiikggaaGreatPackC
import Derived.Test.YtbgamlegiikggaaGreatShelf
import Derived.Sort.OwnSorted
namespace Go.Proofs.YtbgamlegiikggaaGreat
open Go.RowKit Go.Sort
set_option linter.unusedVariables false

theorem Texts.base {w : World} {B B' : Nat} {v : Value} {ps : List (List UInt8)} (h : Texts B w v ps) (hb : B' ≤ B) : Texts B' w v ps := by
  obtain ⟨h1, h2⟩ := h
  refine ⟨h1, ?_⟩
  rcases h2 with h2 | ⟨g, cap, cur, a, b, c⟩
  · exact .inl h2
  · exact .inr ⟨g, cap, cur, a, by omega, c⟩
theorem SS.own {w : World} {g cap : Nat} {ps : List (List UInt8)} (h : SS w g cap (ps.map bs)) : Texts g w (.slice (some ⟨g, 0, none⟩) ps.length cap) ps := by
  have := h
  unfold SS at this
  rw [List.length_map] at this
  unfold Texts
  rw [List.length_map]
  exact this
theorem map_enc (ps : List (List UInt8)) : (ps.map bs).map Value.string = ps.map encStr := by
  rw [List.map_map]
  apply List.map_congr_left
  intro a _
  rfl
theorem sort_any (g cap : Nat) (ps : List (List UInt8)) (w : World) (h : SS w g cap (ps.map bs)) (hl : ps.length ≤ 2097152) :
    Calls Tryz.prog 51 #[.slice (some ⟨g, 0, none⟩) ps.length cap] w fun e w' => e = .returned (.tuple #[]) ∧ SS w' g cap ((ps.mergeSort fun x y => decide (x ≤ y)).map bs) ∧ w.grownBy w' (some g) := by
  obtain ⟨cur, h1, h2, h3, h4, h5⟩ := h.block
  rw [List.length_map] at h2 h5
  rw [map_enc] at h5
  refine (Tryz.slices_Sort_string g 0 cap ps w (holds_of_block h1 h5) h.lt (by omega)).mono ?_
  rintro e w' ⟨rfl, n, os, rfl⟩
  have hlen : (ps.mergeSort fun x y => decide (x ≤ y)).length = ps.length := List.length_mergeSort _
  refine ⟨rfl, ?_, grownBy_sorted _⟩
  have := ownsRow_sorted (n := n) (os := os) (ts := ps.mergeSort fun x y => decide (x ≤ y)) hlen (Nat.le_refl g) h1 h2 h3 (by omega)
  unfold SS
  rw [List.length_map, hlen, map_enc]
  exact this
end Go.Proofs.YtbgamlegiikggaaGreat
