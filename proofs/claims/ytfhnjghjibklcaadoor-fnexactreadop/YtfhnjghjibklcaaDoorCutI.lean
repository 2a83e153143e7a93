/-
  A text cut at its first x: the library's Cut, its contract in plain words.
-/
import Derived.Test.YtfhnjghjibklcaaDoorReadResS
import Derived.Test.YtfhnjghjibklcaaDoorShelf
import Derived.Lib.IndexMore
namespace Go.Proofs.YtfhnjghjibklcaaDoor
open Go.RowKit
set_option linter.unusedVariables false

theorem index_x : ∀ l : List UInt8, Lib.index l [120] = if xAt l < l.length then (xAt l : Int) else -1
  | [] => rfl
  | b :: t => by
    rw [Lib.index, index_x t, xAt]
    by_cases h : b = 120
    · subst h; simp
    · have h2 : ¬ (120 : UInt8) = b := fun e => h e.symm
      by_cases h3 : xAt t < t.length
      · have h4 : ¬ ((xAt t : Int) = -1) := by omega
        simp [List.isPrefixOf, h, h2, h3, h4]
      · simp [List.isPrefixOf, h, h2, h3]
theorem cut_hit {l : List UInt8} (h : xAt l < l.length) : Lib.cut l [120] = (l.take (xAt l), l.drop (xAt l + 1), true) := by
  unfold Lib.cut
  rw [index_x, if_pos h, if_pos (by omega)]
  simp
theorem cut_miss {l : List UInt8} (h : ¬ xAt l < l.length) : Lib.cut l [120] = (l, [], false) := by
  unfold Lib.cut
  rw [index_x, if_neg h, if_neg (by omega)]
/-- the library's variable MaxLen holds some number -/
def MaxLenAt (w : World) : Prop := ∃ m, w.cell? ⟨Tryd.lays145_ren.g 1, 0, none⟩ = some (.int .i64 m)
theorem MaxLenAt.of {w : World} (h : w.ShapedOpen Tryd.prog) : MaxLenAt w := Tryd.laysM145.s1_3 w h
theorem MaxLenAt.below {w w' : World} (h : MaxLenAt w) (hb : Below w.heap.size w w') : MaxLenAt w' := by
  obtain ⟨m, hm⟩ := h
  exact ⟨m, (hb.cell (cell_lt hm)).trans hm⟩
theorem MaxLenAt.from {w0 w w' : World} (h : MaxLenAt w) (hw : w.heap.size ≤ w0.heap.size) (h0 : Below w.heap.size w w0) (hb : Below w0.heap.size w0 w') : MaxLenAt w' := (h.below h0).below hb
theorem cut_any (s : ByteArray) (w : World) (hs : s.size ≤ 1048576) (hm : MaxLenAt w) :
    Calls Tryd.prog 41 #[.string s, .string ⟨#[120]⟩] w fun e w' => e = .returned (.tuple #[.string (bs (Lib.cut s.data.toList [120]).1), .string (bs (Lib.cut s.data.toList [120]).2.1), .bool (Lib.cut s.data.toList [120]).2.2]) ∧ Below w.heap.size w w' := by
  obtain ⟨m, hm⟩ := hm
  refine (Tryd.strings_Cut s ⟨#[120]⟩ m w (by omega) hm).mono ?_
  rintro e w' ⟨rfl, n, rfl⟩
  exact ⟨rfl, below_drewN (Below.refl _ _) n⟩
end Go.Proofs.YtfhnjghjibklcaaDoor
