/-
  A text cut at the first end of a line: the library's Cut, its contract in plain words.
-/
import Derived.Test.YtebaejokhpdbkaaGreatDoorPackE
import Derived.Test.YtebaejokhpdbkaaGreatDoorShelf
import Derived.Test.YtebaejokhpdbkaaGreatDoorPackA
import Derived.Lib.IndexMore
namespace Go.Proofs.YtebaejokhpdbkaaGreatDoor
open Go.RowKit
set_option linter.unusedVariables false

theorem index_nl : ∀ l : List UInt8, Lib.index l [10] = if nlAt l < l.length then (nlAt l : Int) else -1
  | [] => rfl
  | b :: t => by
    rw [Lib.index, index_nl t, nlAt]
    by_cases h : b = 10
    · subst h; simp
    · have h2 : ¬ (10 : UInt8) = b := fun e => h e.symm
      by_cases h3 : nlAt t < t.length
      · have h4 : ¬ ((nlAt t : Int) = -1) := by omega
        simp [List.isPrefixOf, h, h2, h3, h4]
      · simp [List.isPrefixOf, h, h2, h3]
/-- a text cut at its first end of a line: what is ahead, what is behind, whether there is one -/
def cutNl (l : List UInt8) : List UInt8 × List UInt8 × Bool := if nlAt l < l.length then (l.take (nlAt l), l.drop (nlAt l + 1), true) else (l, [], false)
theorem cutNl_eq (l : List UInt8) : Lib.cut l [10] = cutNl l := by
  unfold Lib.cut cutNl
  rw [index_nl]
  by_cases h : nlAt l < l.length
  · rw [if_pos h, if_pos h, if_pos (by omega)]; simp
  · rw [if_neg h, if_neg h, if_neg (by omega)]
/-- the library's variable MaxLen holds some number -/
def MaxLenAt (w : World) : Prop := ∃ m, w.cell? ⟨Tryz.lays145_ren.g 1, 0, none⟩ = some (.int .i64 m)
theorem MaxLenAt.of {w : World} (h : w.ShapedOpen Tryz.prog) : MaxLenAt w := Tryz.laysM145.s1_3 w h
theorem MaxLenAt.below {w w' : World} (h : MaxLenAt w) (hb : Below w.heap.size w w') : MaxLenAt w' := by
  obtain ⟨m, hm⟩ := h
  exact ⟨m, (hb.cell (cell_lt hm)).trans hm⟩
theorem cutNl_any (l : List UInt8) (w : World) (hs : l.length ≤ 1048576) (hm : MaxLenAt w) :
    Calls Tryz.prog 49 #[.string (bs l), .string ⟨#[10]⟩] w fun e w' => e = .returned (.tuple #[.string (bs (cutNl l).1), .string (bs (cutNl l).2.1), .bool (cutNl l).2.2]) ∧ Below w.heap.size w w' := by
  obtain ⟨m, hm⟩ := hm
  refine (Tryz.strings_Cut (bs l) ⟨#[10]⟩ m w (by rw [bs_size]; omega) hm).mono ?_
  rintro e w' ⟨rfl, n, rfl⟩
  refine ⟨?_, below_drewN (Below.refl _ _) n⟩
  rw [show (bs l).data.toList = l by simp [bs], show (⟨#[10]⟩ : ByteArray).data.toList = [10] from rfl, cutNl_eq]
  rfl
end Go.Proofs.YtebaejokhpdbkaaGreatDoor
