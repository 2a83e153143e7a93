/-
  A text out of a list, drawn: what the model's l01Pick answers at a cursor; a walk over the dump.
-/
import Derived.Test.YthnkbdjombiodaaDoorDraw2
namespace Go.Proofs.YthnkbdjombiodaaDoor
open Go.RowKit
set_option linter.unusedVariables false

/-- block q holds a list of so many texts, each of at most twelve bytes -/
def PickW (w : World) (q L : Nat) : Prop := q < w.heap.size ∧ ∀ j, j < L → ∃ s : ByteArray, w.cell? ⟨q, j, none⟩ = some (.string s) ∧ s.size ≤ 12
theorem texts_alloc (w : World) (t : TypeId) (xs : List ByteArray) (h : xs.all (fun s => decide (s.size ≤ 12)) = true) : PickW (w.alloc (.cells (xs.map Value.string).toArray t)) w.heap.size xs.length := by
  refine ⟨by simp, fun j hj => ⟨xs[j], ?_, ?_⟩⟩
  · rw [World.cell?_alloc_mark]; simp [hj]
  · have := List.all_eq_true.1 h xs[j] (List.getElem_mem hj)
    simpa using this
set_option maxRecDepth 100000 in
set_option maxHeartbeats 1000000 in
theorem pickS_st {w0 : World} {B g : Nat} {ao : Option Addr} {len cap : Nat} (q L c : Nat) (w : World) (h : St w0 B g ao len cap w) (hq : PickW w q L) (hne : q ≠ g) (hL : 0 < L) (hL1 : L ≤ 1000) :
    Calls Tryd.prog 44 #[.pointer (some ⟨g, 0, none⟩), .slice (some ⟨q, 0, none⟩) L c] w fun e w' => ∃ s : ByteArray, e = .returned (.string s) ∧ s.size ≤ 12 ∧ St w0 B g ao len cap w' := by
  have HS := hide h
  clear h
  go_enter Tryd.func44, Tryd.ntmps44
  go_wp2_with fail
  refine (below_st _ _ (unhide HS) (by omega) (by omega)).mono ?_
  rintro e w1 ⟨x, rfl, hx0, hx1, hs1, hg1⟩
  obtain ⟨X, rfl⟩ := Int.eq_ofNat_of_zero_le hx0
  obtain ⟨z, hz, hz0⟩ := hq.2 X (by omega)
  have hc : w1.cell? ⟨q, X, none⟩ = some (.string z) := (World.cell?_of_block (w := w) (a := ⟨q, X, none⟩) (hg1.block q hq.1 (fun e => hne (Option.some.inj e)))).trans hz
  have HS1 := hide hs1
  clear hs1 hg1 hz hq
  go_wp2
  go_ret
  exact ⟨z, rfl, hz0, unhide HS1⟩
end Go.Proofs.YthnkbdjombiodaaDoor
