/-
  Rows of cells that may be written; what a call that marks them leaves alone.
-/
import Derived.Test.YtmmdckakchconaaKeptV
namespace Go.Proofs.Ytmmdckakchconaa
open Go.RowKit
set_option linter.unusedVariables false
/-- block g is a row of N cells of type t that may be written -/
def Cel (w : World) (t : TypeId) (g N : Nat) : Prop := ∃ arr : Array Value, w.heap[g]? = some (.cells arr t (0, 0)) ∧ arr.size = N
theorem Cel.lt {w : World} {t : TypeId} {g N : Nat} (h : Cel w t g N) : g < w.heap.size := let ⟨_, h, _⟩ := h; lt_of_block h
theorem Cel.of_block {w w' : World} {t : TypeId} {g N : Nat} (h : Cel w t g N) (e : w'.heap[g]? = w.heap[g]?) : Cel w' t g N := by
  obtain ⟨arr, h1, h2⟩ := h
  exact ⟨arr, e.trans h1, h2⟩
theorem Cel.below {w w' : World} {t : TypeId} {g N : Nat} (h : Cel w t g N) (hb : Below w.heap.size w w') : Cel w' t g N := h.of_block (hb.block g h.lt)
theorem Cel.set {w : World} {t : TypeId} {g N : Nat} (h : Cel w t g N) (b j : Nat) (v : Value) : Cel (w.setCell ⟨b, j, none⟩ v) t g N := by
  by_cases e : g = b
  · subst e
    obtain ⟨arr, h1, h2⟩ := h
    exact ⟨_, heap_setCell_same w g j _ _ v h1, by simp [h2]⟩
  · exact h.of_block (heap_setCell_other w ⟨b, j, none⟩ g v e)
theorem Cel.cell {w : World} {t : TypeId} {g N : Nat} (h : Cel w t g N) {j : Nat} (hj : j < N) : ∃ v, w.cell? ⟨g, j, none⟩ = some v := by
  obtain ⟨arr, h1, h2⟩ := h
  exact ⟨arr[j]'(by omega), by simp [World.cell?, h1, Array.getElem?_eq_getElem (show j < arr.size by omega)]⟩
theorem Cel.frozen {w : World} {t : TypeId} {g N : Nat} (h : Cel w t g N) (j : Nat) : w.frozen? ⟨g, j, none⟩ = false := by
  obtain ⟨arr, h1, h2⟩ := h
  simp [World.frozen?, h1]

/-- of all that was there nothing has turned but cells of the blocks from B on to E -/
structure Mkd (B E : Nat) (w w' : World) : Prop where
  os : w'.os = w.os
  tape : w'.tape = w.tape
  output : w'.output = w.output
  size : w.heap.size ≤ w'.heap.size
  block : ∀ k, k < w.heap.size → (k < B ∨ E ≤ k) → w'.heap[k]? = w.heap[k]?
  cel : ∀ t g N, Cel w t g N → Cel w' t g N
theorem Mkd.refl (B E : Nat) (w : World) : Mkd B E w w := ⟨rfl, rfl, rfl, Nat.le_refl _, fun _ _ _ => rfl, fun _ _ _ h => h⟩
theorem Mkd.trans {B E : Nat} {a b c : World} (h : Mkd B E a b) (k : Mkd B E b c) : Mkd B E a c :=
  ⟨k.os.trans h.os, k.tape.trans h.tape, k.output.trans h.output, Nat.le_trans h.size k.size, fun i hi ho => (k.block i (Nat.lt_of_lt_of_le hi h.size) ho).trans (h.block i hi ho), fun t g N x => k.cel t g N (h.cel t g N x)⟩
theorem Mkd.mono {B E B' E' : Nat} {a b : World} (h : Mkd B E a b) (h1 : B' ≤ B) (h2 : E ≤ E') : Mkd B' E' a b :=
  ⟨h.os, h.tape, h.output, h.size, fun i hi ho => h.block i hi (by omega), h.cel⟩
theorem Mkd.of_below {B E : Nat} {w w' : World} (hb : Below w.heap.size w w') : Mkd B E w w' := ⟨hb.os, hb.tape, hb.output, hb.size, fun i hi _ => hb.block i hi, fun t g N x => x.below hb⟩
theorem Mkd.on {B E : Nat} {a w w' : World} (h : Mkd B E a w) (hb : Below w.heap.size w w') : Mkd B E a w' := h.trans (.of_below hb)
theorem Mkd.sc {B E : Nat} {a w : World} (h : Mkd B E a w) (g j : Nat) (v : Value) (h1 : B ≤ g) (h2 : g < E) : Mkd B E a (w.setCell ⟨g, j, none⟩ v) :=
  h.trans ⟨rfl, rfl, rfl, by simp [World.setCell], fun k _ ho => Below.heap_setCell _ _ _ _ (by show k ≠ g; omega), fun t g' N x => x.set g j v⟩
/-- below B all stands -/
theorem Mkd.below {B E : Nat} {a w : World} (h : Mkd B E a w) (hB : B ≤ a.heap.size) : Below B a w := ⟨h.os, h.tape, h.output, h.size, fun k hk => h.block k (by omega) (.inl hk)⟩
end Go.Proofs.Ytmmdckakchconaa
