/-
  Queues: values, rows of them in memory, and what a call leaves of such rows.
-/
import Derived.Test.YtfhnjghjibklcaaDoorResV
namespace Go.Proofs.YtfhnjghjibklcaaDoor
open Go.RowKit
set_option linter.unusedVariables false

structure Q where
  name : List UInt8
  parent : List UInt8
  due : Int
  most : Int

abbrev qv (q : Q) : Value := .agg #[.string (bs q.name), .string (bs q.parent), .int .i64 q.due, .int .i64 q.most]

/-- the cells of one queue stand from place p of block b on -/
def QAt (w : World) (b p : Nat) (q : Q) : Prop :=
  w.cell? ⟨b, p, none⟩ = some (.string (bs q.name)) ∧ w.cell? ⟨b, p + 1, none⟩ = some (.string (bs q.parent)) ∧ w.cell? ⟨b, p + 2, none⟩ = some (.int .i64 q.due) ∧ w.cell? ⟨b, p + 3, none⟩ = some (.int .i64 q.most)
/-- a slice value that holds these queues -/
def QRow (w : World) (ao : Option Addr) (len : Nat) (l : List Q) : Prop :=
  len = l.length ∧ (len = 0 ∨ ∃ b off, ao = some ⟨b, off, none⟩ ∧ ∀ i (h : i < l.length), QAt w b (off + i * 4) l[i])
theorem QAt.lt {w : World} {b p : Nat} {q : Q} (h : QAt w b p q) : b < w.heap.size := cell_lt h.1
theorem QAt.below {w w' : World} {b p : Nat} {q : Q} (h : QAt w b p q) (hb : Below w.heap.size w w') : QAt w' b p q :=
  ⟨(hb.cell h.lt).trans h.1, (hb.cell h.lt).trans h.2.1, (hb.cell h.lt).trans h.2.2.1, (hb.cell h.lt).trans h.2.2.2⟩
theorem QRow.below {w w' : World} {ao : Option Addr} {len : Nat} {l : List Q} (h : QRow w ao len l) (hb : Below w.heap.size w w') : QRow w' ao len l := by
  obtain ⟨h1, h2⟩ := h
  refine ⟨h1, ?_⟩
  rcases h2 with h2 | ⟨b, off, h3, h4⟩
  · exact .inl h2
  · exact .inr ⟨b, off, h3, fun i h => (h4 i h).below hb⟩
theorem QRow.nil (w : World) (ao : Option Addr) : QRow w ao 0 [] := ⟨rfl, .inl rfl⟩
theorem QRow.at {w : World} {ao : Option Addr} {len : Nat} {l : List Q} (h : QRow w ao len l) {i : Nat} (hi : i < len) : ∃ b off, ao = some ⟨b, off, none⟩ ∧ ∀ (h : i < l.length), QAt w b (off + i * 4) l[i] := by
  obtain ⟨h1, h2⟩ := h
  rcases h2 with h2 | ⟨b, off, h3, h4⟩
  · omega
  · exact ⟨b, off, h3, fun hi => h4 i hi⟩
end Go.Proofs.YtfhnjghjibklcaaDoor
