/-
  A variable that holds a queue.
-/
import Derived.Test.YtebaejokhpdbkaaGreatDoorPackA
namespace Go.Proofs.YtebaejokhpdbkaaGreatDoor
open Go.RowKit
set_option linter.unusedVariables false

abbrev qobj (q : Q) : Obj := .cells #[.string (bs q.name), .string (bs q.parent), .int .i64 q.due, .int .i64 q.most] 39
def QBox (w : World) (g : Nat) (q : Q) : Prop := w.heap[g]? = some (qobj q)
theorem QBox.new (w : World) (q : Q) : QBox (w.alloc (qobj q)) w.heap.size q := by show (w.heap.push _)[w.heap.size]? = _; simp
theorem QBox.lt {w : World} {g : Nat} {q : Q} (h : QBox w g q) : g < w.heap.size := lt_of_block h
theorem QBox.below {w w' : World} {g : Nat} {q : Q} (h : QBox w g q) (hb : Below w.heap.size w w') : QBox w' g q := (hb.block g h.lt).trans h
theorem QBox.c0 {w : World} {g : Nat} {q : Q} (h : QBox w g q) : w.cell? ⟨g, 0, none⟩ = some (.string (bs q.name)) := by unfold QBox at h; simp [World.cell?, h]
theorem QBox.c1 {w : World} {g : Nat} {q : Q} (h : QBox w g q) : w.cell? ⟨g, 1, none⟩ = some (.string (bs q.parent)) := by unfold QBox at h; simp [World.cell?, h]
theorem QBox.c2 {w : World} {g : Nat} {q : Q} (h : QBox w g q) : w.cell? ⟨g, 2, none⟩ = some (.int .i64 q.due) := by unfold QBox at h; simp [World.cell?, h]
theorem QBox.c3 {w : World} {g : Nat} {q : Q} (h : QBox w g q) : w.cell? ⟨g, 3, none⟩ = some (.int .i64 q.most) := by unfold QBox at h; simp [World.cell?, h]
/-- the variable holds the queue, and nothing of w0 has turned -/
def QB (w0 : World) (g : Nat) (q : Q) (w : World) : Prop := QBox w g q ∧ Below w0.heap.size w0 w
theorem QB.call {w0 w w' : World} {g : Nat} {q : Q} (h : QB w0 g q w) (hb : Below w.heap.size w w') : QB w0 g q w' := ⟨h.1.below hb, below_on h.2 hb⟩
theorem QB.drew {w0 w : World} {g : Nat} {q : Q} (h : QB w0 g q w) : QB w0 g q w.drew := h.call (Below.refl _ _).drew
theorem QB.read (w0 : World) (g : Nat) (q : Q) : ∀ wx, QB w0 g q wx → wx.cell? ⟨g, 0, none⟩ = some (.string (bs q.name)) ∧ wx.cell? ⟨g, 1, none⟩ = some (.string (bs q.parent)) ∧ wx.cell? ⟨g, 2, none⟩ = some (.int .i64 q.due) ∧ wx.cell? ⟨g, 3, none⟩ = some (.int .i64 q.most) := fun wx h => ⟨h.1.c0, h.1.c1, h.1.c2, h.1.c3⟩
end Go.Proofs.YtebaejokhpdbkaaGreatDoor
