/-
  A variable that holds a queue, written anew; the words of a line beside it.
-/
import Derived.Test.YtebaejokhpdbkaaGreatDoorQBox
import Derived.Test.YtebaejokhpdbkaaGreatDoorPackD
import Derived.Test.YtebaejokhpdbkaaGreatDoorPackE
namespace Go.Proofs.YtebaejokhpdbkaaGreatDoor
open Go.RowKit
set_option linter.unusedVariables false

theorem QBox.f {w : World} {g : Nat} {q : Q} (h : QBox w g q) (j : Nat) : w.frozen? ⟨g, j, none⟩ = false := by unfold QBox at h; simp [World.frozen?, h]
theorem QBox.set {w : World} {g : Nat} {q : Q} (h : QBox w g q) (q' : Q) : QBox (putQ w g 0 q') g q' := by
  have e1 := heap_setCell_same w g 0 _ _ (.string (bs q'.name)) h
  have e2 := heap_setCell_same _ g 1 _ _ (.string (bs q'.parent)) e1
  have e3 := heap_setCell_same _ g 2 _ _ (.int .i64 q'.due) e2
  exact heap_setCell_same _ g 3 _ _ (.int .i64 q'.most) e3
theorem QBox.setParent {w : World} {g : Nat} {q : Q} (h : QBox w g q) (p : List UInt8) : QBox (w.setCell ⟨g, 1, none⟩ (.string (bs p))) g { q with parent := p } :=
  heap_setCell_same w g 1 _ _ (.string (bs p)) h
theorem QBox.other {w : World} {g k : Nat} {q : Q} (h : QBox w g q) (j : Nat) (v : Value) (hn : g ≠ k) : QBox (w.setCell ⟨k, j, none⟩ v) g q := (heap_setCell_other w ⟨k, j, none⟩ g v hn).trans h
theorem QBox.put {w : World} {g k : Nat} {q : Q} (h : QBox w g q) (q' : Q) (hn : g ≠ k) : QBox (putQ w k 0 q') g q := (((h.other 0 _ hn).other 1 _ hn).other 2 _ hn).other 3 _ hn
theorem below_put {w w1 : World} {g : Nat} (h : Below w.heap.size w w1) (q : Q) (hg : w.heap.size ≤ g) : Below w.heap.size w (putQ w1 g 0 q) := below_sc (below_sc (below_sc (below_sc h _ _ _ hg) _ _ _ hg) _ _ _ hg) _ _ _ hg
theorem SS.put {w : World} {g cap k : Nat} {xs : List ByteArray} (h : SS w g cap xs) (q : Q) (hn : g ≠ k) : SS (putQ w k 0 q) g cap xs :=
  (((h.same (heap_setCell_other _ ⟨k, 0, none⟩ g _ hn)).same (heap_setCell_other _ ⟨k, 1, none⟩ g _ hn)).same (heap_setCell_other _ ⟨k, 2, none⟩ g _ hn)).same (heap_setCell_other _ ⟨k, 3, none⟩ g _ hn)
/-- the words of a line, and the variable of the answer -/
def LW (w0 : World) (g cap : Nat) (ws : List ByteArray) (r : Nat) (q : Q) (w : World) : Prop := SS w g cap ws ∧ QBox w r q ∧ Below w0.heap.size w0 w
theorem LW.call {w0 w w' : World} {g cap r : Nat} {ws : List ByteArray} {q : Q} (h : LW w0 g cap ws r q w) (hb : Below w.heap.size w w') : LW w0 g cap ws r q w' := ⟨h.1.below hb h.1.lt, h.2.1.below hb, below_on h.2.2 hb⟩
theorem LW.drew {w0 w : World} {g cap r : Nat} {ws : List ByteArray} {q : Q} (h : LW w0 g cap ws r q w) : LW w0 g cap ws r q w.drew := h.call (Below.refl _ _).drew
theorem LW.al {w0 w : World} {g cap r : Nat} {ws : List ByteArray} {q : Q} (h : LW w0 g cap ws r q w) (o : Obj) : LW w0 g cap ws r q (w.alloc o) := h.call (below_al (Below.refl _ _) o)
theorem LW.read (w0 : World) (g cap r : Nat) (a b c d : ByteArray) (q : Q) : ∀ wx, LW w0 g cap [a, b, c, d] r q wx → wx.cell? ⟨g, 0, none⟩ = some (.string a) ∧ wx.cell? ⟨g, 1, none⟩ = some (.string b) ∧ wx.cell? ⟨g, 2, none⟩ = some (.string c) ∧ wx.cell? ⟨g, 3, none⟩ = some (.string d) := fun wx h =>
  ⟨h.1.cell 0 (by simp), h.1.cell 1 (by simp), h.1.cell 2 (by simp), h.1.cell 3 (by simp)⟩
theorem LW.put {w0 w : World} {g cap r k : Nat} {ws : List ByteArray} {q : Q} (h : LW w0 g cap ws r q w) (q' : Q) (h1 : g ≠ k) (h2 : r ≠ k) (h3 : w0.heap.size ≤ k) : LW w0 g cap ws r q (putQ w k 0 q') := ⟨h.1.put q' h1, h.2.1.put q' h2, below_put h.2.2 q' h3⟩
theorem LW.set4 {w0 w : World} {g cap r k : Nat} {ws : List ByteArray} {q : Q} {x0 x1 x2 x3 : Value} (h : LW w0 g cap ws r q w) (h1 : g ≠ k) (h2 : r ≠ k) (h3 : w0.heap.size ≤ k) : LW w0 g cap ws r q ((((w.setCell ⟨k, 0, none⟩ x0).setCell ⟨k, 1, none⟩ x1).setCell ⟨k, 2, none⟩ x2).setCell ⟨k, 3, none⟩ x3) :=
  ⟨(((h.1.same (heap_setCell_other _ ⟨k, 0, none⟩ g _ h1)).same (heap_setCell_other _ ⟨k, 1, none⟩ g _ h1)).same (heap_setCell_other _ ⟨k, 2, none⟩ g _ h1)).same (heap_setCell_other _ ⟨k, 3, none⟩ g _ h1), (((h.2.1.other 0 _ h2).other 1 _ h2).other 2 _ h2).other 3 _ h2, below_sc (below_sc (below_sc (below_sc h.2.2 _ _ _ h3) _ _ _ h3) _ _ _ h3) _ _ _ h3⟩
theorem QBox.s0 {w : World} {g : Nat} {q : Q} (h : QBox w g q) (u : Value) : (w.setCell ⟨g, 0, none⟩ u).cell? ⟨g, 0, none⟩ = some u := World.cell?_setCell_same w _ _ h.c0
theorem QBox.s1 {w : World} {g : Nat} {q : Q} (h : QBox w g q) (u v : Value) : ((w.setCell ⟨g, 0, none⟩ u).setCell ⟨g, 1, none⟩ v).cell? ⟨g, 1, none⟩ = some v := by
  have e1 := heap_setCell_same w g 0 _ _ u h
  have e2 := heap_setCell_same _ g 1 _ _ v e1
  simp [World.cell?, e2]
theorem QBox.s2 {w : World} {g : Nat} {q : Q} (h : QBox w g q) (u v x : Value) : (((w.setCell ⟨g, 0, none⟩ u).setCell ⟨g, 1, none⟩ v).setCell ⟨g, 2, none⟩ x).cell? ⟨g, 2, none⟩ = some x := by
  have e1 := heap_setCell_same w g 0 _ _ u h
  have e2 := heap_setCell_same _ g 1 _ _ v e1
  have e3 := heap_setCell_same _ g 2 _ _ x e2
  simp [World.cell?, e3]
theorem QBox.s3 {w : World} {g : Nat} {q : Q} (h : QBox w g q) (u v x y : Value) : ((((w.setCell ⟨g, 0, none⟩ u).setCell ⟨g, 1, none⟩ v).setCell ⟨g, 2, none⟩ x).setCell ⟨g, 3, none⟩ y).cell? ⟨g, 3, none⟩ = some y := by
  have e1 := heap_setCell_same w g 0 _ _ u h
  have e2 := heap_setCell_same _ g 1 _ _ v e1
  have e3 := heap_setCell_same _ g 2 _ _ x e2
  have e4 := heap_setCell_same _ g 3 _ _ y e3
  simp [World.cell?, e4]
theorem bs_dash (l : List UInt8) : ((bs l).toList == [45]) = decide (l = [45]) := by
  have := bs_eq l [45]
  rw [show (bs [45]).toList = [45] from by rw [ByteArray.toList_eq]; rfl] at this
  exact this
theorem words_size {l : List UInt8} : ∀ x ∈ words l, x.length ≤ l.length := by
  have key : ∀ (l cur : List UInt8) (x : List UInt8), x ∈ wordsFrom cur l → x.length ≤ cur.length + l.length := by
    intro l
    induction l with
    | nil => intro cur x hx; simp [wordsFrom] at hx; subst hx; simp
    | cons b t ih =>
      intro cur x hx
      rw [wordsFrom] at hx
      split at hx
      · rcases List.mem_cons.1 hx with rfl | hx
        · simp
        · have := ih [] x hx; simp at *; omega
      · have := ih (cur ++ [b]) x hx; simp at *; omega
  intro x hx
  have := key l [] x hx
  simpa using this
theorem lineS_not {l : List UInt8} (h : (words l).length ≠ 4) : lineS l = (zq, false) ∧ lineI l = (zq, false) := by
  unfold lineS lineI
  constructor
  · split
    · rename_i e; rw [e] at h; simp at h
    · rfl
  · split
    · rename_i e; rw [e] at h; simp at h
    · rfl
theorem four {l : List UInt8} (h : (words l).length = 4) : ∃ a b c d, words l = [a, b, c, d] := by
  match hw : words l, h with
  | [a, b, c, d], _ => exact ⟨a, b, c, d, rfl⟩
  | [], h => simp at h
  | [_], h => simp at h
  | [_, _], h => simp at h
  | [_, _, _], h => simp at h
  | _ :: _ :: _ :: _ :: _ :: _, h => simp at h
end Go.Proofs.YtebaejokhpdbkaaGreatDoor
