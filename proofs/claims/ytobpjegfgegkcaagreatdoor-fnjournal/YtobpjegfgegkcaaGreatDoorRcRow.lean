/-
  Rows of Rec values: in memory, and rows that a call makes and fills one by one (mkrow.py wrote this).
-/
import Derived.Test.YtobpjegfgegkcaaGreatDoorPackB
import Derived.Laws.MakeOwn
namespace Go.Proofs.YtobpjegfgegkcaaGreatDoor
open Go.RowKit
set_option linter.unusedVariables false
def RcAt (w : World) (b p : Nat) (q : Rc) : Prop :=
  w.cell? ⟨b, p, none⟩ = some (.int .i64 q.kind) ∧ w.cell? ⟨b, p + 1, none⟩ = some (.int .i64 q.app) ∧ w.cell? ⟨b, p + 2, none⟩ = some (.string (bs q.queue))
def RcRow (w : World) (ao : Option Addr) (len : Nat) (l : List Rc) : Prop :=
  len = l.length ∧ (len = 0 ∨ ∃ b off, ao = some ⟨b, off, none⟩ ∧ ∀ i (h : i < l.length), RcAt w b (off + i * 3) l[i])
theorem RcAt.lt {w : World} {b p : Nat} {q : Rc} (h : RcAt w b p q) : b < w.heap.size := cell_lt h.1
theorem RcAt.below {w w' : World} {b p : Nat} {q : Rc} (h : RcAt w b p q) (hb : Below w.heap.size w w') : RcAt w' b p q :=
  ⟨(hb.cell h.lt).trans h.1, (hb.cell h.lt).trans h.2.1, (hb.cell h.lt).trans h.2.2⟩
theorem RcRow.below {w w' : World} {ao : Option Addr} {len : Nat} {l : List Rc} (h : RcRow w ao len l) (hb : Below w.heap.size w w') : RcRow w' ao len l := by
  obtain ⟨h1, h2⟩ := h
  refine ⟨h1, ?_⟩
  rcases h2 with h2 | ⟨b, off, h3, h4⟩
  · exact .inl h2
  · exact .inr ⟨b, off, h3, fun i h => (h4 i h).below hb⟩
theorem RcRow.nil (w : World) (ao : Option Addr) : RcRow w ao 0 [] := ⟨rfl, .inl rfl⟩
theorem RcRow.at {w : World} {ao : Option Addr} {len : Nat} {l : List Rc} (h : RcRow w ao len l) {i : Nat} (hi : i < len) : ∃ b off, ao = some ⟨b, off, none⟩ ∧ ∀ (h : i < l.length), RcAt w b (off + i * 3) l[i] := by
  obtain ⟨h1, h2⟩ := h
  rcases h2 with h2 | ⟨b, off, h3, h4⟩
  · omega
  · exact ⟨b, off, h3, fun hi => h4 i hi⟩
/-- block g is a row of n, of which the first k are those of l -/
def RcBlk (w : World) (t : TypeId) (g n k : Nat) (l : List Rc) : Prop :=
  ∃ arr : Array Value, w.heap[g]? = some (.cells arr t (0, 0)) ∧ arr.size = n * 3 ∧ ∀ i (h : i < l.length), i < k → arr[i * 3]? = some (.int .i64 l[i].kind) ∧ arr[i * 3 + 1]? = some (.int .i64 l[i].app) ∧ arr[i * 3 + 2]? = some (.string (bs l[i].queue))
theorem RcBlk.lt {w : World} {t : TypeId} {g n k : Nat} {l : List Rc} (h : RcBlk w t g n k l) : g < w.heap.size := let ⟨_, h, _⟩ := h; lt_of_block h
theorem RcBlk.below {w w' : World} {t : TypeId} {g n k : Nat} {l : List Rc} (h : RcBlk w t g n k l) (hb : Below w.heap.size w w') : RcBlk w' t g n k l := by
  have hlt := h.lt
  obtain ⟨arr, h1, h2⟩ := h
  exact ⟨arr, (hb.block g hlt).trans h1, h2⟩
theorem RcBlk.cell {w : World} {t : TypeId} {g n k : Nat} {l : List Rc} (h : RcBlk w t g n k l) {j : Nat} (hj : j < n * 3) : ∃ v, w.cell? ⟨g, j, none⟩ = some v := by
  obtain ⟨arr, h1, h2, _⟩ := h
  exact ⟨arr[j]'(by omega), by simp [World.cell?, h1, Array.getElem?_eq_getElem (show j < arr.size by omega)]⟩
theorem RcBlk.frozen {w : World} {t : TypeId} {g n k : Nat} {l : List Rc} (h : RcBlk w t g n k l) (j : Nat) : w.frozen? ⟨g, j, none⟩ = false := by
  obtain ⟨arr, h1, h2, _⟩ := h
  simp [World.frozen?, h1]
/-- one more -/
def putRc (w : World) (g p : Nat) (q : Rc) : World := (((w.setCell ⟨g, p, none⟩ (.int .i64 q.kind)).setCell ⟨g, p + 1, none⟩ (.int .i64 q.app)).setCell ⟨g, p + 2, none⟩ (.string (bs q.queue)))
theorem RcBlk.step {w : World} {t : TypeId} {g n k : Nat} {l : List Rc} (h : RcBlk w t g n k l) (hk : k < n) (hl : k < l.length) : RcBlk (putRc w g (k * 3) l[k]) t g n (k + 1) l := by
  obtain ⟨arr, h1, h2, h3⟩ := h
  have e1 := heap_setCell_same w g (k * 3) _ _ (.int .i64 l[k].kind) h1
  have e2 := heap_setCell_same _ g (k * 3 + 1) _ _ (.int .i64 l[k].app) e1
  have e3 := heap_setCell_same _ g (k * 3 + 2) _ _ (.string (bs l[k].queue)) e2
  refine ⟨_, e3, by simp [h2], fun i hi hik => ?_⟩
  by_cases e : i = k
  · subst e
    have q1 : i * 3 + 2 < arr.size := by omega
    refine ⟨?_, ?_, ?_⟩ <;> simp [Array.getElem?_setIfInBounds, h2] <;> omega
  · obtain ⟨a, b, c⟩ := h3 i hi (by omega)
    refine ⟨?_, ?_, ?_⟩
    · rw [← a]; simp only [Array.getElem?_setIfInBounds]; repeat rw [if_neg (by omega)]
    · rw [← b]; simp only [Array.getElem?_setIfInBounds]; repeat rw [if_neg (by omega)]
    · rw [← c]; simp only [Array.getElem?_setIfInBounds]; repeat rw [if_neg (by omega)]
end Go.Proofs.YtobpjegfgegkcaaGreatDoor
