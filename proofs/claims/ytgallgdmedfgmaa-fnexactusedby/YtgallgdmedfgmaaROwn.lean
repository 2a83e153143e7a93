/-
  Lists of amounts: in memory, and such as a call gathers, one behind the other; their sum, plain words.
-/
import Derived.Test.YtgallgdmedfgmaaBoth
import Derived.Test.YtgallgdmedfgmaaStAll
import Derived.Laws.AppendOwn
namespace Go.Proofs.Ytgallgdmedfgmaa
open Go.RowKit
set_option linter.unusedVariables false

def RAt (w : World) (b p : Nat) (r : Int × Int) : Prop := w.cell? ⟨b, p, none⟩ = some (.int .i64 r.1) ∧ w.cell? ⟨b, p + 1, none⟩ = some (.int .i64 r.2)
def RRow (w : World) (ao : Option Addr) (len : Nat) (l : List (Int × Int)) : Prop :=
  len = l.length ∧ (len = 0 ∨ ∃ b off, ao = some ⟨b, off, none⟩ ∧ ∀ i (h : i < l.length), RAt w b (off + i * 2) l[i])
theorem RAt.lt {w : World} {b p : Nat} {r : Int × Int} (h : RAt w b p r) : b < w.heap.size := cell_lt h.1
theorem RAt.below {w w' : World} {b p : Nat} {r : Int × Int} (h : RAt w b p r) (hb : Below w.heap.size w w') : RAt w' b p r := ⟨(hb.cell h.lt).trans h.1, (hb.cell h.lt).trans h.2⟩
theorem RRow.below {w w' : World} {ao : Option Addr} {len : Nat} {l : List (Int × Int)} (h : RRow w ao len l) (hb : Below w.heap.size w w') : RRow w' ao len l := by
  obtain ⟨h1, h2⟩ := h
  refine ⟨h1, ?_⟩
  rcases h2 with h2 | ⟨b, off, h3, h4⟩
  · exact .inl h2
  · exact .inr ⟨b, off, h3, fun i h => (h4 i h).below hb⟩
theorem RRow.at {w : World} {ao : Option Addr} {len : Nat} {l : List (Int × Int)} (h : RRow w ao len l) {i : Nat} (hi : i < len) : ∃ b off, ao = some ⟨b, off, none⟩ ∧ ∀ (h : i < l.length), RAt w b (off + i * 2) l[i] := by
  obtain ⟨h1, h2⟩ := h
  rcases h2 with h2 | ⟨b, off, h3, h4⟩
  · omega
  · exact ⟨b, off, h3, fun hi => h4 i hi⟩
abbrev rcell (r : Int × Int) : List Value := [.int .i64 r.1, .int .i64 r.2]
def rcells : List (Int × Int) → List Value
  | [] => []
  | q :: t => rcell q ++ rcells t
theorem rcells_app (a : List (Int × Int)) (q : Int × Int) : rcells (a ++ [q]) = rcells a ++ rcell q := by
  induction a with
  | nil => rfl
  | cons x t ih => rw [List.cons_append, rcells, rcells, ih, List.append_assoc]
theorem rcells_at : ∀ (l : List (Int × Int)) (i : Nat) (h : i < l.length), (rcells l)[i * 2]? = some (.int .i64 l[i].1) ∧ (rcells l)[i * 2 + 1]? = some (.int .i64 l[i].2)
  | q :: t, 0, _ => ⟨rfl, rfl⟩
  | q :: t, i + 1, h => by
    have e := rcells_at t i (by simpa using h)
    have k : ∀ j, (rcells (q :: t))[(i + 1) * 2 + j]? = (rcells t)[i * 2 + j]? := fun j => by
      rw [rcells, show (i + 1) * 2 + j = (rcell q).length + (i * 2 + j) by simp; omega, List.getElem?_append_right (by omega)]
      congr 1
      omega
    have k0 := k 0
    simp only [Nat.add_zero] at k0
    rw [k0, k 1]
    simpa using e
/-- v is a list of these amounts, in memory of its own from block B on -/
def ROwn (B : Nat) (w : World) (v : Value) (l : List (Int × Int)) : Prop := w.ownsRow B 28 2 v l.length (rcells l)
theorem rown_nil (B : Nat) (w : World) : ROwn B w (.slice none 0 0) [] := World.ownsRow_nil _ _ _ _
theorem rown_empty (w : World) : ROwn w.heap.size (w.alloc (.cells #[] 28)) (.slice (some ⟨w.heap.size, 0, none⟩) 0 0) [] :=
  ⟨rfl, .inr ⟨w.heap.size, 0, #[], rfl, Nat.le_refl _, by show (w.heap.push _)[w.heap.size]? = _; simp, Nat.le_refl _, by unfold maxLen; omega, rfl, rfl⟩⟩
theorem ROwn.base {w : World} {B B' : Nat} {v : Value} {l : List (Int × Int)} (h : ROwn B w v l) (hb : B' ≤ B) : ROwn B' w v l := by
  obtain ⟨h1, h2⟩ := h
  refine ⟨h1, ?_⟩
  rcases h2 with h2 | ⟨g, cap, cur, a, b, c⟩
  · exact .inl h2
  · exact .inr ⟨g, cap, cur, a, Nat.le_trans hb b, c⟩
theorem ROwn.below {w w' : World} {B : Nat} {v : Value} {l : List (Int × Int)} (h : ROwn B w v l) (hb : Below w.heap.size w w') : ROwn B w' v l :=
  h.kept (grownBy_below (grownBy_refl w none) hb) (by by_cases e : v.ownBlock = none; exact .inl e; exact .inr e)
theorem ROwn.row {w : World} {B : Nat} {v : Value} {l : List (Int × Int)} (h : ROwn B w v l) : ∃ ao cap, v = .slice ao l.length cap ∧ RRow w ao l.length l ∧ l.length ≤ cap := by
  rcases h.2 with ⟨rfl, h0⟩ | ⟨g, cap, cur, rfl, h1, h2, h3, h4, h5, h6⟩
  · exact ⟨none, 0, by rw [h0], ⟨rfl, .inl h0⟩, by omega⟩
  · refine ⟨some ⟨g, 0, none⟩, cap, rfl, ⟨rfl, .inr ⟨g, 0, rfl, fun i hi => ?_⟩⟩, h3⟩
    obtain ⟨a, b⟩ := rcells_at l i hi
    have k : ∀ j (v : Value), j < l.length * 2 → (rcells l)[j]? = some v → w.cell? ⟨g, j, none⟩ = some v := fun j v hj hv => by
      rw [← h6, List.getElem?_take_of_lt hj] at hv
      simp [World.cell?, h2]
      simpa using hv
    unfold RAt
    rw [Nat.zero_add]
    exact ⟨k _ _ (by omega) a, k _ _ (by omega) b⟩
theorem rown_step {w wr w1 : World} {B : Nat} {v v' : Value} {l : List (Int × Int)} {q : Int × Int} {ob : Obj} (hb : Below B w wr) (hown : ROwn B wr v l)
    (h1 : w1.ownsRow B 28 2 v' (l.length + 1) (rcells l ++ rcell q)) (hg : (wr.alloc ob).grownBy w1 v.ownBlock) (hB : B ≤ wr.heap.size) :
    ROwn B w1 v' (l ++ [q]) ∧ Below B w w1 := by
  refine ⟨?_, (hb.alloc hB ob).grown hg (by simp; omega) ?_⟩
  · unfold ROwn
    rw [rcells_app, List.length_append]
    exact h1
  · intro k hk
    rcases hown.2 with ⟨rfl, _⟩ | ⟨g, cap, cur, rfl, hg', _⟩
    · simp [Value.ownBlock] at hk
    · simp [Value.ownBlock] at hk; omega
theorem Try.infoR : (Try.prog.info? 28).map (fun i => (i.zero, i.size, i.bytes)) = some (some (.agg #[.int .i64 0, .int .i64 0]), 2, 16) := by kernel_rfl

/-- what a list of amounts is together, and whether that is an amount -/
def sumFrom : List (Int × Int) → Int → Int → Int × Int × Bool
  | [], x, y => (x, y, true)
  | r :: t, x, y => if bothOk 1 x y r.1 r.2 = true then sumFrom t (x + 1 * r.1) (y + 1 * r.2) else (0, 0, false)
def sumR (l : List (Int × Int)) : Int × Int × Bool := sumFrom l 0 0
theorem sumFrom_step {l : List (Int × Int)} {k : Nat} (h : k < l.length) (x y : Int) : sumFrom (l.drop k) x y = if bothOk 1 x y l[k].1 l[k].2 = true then sumFrom (l.drop (k + 1)) (x + 1 * l[k].1) (y + 1 * l[k].2) else (0, 0, false) := by
  rw [List.drop_eq_getElem_cons h, sumFrom]
theorem sumFrom_end {l : List (Int × Int)} {k : Nat} (h : l.length ≤ k) (x y : Int) : sumFrom (l.drop k) x y = (x, y, true) := by
  rw [List.drop_of_length_le h]; rfl
end Go.Proofs.Ytgallgdmedfgmaa
