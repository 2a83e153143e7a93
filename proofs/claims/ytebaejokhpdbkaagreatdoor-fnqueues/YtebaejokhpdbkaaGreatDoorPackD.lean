/-
  Several texts of this claim in one: StrS, SOwn, QBlk, QOwn (pack.py put them together); each says in its own remark what is proved.
-/
import Derived.Test.YtebaejokhpdbkaaGreatDoorPackA
import Derived.Laws.MakeOwn
import Derived.Laws.AppendOwn
/-
  Slices of texts that a call has made.
-/
namespace Go.Proofs.YtebaejokhpdbkaaGreatDoor
open Go.RowKit
set_option linter.unusedVariables false

/-- block g holds, from its head on, the texts xs, with room for cap -/
def SS (w : World) (g cap : Nat) (xs : List ByteArray) : Prop := w.ownsRow g 9 1 (.slice (some ⟨g, 0, none⟩) xs.length cap) xs.length (xs.map Value.string)
theorem SS.cell {w : World} {g cap : Nat} {xs : List ByteArray} (h : SS w g cap xs) (j : Nat) (hj : j < xs.length) : w.cell? ⟨g, j, none⟩ = some (.string xs[j]) := by
  have := World.ownsRow.cellAt h j (by omega)
  rw [this]; simp [hj]
theorem SS.frozen {w : World} {g cap : Nat} {xs : List ByteArray} (h : SS w g cap xs) (j : Nat) : w.frozen? ⟨g, j, none⟩ = false := World.ownsRow.frozenAt h j
theorem SS.block {w : World} {g cap : Nat} {xs : List ByteArray} (h : SS w g cap xs) : ∃ cur, w.heap[g]? = some (.cells cur 9 (0, 0)) ∧ xs.length ≤ cap ∧ cap ≤ maxLen ∧ cur.size = cap ∧ cur.toList.take xs.length = xs.map Value.string := by
  rcases h.2 with ⟨h1, _⟩ | ⟨g', cap', cur, h1, _, h2, h3, h4, h5, h6⟩
  · simp at h1
  · simp only [Value.slice.injEq, Option.some.injEq, Addr.mk.injEq, and_true, true_and] at h1
    obtain ⟨rfl, rfl⟩ := h1
    exact ⟨cur, h2, h3, h4, by simpa using h5, by simpa using h6⟩
theorem SS.mk {w : World} {g cap : Nat} {xs : List ByteArray} {cur : Array Value} (h : w.heap[g]? = some (.cells cur 9 (0, 0))) (h1 : xs.length ≤ cap) (h2 : cap ≤ maxLen) (h3 : cur.size = cap) (h4 : cur.toList.take xs.length = xs.map Value.string) : SS w g cap xs :=
  ⟨by simp, .inr ⟨g, cap, cur, rfl, Nat.le_refl _, h, h1, h2, by simpa using h3, by simpa using h4⟩⟩
theorem SS.lt {w : World} {g cap : Nat} {xs : List ByteArray} (h : SS w g cap xs) : g < w.heap.size := by
  obtain ⟨cur, h1, _⟩ := h.block
  exact lt_of_block h1
theorem SS.same {w w' : World} {g cap : Nat} {xs : List ByteArray} (h : SS w g cap xs) (hg : w'.heap[g]? = w.heap[g]?) : SS w' g cap xs := by
  obtain ⟨cur, h1, h2, h3, h4, h5⟩ := h.block
  exact SS.mk (hg.trans h1) h2 h3 h4 h5
theorem SS.below {w w' : World} {B g cap : Nat} {xs : List ByteArray} (h : SS w g cap xs) (hb : Below B w w') (hg : g < B) : SS w' g cap xs := h.same (hb.block g hg)
theorem SS.set {w : World} {g cap : Nat} {xs : List ByteArray} (h : SS w g cap xs) (j : Nat) (hj : j < xs.length) (x : ByteArray) : SS (w.setCell ⟨g, j, none⟩ (.string x)) g cap (xs.set j x) := by
  obtain ⟨cur, h1, h2, h3, h4, h5⟩ := h.block
  refine SS.mk (heap_setCell_same w g j cur _ _ h1) (by simpa using h2) h3 (by simpa using h4) ?_
  rw [List.length_set, Array.toList_setIfInBounds, List.take_set, h5, List.map_set]

end Go.Proofs.YtebaejokhpdbkaaGreatDoor

/-
  Lists of texts that a call gathers, one behind the other.
-/
namespace Go.Proofs.YtebaejokhpdbkaaGreatDoor
open Go.RowKit
set_option linter.unusedVariables false

abbrev scells (o : List ByteArray) : List Value := o.map Value.string
theorem Tryz.infoS : (Tryz.prog.info? 9).map (fun i => (i.zero, i.size, i.bytes)) = some (some (.string ByteArray.empty), 1, 16) := by kernel_rfl
theorem sown_empty (w : World) : (w.alloc (.cells #[] 9)).ownsRow w.heap.size 9 1 (.slice (some ⟨w.heap.size, 0, none⟩) 0 0) ([] : List ByteArray).length (scells []) :=
  ⟨rfl, .inr ⟨w.heap.size, 0, #[], rfl, Nat.le_refl _, by show (w.heap.push _)[w.heap.size]? = _; simp, Nat.le_refl _, by unfold maxLen; omega, rfl, rfl⟩⟩
theorem srow_step {w wr w1 : World} {B : Nat} {v v' : Value} {o : List ByteArray} {x : ByteArray} {ob : Obj} (hb : Below B w wr) (hown : wr.ownsRow B 9 1 v o.length (scells o))
    (h1 : w1.ownsRow B 9 1 v' (o.length + 1) (scells o ++ [.string x])) (hg : (wr.alloc ob).grownBy w1 v.ownBlock) (hB : B ≤ wr.heap.size) :
    w1.ownsRow B 9 1 v' (o ++ [x]).length (scells (o ++ [x])) ∧ Below B w w1 := by
  refine ⟨by simpa [scells] using h1, (hb.alloc hB ob).grown hg (by simp; omega) ?_⟩
  intro k hk
  rcases hown.2 with ⟨rfl, _⟩ | ⟨g, cap, cur, rfl, hg', _⟩
  · simp [Value.ownBlock] at hk
  · simp [Value.ownBlock] at hk; omega
theorem ss_of_owns {w : World} {B : Nat} {v : Value} {o : List ByteArray} (h : w.ownsRow B 9 1 v o.length (scells o)) (ho : 1 ≤ o.length) : ∃ g cap, v = .slice (some ⟨g, 0, none⟩) o.length cap ∧ SS w g cap o ∧ B ≤ g := by
  rcases h.2 with ⟨_, h0⟩ | ⟨g, cap, cur, rfl, h1, h2, h3, h4, h5, h6⟩
  · omega
  · exact ⟨g, cap, rfl, SS.mk h2 h3 h4 (by simpa using h5) (by simpa using h6), h1⟩

theorem sown_below {w w' : World} {B : Nat} {v : Value} {o : List ByteArray} (h : w.ownsRow B 9 1 v o.length (scells o)) (hb : Below w.heap.size w w') : w'.ownsRow B 9 1 v o.length (scells o) :=
  h.kept (grownBy_below (grownBy_refl w none) hb) (by by_cases e : v.ownBlock = none; exact .inl e; exact .inr e)
/-- v is a list of these texts, in memory of its own from block B on -/
def Texts (B : Nat) (w : World) (v : Value) (ps : List (List UInt8)) : Prop := w.ownsRow B 9 1 v (ps.map bs).length (scells (ps.map bs))
theorem Texts.of {B : Nat} {w : World} {v : Value} {ps : List (List UInt8)} {o : List ByteArray} (h : w.ownsRow B 9 1 v o.length (scells o)) (e : o = ps.map bs) : Texts B w v ps := by subst e; exact h
theorem Texts.below {w w' : World} {B : Nat} {v : Value} {ps : List (List UInt8)} (h : Texts B w v ps) (hb : Below w.heap.size w w') : Texts B w' v ps := sown_below h hb
end Go.Proofs.YtebaejokhpdbkaaGreatDoor

/-
  A row of queues that a call makes and fills, one by one.
-/
namespace Go.Proofs.YtebaejokhpdbkaaGreatDoor
open Go.RowKit
set_option linter.unusedVariables false

/-- block g is a row of n queues, of which the first k are those of l -/
def QBlk (w : World) (t : TypeId) (g n k : Nat) (l : List Q) : Prop :=
  ∃ arr : Array Value, w.heap[g]? = some (.cells arr t (0, 0)) ∧ arr.size = n * 4 ∧ ∀ i (h : i < l.length), i < k → arr[i * 4]? = some (.string (bs l[i].name)) ∧ arr[i * 4 + 1]? = some (.string (bs l[i].parent)) ∧ arr[i * 4 + 2]? = some (.int .i64 l[i].due) ∧ arr[i * 4 + 3]? = some (.int .i64 l[i].most)
theorem QBlk.lt {w : World} {t : TypeId} {g n k : Nat} {l : List Q} (h : QBlk w t g n k l) : g < w.heap.size := let ⟨_, h, _⟩ := h; lt_of_block h
theorem QBlk.below {w w' : World} {t : TypeId} {g n k : Nat} {l : List Q} (h : QBlk w t g n k l) (hb : Below w.heap.size w w') : QBlk w' t g n k l := by
  have hlt := h.lt
  obtain ⟨arr, h1, h2⟩ := h
  exact ⟨arr, (hb.block g hlt).trans h1, h2⟩
theorem QBlk.cell {w : World} {t : TypeId} {g n k : Nat} {l : List Q} (h : QBlk w t g n k l) {j : Nat} (hj : j < n * 4) : ∃ v, w.cell? ⟨g, j, none⟩ = some v := by
  obtain ⟨arr, h1, h2, _⟩ := h
  exact ⟨arr[j]'(by omega), by simp [World.cell?, h1, Array.getElem?_eq_getElem (show j < arr.size by omega)]⟩
theorem QBlk.frozen {w : World} {t : TypeId} {g n k : Nat} {l : List Q} (h : QBlk w t g n k l) (j : Nat) : w.frozen? ⟨g, j, none⟩ = false := by
  obtain ⟨arr, h1, h2, _⟩ := h
  simp [World.frozen?, h1]
theorem QBlk.row {w : World} {t : TypeId} {g n : Nat} {l : List Q} (h : QBlk w t g n n l) (hl : n = l.length) : QRow w (some ⟨g, 0, none⟩) n l := by
  obtain ⟨arr, h1, h2, h3⟩ := h
  refine ⟨hl, .inr ⟨g, 0, rfl, fun i hi => ?_⟩⟩
  obtain ⟨a, b, c, d⟩ := h3 i hi (by omega)
  unfold QAt
  simp only [Nat.zero_add]
  exact ⟨by simp [World.cell?, h1, a], by simp [World.cell?, h1, b], by simp [World.cell?, h1, c], by simp [World.cell?, h1, d]⟩
theorem qblk_made (w : World) (t : TypeId) (z : Array Value) (n : Nat) (l : List Q) : QBlk (w.alloc (.cells (madeCells z (n * 4)) t)) t w.heap.size n 0 l :=
  ⟨madeCells z (n * 4), by show (w.heap.push _)[w.heap.size]? = _; simp, size_madeCells _ _, fun i _ h => absurd h (by omega)⟩
/-- one queue more -/
def putQ (w : World) (g p : Nat) (q : Q) : World := (((w.setCell ⟨g, p, none⟩ (.string (bs q.name))).setCell ⟨g, p + 1, none⟩ (.string (bs q.parent))).setCell ⟨g, p + 2, none⟩ (.int .i64 q.due)).setCell ⟨g, p + 3, none⟩ (.int .i64 q.most)
theorem QBlk.step {w : World} {t : TypeId} {g n k : Nat} {l : List Q} (h : QBlk w t g n k l) (hk : k < n) (hl : k < l.length) : QBlk (putQ w g (k * 4) l[k]) t g n (k + 1) l := by
  obtain ⟨arr, h1, h2, h3⟩ := h
  have e1 := heap_setCell_same w g (k * 4) _ _ (.string (bs l[k].name)) h1
  have e2 := heap_setCell_same _ g (k * 4 + 1) _ _ (.string (bs l[k].parent)) e1
  have e3 := heap_setCell_same _ g (k * 4 + 2) _ _ (.int .i64 l[k].due) e2
  have e4 := heap_setCell_same _ g (k * 4 + 3) _ _ (.int .i64 l[k].most) e3
  refine ⟨_, e4, by simp [h2], fun i hi hik => ?_⟩
  by_cases e : i = k
  · subst e
    have q1 : i * 4 + 3 < arr.size := by omega
    refine ⟨?_, ?_, ?_, ?_⟩ <;> simp [Array.getElem?_setIfInBounds, h2] <;> omega
  · obtain ⟨a, b, c, d⟩ := h3 i hi (by omega)
    refine ⟨?_, ?_, ?_, ?_⟩
    · rw [← a]; simp only [Array.getElem?_setIfInBounds]; repeat rw [if_neg (by omega)]
    · rw [← b]; simp only [Array.getElem?_setIfInBounds]; repeat rw [if_neg (by omega)]
    · rw [← c]; simp only [Array.getElem?_setIfInBounds]; repeat rw [if_neg (by omega)]
    · rw [← d]; simp only [Array.getElem?_setIfInBounds]; repeat rw [if_neg (by omega)]
/-- block g is a row of n queues -/
def QAny (w : World) (t : TypeId) (g n : Nat) : Prop := QBlk w t g n 0 []
theorem QBlk.any {w : World} {t : TypeId} {g n k : Nat} {l : List Q} (h : QBlk w t g n k l) : QAny w t g n := by
  obtain ⟨arr, h1, h2, _⟩ := h
  exact ⟨arr, h1, h2, fun i hi => absurd hi (by simp)⟩
theorem QAny.set {w : World} {t : TypeId} {g n : Nat} (h : QAny w t g n) (j : Nat) (v : Value) : QAny (w.setCell ⟨g, j, none⟩ v) t g n := by
  obtain ⟨arr, h1, h2, _⟩ := h
  exact ⟨_, heap_setCell_same w g j _ _ v h1, by simp [h2], fun i hi => absurd hi (by simp)⟩
end Go.Proofs.YtebaejokhpdbkaaGreatDoor

/-
  Lists of queues that a call gathers, one behind the other.
-/
namespace Go.Proofs.YtebaejokhpdbkaaGreatDoor
open Go.RowKit
set_option linter.unusedVariables false

abbrev qcell (q : Q) : List Value := [.string (bs q.name), .string (bs q.parent), .int .i64 q.due, .int .i64 q.most]
def qcells : List Q → List Value
  | [] => []
  | q :: t => qcell q ++ qcells t
theorem qcells_app (a : List Q) (q : Q) : qcells (a ++ [q]) = qcells a ++ qcell q := by
  induction a with
  | nil => rfl
  | cons x t ih => rw [List.cons_append, qcells, qcells, ih, List.append_assoc]
theorem qcells_len : ∀ l : List Q, (qcells l).length = l.length * 4
  | [] => rfl
  | q :: t => by rw [qcells, List.length_append, qcells_len t]; simp; omega
theorem qcells_at : ∀ (l : List Q) (i : Nat) (h : i < l.length), (qcells l)[i * 4]? = some (.string (bs l[i].name)) ∧ (qcells l)[i * 4 + 1]? = some (.string (bs l[i].parent)) ∧ (qcells l)[i * 4 + 2]? = some (.int .i64 l[i].due) ∧ (qcells l)[i * 4 + 3]? = some (.int .i64 l[i].most)
  | q :: t, 0, _ => ⟨rfl, rfl, rfl, rfl⟩
  | q :: t, i + 1, h => by
    have e := qcells_at t i (by simpa using h)
    have k : ∀ j, (qcells (q :: t))[(i + 1) * 4 + j]? = (qcells t)[i * 4 + j]? := fun j => by
      rw [qcells, show (i + 1) * 4 + j = (qcell q).length + (i * 4 + j) by simp; omega, List.getElem?_append_right (by omega)]
      congr 1
      omega
    have k0 := k 0
    simp only [Nat.add_zero] at k0
    rw [k0, k 1, k 2, k 3]
    simpa using e
/-- v is a list of these queues, in memory of its own from block B on -/
def QOwn (B : Nat) (w : World) (v : Value) (l : List Q) : Prop := w.ownsRow B 39 4 v l.length (qcells l)
theorem qown_nil (B : Nat) (w : World) : QOwn B w (.slice none 0 0) [] := World.ownsRow_nil _ _ _ _
theorem qown_empty (w : World) : QOwn w.heap.size (w.alloc (.cells #[] 39)) (.slice (some ⟨w.heap.size, 0, none⟩) 0 0) [] :=
  ⟨rfl, .inr ⟨w.heap.size, 0, #[], rfl, Nat.le_refl _, by show (w.heap.push _)[w.heap.size]? = _; simp, Nat.le_refl _, by unfold maxLen; omega, rfl, rfl⟩⟩
theorem QOwn.below {w w' : World} {B : Nat} {v : Value} {l : List Q} (h : QOwn B w v l) (hb : Below w.heap.size w w') : QOwn B w' v l :=
  h.kept (grownBy_below (grownBy_refl w none) hb) (by by_cases e : v.ownBlock = none; exact .inl e; exact .inr e)
theorem QOwn.row {w : World} {B : Nat} {v : Value} {l : List Q} (h : QOwn B w v l) : ∃ ao cap, v = .slice ao l.length cap ∧ QRow w ao l.length l ∧ l.length ≤ cap := by
  rcases h.2 with ⟨rfl, h0⟩ | ⟨g, cap, cur, rfl, h1, h2, h3, h4, h5, h6⟩
  · exact ⟨none, 0, by rw [h0], ⟨rfl, .inl h0⟩, by omega⟩
  · refine ⟨some ⟨g, 0, none⟩, cap, rfl, ⟨rfl, .inr ⟨g, 0, rfl, fun i hi => ?_⟩⟩, h3⟩
    obtain ⟨a, b, c, d⟩ := qcells_at l i hi
    have k : ∀ j (v : Value), j < l.length * 4 → (qcells l)[j]? = some v → w.cell? ⟨g, j, none⟩ = some v := fun j v hj hv => by
      rw [← h6, List.getElem?_take_of_lt hj] at hv
      simp [World.cell?, h2]
      simpa using hv
    unfold QAt
    rw [Nat.zero_add]
    exact ⟨k _ _ (by omega) a, k _ _ (by omega) b, k _ _ (by omega) c, k _ _ (by omega) d⟩
theorem QOwn.some {w : World} {B : Nat} {v : Value} {l : List Q} (h : QOwn B w v l) (hl : l ≠ []) : ∃ g cap, v = .slice (some ⟨g, 0, none⟩) l.length cap ∧ QAny w 39 g cap ∧ QRow w (some ⟨g, 0, none⟩) l.length l ∧ l.length ≤ cap ∧ B ≤ g := by
  obtain ⟨ao, cap, e, hr, hc⟩ := h.row
  rcases h.2 with ⟨rfl, h0⟩ | ⟨g, cap', cur, rfl, h1, h2, h3, h4, h5, h6⟩
  · exact absurd (List.eq_nil_of_length_eq_zero h0) hl
  · simp only [Value.slice.injEq] at e
    obtain ⟨rfl, _, rfl⟩ := e
    exact ⟨g, cap', rfl, ⟨cur, h2, by omega, fun i hi => absurd hi (by simp)⟩, hr, hc, h1⟩
theorem qown_step {w wr w1 : World} {B : Nat} {v v' : Value} {l : List Q} {q : Q} {ob : Obj} (hb : Below B w wr) (hown : QOwn B wr v l)
    (h1 : w1.ownsRow B 39 4 v' (l.length + 1) (qcells l ++ qcell q)) (hg : (wr.alloc ob).grownBy w1 v.ownBlock) (hB : B ≤ wr.heap.size) :
    QOwn B w1 v' (l ++ [q]) ∧ Below B w w1 := by
  refine ⟨?_, (hb.alloc hB ob).grown hg (by simp; omega) ?_⟩
  · unfold QOwn
    rw [qcells_app, List.length_append]
    exact h1
  · intro k hk
    rcases hown.2 with ⟨rfl, _⟩ | ⟨g, cap, cur, rfl, hg', _⟩
    · simp [Value.ownBlock] at hk
    · simp [Value.ownBlock] at hk; omega
theorem Tryz.infoQ : (Tryz.prog.info? 39).map (fun i => (i.zero, i.size, i.bytes)) = some (some (.agg #[.string ByteArray.empty, .string ByteArray.empty, .int .i64 0, .int .i64 0]), 4, 48) := by kernel_rfl
end Go.Proofs.YtebaejokhpdbkaaGreatDoor
