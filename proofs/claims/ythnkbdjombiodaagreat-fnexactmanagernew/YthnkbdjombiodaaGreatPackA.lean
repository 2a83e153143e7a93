/-
  Several texts of this claim in one: Base, Grow, ResV, QV, QBlk, StrS, DecM, MarkT, MarkQ, QOwn, MarkH (pack.py put them together); each says in its own remark what is proved.
-/
import Derived.Test.YthnkbdjombiodaaGreatRows
import Derived.WalkKit
import Derived.WalkSpells
import Derived.WalkLawsBesides
import Derived.BigQuiet
import Derived.Laws.MakeOwn
import Derived.Lib.ItoaLen
import Derived.Laws.IdiomStrings
import Derived.Deep.QuietTactic
import Derived.Deep.RegionWith
import Derived.Laws.AppendOwn
import Derived.Deep.RegionHeld3
/-
  Small helpers: texts, bytes, what a call returns.
-/
namespace Go.Proofs.YthnkbdjombiodaaGreat
open Go.RowKit

theorem hide {p : Prop} (h : p) : Hid p := h
theorem unhide {p : Prop} (h : Hid p) : p := h
theorem ret_bool {a b : Bool} (h : a = b) : Ending.returned (.bool a) = .returned (.bool b) := by rw [h]
theorem ret_int {k : IntKind} {a b : Int} (h : a = b) : Ending.returned (.int k a) = .returned (.int k b) := by rw [h]

theorem byte_le (c : UInt8) : (c.toNat : Int) ≤ 255 := by have := c.toNat_lt; omega

def inB (x a b : Int) : Bool := decide (a ≤ x ∧ x ≤ b)
theorem inB_true {x a b : Int} (h1 : a ≤ x) (h2 : x ≤ b) : inB x a b = true := by simp [inB, h1, h2]
theorem inB_false {x a b : Int} (h : ¬ (a ≤ x ∧ x ≤ b)) : inB x a b = false := by simp only [inB, decide_eq_false_iff_not]; exact h

theorem str_eq {a b : ByteArray} (h : a = b) : Value.string a = .string b := by rw [h]
theorem ret_str {a b : ByteArray} (h : a = b) : Ending.returned (.string a) = .returned (.string b) := by rw [h]
def bs (l : List UInt8) : ByteArray := ⟨l.toArray⟩
theorem bs_size (l : List UInt8) : (bs l).size = l.length := by simp [bs, ByteArray.size]
theorem cons_bs (c : UInt8) (l : List UInt8) : (ByteArray.mk #[c]) ++ bs l = bs (c :: l) := by
  unfold bs; rw [ByteArray.mk_append_mk]; simp
theorem take_snoc (s : ByteArray) (k : Nat) (h : k < s.size) : s.data.toList.take (k + 1) = s.data.toList.take k ++ [s[k]] := by
  rw [List.take_succ_eq_append_getElem (by simpa using h)]; rfl
theorem take_all (s : ByteArray) (k : Nat) (h : s.size ≤ k) : s.data.toList.take k = s.data.toList := List.take_of_length_le (by simpa using h)
theorem len_eq (s : ByteArray) : s.data.toList.length = s.size := by simp
theorem str_empty {s : ByteArray} (h : s.size = 0) : s.toList.isEmpty = true := by
  rw [ByteArray.toList_eq]; simp; exact Array.size_eq_zero_iff.1 h
theorem str_full {s : ByteArray} (h : s.size ≠ 0) : s.toList.isEmpty = false := by
  rw [ByteArray.toList_eq]; simp; intro e; exact h (Array.size_eq_zero_iff.2 e)
theorem str_same {l : List UInt8} {s : ByteArray} (h : l = s.data.toList) : ((bs l).toList == s.toList) = true := by
  rw [ByteArray.toList_eq, ByteArray.toList_eq]; simp [bs, h]
theorem str_other {l : List UInt8} {s : ByteArray} (h : l ≠ s.data.toList) : ((bs l).toList == s.toList) = false := by
  rw [ByteArray.toList_eq, ByteArray.toList_eq]; simpa [bs] using h
end Go.Proofs.YthnkbdjombiodaaGreat

/-
  What a call may turn: one block alone, and what is made anew.
-/
namespace Go.Proofs.YthnkbdjombiodaaGreat
open Go.RowKit
set_option linter.unusedVariables false

theorem grownBy_refl (w : World) (r : Option Nat) : w.grownBy w r := ⟨rfl, rfl, rfl, Nat.le_refl _, fun _ _ _ => rfl⟩
theorem grownBy_trans {w w1 w2 : World} {r : Option Nat} (h : w.grownBy w1 r) (k : w1.grownBy w2 r) : w.grownBy w2 r :=
  ⟨k.os.trans h.os, k.tape.trans h.tape, k.output.trans h.output, Nat.le_trans h.size k.size, fun i hi hn => (k.block i (Nat.lt_of_lt_of_le hi h.size) hn).trans (h.block i hi hn)⟩
theorem grownBy_below {w w1 w2 : World} {r : Option Nat} (h : w.grownBy w1 r) (hb : Below w1.heap.size w1 w2) : w.grownBy w2 r :=
  ⟨hb.os.trans h.os, hb.tape.trans h.tape, hb.output.trans h.output, Nat.le_trans h.size hb.size, fun k hk hn => (hb.block k (Nat.lt_of_lt_of_le hk h.size)).trans (h.block k hk hn)⟩
theorem grownBy_set {w w1 : World} {g : Nat} (h : w.grownBy w1 (some g)) (j : Nat) (v : Value) : w.grownBy (w1.setCell ⟨g, j, none⟩ v) (some g) :=
  ⟨h.os, h.tape, h.output, by simpa using h.size, fun k hk hn => by
    rw [heap_setCell_other w1 ⟨g, j, none⟩ k v (fun e => hn (by rw [e]))]
    exact h.block k hk hn⟩
theorem grownBy_drewN {w w1 : World} {r : Option Nat} (h : w.grownBy w1 r) (n : Nat) : w.grownBy (w1.drewN n) r := grownBy_below h (below_drewN (Below.refl _ _) n)
theorem below_grownBy {B : Nat} {a w w' : World} {g : Nat} (h : Below B a w) (hg : w.grownBy w' (some g)) (hB : B ≤ w.heap.size) (hr : B ≤ g) : Below B a w' := h.grown hg hB (fun k hk => by cases hk; exact hr)
theorem cell_lt {w : World} {b o : Nat} {v : Value} (h : w.cell? ⟨b, o, none⟩ = some v) : b < w.heap.size :=
  Nat.lt_of_not_le (fun hle => by simp [World.cell?, Array.getElem?_eq_none hle] at h)
end Go.Proofs.YthnkbdjombiodaaGreat

/-
  Amounts: values, variables that hold them, and what lies below.
-/
namespace Go.Proofs.YthnkbdjombiodaaGreat
open Go.RowKit
set_option linter.unusedVariables false

abbrev rv (a b : Int) : Value := .agg #[.int .i64 a, .int .i64 b]
def resOk (a b : Int) : Bool := inB a 0 1000000000 && inB b 0 1000000000

theorem resOk_bd {a b : Int} (h : resOk a b = true) : 0 ≤ a ∧ a ≤ 1000000000 ∧ 0 ≤ b ∧ b ≤ 1000000000 := by
  simp only [resOk, inB, Bool.and_eq_true, decide_eq_true_eq] at h
  omega
theorem below_al {w w1 : World} (h : Below w.heap.size w w1) (o : Obj) : Below w.heap.size w (w1.alloc o) := h.alloc h.size o
theorem below_sc {w w1 : World} (h : Below w.heap.size w w1) (b j : Nat) (v : Value) (hb : w.heap.size ≤ b) : Below w.heap.size w (w1.setCell ⟨b, j, none⟩ v) := h.setCell hb v
theorem below_on {w w1 w2 : World} (h : Below w.heap.size w w1) (k : Below w1.heap.size w1 w2) : Below w.heap.size w w2 := Below.trans h (k.mono h.size)
/-- block g is a variable of type t that holds two numbers -/
def Var (w : World) (t : TypeId) (g : Nat) (x y : Int) : Prop := w.heap[g]? = some (.cells #[.int .i64 x, .int .i64 y] t (0, 0))
theorem Var.c0 {w : World} {t : TypeId} {g : Nat} {x y : Int} (h : Var w t g x y) : w.cell? ⟨g, 0, none⟩ = some (.int .i64 x) := by unfold Var at h; simp [World.cell?, h]
theorem Var.c1 {w : World} {t : TypeId} {g : Nat} {x y : Int} (h : Var w t g x y) : w.cell? ⟨g, 1, none⟩ = some (.int .i64 y) := by unfold Var at h; simp [World.cell?, h]
theorem Var.f {w : World} {t : TypeId} {g : Nat} {x y : Int} (h : Var w t g x y) (j : Nat) : w.frozen? ⟨g, j, none⟩ = false := by unfold Var at h; simp [World.frozen?, h]
theorem Var.lt {w : World} {t : TypeId} {g : Nat} {x y : Int} (h : Var w t g x y) : g < w.heap.size := lt_of_block h
theorem Var.same {w w' : World} {t : TypeId} {g : Nat} {x y : Int} (h : Var w t g x y) (e : w'.heap[g]? = w.heap[g]?) : Var w' t g x y := e.trans h
theorem Var.below {w w' : World} {t : TypeId} {g : Nat} {x y : Int} (h : Var w t g x y) (hb : Below w.heap.size w w') : Var w' t g x y := (hb.block g h.lt).trans h
theorem var_new (w : World) (t : TypeId) (x y : Int) : Var (w.alloc (.cells #[.int .i64 x, .int .i64 y] t)) t w.heap.size x y := by show (w.heap.push _)[w.heap.size]? = _; simp
theorem var_new2 (w : World) (t u : TypeId) (a b x y : Int) : Var ((w.alloc (.cells #[.int .i64 a, .int .i64 b] t)).alloc (.cells #[.int .i64 x, .int .i64 y] u)) u (w.heap.size + 1) x y := by
  have := var_new (w.alloc (.cells #[.int .i64 a, .int .i64 b] t)) u x y
  simpa using this
theorem Var.s0 {w : World} {t : TypeId} {g : Nat} {x y : Int} (h : Var w t g x y) (u : Value) : (w.setCell ⟨g, 0, none⟩ u).cell? ⟨g, 0, none⟩ = some u := World.cell?_setCell_same w _ _ h.c0
theorem Var.s1 {w : World} {t : TypeId} {g : Nat} {x y : Int} (h : Var w t g x y) (u v : Value) : ((w.setCell ⟨g, 0, none⟩ u).setCell ⟨g, 1, none⟩ v).cell? ⟨g, 1, none⟩ = some v := by
  refine World.cell?_setCell_same _ _ _ (u := .int .i64 y) ?_
  have h1 := heap_setCell_same w g 0 _ _ u h
  simp [World.cell?, h1]
theorem Var.set {w : World} {t : TypeId} {g : Nat} {a b : Int} (h : Var w t g a b) (x y : Int) : Var ((w.setCell ⟨g, 0, none⟩ (.int .i64 x)).setCell ⟨g, 1, none⟩ (.int .i64 y)) t g x y := by
  have h1 := heap_setCell_same w g 0 _ _ (.int .i64 x) h
  exact heap_setCell_same _ g 1 _ _ (.int .i64 y) h1
theorem Var.al {w : World} {t : TypeId} {g : Nat} {x y : Int} (h : Var w t g x y) (o : Obj) : Var (w.alloc o) t g x y := h.below (below_al (Below.refl _ _) o)
theorem Var.drew {w : World} {t : TypeId} {g : Nat} {x y : Int} (h : Var w t g x y) : Var w.drew t g x y := h
theorem Var.other {w : World} {t : TypeId} {g : Nat} {x y : Int} (h : Var w t g x y) (k j : Nat) (v : Value) (hn : g ≠ k) : Var (w.setCell ⟨k, j, none⟩ v) t g x y := h.same (heap_setCell_other w ⟨k, j, none⟩ g v hn)
/-- the one amount that came in, boxed, stands; nothing of w0 has turned -/
def Boxed (w0 : World) (t : TypeId) (a b : Int) (wx : World) : Prop := Var wx t w0.heap.size a b ∧ Below w0.heap.size w0 wx
theorem Boxed.new (w0 : World) (t : TypeId) (a b : Int) : Boxed w0 t a b (w0.alloc (.cells #[.int .i64 a, .int .i64 b] t)) := ⟨var_new w0 t a b, below_al (Below.refl _ _) _⟩
theorem Boxed.call {w0 w1 w2 : World} {t : TypeId} {a b : Int} (h : Boxed w0 t a b w1) (hb : Below w1.heap.size w1 w2) : Boxed w0 t a b w2 := ⟨h.1.below hb, below_on h.2 hb⟩
theorem Boxed.drew {w0 w1 : World} {t : TypeId} {a b : Int} (h : Boxed w0 t a b w1) : Boxed w0 t a b w1.drew := h.call (Below.refl _ _).drew
theorem Boxed.bel {w0 w1 : World} {t : TypeId} {a b : Int} (h : Boxed w0 t a b w1) : Below w0.heap.size w0 w1 := h.2
theorem Boxed.read (w0 : World) (t : TypeId) (a b : Int) : ∀ wx, Boxed w0 t a b wx → wx.cell? ⟨w0.heap.size, 0, none⟩ = some (.int .i64 a) ∧ wx.cell? ⟨w0.heap.size, 1, none⟩ = some (.int .i64 b) := fun wx h => ⟨h.1.c0, h.1.c1⟩
end Go.Proofs.YthnkbdjombiodaaGreat

/-
  Queues: values, rows of them in memory, and what a call leaves of such rows.
-/
namespace Go.Proofs.YthnkbdjombiodaaGreat
open Go.RowKit
set_option linter.unusedVariables false

structure Q where
  name : List UInt8
  parent : List UInt8
  due : Int
  most : Int

abbrev qv (q : Q) : Value := .agg #[.string (bs q.name), .string (bs q.parent), .int .i64 q.due, .int .i64 q.most]

/-- the cells of one queue stand from place p of block b on -/
def QAt (w : World) (b p : Nat) (q : Q) : Prop :=
  w.cell? ⟨b, p, none⟩ = some (.string (bs q.name)) ∧ w.cell? ⟨b, p + 1, none⟩ = some (.string (bs q.parent)) ∧ w.cell? ⟨b, p + 2, none⟩ = some (.int .i64 q.due) ∧ w.cell? ⟨b, p + 3, none⟩ = some (.int .i64 q.most)
/-- a slice value that holds these queues -/
def QRow (w : World) (ao : Option Addr) (len : Nat) (l : List Q) : Prop :=
  len = l.length ∧ (len = 0 ∨ ∃ b off, ao = some ⟨b, off, none⟩ ∧ ∀ i (h : i < l.length), QAt w b (off + i * 4) l[i])
theorem QAt.lt {w : World} {b p : Nat} {q : Q} (h : QAt w b p q) : b < w.heap.size := cell_lt h.1
theorem QAt.below {w w' : World} {b p : Nat} {q : Q} (h : QAt w b p q) (hb : Below w.heap.size w w') : QAt w' b p q :=
  ⟨(hb.cell h.lt).trans h.1, (hb.cell h.lt).trans h.2.1, (hb.cell h.lt).trans h.2.2.1, (hb.cell h.lt).trans h.2.2.2⟩
theorem QRow.below {w w' : World} {ao : Option Addr} {len : Nat} {l : List Q} (h : QRow w ao len l) (hb : Below w.heap.size w w') : QRow w' ao len l := by
  obtain ⟨h1, h2⟩ := h
  refine ⟨h1, ?_⟩
  rcases h2 with h2 | ⟨b, off, h3, h4⟩
  · exact .inl h2
  · exact .inr ⟨b, off, h3, fun i h => (h4 i h).below hb⟩
theorem QRow.nil (w : World) (ao : Option Addr) : QRow w ao 0 [] := ⟨rfl, .inl rfl⟩
theorem QRow.at {w : World} {ao : Option Addr} {len : Nat} {l : List Q} (h : QRow w ao len l) {i : Nat} (hi : i < len) : ∃ b off, ao = some ⟨b, off, none⟩ ∧ ∀ (h : i < l.length), QAt w b (off + i * 4) l[i] := by
  obtain ⟨h1, h2⟩ := h
  rcases h2 with h2 | ⟨b, off, h3, h4⟩
  · omega
  · exact ⟨b, off, h3, fun hi => h4 i hi⟩
end Go.Proofs.YthnkbdjombiodaaGreat

/-
  A row of queues that a call makes and fills, one by one.
-/
namespace Go.Proofs.YthnkbdjombiodaaGreat
open Go.RowKit
set_option linter.unusedVariables false

/-- block g is a row of n queues, of which the first k are those of l -/
def QBlk (w : World) (t : TypeId) (g n k : Nat) (l : List Q) : Prop :=
  ∃ arr : Array Value, w.heap[g]? = some (.cells arr t (0, 0)) ∧ arr.size = n * 4 ∧ ∀ i (h : i < l.length), i < k → arr[i * 4]? = some (.string (bs l[i].name)) ∧ arr[i * 4 + 1]? = some (.string (bs l[i].parent)) ∧ arr[i * 4 + 2]? = some (.int .i64 l[i].due) ∧ arr[i * 4 + 3]? = some (.int .i64 l[i].most)
theorem QBlk.lt {w : World} {t : TypeId} {g n k : Nat} {l : List Q} (h : QBlk w t g n k l) : g < w.heap.size := let ⟨_, h, _⟩ := h; lt_of_block h
theorem QBlk.below {w w' : World} {t : TypeId} {g n k : Nat} {l : List Q} (h : QBlk w t g n k l) (hb : Below w.heap.size w w') : QBlk w' t g n k l := by
  have hlt := h.lt
  obtain ⟨arr, h1, h2⟩ := h
  exact ⟨arr, (hb.block g hlt).trans h1, h2⟩
theorem QBlk.cell {w : World} {t : TypeId} {g n k : Nat} {l : List Q} (h : QBlk w t g n k l) {j : Nat} (hj : j < n * 4) : ∃ v, w.cell? ⟨g, j, none⟩ = some v := by
  obtain ⟨arr, h1, h2, _⟩ := h
  exact ⟨arr[j]'(by omega), by simp [World.cell?, h1, Array.getElem?_eq_getElem (show j < arr.size by omega)]⟩
theorem QBlk.frozen {w : World} {t : TypeId} {g n k : Nat} {l : List Q} (h : QBlk w t g n k l) (j : Nat) : w.frozen? ⟨g, j, none⟩ = false := by
  obtain ⟨arr, h1, h2, _⟩ := h
  simp [World.frozen?, h1]
theorem QBlk.row {w : World} {t : TypeId} {g n : Nat} {l : List Q} (h : QBlk w t g n n l) (hl : n = l.length) : QRow w (some ⟨g, 0, none⟩) n l := by
  obtain ⟨arr, h1, h2, h3⟩ := h
  refine ⟨hl, .inr ⟨g, 0, rfl, fun i hi => ?_⟩⟩
  obtain ⟨a, b, c, d⟩ := h3 i hi (by omega)
  unfold QAt
  simp only [Nat.zero_add]
  exact ⟨by simp [World.cell?, h1, a], by simp [World.cell?, h1, b], by simp [World.cell?, h1, c], by simp [World.cell?, h1, d]⟩
theorem qblk_made (w : World) (t : TypeId) (z : Array Value) (n : Nat) (l : List Q) : QBlk (w.alloc (.cells (madeCells z (n * 4)) t)) t w.heap.size n 0 l :=
  ⟨madeCells z (n * 4), by show (w.heap.push _)[w.heap.size]? = _; simp, size_madeCells _ _, fun i _ h => absurd h (by omega)⟩
/-- one queue more -/
def putQ (w : World) (g p : Nat) (q : Q) : World := (((w.setCell ⟨g, p, none⟩ (.string (bs q.name))).setCell ⟨g, p + 1, none⟩ (.string (bs q.parent))).setCell ⟨g, p + 2, none⟩ (.int .i64 q.due)).setCell ⟨g, p + 3, none⟩ (.int .i64 q.most)
theorem QBlk.step {w : World} {t : TypeId} {g n k : Nat} {l : List Q} (h : QBlk w t g n k l) (hk : k < n) (hl : k < l.length) : QBlk (putQ w g (k * 4) l[k]) t g n (k + 1) l := by
  obtain ⟨arr, h1, h2, h3⟩ := h
  have e1 := heap_setCell_same w g (k * 4) _ _ (.string (bs l[k].name)) h1
  have e2 := heap_setCell_same _ g (k * 4 + 1) _ _ (.string (bs l[k].parent)) e1
  have e3 := heap_setCell_same _ g (k * 4 + 2) _ _ (.int .i64 l[k].due) e2
  have e4 := heap_setCell_same _ g (k * 4 + 3) _ _ (.int .i64 l[k].most) e3
  refine ⟨_, e4, by simp [h2], fun i hi hik => ?_⟩
  by_cases e : i = k
  · subst e
    have q1 : i * 4 + 3 < arr.size := by omega
    refine ⟨?_, ?_, ?_, ?_⟩ <;> simp [Array.getElem?_setIfInBounds, h2] <;> omega
  · obtain ⟨a, b, c, d⟩ := h3 i hi (by omega)
    refine ⟨?_, ?_, ?_, ?_⟩
    · rw [← a]; simp only [Array.getElem?_setIfInBounds]; repeat rw [if_neg (by omega)]
    · rw [← b]; simp only [Array.getElem?_setIfInBounds]; repeat rw [if_neg (by omega)]
    · rw [← c]; simp only [Array.getElem?_setIfInBounds]; repeat rw [if_neg (by omega)]
    · rw [← d]; simp only [Array.getElem?_setIfInBounds]; repeat rw [if_neg (by omega)]
end Go.Proofs.YthnkbdjombiodaaGreat

/-
  Slices of texts that a call has made.
-/
namespace Go.Proofs.YthnkbdjombiodaaGreat
open Go.RowKit
set_option linter.unusedVariables false

/-- block g holds, from its head on, the texts xs, with room for cap -/
def SS (w : World) (g cap : Nat) (xs : List ByteArray) : Prop := w.ownsRow g 9 1 (.slice (some ⟨g, 0, none⟩) xs.length cap) xs.length (xs.map Value.string)
theorem SS.cell {w : World} {g cap : Nat} {xs : List ByteArray} (h : SS w g cap xs) (j : Nat) (hj : j < xs.length) : w.cell? ⟨g, j, none⟩ = some (.string xs[j]) := by
  have := World.ownsRow.cellAt h j (by omega)
  rw [this]; simp [hj]
theorem SS.frozen {w : World} {g cap : Nat} {xs : List ByteArray} (h : SS w g cap xs) (j : Nat) : w.frozen? ⟨g, j, none⟩ = false := World.ownsRow.frozenAt h j
theorem SS.block {w : World} {g cap : Nat} {xs : List ByteArray} (h : SS w g cap xs) : ∃ cur, w.heap[g]? = some (.cells cur 9 (0, 0)) ∧ xs.length ≤ cap ∧ cap ≤ maxLen ∧ cur.size = cap ∧ cur.toList.take xs.length = xs.map Value.string := by
  rcases h.2 with ⟨h1, _⟩ | ⟨g', cap', cur, h1, _, h2, h3, h4, h5, h6⟩
  · simp at h1
  · simp only [Value.slice.injEq, Option.some.injEq, Addr.mk.injEq, and_true, true_and] at h1
    obtain ⟨rfl, rfl⟩ := h1
    exact ⟨cur, h2, h3, h4, by simpa using h5, by simpa using h6⟩
theorem SS.mk {w : World} {g cap : Nat} {xs : List ByteArray} {cur : Array Value} (h : w.heap[g]? = some (.cells cur 9 (0, 0))) (h1 : xs.length ≤ cap) (h2 : cap ≤ maxLen) (h3 : cur.size = cap) (h4 : cur.toList.take xs.length = xs.map Value.string) : SS w g cap xs :=
  ⟨by simp, .inr ⟨g, cap, cur, rfl, Nat.le_refl _, h, h1, h2, by simpa using h3, by simpa using h4⟩⟩
theorem SS.lt {w : World} {g cap : Nat} {xs : List ByteArray} (h : SS w g cap xs) : g < w.heap.size := by
  obtain ⟨cur, h1, _⟩ := h.block
  exact lt_of_block h1
theorem SS.same {w w' : World} {g cap : Nat} {xs : List ByteArray} (h : SS w g cap xs) (hg : w'.heap[g]? = w.heap[g]?) : SS w' g cap xs := by
  obtain ⟨cur, h1, h2, h3, h4, h5⟩ := h.block
  exact SS.mk (hg.trans h1) h2 h3 h4 h5
theorem SS.below {w w' : World} {B g cap : Nat} {xs : List ByteArray} (h : SS w g cap xs) (hb : Below B w w') (hg : g < B) : SS w' g cap xs := h.same (hb.block g hg)
theorem SS.set {w : World} {g cap : Nat} {xs : List ByteArray} (h : SS w g cap xs) (j : Nat) (hj : j < xs.length) (x : ByteArray) : SS (w.setCell ⟨g, j, none⟩ (.string x)) g cap (xs.set j x) := by
  obtain ⟨cur, h1, h2, h3, h4, h5⟩ := h.block
  refine SS.mk (heap_setCell_same w g j cur _ _ h1) (by simpa using h2) h3 (by simpa using h4) ?_
  rw [List.length_set, Array.toList_setIfInBounds, List.take_set, h5, List.map_set]

end Go.Proofs.YthnkbdjombiodaaGreat

/-
  Decimal digits, one by one.
-/
namespace Go.Proofs.YthnkbdjombiodaaGreat
open Go.RowKit

/-- the digits of u, none for 0 -/
def dgs (u : Nat) : List UInt8 := if u = 0 then [] else Lib.decDigits u
theorem dgs_zero : dgs 0 = [] := rfl
theorem dgs_pos {u : Nat} (h : u ≠ 0) : dgs u = Lib.decDigits u := by rw [dgs, if_neg h]
theorem dgs_step {u : Nat} (h : u ≠ 0) : dgs u = dgs (u / 10) ++ [UInt8.ofNat (48 + u % 10)] := by
  rw [dgs_pos h, Lib.decDigits]
  by_cases h10 : u < 10
  · rw [dif_pos h10]
    have e : u / 10 = 0 := by omega
    rw [e, dgs_zero, Nat.mod_eq_of_lt h10]; rfl
  · rw [dif_neg h10, dgs_pos (by omega)]
/-- one digit cut out of the ten -/
theorem ten_cut : ∀ d : Nat, d < 10 → (ByteArray.mk #[48, 49, 50, 51, 52, 53, 54, 55, 56, 57]).extract d (d + 1) = ⟨#[UInt8.ofNat (48 + d)]⟩ := by
  intro d h
  match d, h with
  | 0, _ => rfl
  | 1, _ => rfl
  | 2, _ => rfl
  | 3, _ => rfl
  | 4, _ => rfl
  | 5, _ => rfl
  | 6, _ => rfl
  | 7, _ => rfl
  | 8, _ => rfl
  | 9, _ => rfl
  | d + 10, h => exact absurd h (by omega)
end Go.Proofs.YthnkbdjombiodaaGreat

/-
  The laws' own markText, and marks in a row.
-/
namespace Go.Proofs.YthnkbdjombiodaaGreat
open Go.RowKit
set_option linter.unusedVariables false

/-- the sign of a digit -/
def dch (d : Nat) : UInt8 := UInt8.ofNat (48 + d)
/-- the mark of the number N -/
def mk (N : Nat) : ByteArray := bs (109 :: dgs N)

set_option maxRecDepth 100000 in
set_option maxHeartbeats 1000000 in
theorem markText_any (N : Nat) (w : World) (h0 : 0 < N) (hN : (N : Int) ≤ 9223372036854775807) :
    Calls Tryz.prog 20 #[.int .i64 (N : Int)] w fun e w' => e = .returned (.string (mk N)) ∧ Below w.heap.size w w' := by
  have hlen2 : (dgs N).length ≤ 20 := by rw [dgs_pos (by omega), Lib.decDigits_length]; exact Lib.nDigits_le20 N (by omega)
  have hcv : ∀ (wr : World) (x : Nat), x < 10 → (convert 63 9 (.slice (some ⟨wr.heap.size, 0, none⟩) 1 1)).run Tryz.prog (wr.alloc (.cells #[.int .u8 (48 + (x : Int))] 5)) = .ok (.string ⟨#[dch x]⟩) (wr.alloc (.cells #[.int .u8 (48 + (x : Int))] 5)) := by
    intro wr x hx
    refine run_convert_bytes_back _ 63 9 5 ⟨wr.heap.size, 0, none⟩ 1 [dch x] Tryz.underlying63 Tryz.underlying5 Tryz.underlying9 (fun j hj => ?_)
    match j, hj with
    | 0, _ => simp [Addr.add, dch]; omega
  go_enter Tryz.func20, Tryz.ntmps20
  go_wp2
  go_loopw [0, 3] (fun m o wr => ∃ (u : Nat) (l : List UInt8), u ≤ N ∧ m = .int .i64 (u : Int) ∧ o = .string (bs l) ∧ dgs u ++ l = dgs N ∧ Below w.heap.size w wr) (fun m _ _ => (intOf m).toNat)
  case atStart => exact ⟨N, [], Nat.le_refl _, rfl, rfl, by simp, Below.refl _ _⟩
  case round =>
    obtain ⟨u, l, hu, rfl, rfl, hcat, hbel⟩ := hrel
    have hl : l.length ≤ 20 := by have := congrArg List.length hcat; simp only [List.length_append] at this; omega
    have hl2 : (bs l).size ≤ 20 := by rw [bs_size]; exact hl
    have hsz := hbel.size
    have HC := hide hcat
    have HB := hide hbel
    clear hcat hl hbel
    by_cases hu0 : u = 0
    · subst hu0
      clear hcv
      go_wp2
      go_ret
      exact ⟨ret_str (by rw [cons_bs, mk]; exact congrArg bs (congrArg (fun t => 109 :: t) (unhide HC))), unhide HB⟩
    · have hcw := hcv wr (u % 10) (by omega)
      rw [show ((u % 10 : Nat) : Int) = (u : Int) % 10 from by omega] at hcw
      clear hcv
      have hcs : (ByteArray.mk #[dch (u % 10)]).size = 1 := rfl
      go_wp2
      go_roundw
      case rel => exact ⟨u / 10, dch (u % 10) :: l, by omega, by go_num, str_eq (cons_bs _ _), by rw [← unhide HC, dgs_step hu0, dch]; simp, (unhide HB).alloc hsz _⟩
      case measure => simp [intOf]; omega

theorem markText_int (x : Int) (w : World) (h0 : 0 < x) (hN : x ≤ 9223372036854775807) :
    Calls Tryz.prog 20 #[.int .i64 x] w fun e w' => e = .returned (.string (mk x.toNat)) ∧ Below w.heap.size w w' := by
  obtain ⟨N, rfl⟩ := Int.eq_ofNat_of_zero_le (a := x) (by omega)
  rw [Int.toNat_natCast]
  exact markText_any N w (by omega) hN
/-- the marks from k on: n of them -/
def marks (k : Nat) : Nat → List ByteArray
  | 0 => []
  | n + 1 => mk k :: marks (k + 1) n
theorem marks_len : ∀ (n k : Nat), (marks k n).length = n
  | 0, _ => rfl
  | n + 1, k => by rw [marks, List.length_cons, marks_len n]
theorem marks_at : ∀ (n k j : Nat) (h : j < n), (marks k n)[j]? = some (mk (k + j))
  | 0, _, _, h => by omega
  | n + 1, k, 0, _ => by simp [marks]
  | n + 1, k, j + 1, h => by
    rw [marks, List.getElem?_cons_succ, marks_at n (k + 1) j (by omega)]
    rw [show k + 1 + j = k + (j + 1) from by omega]
/-- the first j texts marked -/
def marked (k : Nat) (xs : List ByteArray) (j : Nat) : List ByteArray := (marks k xs.length).take j ++ xs.drop j
theorem marked_len (k : Nat) (xs : List ByteArray) (j : Nat) : (marked k xs j).length = xs.length := by
  simp [marked, marks_len]; omega
theorem marked_zero (k : Nat) (xs : List ByteArray) : marked k xs 0 = xs := by simp [marked]
theorem marked_all (k : Nat) (xs : List ByteArray) : marked k xs xs.length = marks k xs.length := by
  simp [marked]; rw [List.take_of_length_le (by rw [marks_len]; exact Nat.le_refl _)]
theorem marked_set (k : Nat) (xs : List ByteArray) (j : Nat) (h : j < xs.length) : (marked k xs j).set j (mk (k + j)) = marked k xs (j + 1) := by
  have hm : j < (marks k xs.length).length := by rw [marks_len]; exact h
  have e : (marks k xs.length)[j] = mk (k + j) := by
    have := marks_at xs.length k j h
    rw [List.getElem?_eq_getElem hm] at this
    exact Option.some.inj this
  rw [marked, marked, List.set_append_right _ _ (by simp; omega), List.take_succ_eq_append_getElem hm, e]
  rw [List.length_take, marks_len, show j - min j xs.length = 0 from by omega, List.drop_eq_getElem_cons h, List.set_cons_zero, List.append_assoc]
  rfl
end Go.Proofs.YthnkbdjombiodaaGreat

/-
  The laws' own markQueueS: it writes into the row that it is handed, and into nothing else; a walk over the dump.
-/
namespace Go.Proofs.YthnkbdjombiodaaGreat
open Go.RowKit
set_option linter.unusedVariables false

/-- block g is a row of n queues -/
def QAny (w : World) (t : TypeId) (g n : Nat) : Prop := QBlk w t g n 0 []
theorem QBlk.any {w : World} {t : TypeId} {g n k : Nat} {l : List Q} (h : QBlk w t g n k l) : QAny w t g n := by
  obtain ⟨arr, h1, h2, _⟩ := h
  exact ⟨arr, h1, h2, fun i hi => absurd hi (by simp)⟩
theorem QAny.set {w : World} {t : TypeId} {g n : Nat} (h : QAny w t g n) (j : Nat) (v : Value) : QAny (w.setCell ⟨g, j, none⟩ v) t g n := by
  obtain ⟨arr, h1, h2, _⟩ := h
  exact ⟨_, heap_setCell_same w g j _ _ v h1, by simp [h2], fun i hi => absurd hi (by simp)⟩
set_option maxRecDepth 100000 in
set_option maxHeartbeats 2000000 in
theorem markQueueS_any (g n : Nat) (w : World) (h : QAny w 46 g n) (hn : n ≤ 1048576) :
    Calls Tryz.prog 10 #[.slice (some ⟨g, 0, none⟩) n n, .int .i64 1] w fun e w' => e = .returned (.int .i64 (1 + 4 * (n : Int))) ∧ w.grownBy w' (some g) := by
  have HQ0 := hide h
  clear h
  go_enter Tryz.func10, Tryz.ntmps10
  go_wp2
  go_loopw [1, 5] (fun s i wr => ∃ (j : Nat) (k : Int), j ≤ n ∧ i = .int .i64 j ∧ s = .int .i64 k ∧ k = 1 + 4 * (j : Int) ∧ Hid (QAny wr 46 g n) ∧ Hid (w.grownBy wr (some g))) (fun _ i _ => n - (intOf i).toNat)
  case atStart => exact ⟨0, 1, Nat.zero_le _, rfl, rfl, by omega, HQ0, hide (grownBy_refl _ _)⟩
  case round =>
    obtain ⟨j, k, hj, rfl, rfl, hk, HQ, HG⟩ := hrel
    by_cases hlt : j < n
    · have HK := hide hk
      have hk0 : 0 < k := by omega
      have hk1 : k ≤ 4194305 := by omega
      clear hk
      go_wp2_with fail
      refine (markText_int k _ hk0 (by omega)).mono ?_
      rintro e w1 ⟨rfl, hb⟩
      have HQ1 := hide (show QAny w1 46 g n from QBlk.below (unhide HQ) hb)
      have HG1 := hide (grownBy_below (unhide HG) hb)
      obtain ⟨v0, d0⟩ := QBlk.cell (unhide HQ1) (j := j * 4) (by omega)
      have f0 := QBlk.frozen (unhide HQ1) (j * 4)
      have HQ1' := hide ((unhide HQ1).set (j * 4) (.string (mk k.toNat)))
      have HG1' := hide (grownBy_set (unhide HG1) (j * 4) (.string (mk k.toNat)))
      clear hb HQ HG
      go_wp2_with fail
      refine (markText_int (k + 1) _ (by omega) (by omega)).mono ?_
      rintro e w2 ⟨rfl, hb⟩
      have HQ2 := hide (show QAny w2 46 g n from QBlk.below (unhide HQ1') hb)
      have HG2 := hide (grownBy_below (unhide HG1') hb)
      obtain ⟨v1, d1⟩ := QBlk.cell (unhide HQ2) (j := j * 4 + 1) (by omega)
      have f1 := QBlk.frozen (unhide HQ2) (j * 4 + 1)
      have HQ3 := hide ((unhide HQ2).set (j * 4 + 1) (.string (mk (k + 1).toNat)))
      have HG3 := hide (grownBy_set (unhide HG2) (j * 4 + 1) (.string (mk (k + 1).toNat)))
      obtain ⟨v2, d2⟩ := QBlk.cell (unhide HQ3) (j := j * 4 + 2) (by omega)
      have f2 := QBlk.frozen (unhide HQ3) (j * 4 + 2)
      have HQ4 := hide ((unhide HQ3).set (j * 4 + 2) (.int .i64 (k + 1 + 1)))
      have HG4 := hide (grownBy_set (unhide HG3) (j * 4 + 2) (.int .i64 (k + 1 + 1)))
      obtain ⟨v3, d3⟩ := QBlk.cell (unhide HQ4) (j := j * 4 + 3) (by omega)
      have f3 := QBlk.frozen (unhide HQ4) (j * 4 + 3)
      clear hb d0 f0 HQ1 HG1 HQ1' HG1' HQ2 HG2
      go_wp2
      go_roundw
      case rel => exact ⟨j + 1, k + 1 + 1 + 1 + 1, by omega, by go_num, by go_num, by have := unhide HK; omega, hide ((unhide HQ4).set _ _), hide (grownBy_set (unhide HG4) _ _)⟩
      case measure => simp [intOf]; omega
    · have hjn : j = n := by omega
      subst hjn
      go_wp2
      go_ret
      exact ⟨ret_int (by omega), unhide HG⟩
end Go.Proofs.YthnkbdjombiodaaGreat

/-
  Lists of queues that a call gathers, one behind the other.
-/
namespace Go.Proofs.YthnkbdjombiodaaGreat
open Go.RowKit
set_option linter.unusedVariables false

abbrev qcell (q : Q) : List Value := [.string (bs q.name), .string (bs q.parent), .int .i64 q.due, .int .i64 q.most]
def qcells : List Q → List Value
  | [] => []
  | q :: t => qcell q ++ qcells t
theorem qcells_app (a : List Q) (q : Q) : qcells (a ++ [q]) = qcells a ++ qcell q := by
  induction a with
  | nil => rfl
  | cons x t ih => rw [List.cons_append, qcells, qcells, ih, List.append_assoc]
theorem qcells_len : ∀ l : List Q, (qcells l).length = l.length * 4
  | [] => rfl
  | q :: t => by rw [qcells, List.length_append, qcells_len t]; simp; omega
theorem qcells_at : ∀ (l : List Q) (i : Nat) (h : i < l.length), (qcells l)[i * 4]? = some (.string (bs l[i].name)) ∧ (qcells l)[i * 4 + 1]? = some (.string (bs l[i].parent)) ∧ (qcells l)[i * 4 + 2]? = some (.int .i64 l[i].due) ∧ (qcells l)[i * 4 + 3]? = some (.int .i64 l[i].most)
  | q :: t, 0, _ => ⟨rfl, rfl, rfl, rfl⟩
  | q :: t, i + 1, h => by
    have e := qcells_at t i (by simpa using h)
    have k : ∀ j, (qcells (q :: t))[(i + 1) * 4 + j]? = (qcells t)[i * 4 + j]? := fun j => by
      rw [qcells, show (i + 1) * 4 + j = (qcell q).length + (i * 4 + j) by simp; omega, List.getElem?_append_right (by omega)]
      congr 1
      omega
    have k0 := k 0
    simp only [Nat.add_zero] at k0
    rw [k0, k 1, k 2, k 3]
    simpa using e
/-- v is a list of these queues, in memory of its own from block B on -/
def QOwn (B : Nat) (w : World) (v : Value) (l : List Q) : Prop := w.ownsRow B 46 4 v l.length (qcells l)
theorem qown_nil (B : Nat) (w : World) : QOwn B w (.slice none 0 0) [] := World.ownsRow_nil _ _ _ _
theorem qown_empty (w : World) : QOwn w.heap.size (w.alloc (.cells #[] 46)) (.slice (some ⟨w.heap.size, 0, none⟩) 0 0) [] :=
  ⟨rfl, .inr ⟨w.heap.size, 0, #[], rfl, Nat.le_refl _, by show (w.heap.push _)[w.heap.size]? = _; simp, Nat.le_refl _, by unfold maxLen; omega, rfl, rfl⟩⟩
theorem QOwn.below {w w' : World} {B : Nat} {v : Value} {l : List Q} (h : QOwn B w v l) (hb : Below w.heap.size w w') : QOwn B w' v l :=
  h.kept (grownBy_below (grownBy_refl w none) hb) (by by_cases e : v.ownBlock = none; exact .inl e; exact .inr e)
theorem QOwn.row {w : World} {B : Nat} {v : Value} {l : List Q} (h : QOwn B w v l) : ∃ ao cap, v = .slice ao l.length cap ∧ QRow w ao l.length l ∧ l.length ≤ cap := by
  rcases h.2 with ⟨rfl, h0⟩ | ⟨g, cap, cur, rfl, h1, h2, h3, h4, h5, h6⟩
  · exact ⟨none, 0, by rw [h0], ⟨rfl, .inl h0⟩, by omega⟩
  · refine ⟨some ⟨g, 0, none⟩, cap, rfl, ⟨rfl, .inr ⟨g, 0, rfl, fun i hi => ?_⟩⟩, h3⟩
    obtain ⟨a, b, c, d⟩ := qcells_at l i hi
    have k : ∀ j (v : Value), j < l.length * 4 → (qcells l)[j]? = some v → w.cell? ⟨g, j, none⟩ = some v := fun j v hj hv => by
      rw [← h6, List.getElem?_take_of_lt hj] at hv
      simp [World.cell?, h2]
      simpa using hv
    unfold QAt
    rw [Nat.zero_add]
    exact ⟨k _ _ (by omega) a, k _ _ (by omega) b, k _ _ (by omega) c, k _ _ (by omega) d⟩
theorem QOwn.some {w : World} {B : Nat} {v : Value} {l : List Q} (h : QOwn B w v l) (hl : l ≠ []) : ∃ g cap, v = .slice (some ⟨g, 0, none⟩) l.length cap ∧ QAny w 46 g cap ∧ QRow w (some ⟨g, 0, none⟩) l.length l ∧ l.length ≤ cap ∧ B ≤ g := by
  obtain ⟨ao, cap, e, hr, hc⟩ := h.row
  rcases h.2 with ⟨rfl, h0⟩ | ⟨g, cap', cur, rfl, h1, h2, h3, h4, h5, h6⟩
  · exact absurd (List.eq_nil_of_length_eq_zero h0) hl
  · simp only [Value.slice.injEq] at e
    obtain ⟨rfl, _, rfl⟩ := e
    exact ⟨g, cap', rfl, ⟨cur, h2, by omega, fun i hi => absurd hi (by simp)⟩, hr, hc, h1⟩
theorem qown_step {w wr w1 : World} {B : Nat} {v v' : Value} {l : List Q} {q : Q} {ob : Obj} (hb : Below B w wr) (hown : QOwn B wr v l)
    (h1 : w1.ownsRow B 46 4 v' (l.length + 1) (qcells l ++ qcell q)) (hg : (wr.alloc ob).grownBy w1 v.ownBlock) (hB : B ≤ wr.heap.size) :
    QOwn B w1 v' (l ++ [q]) ∧ Below B w w1 := by
  refine ⟨?_, (hb.alloc hB ob).grown hg (by simp; omega) ?_⟩
  · unfold QOwn
    rw [qcells_app, List.length_append]
    exact h1
  · intro k hk
    rcases hown.2 with ⟨rfl, _⟩ | ⟨g, cap, cur, rfl, hg', _⟩
    · simp [Value.ownBlock] at hk
    · simp [Value.ownBlock] at hk; omega
theorem Tryz.infoQ : (Tryz.prog.info? 46).map (fun i => (i.zero, i.size, i.bytes)) = some (some (.agg #[.string ByteArray.empty, .string ByteArray.empty, .int .i64 0, .int .i64 0]), 4, 48) := by kernel_rfl
end Go.Proofs.YthnkbdjombiodaaGreat

/-
  The laws' own markQueueS and heldQueueS: what is marked in a row of queues, and found again; walks over the dump.
-/
namespace Go.Proofs.YthnkbdjombiodaaGreat
open Go.RowKit
set_option linter.unusedVariables false

/-- the queue of marks at place j -/
def markQ (j : Nat) : Q := ⟨109 :: dgs (1 + 4 * j), 109 :: dgs (1 + 4 * j + 1), 1 + 4 * (j : Int) + 1 + 1, 1 + 4 * (j : Int) + 1 + 1 + 1⟩
def marksQ (n : Nat) : List Q := (List.range n).map markQ
theorem marksQ_len (n : Nat) : (marksQ n).length = n := by simp [marksQ]
theorem marksQ_at (n j : Nat) (h : j < (marksQ n).length) : (marksQ n)[j] = markQ j := by simp [marksQ]
theorem QBlk.tail {w : World} {t : TypeId} {g n k : Nat} {l : List Q} (h : QBlk w t g n k l) {p : Nat} (hp : k * 4 ≤ p) (v : Value) : QBlk (w.setCell ⟨g, p, none⟩ v) t g n k l := by
  obtain ⟨arr, h1, h2, h3⟩ := h
  refine ⟨_, heap_setCell_same w g p _ _ v h1, by simp [h2], fun i hi hik => ?_⟩
  obtain ⟨a, b, c, d⟩ := h3 i hi hik
  refine ⟨?_, ?_, ?_, ?_⟩
  · rw [← a, Array.getElem?_setIfInBounds, if_neg (by omega)]
  · rw [← b, Array.getElem?_setIfInBounds, if_neg (by omega)]
  · rw [← c, Array.getElem?_setIfInBounds, if_neg (by omega)]
  · rw [← d, Array.getElem?_setIfInBounds, if_neg (by omega)]
theorem QBlk.next {w : World} {t : TypeId} {g n k : Nat} {l : List Q} (h : QBlk w t g n k l) (c : ∀ hk : k < l.length, QAt w g (k * 4) l[k]) : QBlk w t g n (k + 1) l := by
  obtain ⟨arr, h1, h2, h3⟩ := h
  refine ⟨arr, h1, h2, fun i hi hik => ?_⟩
  by_cases e : i = k
  · subst e
    obtain ⟨c0, c1, c2, c3⟩ := c hi
    simp [World.cell?, h1] at c0 c1 c2 c3
    exact ⟨c0, c1, c2, c3⟩
  · exact h3 i hi (by omega)
theorem QBlk.rowOf {w : World} {t : TypeId} {g c n : Nat} {l : List Q} (h : QBlk w t g c n l) (hl : n = l.length) : QRow w (some ⟨g, 0, none⟩) n l := by
  obtain ⟨arr, h1, h2, h3⟩ := h
  refine ⟨hl, .inr ⟨g, 0, rfl, fun i hi => ?_⟩⟩
  obtain ⟨a, b, c, d⟩ := h3 i hi (by omega)
  unfold QAt
  simp only [Nat.zero_add]
  exact ⟨by simp [World.cell?, h1, a], by simp [World.cell?, h1, b], by simp [World.cell?, h1, c], by simp [World.cell?, h1, d]⟩
theorem cell_keep {w : World} {g p q : Nat} {u v : Value} (h : w.cell? ⟨g, p, none⟩ = some u) (hne : q ≠ p) : (w.setCell ⟨g, q, none⟩ v).cell? ⟨g, p, none⟩ = some u :=
  (World.cell?_setCell_other _ _ _ _ (fun e => hne (congrArg Addr.off e))).trans h
theorem cell_bel {w w' : World} {g p : Nat} {u : Value} (h : w.cell? ⟨g, p, none⟩ = some u) (hb : Below w.heap.size w w') : w'.cell? ⟨g, p, none⟩ = some u := (hb.cell (cell_lt h)).trans h
set_option maxRecDepth 100000 in
set_option maxHeartbeats 2000000 in
theorem markQueueS_full (g n c : Nat) {d : Nat} (w : World) (h : QAny w 46 g c) (hc : n ≤ c) (hn : n ≤ 1048576) :
    Calls Tryz.prog 10 #[.slice (some ⟨g, 0, none⟩) n d, .int .i64 1] w fun e w' => e = .returned (.int .i64 (1 + 4 * (n : Int))) ∧ QBlk w' 46 g c n (marksQ n) ∧ w.grownBy w' (some g) := by
  have HQ0 := hide (show QBlk w 46 g c 0 (marksQ n) by obtain ⟨arr, h1, h2, _⟩ := h; exact ⟨arr, h1, h2, fun i _ h => absurd h (by omega)⟩)
  clear h
  go_enter Tryz.func10, Tryz.ntmps10
  go_wp2
  go_loopw [1, 5] (fun s i wr => ∃ (j : Nat) (k : Int), j ≤ n ∧ i = .int .i64 j ∧ s = .int .i64 k ∧ k = 1 + 4 * (j : Int) ∧ Hid (QBlk wr 46 g c j (marksQ n)) ∧ Hid (w.grownBy wr (some g))) (fun _ i _ => n - (intOf i).toNat)
  case atStart => exact ⟨0, 1, Nat.zero_le _, rfl, rfl, by omega, HQ0, hide (grownBy_refl _ _)⟩
  case round =>
    obtain ⟨j, k, hj, rfl, rfl, hk, HQ, HG⟩ := hrel
    by_cases hlt : j < n
    · have HK := hide hk
      have hk0 : 0 < k := by omega
      have hk1 : k ≤ 4194305 := by omega
      clear hk
      go_wp2_with fail
      refine (markText_int k _ hk0 (by omega)).mono ?_
      rintro e w1 ⟨rfl, hb⟩
      have HQ1 := hide ((unhide HQ).below hb)
      have HG1 := hide (grownBy_below (unhide HG) hb)
      obtain ⟨v0, d0⟩ := (unhide HQ1).cell (j := j * 4) (by omega)
      have f0 := (unhide HQ1).frozen (j * 4)
      have HQ1' := hide ((unhide HQ1).tail (p := j * 4) (by omega) (.string (mk k.toNat)))
      have X0 := hide (World.cell?_setCell_same w1 ⟨g, j * 4, none⟩ (.string (mk k.toNat)) d0)
      have HG1' := hide (grownBy_set (unhide HG1) (j * 4) (.string (mk k.toNat)))
      clear hb HQ HG
      go_wp2_with fail
      refine (markText_int (k + 1) _ (by omega) (by omega)).mono ?_
      rintro e w2 ⟨rfl, hb⟩
      have HQ2 := hide ((unhide HQ1').below hb)
      have HG2 := hide (grownBy_below (unhide HG1') hb)
      have X02 := hide (cell_bel (unhide X0) hb)
      obtain ⟨v1, d1⟩ := (unhide HQ2).cell (j := j * 4 + 1) (by omega)
      have f1 := (unhide HQ2).frozen (j * 4 + 1)
      have X1 := hide (World.cell?_setCell_same w2 ⟨g, j * 4 + 1, none⟩ (.string (mk (k + 1).toNat)) d1)
      have X03 := hide (cell_keep (q := j * 4 + 1) (v := .string (mk (k + 1).toNat)) (unhide X02) (by omega))
      have HQ3 := hide ((unhide HQ2).tail (p := j * 4 + 1) (by omega) (.string (mk (k + 1).toNat)))
      have HG3 := hide (grownBy_set (unhide HG2) (j * 4 + 1) (.string (mk (k + 1).toNat)))
      obtain ⟨v2, d2⟩ := (unhide HQ3).cell (j := j * 4 + 2) (by omega)
      have f2 := (unhide HQ3).frozen (j * 4 + 2)
      have X2 := hide (World.cell?_setCell_same _ ⟨g, j * 4 + 2, none⟩ (.int .i64 (k + 1 + 1)) d2)
      have X04 := hide (cell_keep (q := j * 4 + 2) (v := .int .i64 (k + 1 + 1)) (unhide X03) (by omega))
      have X14 := hide (cell_keep (q := j * 4 + 2) (v := .int .i64 (k + 1 + 1)) (unhide X1) (by omega))
      have HQ4 := hide ((unhide HQ3).tail (p := j * 4 + 2) (by omega) (.int .i64 (k + 1 + 1)))
      have HG4 := hide (grownBy_set (unhide HG3) (j * 4 + 2) (.int .i64 (k + 1 + 1)))
      obtain ⟨v3, d3⟩ := (unhide HQ4).cell (j := j * 4 + 3) (by omega)
      have f3 := (unhide HQ4).frozen (j * 4 + 3)
      have HN := hide (show QBlk _ 46 g c (j + 1) (marksQ n) from ((unhide HQ4).tail (p := j * 4 + 3) (by omega) (.int .i64 (k + 1 + 1 + 1))).next (fun hj' => by
        rw [marksQ_at]
        have e1 : k.toNat = 1 + 4 * j := by have := unhide HK; omega
        have e2 : (k + 1).toNat = 1 + 4 * j + 1 := by have := unhide HK; omega
        have e3 := unhide HK
        have y0 := cell_keep (q := j * 4 + 3) (v := .int .i64 (k + 1 + 1 + 1)) (unhide X04) (by omega)
        have y1 := cell_keep (q := j * 4 + 3) (v := .int .i64 (k + 1 + 1 + 1)) (unhide X14) (by omega)
        have y2 := cell_keep (q := j * 4 + 3) (v := .int .i64 (k + 1 + 1 + 1)) (unhide X2) (by omega)
        have y3 := World.cell?_setCell_same _ ⟨g, j * 4 + 3, none⟩ (.int .i64 (k + 1 + 1 + 1)) d3
        refine ⟨y0.trans ?_, y1.trans ?_, y2.trans ?_, y3.trans ?_⟩
        · rw [e1]; rfl
        · rw [e2]; rfl
        · rw [e3]; rfl
        · rw [e3]; rfl))
      clear hb d0 f0 HQ1 HG1 HQ1' HG1' HQ2 HG2 X0 X02 X1 X03 X2 X04 X14
      go_wp2
      go_roundw
      case rel => exact ⟨j + 1, k + 1 + 1 + 1 + 1, by omega, by go_num, by go_num, by have := unhide HK; omega, HN, hide (grownBy_set (unhide HG4) _ _)⟩
      case measure => simp [intOf]; omega
    · have hjn : j = n := by omega
      subst hjn
      go_wp2
      go_ret
      exact ⟨ret_int (by omega), unhide HQ, unhide HG⟩
end Go.Proofs.YthnkbdjombiodaaGreat
