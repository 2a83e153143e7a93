/-
  Amounts that came in as arguments, boxed at the head of a law: they stand as they were whatever is called.
-/
import Derived.Test.YtoejklldpceghabDoorResV
namespace Go.Proofs.YtoejklldpceghabDoor
open Go.RowKit
set_option linter.unusedVariables false

/-- the boxes of the arguments l, from block w0's size on, stand in wx; nothing of w0 has turned -/
def Args (w0 : World) (l : List (Int × Int)) (wx : World) : Prop := (∀ i (h : i < l.length), Var wx 23 (w0.heap.size + i) l[i].1 l[i].2) ∧ Below w0.heap.size w0 wx ∧ w0.heap.size + l.length ≤ wx.heap.size
theorem Args.nil (w0 : World) : Args w0 [] w0 := ⟨fun i h => absurd h (by simp), Below.refl _ _, Nat.le_refl _⟩
theorem Args.call {w0 w1 w2 : World} {l : List (Int × Int)} (h : Args w0 l w1) (hb : Below w1.heap.size w1 w2) : Args w0 l w2 :=
  ⟨fun i hi => (h.1 i hi).below hb, below_on h.2.1 hb, Nat.le_trans h.2.2 hb.size⟩
theorem Args.al {w0 w1 : World} {l : List (Int × Int)} (h : Args w0 l w1) (o : Obj) : Args w0 l (w1.alloc o) := h.call (below_al (Below.refl _ _) o)
theorem Args.drew {w0 w1 : World} {l : List (Int × Int)} (h : Args w0 l w1) : Args w0 l w1.drew := h.call (Below.refl _ _).drew
theorem Args.set {w0 w1 : World} {l : List (Int × Int)} (h : Args w0 l w1) (g j : Nat) (v : Value) (hg : w0.heap.size + l.length ≤ g) : Args w0 l (w1.setCell ⟨g, j, none⟩ v) :=
  ⟨fun i hi => (h.1 i hi).other g j v (by omega), below_sc h.2.1 g j v (by omega), by simpa using h.2.2⟩
theorem Args.box1 {w0 : World} {a b : Int} : Args w0 [(a, b)] (w0.alloc (.cells #[.int .i64 a, .int .i64 b] 23)) :=
  ⟨fun i hi => by
    obtain rfl : i = 0 := by simpa using hi
    exact var_new w0 _ a b, below_al (Below.refl _ _) _, by simp⟩
theorem Args.box {w0 w1 : World} {l : List (Int × Int)} (h : Args w0 l w1) (a b : Int) (hs : w1.heap.size = w0.heap.size + l.length) : Args w0 (l ++ [(a, b)]) (w1.alloc (.cells #[.int .i64 a, .int .i64 b] 23)) := by
  have k := h.al (.cells #[.int .i64 a, .int .i64 b] 23)
  refine ⟨fun i hi => ?_, k.2.1, by simp [hs]; omega⟩
  by_cases e : i < l.length
  · rw [List.getElem_append_left e]
    exact k.1 i e
  · obtain rfl : i = l.length := by simp at hi; omega
    rw [List.getElem_append_right (Nat.le_refl _)]
    have := var_new w1 23 a b
    rw [hs] at this
    simpa using this
theorem Args.below {w0 w1 : World} {l : List (Int × Int)} (h : Args w0 l w1) : Below w0.heap.size w0 w1 := h.2.1
theorem args1 (w : World) (a b : Int) : Args w [(a, b)] (w.alloc (.cells #[.int .i64 a, .int .i64 b] 23)) := Args.box1
theorem args2 (w : World) (a b c d : Int) : Args w [(a, b), (c, d)] ((w.alloc (.cells #[.int .i64 a, .int .i64 b] 23)).alloc (.cells #[.int .i64 c, .int .i64 d] 23)) := (args1 w a b).box c d (by simp)
theorem args4 (w : World) (a b c d e f g h : Int) : Args w [(a, b), (c, d), (e, f), (g, h)] ((((w.alloc (.cells #[.int .i64 a, .int .i64 b] 23)).alloc (.cells #[.int .i64 c, .int .i64 d] 23)).alloc (.cells #[.int .i64 e, .int .i64 f] 23)).alloc (.cells #[.int .i64 g, .int .i64 h] 23)) :=
  ((args2 w a b c d).box e f (by simp)).box g h (by simp)
/-- the boxes stand, and so does a variable made behind them -/
def ArgsV (w0 : World) (l : List (Int × Int)) (g : Nat) (x y : Int) (wx : World) : Prop := Args w0 l wx ∧ Var wx 25 g x y ∧ w0.heap.size + l.length ≤ g
theorem ArgsV.call {w0 w1 w2 : World} {l : List (Int × Int)} {g : Nat} {x y : Int} (h : ArgsV w0 l g x y w1) (hb : Below w1.heap.size w1 w2) : ArgsV w0 l g x y w2 := ⟨h.1.call hb, h.2.1.below hb, h.2.2⟩
theorem ArgsV.al {w0 w1 : World} {l : List (Int × Int)} {g : Nat} {x y : Int} (h : ArgsV w0 l g x y w1) (o : Obj) : ArgsV w0 l g x y (w1.alloc o) := h.call (below_al (Below.refl _ _) o)
theorem ArgsV.drew {w0 w1 : World} {l : List (Int × Int)} {g : Nat} {x y : Int} (h : ArgsV w0 l g x y w1) : ArgsV w0 l g x y w1.drew := h.call (Below.refl _ _).drew
theorem ArgsV.set {w0 w1 : World} {l : List (Int × Int)} {g : Nat} {x y : Int} (h : ArgsV w0 l g x y w1) (k j : Nat) (v : Value) (hg : g < k) : ArgsV w0 l g x y (w1.setCell ⟨k, j, none⟩ v) :=
  ⟨h.1.set k j v (by have := h.2.2; omega), h.2.1.other k j v (by omega), h.2.2⟩
theorem ArgsV.lt {w0 w1 : World} {l : List (Int × Int)} {g : Nat} {x y : Int} (h : ArgsV w0 l g x y w1) : g < w1.heap.size := h.2.1.lt
theorem argsV_end {w0 wx : World} {l : List (Int × Int)} {g k : Nat} {x y : Int} (h : ArgsV w0 l g x y wx) (hk : Var wx 25 k x y) : Var wx 25 g x y ∧ Var wx 25 k x y ∧ Below w0.heap.size w0 wx := ⟨h.2.1, hk, h.1.2.1⟩
/-- what is read of the boxes -/
theorem read1 (w : World) (a b : Int) : ∀ wx, Args w [(a, b)] wx → wx.cell? ⟨w.heap.size, 0, none⟩ = some (.int .i64 a) ∧ wx.cell? ⟨w.heap.size, 1, none⟩ = some (.int .i64 b) ∧ w.heap.size < wx.heap.size :=
  fun wx h => ⟨(h.1 0 (by simp)).c0, (h.1 0 (by simp)).c1, (h.1 0 (by simp)).lt⟩
theorem read2 (w : World) (a b c d : Int) : ∀ wx, Args w [(a, b), (c, d)] wx → wx.cell? ⟨w.heap.size, 0, none⟩ = some (.int .i64 a) ∧ wx.cell? ⟨w.heap.size, 1, none⟩ = some (.int .i64 b) ∧ wx.cell? ⟨w.heap.size + 1, 0, none⟩ = some (.int .i64 c) ∧ wx.cell? ⟨w.heap.size + 1, 1, none⟩ = some (.int .i64 d) ∧ w.heap.size < wx.heap.size ∧ w.heap.size + 1 < wx.heap.size :=
  fun wx h => ⟨(h.1 0 (by simp)).c0, (h.1 0 (by simp)).c1, (h.1 1 (by simp)).c0, (h.1 1 (by simp)).c1, (h.1 0 (by simp)).lt, (h.1 1 (by simp)).lt⟩
theorem read4 (w : World) (a b c d e f g k : Int) : ∀ wx, Args w [(a, b), (c, d), (e, f), (g, k)] wx → wx.cell? ⟨w.heap.size, 0, none⟩ = some (.int .i64 a) ∧ wx.cell? ⟨w.heap.size, 1, none⟩ = some (.int .i64 b) ∧ wx.cell? ⟨w.heap.size + 1, 0, none⟩ = some (.int .i64 c) ∧ wx.cell? ⟨w.heap.size + 1, 1, none⟩ = some (.int .i64 d)
    ∧ wx.cell? ⟨w.heap.size + 1 + 1, 0, none⟩ = some (.int .i64 e) ∧ wx.cell? ⟨w.heap.size + 1 + 1, 1, none⟩ = some (.int .i64 f) ∧ wx.cell? ⟨w.heap.size + 1 + 1 + 1, 0, none⟩ = some (.int .i64 g) ∧ wx.cell? ⟨w.heap.size + 1 + 1 + 1, 1, none⟩ = some (.int .i64 k) :=
  fun wx h => ⟨(h.1 0 (by simp)).c0, (h.1 0 (by simp)).c1, (h.1 1 (by simp)).c0, (h.1 1 (by simp)).c1, (h.1 2 (by simp)).c0, (h.1 2 (by simp)).c1, (h.1 3 (by simp)).c0, (h.1 3 (by simp)).c1⟩
end Go.Proofs.YtoejklldpceghabDoor
