/-
  Several texts of this claim in one: Base, WpL, Grow, ResV, QV, KeptV, QBlk, SzQ2, EqQ, TxtM, OpenQ (pack.py put them together); each says in its own remark what is proved.
-/
import Derived.Test.YtcplnodfcchdhaaGreatRows
import Derived.WalkKit
import Derived.WalkSpells
import Derived.WalkLawsBesides
import Derived.BigQuiet
import Derived.Deep.WholeRow
import Derived.Laws.MakeOwn
import Derived.Deep.RegionHeld3
import Derived.ProofKit
import Derived.OpenShut
import Derived.ChangeSame
import Derived.Deep.Slices
import Derived.Lib.ItoaMem
/-
  Small helpers: texts, bytes, what a call returns.
-/
namespace Go.Proofs.YtcplnodfcchdhaaGreat
open Go.RowKit
theorem hide {p : Prop} (h : p) : Hid p := h
theorem unhide {p : Prop} (h : Hid p) : p := h
theorem ret_bool {a b : Bool} (h : a = b) : Ending.returned (.bool a) = .returned (.bool b) := by rw [h]
theorem ret_int {k : IntKind} {a b : Int} (h : a = b) : Ending.returned (.int k a) = .returned (.int k b) := by rw [h]

theorem byte_le (c : UInt8) : (c.toNat : Int) ≤ 255 := by have := c.toNat_lt; omega

def inB (x a b : Int) : Bool := decide (a ≤ x ∧ x ≤ b)
theorem inB_true {x a b : Int} (h1 : a ≤ x) (h2 : x ≤ b) : inB x a b = true := by simp [inB, h1, h2]
theorem inB_false {x a b : Int} (h : ¬ (a ≤ x ∧ x ≤ b)) : inB x a b = false := by simp only [inB, decide_eq_false_iff_not]; exact h

theorem str_eq {a b : ByteArray} (h : a = b) : Value.string a = .string b := by rw [h]
theorem ret_str {a b : ByteArray} (h : a = b) : Ending.returned (.string a) = .returned (.string b) := by rw [h]
def bs (l : List UInt8) : ByteArray := ⟨l.toArray⟩
theorem bs_size (l : List UInt8) : (bs l).size = l.length := by simp [bs, ByteArray.size]
theorem cons_bs (c : UInt8) (l : List UInt8) : (ByteArray.mk #[c]) ++ bs l = bs (c :: l) := by
  unfold bs; rw [ByteArray.mk_append_mk]; simp
theorem take_snoc (s : ByteArray) (k : Nat) (h : k < s.size) : s.data.toList.take (k + 1) = s.data.toList.take k ++ [s[k]] := by
  rw [List.take_succ_eq_append_getElem (by simpa using h)]; rfl
theorem take_all (s : ByteArray) (k : Nat) (h : s.size ≤ k) : s.data.toList.take k = s.data.toList := List.take_of_length_le (by simpa using h)
theorem len_eq (s : ByteArray) : s.data.toList.length = s.size := by simp
end Go.Proofs.YtcplnodfcchdhaaGreat

/-
  A plain region, one operation at a time: what each gives is told from outside.
-/
namespace Go.Proofs.YtcplnodfcchdhaaGreat
open Go.RowKit
set_option linter.unusedVariables false
section
variable {P : Program} {ops : Array Oper} {Q : Exit → Act → World → Prop} {a : Act} {w w' : World} {rest : List Oper} {o : Oper} {v : Value} {d : Option Tmp}
theorem wpList_val (hg : o.guard = none) (hd : o.dst = d) (hr : (execOp a.eval o).run P w = .ok (.value v) w') (h : wpList P ops Q rest (a.put d v) w') : wpList P ops Q (o :: rest) a w :=
  wpList_plain hg fun K hK => by
    subst hd
    unfold Oper.wp
    rw [hr]
    exact hK _ _ h
theorem wpList_same (hg : o.guard = none) (hd : o.dst = d) (hr : (execOp a.eval o).run P w = .ok (.value v) w) (h : wpList P ops Q rest (a.put d v) w) : wpList P ops Q (o :: rest) a w := wpList_val hg hd hr h
theorem wpList_none (hg : o.guard = none) (hd : o.dst = d) (hr : (execOp a.eval o).run P w = .ok .skip w') (h : wpList P ops Q rest (a.put d undef) w') : wpList P ops Q (o :: rest) a w :=
  wpList_plain hg fun K hK => by
    subst hd
    unfold Oper.wp
    rw [hr]
    exact hK _ _ h
theorem run_v {s : Sem Value} (h : s.run P w = .ok v w') : (do pure (Next.value (← s)) : Sem Next).run P w = .ok (.value v) w' := by rw [Sem.run_bind, h]; rfl
theorem run_u {s : Sem Unit} (h : s.run P w = .ok () w') : (do s; pure Next.skip : Sem Next).run P w = .ok .skip w' := by rw [Sem.run_bind, h]; rfl
end
end Go.Proofs.YtcplnodfcchdhaaGreat

/-
  What a call may turn: one block alone, and what is made anew.
-/
namespace Go.Proofs.YtcplnodfcchdhaaGreat
open Go.RowKit
set_option linter.unusedVariables false
theorem grownBy_refl (w : World) (r : Option Nat) : w.grownBy w r := ⟨rfl, rfl, rfl, Nat.le_refl _, fun _ _ _ => rfl⟩
theorem grownBy_trans {w w1 w2 : World} {r : Option Nat} (h : w.grownBy w1 r) (k : w1.grownBy w2 r) : w.grownBy w2 r :=
  ⟨k.os.trans h.os, k.tape.trans h.tape, k.output.trans h.output, Nat.le_trans h.size k.size, fun i hi hn => (k.block i (Nat.lt_of_lt_of_le hi h.size) hn).trans (h.block i hi hn)⟩
theorem grownBy_below {w w1 w2 : World} {r : Option Nat} (h : w.grownBy w1 r) (hb : Below w1.heap.size w1 w2) : w.grownBy w2 r :=
  ⟨hb.os.trans h.os, hb.tape.trans h.tape, hb.output.trans h.output, Nat.le_trans h.size hb.size, fun k hk hn => (hb.block k (Nat.lt_of_lt_of_le hk h.size)).trans (h.block k hk hn)⟩
theorem grownBy_set {w w1 : World} {g : Nat} (h : w.grownBy w1 (some g)) (j : Nat) (v : Value) : w.grownBy (w1.setCell ⟨g, j, none⟩ v) (some g) :=
  ⟨h.os, h.tape, h.output, by simpa using h.size, fun k hk hn => by
    rw [heap_setCell_other w1 ⟨g, j, none⟩ k v (fun e => hn (by rw [e]))]
    exact h.block k hk hn⟩
theorem grownBy_drewN {w w1 : World} {r : Option Nat} (h : w.grownBy w1 r) (n : Nat) : w.grownBy (w1.drewN n) r := grownBy_below h (below_drewN (Below.refl _ _) n)
theorem below_grownBy {B : Nat} {a w w' : World} {g : Nat} (h : Below B a w) (hg : w.grownBy w' (some g)) (hB : B ≤ w.heap.size) (hr : B ≤ g) : Below B a w' := h.grown hg hB (fun k hk => by cases hk; exact hr)
theorem cell_lt {w : World} {b o : Nat} {v : Value} (h : w.cell? ⟨b, o, none⟩ = some v) : b < w.heap.size :=
  Nat.lt_of_not_le (fun hle => by simp [World.cell?, Array.getElem?_eq_none hle] at h)
end Go.Proofs.YtcplnodfcchdhaaGreat

/-
  Amounts: values, variables that hold them, and what lies below.
-/
namespace Go.Proofs.YtcplnodfcchdhaaGreat
open Go.RowKit
set_option linter.unusedVariables false
abbrev rv (a b : Int) : Value := .agg #[.int .i64 a, .int .i64 b]
def resOk (a b : Int) : Bool := inB a 0 1000000000 && inB b 0 1000000000

theorem resOk_bd {a b : Int} (h : resOk a b = true) : 0 ≤ a ∧ a ≤ 1000000000 ∧ 0 ≤ b ∧ b ≤ 1000000000 := by
  simp only [resOk, inB, Bool.and_eq_true, decide_eq_true_eq] at h
  omega
theorem below_al {w w1 : World} (h : Below w.heap.size w w1) (o : Obj) : Below w.heap.size w (w1.alloc o) := h.alloc h.size o
theorem below_sc {w w1 : World} (h : Below w.heap.size w w1) (b j : Nat) (v : Value) (hb : w.heap.size ≤ b) : Below w.heap.size w (w1.setCell ⟨b, j, none⟩ v) := h.setCell hb v
theorem below_on {w w1 w2 : World} (h : Below w.heap.size w w1) (k : Below w1.heap.size w1 w2) : Below w.heap.size w w2 := Below.trans h (k.mono h.size)
/-- block g is a variable of type t that holds two numbers -/
def Var (w : World) (t : TypeId) (g : Nat) (x y : Int) : Prop := w.heap[g]? = some (.cells #[.int .i64 x, .int .i64 y] t (0, 0))
theorem Var.c0 {w : World} {t : TypeId} {g : Nat} {x y : Int} (h : Var w t g x y) : w.cell? ⟨g, 0, none⟩ = some (.int .i64 x) := by unfold Var at h; simp [World.cell?, h]
theorem Var.c1 {w : World} {t : TypeId} {g : Nat} {x y : Int} (h : Var w t g x y) : w.cell? ⟨g, 1, none⟩ = some (.int .i64 y) := by unfold Var at h; simp [World.cell?, h]
theorem Var.f {w : World} {t : TypeId} {g : Nat} {x y : Int} (h : Var w t g x y) (j : Nat) : w.frozen? ⟨g, j, none⟩ = false := by unfold Var at h; simp [World.frozen?, h]
theorem Var.lt {w : World} {t : TypeId} {g : Nat} {x y : Int} (h : Var w t g x y) : g < w.heap.size := lt_of_block h
theorem Var.same {w w' : World} {t : TypeId} {g : Nat} {x y : Int} (h : Var w t g x y) (e : w'.heap[g]? = w.heap[g]?) : Var w' t g x y := e.trans h
theorem Var.below {w w' : World} {t : TypeId} {g : Nat} {x y : Int} (h : Var w t g x y) (hb : Below w.heap.size w w') : Var w' t g x y := (hb.block g h.lt).trans h
theorem var_new (w : World) (t : TypeId) (x y : Int) : Var (w.alloc (.cells #[.int .i64 x, .int .i64 y] t)) t w.heap.size x y := by show (w.heap.push _)[w.heap.size]? = _; simp
theorem var_new2 (w : World) (t u : TypeId) (a b x y : Int) : Var ((w.alloc (.cells #[.int .i64 a, .int .i64 b] t)).alloc (.cells #[.int .i64 x, .int .i64 y] u)) u (w.heap.size + 1) x y := by
  have := var_new (w.alloc (.cells #[.int .i64 a, .int .i64 b] t)) u x y
  simpa using this
theorem Var.s0 {w : World} {t : TypeId} {g : Nat} {x y : Int} (h : Var w t g x y) (u : Value) : (w.setCell ⟨g, 0, none⟩ u).cell? ⟨g, 0, none⟩ = some u := World.cell?_setCell_same w _ _ h.c0
theorem Var.s1 {w : World} {t : TypeId} {g : Nat} {x y : Int} (h : Var w t g x y) (u v : Value) : ((w.setCell ⟨g, 0, none⟩ u).setCell ⟨g, 1, none⟩ v).cell? ⟨g, 1, none⟩ = some v := by
  refine World.cell?_setCell_same _ _ _ (u := .int .i64 y) ?_
  have h1 := heap_setCell_same w g 0 _ _ u h
  simp [World.cell?, h1]
theorem Var.set {w : World} {t : TypeId} {g : Nat} {a b : Int} (h : Var w t g a b) (x y : Int) : Var ((w.setCell ⟨g, 0, none⟩ (.int .i64 x)).setCell ⟨g, 1, none⟩ (.int .i64 y)) t g x y := by
  have h1 := heap_setCell_same w g 0 _ _ (.int .i64 x) h
  exact heap_setCell_same _ g 1 _ _ (.int .i64 y) h1
theorem Var.al {w : World} {t : TypeId} {g : Nat} {x y : Int} (h : Var w t g x y) (o : Obj) : Var (w.alloc o) t g x y := h.below (below_al (Below.refl _ _) o)
theorem Var.drew {w : World} {t : TypeId} {g : Nat} {x y : Int} (h : Var w t g x y) : Var w.drew t g x y := h
theorem Var.other {w : World} {t : TypeId} {g : Nat} {x y : Int} (h : Var w t g x y) (k j : Nat) (v : Value) (hn : g ≠ k) : Var (w.setCell ⟨k, j, none⟩ v) t g x y := h.same (heap_setCell_other w ⟨k, j, none⟩ g v hn)
/-- the one amount that came in, boxed, stands; nothing of w0 has turned -/
def Boxed (w0 : World) (t : TypeId) (a b : Int) (wx : World) : Prop := Var wx t w0.heap.size a b ∧ Below w0.heap.size w0 wx
theorem Boxed.new (w0 : World) (t : TypeId) (a b : Int) : Boxed w0 t a b (w0.alloc (.cells #[.int .i64 a, .int .i64 b] t)) := ⟨var_new w0 t a b, below_al (Below.refl _ _) _⟩
theorem Boxed.call {w0 w1 w2 : World} {t : TypeId} {a b : Int} (h : Boxed w0 t a b w1) (hb : Below w1.heap.size w1 w2) : Boxed w0 t a b w2 := ⟨h.1.below hb, below_on h.2 hb⟩
theorem Boxed.drew {w0 w1 : World} {t : TypeId} {a b : Int} (h : Boxed w0 t a b w1) : Boxed w0 t a b w1.drew := h.call (Below.refl _ _).drew
theorem Boxed.read (w0 : World) (t : TypeId) (a b : Int) : ∀ wx, Boxed w0 t a b wx → wx.cell? ⟨w0.heap.size, 0, none⟩ = some (.int .i64 a) ∧ wx.cell? ⟨w0.heap.size, 1, none⟩ = some (.int .i64 b) := fun wx h => ⟨h.1.c0, h.1.c1⟩
end Go.Proofs.YtcplnodfcchdhaaGreat

/-
  Queues: values, rows of them in memory, and what a call leaves of such rows.
-/
namespace Go.Proofs.YtcplnodfcchdhaaGreat
open Go.RowKit
set_option linter.unusedVariables false
structure Q where
  name : List UInt8
  parent : List UInt8
  due : Int
  most : Int

abbrev qv (q : Q) : Value := .agg #[.string (bs q.name), .string (bs q.parent), .int .i64 q.due, .int .i64 q.most]

/-- the cells of one queue stand from place p of block b on -/
def QAt (w : World) (b p : Nat) (q : Q) : Prop :=
  w.cell? ⟨b, p, none⟩ = some (.string (bs q.name)) ∧ w.cell? ⟨b, p + 1, none⟩ = some (.string (bs q.parent)) ∧ w.cell? ⟨b, p + 2, none⟩ = some (.int .i64 q.due) ∧ w.cell? ⟨b, p + 3, none⟩ = some (.int .i64 q.most)
/-- a slice value that holds these queues -/
def QRow (w : World) (ao : Option Addr) (len : Nat) (l : List Q) : Prop :=
  len = l.length ∧ (len = 0 ∨ ∃ b off, ao = some ⟨b, off, none⟩ ∧ ∀ i (h : i < l.length), QAt w b (off + i * 4) l[i])
theorem QAt.lt {w : World} {b p : Nat} {q : Q} (h : QAt w b p q) : b < w.heap.size := cell_lt h.1
theorem QAt.below {w w' : World} {b p : Nat} {q : Q} (h : QAt w b p q) (hb : Below w.heap.size w w') : QAt w' b p q :=
  ⟨(hb.cell h.lt).trans h.1, (hb.cell h.lt).trans h.2.1, (hb.cell h.lt).trans h.2.2.1, (hb.cell h.lt).trans h.2.2.2⟩
theorem QRow.below {w w' : World} {ao : Option Addr} {len : Nat} {l : List Q} (h : QRow w ao len l) (hb : Below w.heap.size w w') : QRow w' ao len l := by
  obtain ⟨h1, h2⟩ := h
  refine ⟨h1, ?_⟩
  rcases h2 with h2 | ⟨b, off, h3, h4⟩
  · exact .inl h2
  · exact .inr ⟨b, off, h3, fun i h => (h4 i h).below hb⟩
theorem QRow.nil (w : World) (ao : Option Addr) : QRow w ao 0 [] := ⟨rfl, .inl rfl⟩
theorem QRow.at {w : World} {ao : Option Addr} {len : Nat} {l : List Q} (h : QRow w ao len l) {i : Nat} (hi : i < len) : ∃ b off, ao = some ⟨b, off, none⟩ ∧ ∀ (h : i < l.length), QAt w b (off + i * 4) l[i] := by
  obtain ⟨h1, h2⟩ := h
  rcases h2 with h2 | ⟨b, off, h3, h4⟩
  · omega
  · exact ⟨b, off, h3, fun hi => h4 i hi⟩
end Go.Proofs.YtcplnodfcchdhaaGreat

/-
  Blocks that stand through calls: their cells.
-/
namespace Go.Proofs.YtcplnodfcchdhaaGreat
open Go.RowKit
set_option linter.unusedVariables false
/-- block g is just these cells -/
def Blk (w : World) (g : Nat) (arr : Array Value) (t : TypeId) : Prop := w.heap[g]? = some (.cells arr t (0, 0))
theorem Blk.lt {w : World} {g : Nat} {arr : Array Value} {t : TypeId} (h : Blk w g arr t) : g < w.heap.size := lt_of_block h
theorem Blk.below {w w' : World} {g : Nat} {arr : Array Value} {t : TypeId} (h : Blk w g arr t) (hb : Below w.heap.size w w') : Blk w' g arr t := (hb.block g h.lt).trans h
theorem Blk.at {w : World} {g : Nat} {arr : Array Value} {t : TypeId} (h : Blk w g arr t) (j : Nat) : w.cell? ⟨g, j, none⟩ = arr[j]? := by
  unfold Blk at h; simp [World.cell?, h]
theorem Blk.f {w : World} {g : Nat} {arr : Array Value} {t : TypeId} (h : Blk w g arr t) (j : Nat) : w.frozen? ⟨g, j, none⟩ = false := by
  unfold Blk at h; simp [World.frozen?, h]
theorem Blk.al {w : World} {g : Nat} {arr : Array Value} {t : TypeId} (h : Blk w g arr t) (o : Obj) : Blk (w.alloc o) g arr t := h.below (below_al (Below.refl _ _) o)
theorem Blk.drew {w : World} {g : Nat} {arr : Array Value} {t : TypeId} (h : Blk w g arr t) : Blk w.drew g arr t := h
theorem Blk.set {w : World} {g : Nat} {arr : Array Value} {t : TypeId} (h : Blk w g arr t) (j : Nat) (v : Value) : Blk (w.setCell ⟨g, j, none⟩ v) g (arr.setIfInBounds j v) t := heap_setCell_same w g j _ _ v h
theorem Blk.other {w : World} {g : Nat} {arr : Array Value} {t : TypeId} (h : Blk w g arr t) (k j : Nat) (v : Value) (hn : g ≠ k) : Blk (w.setCell ⟨k, j, none⟩ v) g arr t := (heap_setCell_other w ⟨k, j, none⟩ g v hn).trans h
theorem blk_new (w : World) (arr : Array Value) (t : TypeId) : Blk (w.alloc (.cells arr t)) w.heap.size arr t := by show (w.heap.push _)[w.heap.size]? = _; simp
theorem al_size (w : World) (o : Obj) : (w.alloc o).heap.size = w.heap.size + 1 := by show (w.heap.push _).size = _; simp
theorem below_dn {w w1 : World} (h : Below w.heap.size w w1) (n : Nat) : Below w.heap.size w (w1.drewN n) := by
  induction n with
  | zero => exact h
  | succ n ih => exact ih.drew
theorem set_size (w : World) (a : Addr) (v : Value) : (w.setCell a v).heap.size = w.heap.size := by unfold World.setCell; simp
end Go.Proofs.YtcplnodfcchdhaaGreat

/-
  A row of queues that a call makes and fills, one by one.
-/
namespace Go.Proofs.YtcplnodfcchdhaaGreat
open Go.RowKit
set_option linter.unusedVariables false
/-- block g is a row of n queues, of which the first k are those of l -/
def QBlk (w : World) (t : TypeId) (g n k : Nat) (l : List Q) : Prop :=
  ∃ arr : Array Value, w.heap[g]? = some (.cells arr t (0, 0)) ∧ arr.size = n * 4 ∧ ∀ i (h : i < l.length), i < k → arr[i * 4]? = some (.string (bs l[i].name)) ∧ arr[i * 4 + 1]? = some (.string (bs l[i].parent)) ∧ arr[i * 4 + 2]? = some (.int .i64 l[i].due) ∧ arr[i * 4 + 3]? = some (.int .i64 l[i].most)
theorem QBlk.lt {w : World} {t : TypeId} {g n k : Nat} {l : List Q} (h : QBlk w t g n k l) : g < w.heap.size := let ⟨_, h, _⟩ := h; lt_of_block h
theorem QBlk.below {w w' : World} {t : TypeId} {g n k : Nat} {l : List Q} (h : QBlk w t g n k l) (hb : Below w.heap.size w w') : QBlk w' t g n k l := by
  have hlt := h.lt
  obtain ⟨arr, h1, h2⟩ := h
  exact ⟨arr, (hb.block g hlt).trans h1, h2⟩
theorem QBlk.cell {w : World} {t : TypeId} {g n k : Nat} {l : List Q} (h : QBlk w t g n k l) {j : Nat} (hj : j < n * 4) : ∃ v, w.cell? ⟨g, j, none⟩ = some v := by
  obtain ⟨arr, h1, h2, _⟩ := h
  exact ⟨arr[j]'(by omega), by simp [World.cell?, h1, Array.getElem?_eq_getElem (show j < arr.size by omega)]⟩
theorem QBlk.frozen {w : World} {t : TypeId} {g n k : Nat} {l : List Q} (h : QBlk w t g n k l) (j : Nat) : w.frozen? ⟨g, j, none⟩ = false := by
  obtain ⟨arr, h1, h2, _⟩ := h
  simp [World.frozen?, h1]
theorem QBlk.row {w : World} {t : TypeId} {g n : Nat} {l : List Q} (h : QBlk w t g n n l) (hl : n = l.length) : QRow w (some ⟨g, 0, none⟩) n l := by
  obtain ⟨arr, h1, h2, h3⟩ := h
  refine ⟨hl, .inr ⟨g, 0, rfl, fun i hi => ?_⟩⟩
  obtain ⟨a, b, c, d⟩ := h3 i hi (by omega)
  unfold QAt
  simp only [Nat.zero_add]
  exact ⟨by simp [World.cell?, h1, a], by simp [World.cell?, h1, b], by simp [World.cell?, h1, c], by simp [World.cell?, h1, d]⟩
/-- one queue more -/
def putQ (w : World) (g p : Nat) (q : Q) : World := (((w.setCell ⟨g, p, none⟩ (.string (bs q.name))).setCell ⟨g, p + 1, none⟩ (.string (bs q.parent))).setCell ⟨g, p + 2, none⟩ (.int .i64 q.due)).setCell ⟨g, p + 3, none⟩ (.int .i64 q.most)
theorem QBlk.step {w : World} {t : TypeId} {g n k : Nat} {l : List Q} (h : QBlk w t g n k l) (hk : k < n) (hl : k < l.length) : QBlk (putQ w g (k * 4) l[k]) t g n (k + 1) l := by
  obtain ⟨arr, h1, h2, h3⟩ := h
  have e1 := heap_setCell_same w g (k * 4) _ _ (.string (bs l[k].name)) h1
  have e2 := heap_setCell_same _ g (k * 4 + 1) _ _ (.string (bs l[k].parent)) e1
  have e3 := heap_setCell_same _ g (k * 4 + 2) _ _ (.int .i64 l[k].due) e2
  have e4 := heap_setCell_same _ g (k * 4 + 3) _ _ (.int .i64 l[k].most) e3
  refine ⟨_, e4, by simp [h2], fun i hi hik => ?_⟩
  by_cases e : i = k
  · subst e
    have q1 : i * 4 + 3 < arr.size := by omega
    refine ⟨?_, ?_, ?_, ?_⟩ <;> simp [Array.getElem?_setIfInBounds, h2] <;> omega
  · obtain ⟨a, b, c, d⟩ := h3 i hi (by omega)
    refine ⟨?_, ?_, ?_, ?_⟩
    · rw [← a]; simp only [Array.getElem?_setIfInBounds]; repeat rw [if_neg (by omega)]
    · rw [← b]; simp only [Array.getElem?_setIfInBounds]; repeat rw [if_neg (by omega)]
    · rw [← c]; simp only [Array.getElem?_setIfInBounds]; repeat rw [if_neg (by omega)]
    · rw [← d]; simp only [Array.getElem?_setIfInBounds]; repeat rw [if_neg (by omega)]
/-- block g is a row of n queues -/
def QAny (w : World) (t : TypeId) (g n : Nat) : Prop := QBlk w t g n 0 []
theorem QBlk.any {w : World} {t : TypeId} {g n k : Nat} {l : List Q} (h : QBlk w t g n k l) : QAny w t g n := by
  obtain ⟨arr, h1, h2, _⟩ := h
  exact ⟨arr, h1, h2, fun i hi => absurd hi (by simp)⟩
theorem QAny.set {w : World} {t : TypeId} {g n : Nat} (h : QAny w t g n) (j : Nat) (v : Value) : QAny (w.setCell ⟨g, j, none⟩ v) t g n := by
  obtain ⟨arr, h1, h2, _⟩ := h
  exact ⟨_, heap_setCell_same w g j _ _ v h1, by simp [h2], fun i hi => absurd hi (by simp)⟩
end Go.Proofs.YtcplnodfcchdhaaGreat

/-
  The laws' own szQueue and szQueueS: how much is handed in; walks over the dump.
-/
namespace Go.Proofs.YtcplnodfcchdhaaGreat
open Go.RowKit
set_option linter.unusedVariables false
/-- not too much -/
def FitQ (l : List Q) : Prop := l.length ≤ 1048576 ∧ ∀ q ∈ l, q.name.length ≤ 1048576 ∧ q.parent.length ≤ 1048576

end Go.Proofs.YtcplnodfcchdhaaGreat

/-
  The laws' own eqQueue and eqQueueS, at rows that hold the same; walks over the dump.
-/
namespace Go.Proofs.YtcplnodfcchdhaaGreat
open Go.RowKit
set_option linter.unusedVariables false
/-- the same queue stands at two places -/
def QTwo (w0 : World) (b p c r : Nat) (q : Q) (w : World) : Prop := QAt w b p q ∧ QAt w c r q ∧ Below w0.heap.size w0 w
theorem QTwo.call {w0 w w' : World} {b p c r : Nat} {q : Q} (h : QTwo w0 b p c r q w) (hb : Below w.heap.size w w') : QTwo w0 b p c r q w' := ⟨h.1.below hb, h.2.1.below hb, below_on h.2.2 hb⟩
theorem QTwo.drew {w0 w : World} {b p c r : Nat} {q : Q} (h : QTwo w0 b p c r q w) : QTwo w0 b p c r q w.drew := h.call (Below.refl _ _).drew
theorem QTwo.read (w0 : World) (b p c r : Nat) (q : Q) : ∀ wx, QTwo w0 b p c r q wx → wx.cell? ⟨b, p, none⟩ = some (.string (bs q.name)) ∧ wx.cell? ⟨b, p + 1, none⟩ = some (.string (bs q.parent)) ∧ wx.cell? ⟨b, p + 2, none⟩ = some (.int .i64 q.due) ∧ wx.cell? ⟨b, p + 3, none⟩ = some (.int .i64 q.most)
    ∧ wx.cell? ⟨c, r, none⟩ = some (.string (bs q.name)) ∧ wx.cell? ⟨c, r + 1, none⟩ = some (.string (bs q.parent)) ∧ wx.cell? ⟨c, r + 2, none⟩ = some (.int .i64 q.due) ∧ wx.cell? ⟨c, r + 3, none⟩ = some (.int .i64 q.most) :=
  fun wx h => ⟨h.1.1, h.1.2.1, h.1.2.2.1, h.1.2.2.2, h.2.1.1, h.2.1.2.1, h.2.1.2.2.1, h.2.1.2.2.2⟩

end Go.Proofs.YtcplnodfcchdhaaGreat

/-
  Texts as lists of bytes.
-/
namespace Go.Proofs.YtcplnodfcchdhaaGreat
set_option linter.unusedVariables false
theorem bs_eq (l m : List UInt8) : ((bs l).toList == (bs m).toList) = decide (l = m) := by
  rw [ByteArray.toList_eq, ByteArray.toList_eq]
  by_cases h : l = m
  · subst h; simp
  · simp [bs, h]
theorem bs_empty (l : List UInt8) : (bs l).toList.isEmpty = decide (l = []) := by
  rw [ByteArray.toList_eq]
  cases l <;> simp [bs]
end Go.Proofs.YtcplnodfcchdhaaGreat

/-
  A slice of queues that came in: what it holds.
-/
namespace Go.Proofs.YtcplnodfcchdhaaGreat
open Go.ChangeShapes Go.WideShapes Go.ChangeAt Go.RowKit Go.Deep
set_option linter.unusedVariables false
/-- sizes that a reading allows -/
def QFit (q : Q) : Prop := q.name.length ≤ 9223372036854775807 ∧ q.parent.length ≤ 9223372036854775807
end Go.Proofs.YtcplnodfcchdhaaGreat
