/-
  Several texts of this claim in one: Base, Grow, ResV, QV, Draw, Draw2, DrawG, DrawR, DrawO, DrawP, NameD (pack.py put them together); each says in its own remark what is proved.
-/
import Derived.Test.YtebaejokhpdbkaaGreatDoorRows
import Derived.WalkKit
import Derived.WalkSpells
import Derived.WalkLawsBesides
import Derived.BigQuiet
import Derived.Deep.QuietTactic
import Derived.Deep.RegionWith
import Derived.Laws.IdiomStrings
/-
  Small helpers: texts, bytes, what a call returns.
-/
namespace Go.Proofs.YtebaejokhpdbkaaGreatDoor
open Go.RowKit

theorem hide {p : Prop} (h : p) : Hid p := h
theorem unhide {p : Prop} (h : Hid p) : p := h
theorem ret_bool {a b : Bool} (h : a = b) : Ending.returned (.bool a) = .returned (.bool b) := by rw [h]
theorem ret_int {k : IntKind} {a b : Int} (h : a = b) : Ending.returned (.int k a) = .returned (.int k b) := by rw [h]

theorem byte_le (c : UInt8) : (c.toNat : Int) ≤ 255 := by have := c.toNat_lt; omega

def inB (x a b : Int) : Bool := decide (a ≤ x ∧ x ≤ b)
theorem inB_true {x a b : Int} (h1 : a ≤ x) (h2 : x ≤ b) : inB x a b = true := by simp [inB, h1, h2]
theorem inB_false {x a b : Int} (h : ¬ (a ≤ x ∧ x ≤ b)) : inB x a b = false := by simp only [inB, decide_eq_false_iff_not]; exact h

theorem str_eq {a b : ByteArray} (h : a = b) : Value.string a = .string b := by rw [h]
theorem ret_str {a b : ByteArray} (h : a = b) : Ending.returned (.string a) = .returned (.string b) := by rw [h]
def bs (l : List UInt8) : ByteArray := ⟨l.toArray⟩
theorem bs_size (l : List UInt8) : (bs l).size = l.length := by simp [bs, ByteArray.size]
theorem cons_bs (c : UInt8) (l : List UInt8) : (ByteArray.mk #[c]) ++ bs l = bs (c :: l) := by
  unfold bs; rw [ByteArray.mk_append_mk]; simp
theorem take_snoc (s : ByteArray) (k : Nat) (h : k < s.size) : s.data.toList.take (k + 1) = s.data.toList.take k ++ [s[k]] := by
  rw [List.take_succ_eq_append_getElem (by simpa using h)]; rfl
theorem take_all (s : ByteArray) (k : Nat) (h : s.size ≤ k) : s.data.toList.take k = s.data.toList := List.take_of_length_le (by simpa using h)
theorem len_eq (s : ByteArray) : s.data.toList.length = s.size := by simp
theorem str_empty {s : ByteArray} (h : s.size = 0) : s.toList.isEmpty = true := by
  rw [ByteArray.toList_eq]; simp; exact Array.size_eq_zero_iff.1 h
theorem str_full {s : ByteArray} (h : s.size ≠ 0) : s.toList.isEmpty = false := by
  rw [ByteArray.toList_eq]; simp; intro e; exact h (Array.size_eq_zero_iff.2 e)
theorem str_same {l : List UInt8} {s : ByteArray} (h : l = s.data.toList) : ((bs l).toList == s.toList) = true := by
  rw [ByteArray.toList_eq, ByteArray.toList_eq]; simp [bs, h]
theorem str_other {l : List UInt8} {s : ByteArray} (h : l ≠ s.data.toList) : ((bs l).toList == s.toList) = false := by
  rw [ByteArray.toList_eq, ByteArray.toList_eq]; simpa [bs] using h
end Go.Proofs.YtebaejokhpdbkaaGreatDoor

/-
  What a call may turn: one block alone, and what is made anew.
-/
namespace Go.Proofs.YtebaejokhpdbkaaGreatDoor
open Go.RowKit
set_option linter.unusedVariables false

theorem grownBy_refl (w : World) (r : Option Nat) : w.grownBy w r := ⟨rfl, rfl, rfl, Nat.le_refl _, fun _ _ _ => rfl⟩
theorem grownBy_trans {w w1 w2 : World} {r : Option Nat} (h : w.grownBy w1 r) (k : w1.grownBy w2 r) : w.grownBy w2 r :=
  ⟨k.os.trans h.os, k.tape.trans h.tape, k.output.trans h.output, Nat.le_trans h.size k.size, fun i hi hn => (k.block i (Nat.lt_of_lt_of_le hi h.size) hn).trans (h.block i hi hn)⟩
theorem grownBy_below {w w1 w2 : World} {r : Option Nat} (h : w.grownBy w1 r) (hb : Below w1.heap.size w1 w2) : w.grownBy w2 r :=
  ⟨hb.os.trans h.os, hb.tape.trans h.tape, hb.output.trans h.output, Nat.le_trans h.size hb.size, fun k hk hn => (hb.block k (Nat.lt_of_lt_of_le hk h.size)).trans (h.block k hk hn)⟩
theorem grownBy_set {w w1 : World} {g : Nat} (h : w.grownBy w1 (some g)) (j : Nat) (v : Value) : w.grownBy (w1.setCell ⟨g, j, none⟩ v) (some g) :=
  ⟨h.os, h.tape, h.output, by simpa using h.size, fun k hk hn => by
    rw [heap_setCell_other w1 ⟨g, j, none⟩ k v (fun e => hn (by rw [e]))]
    exact h.block k hk hn⟩
theorem grownBy_drewN {w w1 : World} {r : Option Nat} (h : w.grownBy w1 r) (n : Nat) : w.grownBy (w1.drewN n) r := grownBy_below h (below_drewN (Below.refl _ _) n)
theorem below_grownBy {B : Nat} {a w w' : World} {g : Nat} (h : Below B a w) (hg : w.grownBy w' (some g)) (hB : B ≤ w.heap.size) (hr : B ≤ g) : Below B a w' := h.grown hg hB (fun k hk => by cases hk; exact hr)
theorem cell_lt {w : World} {b o : Nat} {v : Value} (h : w.cell? ⟨b, o, none⟩ = some v) : b < w.heap.size :=
  Nat.lt_of_not_le (fun hle => by simp [World.cell?, Array.getElem?_eq_none hle] at h)
end Go.Proofs.YtebaejokhpdbkaaGreatDoor

/-
  Amounts: values, variables that hold them, and what lies below.
-/
namespace Go.Proofs.YtebaejokhpdbkaaGreatDoor
open Go.RowKit
set_option linter.unusedVariables false

abbrev rv (a b : Int) : Value := .agg #[.int .i64 a, .int .i64 b]
def resOk (a b : Int) : Bool := inB a 0 1000000000 && inB b 0 1000000000

theorem resOk_bd {a b : Int} (h : resOk a b = true) : 0 ≤ a ∧ a ≤ 1000000000 ∧ 0 ≤ b ∧ b ≤ 1000000000 := by
  simp only [resOk, inB, Bool.and_eq_true, decide_eq_true_eq] at h
  omega
theorem below_al {w w1 : World} (h : Below w.heap.size w w1) (o : Obj) : Below w.heap.size w (w1.alloc o) := h.alloc h.size o
theorem below_sc {w w1 : World} (h : Below w.heap.size w w1) (b j : Nat) (v : Value) (hb : w.heap.size ≤ b) : Below w.heap.size w (w1.setCell ⟨b, j, none⟩ v) := h.setCell hb v
theorem below_on {w w1 w2 : World} (h : Below w.heap.size w w1) (k : Below w1.heap.size w1 w2) : Below w.heap.size w w2 := Below.trans h (k.mono h.size)
/-- block g is a variable of type t that holds two numbers -/
def Var (w : World) (t : TypeId) (g : Nat) (x y : Int) : Prop := w.heap[g]? = some (.cells #[.int .i64 x, .int .i64 y] t (0, 0))
theorem Var.c0 {w : World} {t : TypeId} {g : Nat} {x y : Int} (h : Var w t g x y) : w.cell? ⟨g, 0, none⟩ = some (.int .i64 x) := by unfold Var at h; simp [World.cell?, h]
theorem Var.c1 {w : World} {t : TypeId} {g : Nat} {x y : Int} (h : Var w t g x y) : w.cell? ⟨g, 1, none⟩ = some (.int .i64 y) := by unfold Var at h; simp [World.cell?, h]
theorem Var.f {w : World} {t : TypeId} {g : Nat} {x y : Int} (h : Var w t g x y) (j : Nat) : w.frozen? ⟨g, j, none⟩ = false := by unfold Var at h; simp [World.frozen?, h]
theorem Var.lt {w : World} {t : TypeId} {g : Nat} {x y : Int} (h : Var w t g x y) : g < w.heap.size := lt_of_block h
theorem Var.same {w w' : World} {t : TypeId} {g : Nat} {x y : Int} (h : Var w t g x y) (e : w'.heap[g]? = w.heap[g]?) : Var w' t g x y := e.trans h
theorem Var.below {w w' : World} {t : TypeId} {g : Nat} {x y : Int} (h : Var w t g x y) (hb : Below w.heap.size w w') : Var w' t g x y := (hb.block g h.lt).trans h
theorem var_new (w : World) (t : TypeId) (x y : Int) : Var (w.alloc (.cells #[.int .i64 x, .int .i64 y] t)) t w.heap.size x y := by show (w.heap.push _)[w.heap.size]? = _; simp
theorem var_new2 (w : World) (t u : TypeId) (a b x y : Int) : Var ((w.alloc (.cells #[.int .i64 a, .int .i64 b] t)).alloc (.cells #[.int .i64 x, .int .i64 y] u)) u (w.heap.size + 1) x y := by
  have := var_new (w.alloc (.cells #[.int .i64 a, .int .i64 b] t)) u x y
  simpa using this
theorem Var.s0 {w : World} {t : TypeId} {g : Nat} {x y : Int} (h : Var w t g x y) (u : Value) : (w.setCell ⟨g, 0, none⟩ u).cell? ⟨g, 0, none⟩ = some u := World.cell?_setCell_same w _ _ h.c0
theorem Var.s1 {w : World} {t : TypeId} {g : Nat} {x y : Int} (h : Var w t g x y) (u v : Value) : ((w.setCell ⟨g, 0, none⟩ u).setCell ⟨g, 1, none⟩ v).cell? ⟨g, 1, none⟩ = some v := by
  refine World.cell?_setCell_same _ _ _ (u := .int .i64 y) ?_
  have h1 := heap_setCell_same w g 0 _ _ u h
  simp [World.cell?, h1]
theorem Var.set {w : World} {t : TypeId} {g : Nat} {a b : Int} (h : Var w t g a b) (x y : Int) : Var ((w.setCell ⟨g, 0, none⟩ (.int .i64 x)).setCell ⟨g, 1, none⟩ (.int .i64 y)) t g x y := by
  have h1 := heap_setCell_same w g 0 _ _ (.int .i64 x) h
  exact heap_setCell_same _ g 1 _ _ (.int .i64 y) h1
theorem Var.al {w : World} {t : TypeId} {g : Nat} {x y : Int} (h : Var w t g x y) (o : Obj) : Var (w.alloc o) t g x y := h.below (below_al (Below.refl _ _) o)
theorem Var.drew {w : World} {t : TypeId} {g : Nat} {x y : Int} (h : Var w t g x y) : Var w.drew t g x y := h
theorem Var.other {w : World} {t : TypeId} {g : Nat} {x y : Int} (h : Var w t g x y) (k j : Nat) (v : Value) (hn : g ≠ k) : Var (w.setCell ⟨k, j, none⟩ v) t g x y := h.same (heap_setCell_other w ⟨k, j, none⟩ g v hn)
/-- the one amount that came in, boxed, stands; nothing of w0 has turned -/
def Boxed (w0 : World) (t : TypeId) (a b : Int) (wx : World) : Prop := Var wx t w0.heap.size a b ∧ Below w0.heap.size w0 wx
theorem Boxed.new (w0 : World) (t : TypeId) (a b : Int) : Boxed w0 t a b (w0.alloc (.cells #[.int .i64 a, .int .i64 b] t)) := ⟨var_new w0 t a b, below_al (Below.refl _ _) _⟩
theorem Boxed.call {w0 w1 w2 : World} {t : TypeId} {a b : Int} (h : Boxed w0 t a b w1) (hb : Below w1.heap.size w1 w2) : Boxed w0 t a b w2 := ⟨h.1.below hb, below_on h.2 hb⟩
theorem Boxed.drew {w0 w1 : World} {t : TypeId} {a b : Int} (h : Boxed w0 t a b w1) : Boxed w0 t a b w1.drew := h.call (Below.refl _ _).drew
theorem Boxed.bel {w0 w1 : World} {t : TypeId} {a b : Int} (h : Boxed w0 t a b w1) : Below w0.heap.size w0 w1 := h.2
theorem Boxed.read (w0 : World) (t : TypeId) (a b : Int) : ∀ wx, Boxed w0 t a b wx → wx.cell? ⟨w0.heap.size, 0, none⟩ = some (.int .i64 a) ∧ wx.cell? ⟨w0.heap.size, 1, none⟩ = some (.int .i64 b) := fun wx h => ⟨h.1.c0, h.1.c1⟩
end Go.Proofs.YtebaejokhpdbkaaGreatDoor

/-
  Queues: values, rows of them in memory, and what a call leaves of such rows.
-/
namespace Go.Proofs.YtebaejokhpdbkaaGreatDoor
open Go.RowKit
set_option linter.unusedVariables false

structure Q where
  name : List UInt8
  parent : List UInt8
  due : Int
  most : Int

abbrev qv (q : Q) : Value := .agg #[.string (bs q.name), .string (bs q.parent), .int .i64 q.due, .int .i64 q.most]

/-- the cells of one queue stand from place p of block b on -/
def QAt (w : World) (b p : Nat) (q : Q) : Prop :=
  w.cell? ⟨b, p, none⟩ = some (.string (bs q.name)) ∧ w.cell? ⟨b, p + 1, none⟩ = some (.string (bs q.parent)) ∧ w.cell? ⟨b, p + 2, none⟩ = some (.int .i64 q.due) ∧ w.cell? ⟨b, p + 3, none⟩ = some (.int .i64 q.most)
/-- a slice value that holds these queues -/
def QRow (w : World) (ao : Option Addr) (len : Nat) (l : List Q) : Prop :=
  len = l.length ∧ (len = 0 ∨ ∃ b off, ao = some ⟨b, off, none⟩ ∧ ∀ i (h : i < l.length), QAt w b (off + i * 4) l[i])
theorem QAt.lt {w : World} {b p : Nat} {q : Q} (h : QAt w b p q) : b < w.heap.size := cell_lt h.1
theorem QAt.below {w w' : World} {b p : Nat} {q : Q} (h : QAt w b p q) (hb : Below w.heap.size w w') : QAt w' b p q :=
  ⟨(hb.cell h.lt).trans h.1, (hb.cell h.lt).trans h.2.1, (hb.cell h.lt).trans h.2.2.1, (hb.cell h.lt).trans h.2.2.2⟩
theorem QRow.below {w w' : World} {ao : Option Addr} {len : Nat} {l : List Q} (h : QRow w ao len l) (hb : Below w.heap.size w w') : QRow w' ao len l := by
  obtain ⟨h1, h2⟩ := h
  refine ⟨h1, ?_⟩
  rcases h2 with h2 | ⟨b, off, h3, h4⟩
  · exact .inl h2
  · exact .inr ⟨b, off, h3, fun i h => (h4 i h).below hb⟩
theorem QRow.nil (w : World) (ao : Option Addr) : QRow w ao 0 [] := ⟨rfl, .inl rfl⟩
theorem QRow.at {w : World} {ao : Option Addr} {len : Nat} {l : List Q} (h : QRow w ao len l) {i : Nat} (hi : i < len) : ∃ b off, ao = some ⟨b, off, none⟩ ∧ ∀ (h : i < l.length), QAt w b (off + i * 4) l[i] := by
  obtain ⟨h1, h2⟩ := h
  rcases h2 with h2 | ⟨b, off, h3, h4⟩
  · omega
  · exact ⟨b, off, h3, fun hi => h4 i hi⟩
end Go.Proofs.YtebaejokhpdbkaaGreatDoor

/-
  What the laws' own draws do: a cursor over the code's bytes, and numbers and texts drawn by it, each within its bounds; walks over the dump.
-/
namespace Go.Proofs.YtebaejokhpdbkaaGreatDoor
open Go.RowKit
set_option linter.unusedVariables false

theorem and_mask (x m : Int) (h0 : 0 ≤ m) (h1 : m < 9223372036854775808) : 0 ≤ bits .and .i64 x m ∧ bits .and .i64 x m ≤ m := by
  obtain ⟨M, rfl⟩ := Int.eq_ofNat_of_zero_le h0
  have hM : (BitVec.ofInt 64 (M : Int)).toNat = M := by rw [BitVec.toNat_ofInt]; omega
  have hle : (BitVec.ofInt 64 x &&& BitVec.ofInt 64 (M : Int)).toNat ≤ M := by
    rw [BitVec.toNat_and, hM]; exact Nat.and_le_right
  have e : bits .and .i64 x (M : Int) = IntKind.i64.wrap ((BitVec.ofInt 64 x &&& BitVec.ofInt 64 (M : Int)).toNat : Int) := rfl
  rw [e, IntKind.wrap_i64]
  omega

/-- the code's bytes can be read: nothing, or a row of bytes below block B -/
def Code (w : World) (B : Nat) (ao : Option Addr) (len : Nat) : Prop :=
  B ≤ w.heap.size ∧ len ≤ 1048576 ∧ (len = 0 ∨ ∃ b off, ∃ zs : Nat → Int, ao = some ⟨b, off, none⟩ ∧ b < B ∧ (∀ j, j < len → w.cell? ⟨b, off + j, none⟩ = some (.int .u8 (zs j))) ∧ ∀ j, 0 ≤ zs j ∧ zs j ≤ 255)
/-- block g is a cursor over the code -/
def Cur (w : World) (g : Nat) (ao : Option Addr) (len cap : Nat) : Prop :=
  ∃ (i : Nat) (h : Int), w.heap[g]? = some (.cells #[.slice ao len cap, .int .i64 (i : Int), .int .i64 h] 78 (0, 0)) ∧ i ≤ len
theorem Cur.lt {w : World} {g : Nat} {ao : Option Addr} {len cap : Nat} (h : Cur w g ao len cap) : g < w.heap.size := by
  obtain ⟨i, x, h, _⟩ := h
  exact lt_of_block h
theorem Code.below {w w' : World} {B B' : Nat} {ao : Option Addr} {len : Nat} (h : Code w B ao len) (hb : Below B' w w') (hB : B ≤ B') : Code w' B ao len := by
  refine ⟨Nat.le_trans h.1 hb.size, h.2.1, ?_⟩
  rcases h.2.2 with h0 | ⟨b, off, zs, h1, h2, h3, h4⟩
  · exact .inl h0
  · exact .inr ⟨b, off, zs, h1, h2, fun j hj => (hb.cell (p := ⟨b, off + j, none⟩) (by show b < B'; omega)).trans (h3 j hj), h4⟩
theorem Code.grown {w w' : World} {B g : Nat} {ao : Option Addr} {len : Nat} (h : Code w B ao len) (hg : w.grownBy w' (some g)) (hB : B ≤ g) : Code w' B ao len :=
  h.below (below_grownBy (Below.refl B w) hg h.1 hB) (Nat.le_refl _)
theorem Cur.below {w w' : World} {B g : Nat} {ao : Option Addr} {len cap : Nat} (h : Cur w g ao len cap) (hb : Below B w w') (hg : g < B) : Cur w' g ao len cap := by
  obtain ⟨i, x, h1, h2⟩ := h
  exact ⟨i, x, (hb.block g hg).trans h1, h2⟩

theorem cur_step1 {w : World} {g : Nat} {ao : Option Addr} {len cap i : Nat} {h : Int} (hg : w.heap[g]? = some (.cells #[.slice ao len cap, .int .i64 (i : Int), .int .i64 h] 78 (0, 0))) (H : Int) (n m : Nat) (hi : i ≤ len) :
    Cur (((w.setCell ⟨g, 2, none⟩ (.int .i64 H)).drewN n).drewN m) g ao len cap ∧ w.grownBy (((w.setCell ⟨g, 2, none⟩ (.int .i64 H)).drewN n).drewN m) (some g) := by
  refine ⟨⟨i, H, ?_, hi⟩, grownBy_drewN (grownBy_drewN (grownBy_set (grownBy_refl w _) 2 _) n) m⟩
  have := heap_setCell_same w g 2 _ _ (.int .i64 H) hg
  exact this.trans (by simp)
theorem cur_step2 {w : World} {g : Nat} {ao : Option Addr} {len cap i : Nat} {h : Int} (hg : w.heap[g]? = some (.cells #[.slice ao len cap, .int .i64 (i : Int), .int .i64 h] 78 (0, 0))) (H : Int) (n : Nat) (hi : i + 1 ≤ len) :
    Cur (((w.setCell ⟨g, 2, none⟩ (.int .i64 H)).drewN n).setCell ⟨g, 1, none⟩ (.int .i64 ((i : Int) + 1))) g ao len cap ∧ w.grownBy (((w.setCell ⟨g, 2, none⟩ (.int .i64 H)).drewN n).setCell ⟨g, 1, none⟩ (.int .i64 ((i : Int) + 1))) (some g) := by
  refine ⟨⟨i + 1, H, ?_, hi⟩, grownBy_set (grownBy_drewN (grownBy_set (grownBy_refl w _) 2 _) n) 1 _⟩
  have h1 := heap_setCell_same w g 2 _ _ (.int .i64 H) hg
  have h2 := heap_setCell_same ((w.setCell ⟨g, 2, none⟩ (.int .i64 H)).drewN n) g 1 _ _ (.int .i64 ((i : Int) + 1)) h1
  exact h2.trans (by simp)

set_option maxRecDepth 100000 in
set_option maxHeartbeats 2000000 in
theorem l01Byte_any (B g : Nat) (ao : Option Addr) (len cap : Nat) (w : World) (hcur : Cur w g ao len cap) (hcode : Code w B ao len) (hB : B ≤ g) :
    Calls Tryz.prog 66 #[.pointer (some ⟨g, 0, none⟩)] w fun e w' => ∃ x : Int, e = .returned (.int .i64 x) ∧ 0 ≤ x ∧ x ≤ 255 ∧ Cur w' g ao len cap ∧ w.grownBy w' (some g) := by
  obtain ⟨i, h, hg, hi⟩ := hcur
  have c0 : w.cell? ⟨g, 0, none⟩ = some (.slice ao len cap) := by simp [World.cell?, hg]
  have c1 : w.cell? ⟨g, 1, none⟩ = some (.int .i64 (i : Int)) := by simp [World.cell?, hg]
  have c2 : w.cell? ⟨g, 2, none⟩ = some (.int .i64 h) := by simp [World.cell?, hg]
  have f1 : w.frozen? ⟨g, 1, none⟩ = false := by simp [World.frozen?, hg]
  have f2 : w.frozen? ⟨g, 2, none⟩ = false := by simp [World.frozen?, hg]
  have HG := hide hg
  clear hg
  have hl := hcode.2.1
  by_cases hlt : i < len
  · rcases hcode.2.2 with h0 | ⟨b, off, zs, rfl, hbB, hz, hzs⟩
    · omega
    have hcz : ∀ v, (w.setCell ⟨g, 2, none⟩ v).cell? ⟨b, off + i, none⟩ = some (.int .u8 (zs i)) := fun v => (World.cell?_setCell_other _ ⟨g, 2, none⟩ ⟨b, off + i, none⟩ _ (by intro e; have := congrArg Addr.block e; simp at this; omega)).trans (hz i hlt)
    obtain ⟨hz0, hz1⟩ := hzs i
    have hlt2 : (i : Int) < (len : Int) := by omega
    clear hz hzs hcode
    go_enter Tryz.func66, Tryz.ntmps66
    go_wp2_with fail
    go_quiet (fail)
    go_wp2_with fail
    go_quiet (fail)
    go_wp2_with fail
    go_quiet (fail)
    go_wp2
    go_ret
    have hm := and_mask
    exact ⟨_, rfl, (hm _ 255 (by decide) (by decide)).1, (hm _ 255 (by decide) (by decide)).2, cur_step2 (unhide HG) _ _ (by omega)⟩
  · clear hcode
    go_enter Tryz.func66, Tryz.ntmps66
    go_wp2_with fail
    go_quiet (fail)
    go_wp2_with fail
    go_quiet (fail)
    go_wp2
    go_ret
    have hm := and_mask
    exact ⟨_, rfl, (hm _ 255 (by decide) (by decide)).1, (hm _ 255 (by decide) (by decide)).2, cur_step1 (unhide HG) _ _ _ hi⟩

set_option maxRecDepth 100000 in
set_option maxHeartbeats 1000000 in
theorem l01Below_any (B g : Nat) (ao : Option Addr) (len cap : Nat) (n : Int) (w : World) (hcur : Cur w g ao len cap) (hcode : Code w B ao len) (hB : B ≤ g) (hn0 : 0 < n) (hn1 : n ≤ 9223372036854775807) :
    Calls Tryz.prog 45 #[.pointer (some ⟨g, 0, none⟩), .int .i64 n] w fun e w' => ∃ x : Int, e = .returned (.int .i64 x) ∧ 0 ≤ x ∧ x < n ∧ Cur w' g ao len cap ∧ w.grownBy w' (some g) := by
  have HC := hide hcur
  have HK := hide hcode
  clear hcur hcode
  by_cases h256 : n ≤ 256
  · go_enter Tryz.func45, Tryz.ntmps45
    go_wp2_with fail
    refine (l01Byte_any B g ao len cap _ (unhide HC) (unhide HK) hB).mono ?_
    rintro e w1 ⟨x, rfl, hx0, hx1, hc1, hg1⟩
    have HC1 := hide hc1
    have HG1 := hide hg1
    clear hc1 hg1
    go_wp2
    go_ret
    exact ⟨_, rfl, Int.emod_nonneg _ (by omega), Int.emod_lt_of_pos _ hn0, unhide HC1, unhide HG1⟩
  · go_enter Tryz.func45, Tryz.ntmps45
    go_wp2_with fail
    refine (l01Byte_any B g ao len cap _ (unhide HC) (unhide HK) hB).mono ?_
    rintro e w1 ⟨x1, rfl, hx10, hx11, hc1, hg1⟩
    have HC1 := hide hc1
    have HK1 := hide ((unhide HK).grown hg1 hB)
    have HG1 := hide hg1
    clear hc1 hg1
    go_wp2_with fail
    refine (l01Byte_any B g ao len cap _ (unhide HC1) (unhide HK1) hB).mono ?_
    rintro e w2 ⟨x2, rfl, hx20, hx21, hc2, hg2⟩
    have HC2 := hide hc2
    have HK2 := hide ((unhide HK1).grown hg2 hB)
    have HG2 := hide (grownBy_trans (unhide HG1) hg2)
    clear hc2 hg2
    go_wp2_with fail
    refine (l01Byte_any B g ao len cap _ (unhide HC2) (unhide HK2) hB).mono ?_
    rintro e w3 ⟨x3, rfl, hx30, hx31, hc3, hg3⟩
    have HC3 := hide hc3
    have HK3 := hide ((unhide HK2).grown hg3 hB)
    have HG3 := hide (grownBy_trans (unhide HG2) hg3)
    clear hc3 hg3
    go_wp2_with fail
    refine (l01Byte_any B g ao len cap _ (unhide HC3) (unhide HK3) hB).mono ?_
    rintro e w4 ⟨x4, rfl, hx40, hx41, hc4, hg4⟩
    have HC4 := hide hc4
    have HG4 := hide (grownBy_trans (unhide HG3) hg4)
    clear hc4 hg4
    go_wp2
    go_ret
    exact ⟨_, rfl, Int.emod_nonneg _ (by omega), Int.emod_lt_of_pos _ hn0, unhide HC4, unhide HG4⟩
end Go.Proofs.YtebaejokhpdbkaaGreatDoor

/-
  The cursor made anew, and what is drawn by it: numbers out of a list, and texts of so many bytes; walks over the dump.
-/
namespace Go.Proofs.YtebaejokhpdbkaaGreatDoor
open Go.RowKit
set_option linter.unusedVariables false

/-- the cursor at block g stands, the code can be read, and of what w0 held nothing but block g has turned -/
def St (w0 : World) (B g : Nat) (ao : Option Addr) (len cap : Nat) (w : World) : Prop := Cur w g ao len cap ∧ Code w B ao len ∧ w0.grownBy w (some g) ∧ B ≤ g
theorem St.step {w0 w w' : World} {B g : Nat} {ao : Option Addr} {len cap : Nat} (h : St w0 B g ao len cap w) (hc : Cur w' g ao len cap) (hg : w.grownBy w' (some g)) : St w0 B g ao len cap w' :=
  ⟨hc, h.2.1.grown hg h.2.2.2, grownBy_trans h.2.2.1 hg, h.2.2.2⟩
theorem St.below {w0 w w' : World} {B g : Nat} {ao : Option Addr} {len cap : Nat} (h : St w0 B g ao len cap w) (hb : Below w.heap.size w w') : St w0 B g ao len cap w' :=
  ⟨h.1.below hb h.1.lt, h.2.1.below hb h.2.1.1, grownBy_below h.2.2.1 hb, h.2.2.2⟩
theorem St.alloc {w0 w : World} {B g : Nat} {ao : Option Addr} {len cap : Nat} (h : St w0 B g ao len cap w) (o : Obj) : St w0 B g ao len cap (w.alloc o) := h.below ((Below.refl _ _).alloc (Nat.le_refl _) o)
theorem St.done {w0 w : World} {B g : Nat} {ao : Option Addr} {len cap : Nat} (h : St w0 B g ao len cap w) (hg : w0.heap.size ≤ g) : Below w0.heap.size w0 w := below_grownBy (Below.refl _ _) h.2.2.1 (Nat.le_refl _) hg

theorem below_st {w0 : World} {B g : Nat} {ao : Option Addr} {len cap : Nat} (n : Int) (w : World) (h : St w0 B g ao len cap w) (hn0 : 0 < n) (hn1 : n ≤ 9223372036854775807) :
    Calls Tryz.prog 45 #[.pointer (some ⟨g, 0, none⟩), .int .i64 n] w fun e w' => ∃ x : Int, e = .returned (.int .i64 x) ∧ 0 ≤ x ∧ x < n ∧ St w0 B g ao len cap w' ∧ w.grownBy w' (some g) :=
  (l01Below_any B g ao len cap n w h.1 h.2.1 h.2.2.2 hn0 hn1).mono fun e w' ⟨x, h1, h2, h3, h4, h5⟩ => ⟨x, h1, h2, h3, h.step h4 h5, h5⟩
set_option maxRecDepth 100000 in
set_option maxHeartbeats 1000000 in
theorem new_st (B : Nat) (ao : Option Addr) (len cap : Nat) (w : World) (hcode : Code w B ao len) :
    Calls Tryz.prog 23 #[.slice ao len cap] w fun e w' => e = .returned (.pointer (some ⟨w.heap.size, 0, none⟩)) ∧ St w B w.heap.size ao len cap w' := by
  have hl := hcode.2.1
  have HK := hide hcode
  go_enter Tryz.func23, Tryz.ntmps23
  go_wp2
  go_loop [3, 4] (fun v i => ∃ (k : Nat) (h : Int), k ≤ len ∧ i = .int .i64 (k : Int) ∧ v = .int .i64 h ∧ 0 ≤ h ∧ h ≤ 1073741823) (fun _ i => len - (intOf i).toNat)
  case atStart => exact ⟨0, _, Nat.zero_le _, rfl, rfl, by omega, by omega⟩
  case round =>
    obtain ⟨k, h, hk, rfl, rfl, hh0, hh1⟩ := hrel
    by_cases hlt : k < len
    · rcases hcode.2.2 with h0 | ⟨b, off, zs, rfl, hbB, hz, hzs⟩
      · omega
      by_cases h4 : k < 4000
      · have hcz := hz k hlt
        obtain ⟨hz0, hz1⟩ := hzs k
        have hlt2 : (k : Int) < (len : Int) := by omega
        have hm := hide (and_mask (h * 131 + zs k + 7) 1073741823 (by decide) (by decide))
        clear hz hzs hcode
        go_wp2
        go_round
        case rel => exact ⟨k + 1, _, by omega, by go_num, rfl, (unhide hm).1, (unhide hm).2⟩
        case measure => simp [intOf]; omega
      · clear hz hzs hcode
        go_wp2
        go_ret
        refine ⟨rfl, ⟨0, h, ?_, Nat.zero_le _⟩, (unhide HK).below ((Below.refl _ _).alloc (Nat.le_refl _) _) (unhide HK).1, grownBy_below (grownBy_refl w _) ((Below.refl _ _).alloc (Nat.le_refl _) _), (unhide HK).1⟩
        show (w.heap.push _)[w.heap.size]? = _
        simp
    · clear hcode
      go_wp2
      go_ret
      refine ⟨rfl, ⟨0, h, ?_, Nat.zero_le _⟩, (unhide HK).below ((Below.refl _ _).alloc (Nat.le_refl _) _) (unhide HK).1, grownBy_below (grownBy_refl w _) ((Below.refl _ _).alloc (Nat.le_refl _) _), (unhide HK).1⟩
      show (w.heap.push _)[w.heap.size]? = _
      simp

/-- block q holds a list of so many ints -/
def Ints (w : World) (q L : Nat) : Prop := q < w.heap.size ∧ ∀ j, j < L → ∃ z : Int, w.cell? ⟨q, j, none⟩ = some (.int .i64 z) ∧ -9223372036854775808 ≤ z ∧ z ≤ 9223372036854775807
set_option maxRecDepth 100000 in
set_option maxHeartbeats 1000000 in
theorem pick_st {w0 : World} {B g : Nat} {ao : Option Addr} {len cap : Nat} (q L c : Nat) (w : World) (h : St w0 B g ao len cap w) (hq : Ints w q L) (hne : q ≠ g) (hL : 0 < L) (hL1 : L ≤ 1000) :
    Calls Tryz.prog 48 #[.pointer (some ⟨g, 0, none⟩), .slice (some ⟨q, 0, none⟩) L c] w fun e w' => ∃ x : Int, e = .returned (.int .i64 x) ∧ -9223372036854775808 ≤ x ∧ x ≤ 9223372036854775807 ∧ St w0 B g ao len cap w' := by
  have HS := hide h
  clear h
  go_enter Tryz.func48, Tryz.ntmps48
  go_wp2_with fail
  refine (below_st _ _ (unhide HS) (by omega) (by omega)).mono ?_
  rintro e w1 ⟨x, rfl, hx0, hx1, hs1, hg1⟩
  obtain ⟨X, rfl⟩ := Int.eq_ofNat_of_zero_le hx0
  obtain ⟨z, hz, hz0, hz1⟩ := hq.2 X (by omega)
  have hc : w1.cell? ⟨q, X, none⟩ = some (.int .i64 z) := (World.cell?_of_block (w := w) (a := ⟨q, X, none⟩) (hg1.block q hq.1 (fun e => hne (Option.some.inj e)))).trans hz
  have HS1 := hide hs1
  clear hs1 hg1 hz hq
  go_wp2
  go_ret
  exact ⟨z, rfl, hz0, hz1, unhide HS1⟩
theorem ints_alloc (w : World) (t : TypeId) (zs : List Int) (h : zs.all (fun z => decide (-9223372036854775808 ≤ z) && decide (z ≤ 9223372036854775807)) = true) : Ints (w.alloc (.cells (zs.map (Value.int .i64)).toArray t)) w.heap.size zs.length := by
  refine ⟨by simp, fun j hj => ⟨zs[j], ?_, ?_⟩⟩
  · rw [World.cell?_alloc_mark]; simp [hj]
  · have := List.all_eq_true.1 h zs[j] (List.getElem_mem hj)
    simpa using this
end Go.Proofs.YtebaejokhpdbkaaGreatDoor

/-
  Draws: ints picked, what a cursor leaves alone.
-/
namespace Go.Proofs.YtebaejokhpdbkaaGreatDoor
open Go.RowKit
set_option linter.unusedVariables false

theorem Var.grown {w w' : World} {t : TypeId} {q g : Nat} {x y : Int} (h : Var w t q x y) (hg : w.grownBy w' (some g)) (hn : q ≠ g) : Var w' t q x y := h.same (hg.block q h.lt (fun e => hn (Option.some.inj e)))
def I64 (x : Int) : Prop := -9223372036854775808 ≤ x ∧ x ≤ 9223372036854775807
set_option maxRecDepth 100000 in
set_option maxHeartbeats 1000000 in
theorem pickG_st {w0 : World} {B g : Nat} {ao : Option Addr} {len cap : Nat} (q L c : Nat) (w : World) (h : St w0 B g ao len cap w) (hq : Ints w q L) (hne : q ≠ g) (hL : 0 < L) (hL1 : L ≤ 1000) :
    Calls Tryz.prog 48 #[.pointer (some ⟨g, 0, none⟩), .slice (some ⟨q, 0, none⟩) L c] w fun e w' => ∃ x : Int, e = .returned (.int .i64 x) ∧ I64 x ∧ St w0 B g ao len cap w' ∧ w.grownBy w' (some g) := by
  have HS := hide h
  clear h
  go_enter Tryz.func48, Tryz.ntmps48
  go_wp2_with fail
  refine (below_st _ _ (unhide HS) (by omega) (by omega)).mono ?_
  rintro e w1 ⟨x, rfl, hx0, hx1, hs1, hg1⟩
  obtain ⟨X, rfl⟩ := Int.eq_ofNat_of_zero_le hx0
  obtain ⟨z, hz, hz0, hz1⟩ := hq.2 X (by omega)
  have hc : w1.cell? ⟨q, X, none⟩ = some (.int .i64 z) := (World.cell?_of_block (w := w) (a := ⟨q, X, none⟩) (hg1.block q hq.1 (fun e => hne (Option.some.inj e)))).trans hz
  have HS1 := hide (And.intro hs1 hg1)
  clear hs1 hg1 hz hq
  go_wp2
  go_ret
  exact ⟨z, rfl, ⟨hz0, hz1⟩, unhide HS1⟩

theorem St.gr {w0 w w' : World} {B g : Nat} {ao : Option Addr} {len cap : Nat} (h : St w0 B g ao len cap w) (hb : Below w.heap.size w w') : St w0 B g ao len cap w' ∧ w.grownBy w' (some g) := ⟨h.below hb, grownBy_below (grownBy_refl w _) hb⟩
/-- a store into a block that is not the cursor's, made behind w1 -/
theorem grown_set {w w1 : World} {g k j : Nat} {v : Value} (h : w.grownBy w1 (some g)) (hk : w.heap.size ≤ k) : w.grownBy (w1.setCell ⟨k, j, none⟩ v) (some g) :=
  ⟨h.os, h.tape, h.output, by simpa using h.size, fun i hi hn => by
    rw [heap_setCell_other w1 ⟨k, j, none⟩ i v (by have : i < k := Nat.lt_of_lt_of_le hi hk; exact Nat.ne_of_lt this)]
    exact h.block i hi hn⟩
theorem St.set {w0 w : World} {B g : Nat} {ao : Option Addr} {len cap : Nat} (h : St w0 B g ao len cap w) (k j : Nat) (v : Value) (hk : w0.heap.size ≤ k) (hB : B ≤ k) (hn : k ≠ g) : St w0 B g ao len cap (w.setCell ⟨k, j, none⟩ v) := by
  refine ⟨?_, ?_, grown_set h.2.2.1 hk, h.2.2.2⟩
  · obtain ⟨i, x, h1, h2⟩ := h.1
    exact ⟨i, x, by rw [heap_setCell_other w ⟨k, j, none⟩ g v (fun e => hn e.symm)]; exact h1, h2⟩
  · have hb : Below B w (w.setCell ⟨k, j, none⟩ v) := (Below.refl B w).setCell hB v
    exact h.2.1.below hb (Nat.le_refl _)
theorem i64_of {x : Int} (h0 : 0 ≤ x) (h1 : x < 1000) : I64 x := ⟨by omega, by omega⟩
/-- where the blocks of a call that draws lie -/
def Low (w0 : World) (B g : Nat) (w : World) : Prop := w0.heap.size ≤ w.heap.size ∧ B ≤ w.heap.size ∧ g < w.heap.size
theorem St.low {w0 w : World} {B g : Nat} {ao : Option Addr} {len cap : Nat} (h : St w0 B g ao len cap w) : Low w0 B g w := ⟨h.2.2.1.size, by have := h.1.lt; have := h.2.2.2; omega, h.1.lt⟩
theorem sg_set {w0 w wx : World} {B g : Nat} {ao : Option Addr} {len cap : Nat} (l : Low w0 B g w) (h : St w0 B g ao len cap wx ∧ w.grownBy wx (some g)) (k j : Nat) (v : Value) (hk : w.heap.size ≤ k) : St w0 B g ao len cap (wx.setCell ⟨k, j, none⟩ v) ∧ w.grownBy (wx.setCell ⟨k, j, none⟩ v) (some g) := by
  obtain ⟨l1, l2, l3⟩ := l
  exact ⟨h.1.set k j v (by omega) (by omega) (by omega), grown_set h.2 hk⟩
end Go.Proofs.YtebaejokhpdbkaaGreatDoor

/-
  Amounts drawn: what the model's l02Res answers at a cursor; a walk over the dump.
-/
namespace Go.Proofs.YtebaejokhpdbkaaGreatDoor
open Go.RowKit
set_option linter.unusedVariables false

set_option maxRecDepth 100000 in
set_option maxHeartbeats 2000000 in
theorem l02Res_st {w0 : World} {B g : Nat} {ao : Option Addr} {len cap : Nat} (w : World) (h : St w0 B g ao len cap w) :
    Calls Tryz.prog 40 #[.pointer (some ⟨g, 0, none⟩)] w fun e w' => ∃ a b : Int, e = .returned (rv a b) ∧ I64 a ∧ I64 b ∧ St w0 B g ao len cap w' ∧ w.grownBy w' (some g) := by
  have hgl := h.1.lt
  have LO := hide h.low
  have HS := hide (St.gr h (below_al (Below.refl _ w) (.cells #[.int .i64 0, .int .i64 0] 41)))
  have V0 := hide (var_new w 41 0 0)
  clear h
  go_enter Tryz.func40, Tryz.ntmps40
  go_wp2_with fail
  refine (below_st 20 _ (unhide HS).1 (by decide) (by decide)).mono ?_
  rintro e w1 ⟨x, rfl, hx0, hx1, hs, hg⟩
  have HS1 := hide (And.intro hs (grownBy_trans (unhide HS).2 hg))
  have V01 := hide ((unhide V0).grown hg (by omega))
  clear hs hg HS V0
  go_wp2_with fail
  refine (below_st 10 _ (unhide HS1).1 (by decide) (by decide)).mono ?_
  rintro e w2 ⟨y, rfl, hy0, hy1, hs, hg⟩
  have HS2 := hide (And.intro (hs.alloc (.cells #[.int .i64 x, .int .i64 y] 41)) (grownBy_below (grownBy_trans (unhide HS1).2 hg) (below_al (Below.refl _ _) (.cells #[.int .i64 x, .int .i64 y] 41))))
  have V02 := hide (((unhide V01).grown hg (by omega)).al (.cells #[.int .i64 x, .int .i64 y] 41))
  have V12 := hide (var_new w2 41 x y)
  have hgl2 : g < w2.heap.size := hs.1.lt
  have hlt2 : w.heap.size < w2.heap.size := ((unhide V01).grown hg (by omega)).lt
  have X := hide (And.intro (i64_of hx0 (by omega)) (i64_of hy0 (by omega)))
  clear hs hg HS1 V01
  go_wp2_with fail
  refine (below_st 16 _ (unhide HS2).1 (by decide) (by decide)).mono ?_
  rintro e w3 ⟨z, rfl, hz0, hz1, hs, hg⟩
  have HS3 := hide (And.intro hs (grownBy_trans (unhide HS2).2 hg))
  have V03 := hide ((unhide V02).grown hg (by omega))
  have V13 := hide ((unhide V12).grown hg (by omega))
  clear hs hg HS2 V02 V12
  by_cases c0 : z = 0
  · subst c0
    have hq := hide (ints_alloc w3 3 [-1, 1000000000, 1000000001, 0] (by decide))
    have hne : Hid (w3.heap.size ≠ g) := hide (by have := (unhide HS3).1.1.lt; omega)
    go_wp2_with fail
    refine (pickG_st w3.heap.size 4 4 _ ((unhide HS3).1.alloc _) (unhide hq) (unhide hne) (by decide) (by decide)).mono ?_
    rintro e w4 ⟨p, rfl, hp, hs, hg⟩
    have HS4 := hide (And.intro hs (grownBy_trans (grownBy_below (unhide HS3).2 (below_al (Below.refl _ _) _)) hg))
    have V04 := ((unhide V03).al _).grown hg (by omega)
    have V14 := ((unhide V13).al _).grown hg (by omega)
    have a0 := V04.c0
    have a1 := V04.c1
    have a2 := V04.f 0
    have a3 := V04.f 1
    have b0 := V14.c0
    have b1 := V14.c1
    have b2 := V14.f 0
    have b3 := V14.f 1
    have HP := hide hp
    have V05 := V04.other w2.heap.size 0 (.int .i64 p) (by omega)
    have k4 := V05.s0 (.int .i64 p)
    have k5 := V05.s1 (.int .i64 p) (.int .i64 y)
    clear hs hg V04 V14 V05 V03 V13 HS3 hp
    go_wp2
    refine bodyPost_ret (v := rv p y) (by simp [results, Tryz.results40, go_sem, k4, k5]) rfl ⟨p, y, rfl, unhide HP, (unhide X).2, sg_set (unhide LO) (sg_set (unhide LO) (sg_set (unhide LO) (unhide HS4) _ _ _ (by omega)) _ _ _ (by omega)) _ _ _ (by omega)⟩
  · by_cases c1 : z = 1
    · subst c1
      have hq := hide (ints_alloc w3 3 [-1, 1000000000, 1000000001, 0] (by decide))
      have hne : Hid (w3.heap.size ≠ g) := hide (by have := (unhide HS3).1.1.lt; omega)
      go_wp2_with fail
      refine (pickG_st w3.heap.size 4 4 _ ((unhide HS3).1.alloc _) (unhide hq) (unhide hne) (by decide) (by decide)).mono ?_
      rintro e w4 ⟨p, rfl, hp, hs, hg⟩
      have HS4 := hide (And.intro hs (grownBy_trans (grownBy_below (unhide HS3).2 (below_al (Below.refl _ _) _)) hg))
      have V04 := ((unhide V03).al _).grown hg (by omega)
      have V14 := ((unhide V13).al _).grown hg (by omega)
      have a0 := V04.c0
      have a1 := V04.c1
      have a2 := V04.f 0
      have a3 := V04.f 1
      have b0 := V14.c0
      have b1 := V14.c1
      have b2 := V14.f 0
      have b3 := V14.f 1
      have HP := hide hp
      have V05 := V04.other w2.heap.size 1 (.int .i64 p) (by omega)
      have k4 := V05.s0 (.int .i64 x)
      have k5 := V05.s1 (.int .i64 x) (.int .i64 p)
      clear hs hg V04 V14 V05 V03 V13 HS3 hp
      go_wp2
      refine bodyPost_ret (v := rv x p) (by simp [results, Tryz.results40, go_sem, k4, k5]) rfl ⟨x, p, rfl, (unhide X).1, unhide HP, sg_set (unhide LO) (sg_set (unhide LO) (sg_set (unhide LO) (unhide HS4) _ _ _ (by omega)) _ _ _ (by omega)) _ _ _ (by omega)⟩
    · by_cases c2 : z = 2
      · subst c2
        have V04 := unhide V03
        have V14 := unhide V13
        have a0 := V04.c0
        have a1 := V04.c1
        have a2 := V04.f 0
        have a3 := V04.f 1
        have b0 := V14.c0
        have b1 := V14.c1
        have b2 := V14.f 0
        have b3 := V14.f 1
        have V05 := (V04.other w2.heap.size 0 (.int .i64 0) (by omega)).other w2.heap.size 1 (.int .i64 0) (by omega)
        have k4 := V05.s0 (.int .i64 0)
        have k5 := V05.s1 (.int .i64 0) (.int .i64 0)
        clear V04 V14 V05 V03 V13
        go_wp2
        refine bodyPost_ret (v := rv 0 0) (by simp [results, Tryz.results40, go_sem, k4, k5]) rfl ⟨0, 0, rfl, ⟨by decide, by decide⟩, ⟨by decide, by decide⟩, sg_set (unhide LO) (sg_set (unhide LO) (sg_set (unhide LO) (sg_set (unhide LO) (unhide HS3) _ _ _ (by omega)) _ _ _ (by omega)) _ _ _ (by omega)) _ _ _ (by omega)⟩
      · have V04 := unhide V03
        have V14 := unhide V13
        have a0 := V04.c0
        have a1 := V04.c1
        have a2 := V04.f 0
        have a3 := V04.f 1
        have b0 := V14.c0
        have b1 := V14.c1
        have b2 := V14.f 0
        have b3 := V14.f 1
        have V05 := V04
        have k4 := V05.s0 (.int .i64 x)
        have k5 := V05.s1 (.int .i64 x) (.int .i64 y)
        clear V04 V14 V05 V03 V13
        go_wp2
        refine bodyPost_ret (v := rv x y) (by simp [results, Tryz.results40, go_sem, k4, k5]) rfl ⟨x, y, rfl, (unhide X).1, (unhide X).2, sg_set (unhide LO) (sg_set (unhide LO) (unhide HS3) _ _ _ (by omega)) _ _ _ (by omega)⟩
end Go.Proofs.YtebaejokhpdbkaaGreatDoor

/-
  One of so many: what the model's l01Once answers at a cursor; a walk over the dump.
-/
namespace Go.Proofs.YtebaejokhpdbkaaGreatDoor
open Go.RowKit
set_option linter.unusedVariables false

set_option maxHeartbeats 400000 in
theorem l01Once_any (B g : Nat) (ao : Option Addr) (len cap : Nat) (n : Int) (w : World) (hcur : Cur w g ao len cap) (hcode : Code w B ao len) (hB : B ≤ g) (hn0 : 0 < n) (hn1 : n ≤ 9223372036854775807) :
    Calls Tryz.prog 41 #[.pointer (some ⟨g, 0, none⟩), .int .i64 n] w fun e w' => ∃ x : Bool, e = .returned (.bool x) ∧ Cur w' g ao len cap ∧ w.grownBy w' (some g) := by
  have HC := hide hcur
  have HK := hide hcode
  clear hcur hcode
  go_enter Tryz.func41, Tryz.ntmps41
  go_wp2_with fail
  refine (l01Below_any B g ao len cap _ _ (unhide HC) (unhide HK) hB hn0 hn1).mono ?_
  rintro e w1 ⟨x, rfl, hx0, hx1, hc1, hg1⟩
  have HC1 := hide hc1
  have HG1 := hide hg1
  clear hc1 hg1
  go_wp2
  go_ret
  exact ⟨_, rfl, unhide HC1, unhide HG1⟩
theorem once_st {w0 : World} {B g : Nat} {ao : Option Addr} {len cap : Nat} (n : Int) (w : World) (h : St w0 B g ao len cap w) (hn0 : 0 < n) (hn1 : n ≤ 9223372036854775807) :
    Calls Tryz.prog 41 #[.pointer (some ⟨g, 0, none⟩), .int .i64 n] w fun e w' => ∃ x : Bool, e = .returned (.bool x) ∧ St w0 B g ao len cap w' :=
  (l01Once_any B g ao len cap n w h.1 h.2.1 h.2.2.2 hn0 hn1).mono fun e w' ⟨x, h1, h4, h5⟩ => ⟨x, h1, h.step h4 h5⟩
end Go.Proofs.YtebaejokhpdbkaaGreatDoor

/-
  A text out of a list, drawn: what the model's l01Pick answers at a cursor; a walk over the dump.
-/
namespace Go.Proofs.YtebaejokhpdbkaaGreatDoor
open Go.RowKit
set_option linter.unusedVariables false

/-- block q holds a list of so many texts, each of at most twelve bytes -/
def PickT (w : World) (q L : Nat) : Prop := q < w.heap.size ∧ ∀ j, j < L → ∃ s : ByteArray, w.cell? ⟨q, j, none⟩ = some (.string s) ∧ s.size ≤ 12
theorem pickt_alloc (w : World) (t : TypeId) (xs : List ByteArray) (h : xs.all (fun s => decide (s.size ≤ 12)) = true) : PickT (w.alloc (.cells (xs.map Value.string).toArray t)) w.heap.size xs.length := by
  refine ⟨by simp, fun j hj => ⟨xs[j], ?_, ?_⟩⟩
  · rw [World.cell?_alloc_mark]; simp [hj]
  · have := List.all_eq_true.1 h xs[j] (List.getElem_mem hj)
    simpa using this
set_option maxRecDepth 100000 in
set_option maxHeartbeats 1000000 in
theorem pickS_st {w0 : World} {B g : Nat} {ao : Option Addr} {len cap : Nat} (q L c : Nat) (w : World) (h : St w0 B g ao len cap w) (hq : PickT w q L) (hne : q ≠ g) (hL : 0 < L) (hL1 : L ≤ 1000) :
    Calls Tryz.prog 39 #[.pointer (some ⟨g, 0, none⟩), .slice (some ⟨q, 0, none⟩) L c] w fun e w' => ∃ s : ByteArray, e = .returned (.string s) ∧ s.size ≤ 12 ∧ St w0 B g ao len cap w' := by
  have HS := hide h
  clear h
  go_enter Tryz.func39, Tryz.ntmps39
  go_wp2_with fail
  refine (below_st _ _ (unhide HS) (by omega) (by omega)).mono ?_
  rintro e w1 ⟨x, rfl, hx0, hx1, hs1, hg1⟩
  obtain ⟨X, rfl⟩ := Int.eq_ofNat_of_zero_le hx0
  obtain ⟨z, hz, hz0⟩ := hq.2 X (by omega)
  have hc : w1.cell? ⟨q, X, none⟩ = some (.string z) := (World.cell?_of_block (w := w) (a := ⟨q, X, none⟩) (hg1.block q hq.1 (fun e => hne (Option.some.inj e)))).trans hz
  have HS1 := hide hs1
  clear hs1 hg1 hz hq
  go_wp2
  go_ret
  exact ⟨z, rfl, hz0, unhide HS1⟩
end Go.Proofs.YtebaejokhpdbkaaGreatDoor

/-
  A name that is drawn; a walk over the dump.
-/
namespace Go.Proofs.YtebaejokhpdbkaaGreatDoor
open Go.RowKit
set_option linter.unusedVariables false

set_option maxRecDepth 100000 in
set_option maxHeartbeats 1000000 in
theorem name_st {w0 : World} {B g : Nat} {ao : Option Addr} {len cap : Nat} (w : World) (h : St w0 B g ao len cap w) :
    Calls Tryz.prog 47 #[.pointer (some ⟨g, 0, none⟩)] w fun e w' => ∃ s : ByteArray, e = .returned (.string s) ∧ s.size ≤ 12 ∧ St w0 B g ao len cap w' := by
  have HS := hide h
  clear h
  go_enter Tryz.func47, Tryz.ntmps47
  go_wp2_with fail
  refine (once_st 16 _ (unhide HS) (by decide) (by decide)).mono ?_
  rintro e w1 ⟨x, rfl, hs1⟩
  have HS1 := hide hs1
  have hne : Hid (w1.heap.size ≠ g) := hide (by have := hs1.1.lt; omega)
  clear hs1
  cases x with
  | true =>
    have hq := hide (pickt_alloc w1 9 [⟨#[]⟩, ⟨#[65]⟩, ⟨#[48, 49, 50, 51, 52, 53, 54, 55, 56, 57]⟩, ⟨#[48, 49, 50, 51, 52, 53, 54, 55, 56, 57, 48]⟩, ⟨#[97, 32, 98]⟩] (by decide))
    go_wp2_with fail
    refine (pickS_st w1.heap.size 5 5 _ ((unhide HS1).alloc _) (unhide hq) (unhide hne) (by decide) (by decide)).mono ?_
    rintro e w2 ⟨x, rfl, hx0, hs2⟩
    have HS2 := hide hs2
    clear hs2
    go_wp2
    go_ret
    exact ⟨x, rfl, hx0, unhide HS2⟩
  | false =>
    have hq := hide (pickt_alloc w1 9 [⟨#[97]⟩, ⟨#[98]⟩, ⟨#[114, 111, 111, 116]⟩] (by decide))
    go_wp2_with fail
    refine (pickS_st w1.heap.size 3 3 _ ((unhide HS1).alloc _) (unhide hq) (unhide hne) (by decide) (by decide)).mono ?_
    rintro e w2 ⟨x, rfl, hx0, hs2⟩
    have HS2 := hide hs2
    clear hs2
    go_wp2
    go_ret
    exact ⟨x, rfl, hx0, unhide HS2⟩
end Go.Proofs.YtebaejokhpdbkaaGreatDoor
