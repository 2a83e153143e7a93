/-
  Several texts of this claim in one: Base, Grow, ResV, KeptV, TxtM, In, Bytes, PutS (pack.py put them together); each says in its own remark what is proved.
-/
import Derived.Test.YtobpjegfgegkcaaGreatDoorRows
import Derived.WalkKit
import Derived.WalkSpells
import Derived.WalkLawsBesides
import Derived.BigQuiet
import Derived.Laws.IdiomStrings
import Derived.Lib.ItoaMem
/-
  Small helpers: texts, bytes, what a call returns.
-/
namespace Go.Proofs.YtobpjegfgegkcaaGreatDoor
open Go.RowKit
theorem hide {p : Prop} (h : p) : Hid p := h
theorem unhide {p : Prop} (h : Hid p) : p := h
theorem ret_bool {a b : Bool} (h : a = b) : Ending.returned (.bool a) = .returned (.bool b) := by rw [h]
theorem byte_le (c : UInt8) : (c.toNat : Int) ≤ 255 := by have := c.toNat_lt; omega

def inB (x a b : Int) : Bool := decide (a ≤ x ∧ x ≤ b)
theorem inB_true {x a b : Int} (h1 : a ≤ x) (h2 : x ≤ b) : inB x a b = true := by simp [inB, h1, h2]
theorem inB_false {x a b : Int} (h : ¬ (a ≤ x ∧ x ≤ b)) : inB x a b = false := by simp only [inB, decide_eq_false_iff_not]; exact h

theorem str_eq {a b : ByteArray} (h : a = b) : Value.string a = .string b := by rw [h]
theorem ret_str {a b : ByteArray} (h : a = b) : Ending.returned (.string a) = .returned (.string b) := by rw [h]
def bs (l : List UInt8) : ByteArray := ⟨l.toArray⟩
theorem bs_size (l : List UInt8) : (bs l).size = l.length := by simp [bs, ByteArray.size]
theorem cons_bs (c : UInt8) (l : List UInt8) : (ByteArray.mk #[c]) ++ bs l = bs (c :: l) := by
  unfold bs; rw [ByteArray.mk_append_mk]; simp
theorem take_snoc (s : ByteArray) (k : Nat) (h : k < s.size) : s.data.toList.take (k + 1) = s.data.toList.take k ++ [s[k]] := by
  rw [List.take_succ_eq_append_getElem (by simpa using h)]; rfl
theorem take_all (s : ByteArray) (k : Nat) (h : s.size ≤ k) : s.data.toList.take k = s.data.toList := List.take_of_length_le (by simpa using h)
theorem len_eq (s : ByteArray) : s.data.toList.length = s.size := by simp
theorem str_empty {s : ByteArray} (h : s.size = 0) : s.toList.isEmpty = true := by
  rw [ByteArray.toList_eq]; simp; exact Array.size_eq_zero_iff.1 h
theorem str_full {s : ByteArray} (h : s.size ≠ 0) : s.toList.isEmpty = false := by
  rw [ByteArray.toList_eq]; simp; intro e; exact h (Array.size_eq_zero_iff.2 e)
theorem str_same {l : List UInt8} {s : ByteArray} (h : l = s.data.toList) : ((bs l).toList == s.toList) = true := by
  rw [ByteArray.toList_eq, ByteArray.toList_eq]; simp [bs, h]
theorem str_other {l : List UInt8} {s : ByteArray} (h : l ≠ s.data.toList) : ((bs l).toList == s.toList) = false := by
  rw [ByteArray.toList_eq, ByteArray.toList_eq]; simpa [bs] using h
end Go.Proofs.YtobpjegfgegkcaaGreatDoor

/-
  What a call may turn: one block alone, and what is made anew.
-/
namespace Go.Proofs.YtobpjegfgegkcaaGreatDoor
open Go.RowKit
set_option linter.unusedVariables false
theorem grownBy_refl (w : World) (r : Option Nat) : w.grownBy w r := ⟨rfl, rfl, rfl, Nat.le_refl _, fun _ _ _ => rfl⟩
theorem grownBy_trans {w w1 w2 : World} {r : Option Nat} (h : w.grownBy w1 r) (k : w1.grownBy w2 r) : w.grownBy w2 r :=
  ⟨k.os.trans h.os, k.tape.trans h.tape, k.output.trans h.output, Nat.le_trans h.size k.size, fun i hi hn => (k.block i (Nat.lt_of_lt_of_le hi h.size) hn).trans (h.block i hi hn)⟩
theorem grownBy_below {w w1 w2 : World} {r : Option Nat} (h : w.grownBy w1 r) (hb : Below w1.heap.size w1 w2) : w.grownBy w2 r :=
  ⟨hb.os.trans h.os, hb.tape.trans h.tape, hb.output.trans h.output, Nat.le_trans h.size hb.size, fun k hk hn => (hb.block k (Nat.lt_of_lt_of_le hk h.size)).trans (h.block k hk hn)⟩
theorem grownBy_set {w w1 : World} {g : Nat} (h : w.grownBy w1 (some g)) (j : Nat) (v : Value) : w.grownBy (w1.setCell ⟨g, j, none⟩ v) (some g) :=
  ⟨h.os, h.tape, h.output, by simpa using h.size, fun k hk hn => by
    rw [heap_setCell_other w1 ⟨g, j, none⟩ k v (fun e => hn (by rw [e]))]
    exact h.block k hk hn⟩
theorem grownBy_drewN {w w1 : World} {r : Option Nat} (h : w.grownBy w1 r) (n : Nat) : w.grownBy (w1.drewN n) r := grownBy_below h (below_drewN (Below.refl _ _) n)
theorem below_grownBy {B : Nat} {a w w' : World} {g : Nat} (h : Below B a w) (hg : w.grownBy w' (some g)) (hB : B ≤ w.heap.size) (hr : B ≤ g) : Below B a w' := h.grown hg hB (fun k hk => by cases hk; exact hr)
theorem cell_lt {w : World} {b o : Nat} {v : Value} (h : w.cell? ⟨b, o, none⟩ = some v) : b < w.heap.size :=
  Nat.lt_of_not_le (fun hle => by simp [World.cell?, Array.getElem?_eq_none hle] at h)
end Go.Proofs.YtobpjegfgegkcaaGreatDoor

/-
  Amounts: values, variables that hold them, and what lies below.
-/
namespace Go.Proofs.YtobpjegfgegkcaaGreatDoor
open Go.RowKit
set_option linter.unusedVariables false
theorem below_al {w w1 : World} (h : Below w.heap.size w w1) (o : Obj) : Below w.heap.size w (w1.alloc o) := h.alloc h.size o
theorem below_sc {w w1 : World} (h : Below w.heap.size w w1) (b j : Nat) (v : Value) (hb : w.heap.size ≤ b) : Below w.heap.size w (w1.setCell ⟨b, j, none⟩ v) := h.setCell hb v
theorem below_on {w w1 w2 : World} (h : Below w.heap.size w w1) (k : Below w1.heap.size w1 w2) : Below w.heap.size w w2 := Below.trans h (k.mono h.size)
/-- block g is a variable of type t that holds two numbers -/
def Var (w : World) (t : TypeId) (g : Nat) (x y : Int) : Prop := w.heap[g]? = some (.cells #[.int .i64 x, .int .i64 y] t (0, 0))
theorem Var.c0 {w : World} {t : TypeId} {g : Nat} {x y : Int} (h : Var w t g x y) : w.cell? ⟨g, 0, none⟩ = some (.int .i64 x) := by unfold Var at h; simp [World.cell?, h]
theorem Var.c1 {w : World} {t : TypeId} {g : Nat} {x y : Int} (h : Var w t g x y) : w.cell? ⟨g, 1, none⟩ = some (.int .i64 y) := by unfold Var at h; simp [World.cell?, h]
theorem Var.f {w : World} {t : TypeId} {g : Nat} {x y : Int} (h : Var w t g x y) (j : Nat) : w.frozen? ⟨g, j, none⟩ = false := by unfold Var at h; simp [World.frozen?, h]
theorem Var.lt {w : World} {t : TypeId} {g : Nat} {x y : Int} (h : Var w t g x y) : g < w.heap.size := lt_of_block h
theorem Var.same {w w' : World} {t : TypeId} {g : Nat} {x y : Int} (h : Var w t g x y) (e : w'.heap[g]? = w.heap[g]?) : Var w' t g x y := e.trans h
theorem Var.below {w w' : World} {t : TypeId} {g : Nat} {x y : Int} (h : Var w t g x y) (hb : Below w.heap.size w w') : Var w' t g x y := (hb.block g h.lt).trans h
theorem var_new (w : World) (t : TypeId) (x y : Int) : Var (w.alloc (.cells #[.int .i64 x, .int .i64 y] t)) t w.heap.size x y := by show (w.heap.push _)[w.heap.size]? = _; simp
theorem Var.set {w : World} {t : TypeId} {g : Nat} {a b : Int} (h : Var w t g a b) (x y : Int) : Var ((w.setCell ⟨g, 0, none⟩ (.int .i64 x)).setCell ⟨g, 1, none⟩ (.int .i64 y)) t g x y := by
  have h1 := heap_setCell_same w g 0 _ _ (.int .i64 x) h
  exact heap_setCell_same _ g 1 _ _ (.int .i64 y) h1
theorem Var.al {w : World} {t : TypeId} {g : Nat} {x y : Int} (h : Var w t g x y) (o : Obj) : Var (w.alloc o) t g x y := h.below (below_al (Below.refl _ _) o)
theorem Var.drew {w : World} {t : TypeId} {g : Nat} {x y : Int} (h : Var w t g x y) : Var w.drew t g x y := h
theorem Var.other {w : World} {t : TypeId} {g : Nat} {x y : Int} (h : Var w t g x y) (k j : Nat) (v : Value) (hn : g ≠ k) : Var (w.setCell ⟨k, j, none⟩ v) t g x y := h.same (heap_setCell_other w ⟨k, j, none⟩ g v hn)
/-- the one amount that came in, boxed, stands; nothing of w0 has turned -/
def Boxed (w0 : World) (t : TypeId) (a b : Int) (wx : World) : Prop := Var wx t w0.heap.size a b ∧ Below w0.heap.size w0 wx
theorem Boxed.new (w0 : World) (t : TypeId) (a b : Int) : Boxed w0 t a b (w0.alloc (.cells #[.int .i64 a, .int .i64 b] t)) := ⟨var_new w0 t a b, below_al (Below.refl _ _) _⟩
theorem Boxed.call {w0 w1 w2 : World} {t : TypeId} {a b : Int} (h : Boxed w0 t a b w1) (hb : Below w1.heap.size w1 w2) : Boxed w0 t a b w2 := ⟨h.1.below hb, below_on h.2 hb⟩
theorem Boxed.drew {w0 w1 : World} {t : TypeId} {a b : Int} (h : Boxed w0 t a b w1) : Boxed w0 t a b w1.drew := h.call (Below.refl _ _).drew
theorem Boxed.read (w0 : World) (t : TypeId) (a b : Int) : ∀ wx, Boxed w0 t a b wx → wx.cell? ⟨w0.heap.size, 0, none⟩ = some (.int .i64 a) ∧ wx.cell? ⟨w0.heap.size, 1, none⟩ = some (.int .i64 b) := fun wx h => ⟨h.1.c0, h.1.c1⟩
end Go.Proofs.YtobpjegfgegkcaaGreatDoor

/-
  Blocks that stand through calls: their cells.
-/
namespace Go.Proofs.YtobpjegfgegkcaaGreatDoor
open Go.RowKit
set_option linter.unusedVariables false
/-- block g is just these cells -/
def Blk (w : World) (g : Nat) (arr : Array Value) (t : TypeId) : Prop := w.heap[g]? = some (.cells arr t (0, 0))
theorem Blk.lt {w : World} {g : Nat} {arr : Array Value} {t : TypeId} (h : Blk w g arr t) : g < w.heap.size := lt_of_block h
theorem Blk.below {w w' : World} {g : Nat} {arr : Array Value} {t : TypeId} (h : Blk w g arr t) (hb : Below w.heap.size w w') : Blk w' g arr t := (hb.block g h.lt).trans h
theorem Blk.at {w : World} {g : Nat} {arr : Array Value} {t : TypeId} (h : Blk w g arr t) (j : Nat) : w.cell? ⟨g, j, none⟩ = arr[j]? := by
  unfold Blk at h; simp [World.cell?, h]
theorem Blk.f {w : World} {g : Nat} {arr : Array Value} {t : TypeId} (h : Blk w g arr t) (j : Nat) : w.frozen? ⟨g, j, none⟩ = false := by
  unfold Blk at h; simp [World.frozen?, h]
theorem Blk.al {w : World} {g : Nat} {arr : Array Value} {t : TypeId} (h : Blk w g arr t) (o : Obj) : Blk (w.alloc o) g arr t := h.below (below_al (Below.refl _ _) o)
theorem Blk.drew {w : World} {g : Nat} {arr : Array Value} {t : TypeId} (h : Blk w g arr t) : Blk w.drew g arr t := h
theorem Blk.set {w : World} {g : Nat} {arr : Array Value} {t : TypeId} (h : Blk w g arr t) (j : Nat) (v : Value) : Blk (w.setCell ⟨g, j, none⟩ v) g (arr.setIfInBounds j v) t := heap_setCell_same w g j _ _ v h
theorem Blk.other {w : World} {g : Nat} {arr : Array Value} {t : TypeId} (h : Blk w g arr t) (k j : Nat) (v : Value) (hn : g ≠ k) : Blk (w.setCell ⟨k, j, none⟩ v) g arr t := (heap_setCell_other w ⟨k, j, none⟩ g v hn).trans h
theorem blk_new (w : World) (arr : Array Value) (t : TypeId) : Blk (w.alloc (.cells arr t)) w.heap.size arr t := by show (w.heap.push _)[w.heap.size]? = _; simp
theorem al_size (w : World) (o : Obj) : (w.alloc o).heap.size = w.heap.size + 1 := by show (w.heap.push _).size = _; simp
theorem set_old (w : World) (o : Obj) (b j : Nat) (v : Value) (hb : b < w.heap.size) : (w.alloc o).setCell ⟨b, j, none⟩ v = (w.setCell ⟨b, j, none⟩ v).alloc o := by
  unfold World.setCell World.alloc
  congr 1
  apply Array.ext
  · simp
  · intro i h1 h2
    simp [Array.getElem_modify, Array.getElem_push]
    split <;> split <;> simp_all <;> omega
end Go.Proofs.YtobpjegfgegkcaaGreatDoor

/-
  Texts as lists of bytes.
-/
namespace Go.Proofs.YtobpjegfgegkcaaGreatDoor
set_option linter.unusedVariables false
theorem bs_back (s : ByteArray) : bs s.data.toList = s := by simp [bs]
theorem bs_empty (l : List UInt8) : (bs l).toList.isEmpty = decide (l = []) := by
  rw [ByteArray.toList_eq]
  cases l <;> simp [bs]
end Go.Proofs.YtobpjegfgegkcaaGreatDoor

/-
  What the model's l01In answers: whether a number lies between two.
-/
namespace Go.Proofs.YtobpjegfgegkcaaGreatDoor
open Go.RowKit
set_option maxHeartbeats 400000 in
theorem l01In_any (x a b : Int) (w : World) :
    Calls Tryz.prog 56 #[.int .i64 x, .int .i64 a, .int .i64 b] w fun e w' => e = .returned (.bool (inB x a b)) ∧ w = w' := by
  by_cases h1 : a ≤ x
  · by_cases h2 : x ≤ b
    · go_enter Tryz.func56, Tryz.ntmps56
      go_wp2
      go_ret
      exact ⟨ret_bool (inB_true h1 h2).symm, rfl⟩
    · go_enter Tryz.func56, Tryz.ntmps56
      go_wp2
      go_ret
      exact ⟨ret_bool (inB_false (by omega)).symm, rfl⟩
  · go_enter Tryz.func56, Tryz.ntmps56
    go_wp2
    go_ret
    exact ⟨ret_bool (inB_false (by omega)).symm, rfl⟩
end Go.Proofs.YtobpjegfgegkcaaGreatDoor

/-
  Rows of bytes that a call has made, and their text.
-/
namespace Go.Proofs.YtobpjegfgegkcaaGreatDoor
open Go.RowKit
set_option linter.unusedVariables false
theorem byteOf (x : Nat) (h : x < 256) : ((UInt8.ofNat x).toNat : Int) = (x : Int) := by rw [UInt8.toNat_ofNat']; omega
abbrev cells (l : List UInt8) : List Value := l.map (fun b => Value.int .u8 (b.toNat : Int))
theorem cells_snoc (l : List UInt8) (c : UInt8) (x : Int) (h : (c.toNat : Int) = x) : cells l ++ [.int .u8 x] = cells (l ++ [c]) := by simp [cells, h]

theorem Tryz.info5 : (Tryz.prog.info? 5).map (fun i => (i.zero, i.size, i.bytes)) = some (some (.int .u8 0), 1, 1) := by kernel_rfl

theorem own_empty (w : World) (t : TypeId) : (w.alloc (.cells #[] t)).ownsRow w.heap.size t 1 (.slice (some ⟨w.heap.size, 0, none⟩) 0 0) ([] : List UInt8).length (cells []) :=
  ⟨rfl, .inr ⟨w.heap.size, 0, #[], rfl, Nat.le_refl _, by show (w.heap.push _)[w.heap.size]? = _; simp, Nat.le_refl _, by unfold maxLen; omega, rfl, rfl⟩⟩
/-- one byte more: what is owned, and what lies below, behind the append -/
theorem row_step {w wr w1 : World} {B : Nat} {t : TypeId} {v v' : Value} {l : List UInt8} {c : UInt8} {x : Int} {o : Obj} (hb : Below B w wr) (hown : wr.ownsRow B t 1 v l.length (cells l))
    (h1 : w1.ownsRow B t 1 v' (l.length + 1) (cells l ++ [.int .u8 x])) (hg : (wr.alloc o).grownBy w1 v.ownBlock) (hc : (c.toNat : Int) = x) (hB : B ≤ wr.heap.size) :
    w1.ownsRow B t 1 v' (l ++ [c]).length (cells (l ++ [c])) ∧ Below B w w1 := by
  refine ⟨by rw [cells_snoc l c x hc] at h1; simpa using h1, (hb.alloc hB o).grown hg (by simp; omega) ?_⟩
  intro k hk
  rcases hown.2 with ⟨rfl, _⟩ | ⟨g, cap, cur, rfl, hg', _⟩
  · simp [Value.ownBlock] at hk
  · simp [Value.ownBlock] at hk; omega
/-- the text of the bytes that are owned -/
theorem own_str {w1 : World} {B : Nat} {v : Value} {l : List UInt8} (h : w1.ownsRow B 5 1 v l.length (cells l)) (hl : 1 ≤ l.length) :
    (convert 22 9 v).run Tryz.prog w1 = .ok (.string (bs l)) w1 := by
  rcases h.2 with ⟨_, h0⟩ | ⟨g, cap, cur, rfl, _⟩
  · omega
  · exact run_convert_bytes_back w1 22 9 5 ⟨g, 0, none⟩ cap l Tryz.underlying22 Tryz.underlying5 Tryz.underlying9 (fun j hj => by
      have := h.cellAt j (by omega)
      rw [Lib.add_plain, Nat.zero_add, this]
      simp [cells, hj])

end Go.Proofs.YtobpjegfgegkcaaGreatDoor

/-
  What the model's PutNum answers: seven bits a byte, the lowest first; a walk over the dump.
-/
namespace Go.Proofs.YtobpjegfgegkcaaGreatDoor
open Go.RowKit
def pn : Nat → Nat → List UInt8
  | 0, u => [UInt8.ofNat u]
  | f + 1, u => if u < 128 then [UInt8.ofNat u] else UInt8.ofNat (128 + u % 128) :: pn f (u / 128)
/-- the bytes of u: seven bits each, the lowest first, each but the last with 128 more -/
def put (u : Nat) : List UInt8 := pn u u
theorem pn_eq : ∀ (f g u : Nat), u ≤ f → u ≤ g → pn f u = pn g u := by
  intro f
  induction f with
  | zero =>
    intro g u h _
    have : u = 0 := by omega
    subst this
    cases g <;> simp [pn]
  | succ f ih =>
    intro g u h1 h2
    cases g with
    | zero =>
      have : u = 0 := by omega
      subst this
      simp [pn]
    | succ g =>
      by_cases hu : u < 128
      · simp [pn, hu]
      · simp only [pn, hu, if_false]
        rw [ih g (u / 128) (by omega) (by omega)]
theorem put_small {u : Nat} (h : u < 128) : put u = [UInt8.ofNat u] := by
  unfold put
  cases u <;> simp [pn]
  omega
theorem put_step {u : Nat} (h : ¬ u < 128) : put u = UInt8.ofNat (128 + u % 128) :: put (u / 128) := by
  unfold put
  cases u with
  | zero => omega
  | succ u =>
    rw [pn, if_neg h, pn_eq u ((u + 1) / 128) ((u + 1) / 128) (by omega) (by omega)]
theorem put_len : ∀ (k u : Nat), u < 128 ^ (k + 1) → (put u).length ≤ k + 1 := by
  intro k
  induction k with
  | zero => intro u h; rw [put_small (by simpa using h)]; simp
  | succ k ih =>
    intro u h
    by_cases hu : u < 128
    · rw [put_small hu]; simp
    · rw [put_step hu]
      have := ih (u / 128) (by rw [Nat.pow_succ] at h; omega)
      simp only [List.length_cons]; omega
theorem put_pos (u : Nat) : 1 ≤ (put u).length := by
  by_cases hu : u < 128
  · rw [put_small hu]; simp
  · rw [put_step hu]; simp
theorem put_le5 {u : Nat} (h : u ≤ 4000000000) : (put u).length ≤ 5 := put_len 4 u (by omega)
def putNum (n : Int) : List UInt8 := if 0 ≤ n ∧ n ≤ 4000000000 then put n.toNat else []

set_option maxRecDepth 100000 in
theorem or128_fin : ∀ a : Fin 256, (a.val ||| 128) = 128 + a.val % 128 := by decide
theorem or128 (u : Nat) : bits .or .u8 ((u : Int) % 256) 128 = ((128 + u % 128 : Nat) : Int) := by
  have h := or128_fin ⟨u % 256, by omega⟩
  simp only at h
  rw [show ((u : Int) % 256) = ((u % 256 : Nat) : Int) from by omega, show (128 : Int) = ((128 : Nat) : Int) from rfl, u8_or_nat _ _ (by omega) (by omega), h]
  omega
set_option maxRecDepth 100000 in
set_option maxHeartbeats 1000000 in
theorem specPutNum_yes (N : Nat) (w : World) (hN : N ≤ 4000000000) :
    Calls Tryz.prog 40 #[.int .i64 (N : Int)] w fun e w' => e = .returned (.string (bs (put N))) ∧ Below w.heap.size w w' := by
  obtain ⟨i0, hi, hz0, hz1, hz2⟩ := info_parts Tryz.info5
  have e0 : inB (N : Int) 0 4000000000 = true := inB_true (by omega) (by omega)
  have hl5 := put_le5 hN
  go_enter Tryz.func40, Tryz.ntmps40
  go_wp2_with (go_at_call 56; refine (l01In_any _ _ _ _).mono ?_; rintro e w' ⟨rfl, rfl⟩)
  go_loopw [0, 3] (fun n o wr => ∃ (u : Nat) (l : List UInt8), u ≤ N ∧ n = .int .i64 (u : Int) ∧ l ++ put u = put N ∧ wr.ownsRow w.heap.size 5 1 o l.length (cells l) ∧ Below w.heap.size w wr) (fun n _ _ => (intOf n).toNat)
  case atStart => exact ⟨N, [], Nat.le_refl _, rfl, rfl, own_empty w 5, (Below.refl _ _).alloc (Nat.le_refl _) _⟩
  case round =>
    obtain ⟨u, l, hu, rfl, hcat, hown, hbel⟩ := hrel
    have hl : l.length ≤ 4 := by have := congrArg List.length hcat; have := put_pos u; simp only [List.length_append] at *; omega
    have hsz := hbel.size
    have HC := hide hcat
    clear hcat
    by_cases hu0 : u < 128
    · have hx : Hid (((UInt8.ofNat u).toNat : Int) = (u : Int)) := hide (byteOf u (by omega))
      go_wp2_with (at_builtin; refine wpList_append_own _ rfl _ _ 22 rfl w.heap.size 5 i0 (.int .u8 0) 1 1 Tryz.underlying22 hi hz0 hz1 hz2 rfl (by decide) _ _ _ rfl (hown.alloc _) ⟨wr.heap.size, 0, none⟩ 1 1 [.int .u8 (u : Int)] rfl rfl ?c1 ?c2 ?c3 ?c4 ?c5 ?_)
      case c1 => intro j v hj; match j, hj with | 0, hj => simp at hj; subst hj; simp [Addr.add]
      case c2 => intro v hv; simp at hv; subst hv; rfl
      case c3 => unfold maxLen; omega
      case c4 => omega
      case c5 => simp; omega
      intro v' w1 hown' hgrow _
      have R := row_step (B := w.heap.size) hbel hown hown' hgrow (unhide hx) (by omega)
      have hc := own_str R.1 (by simp)
      have HB := hide R.2
      have HP : Hid (l ++ [UInt8.ofNat u] = put N) := hide (by rw [← unhide HC, put_small hu0])
      clear hown' hgrow hown hbel R
      go_wp2
      go_ret
      exact ⟨ret_str (congrArg bs (unhide HP)), unhide HB⟩
    · have hx : Hid (((UInt8.ofNat (128 + u % 128)).toNat : Int) = 128 + (u : Int) % 128) := hide (byteOf (128 + u % 128) (by omega))
      go_wp2_with (at_builtin; refine wpList_append_own _ rfl _ _ 22 rfl w.heap.size 5 i0 (.int .u8 0) 1 1 Tryz.underlying22 hi hz0 hz1 hz2 rfl (by decide) _ _ _ rfl (hown.alloc _) ⟨wr.heap.size, 0, none⟩ 1 1 [.int .u8 (128 + (u : Int) % 128)] rfl rfl ?d1 ?d2 ?d3 ?d4 ?d5 ?_)
      case d1 => intro j v hj; match j, hj with | 0, hj => simp at hj; subst hj; simp [Addr.add]
      case d2 => intro v hv; simp at hv; subst hv; rfl
      case d3 => unfold maxLen; omega
      case d4 => omega
      case d5 => simp; omega
      intro v' w1 hown' hgrow _
      have R := row_step (B := w.heap.size) hbel hown hown' hgrow (unhide hx) (by omega)
      clear hown' hgrow hown hbel
      go_wp2
      go_roundw
      case rel => exact ⟨u / 128, l ++ [UInt8.ofNat (128 + u % 128)], by omega, by go_num, by rw [← unhide HC, put_step hu0]; simp, R.1, R.2⟩
      case measure => simp [intOf]; omega

set_option maxHeartbeats 400000 in
theorem specPutNum_no (n : Int) (w : World) (h : ¬ (0 ≤ n ∧ n ≤ 4000000000)) :
    Calls Tryz.prog 40 #[.int .i64 n] w fun e w' => e = .returned (.string (bs [])) ∧ Below w.heap.size w w' := by
  have e0 : inB n 0 4000000000 = false := inB_false h
  clear h
  go_enter Tryz.func40, Tryz.ntmps40
  go_wp2_with (go_at_call 56; refine (l01In_any _ _ _ _).mono ?_; rintro e w' ⟨rfl, rfl⟩)
  go_ret
  exact ⟨rfl, Below.refl _ _⟩

theorem specPutNum_any (n : Int) (w : World) :
    Calls Tryz.prog 40 #[.int .i64 n] w fun e w' => e = .returned (.string (bs (putNum n))) ∧ Below w.heap.size w w' := by
  by_cases h : 0 ≤ n ∧ n ≤ 4000000000
  · rw [putNum, if_pos h]
    obtain ⟨N, rfl⟩ := Int.eq_ofNat_of_zero_le h.1
    exact specPutNum_yes N w (by omega)
  · rw [putNum, if_neg h]
    exact specPutNum_no n w h
end Go.Proofs.YtobpjegfgegkcaaGreatDoor
