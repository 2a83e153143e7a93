/-
  Several texts of this claim in one: In, Res, BothM, Both, ROwn, Caps, MarkN (pack.py put them together); each says in its own remark what is proved.
-/
import Derived.Test.YthnkbdjombiodaaGreatPackA
import Derived.Test.YthnkbdjombiodaaGreatStAll
import Derived.Laws.AppendOwn
import Derived.Test.YthnkbdjombiodaaGreatPackC
/-
  What the model's l01In answers: whether a number lies between two.
-/
namespace Go.Proofs.YthnkbdjombiodaaGreat
open Go.RowKit

set_option maxHeartbeats 400000 in
theorem l01In_any (x a b : Int) (w : World) :
    Calls Tryz.prog 42 #[.int .i64 x, .int .i64 a, .int .i64 b] w fun e w' => e = .returned (.bool (inB x a b)) ∧ w = w' := by
  by_cases h1 : a ≤ x
  · by_cases h2 : x ≤ b
    · go_enter Tryz.func42, Tryz.ntmps42
      go_wp2
      go_ret
      exact ⟨ret_bool (inB_true h1 h2).symm, rfl⟩
    · go_enter Tryz.func42, Tryz.ntmps42
      go_wp2
      go_ret
      exact ⟨ret_bool (inB_false (by omega)).symm, rfl⟩
  · go_enter Tryz.func42, Tryz.ntmps42
    go_wp2
    go_ret
    exact ⟨ret_bool (inB_false (by omega)).symm, rfl⟩
end Go.Proofs.YthnkbdjombiodaaGreat

/-
  What the model's ResOk answers; a walk over the dump.
-/
namespace Go.Proofs.YthnkbdjombiodaaGreat
open Go.RowKit
set_option linter.unusedVariables false

set_option maxRecDepth 100000 in
set_option maxHeartbeats 400000 in
theorem specResOk_any (a b : Int) (w : World) :
    Calls Tryz.prog 68 #[rv a b] w fun e w' => e = .returned (.bool (resOk a b)) ∧ w' = w.alloc (.cells #[.int .i64 a, .int .i64 b] 71) := by
  cases h1 : inB a 0 1000000000
  · go_enter Tryz.func68, Tryz.ntmps68
    go_wp2_with (go_at_call 42; refine (l01In_any _ _ _ _).mono ?_; rintro e w' ⟨rfl, rfl⟩)
    go_ret
    exact ⟨ret_bool (by simp [resOk, h1]), rfl⟩
  · go_enter Tryz.func68, Tryz.ntmps68
    go_wp2_with (go_at_call 42; refine (l01In_any _ _ _ _).mono ?_; rintro e w' ⟨rfl, rfl⟩)
    go_ret
    exact ⟨ret_bool (by simp [resOk, h1]), rfl⟩
theorem specResOk_bel (a b : Int) (w : World) :
    Calls Tryz.prog 68 #[rv a b] w fun e w' => e = .returned (.bool (resOk a b)) ∧ Below w.heap.size w w' :=
  (specResOk_any a b w).mono fun e w' h => ⟨h.1, by rw [h.2]; exact below_al (Below.refl _ _) _⟩
end Go.Proofs.YthnkbdjombiodaaGreat

/-
  Two amounts together, or one less the other: in plain words.
-/
namespace Go.Proofs.YthnkbdjombiodaaGreat
open Go.RowKit
/-- a and b together, or a less b -/
def bothOk (s a b c d : Int) : Bool := resOk a b && resOk c d && resOk (a + s * c) (b + s * d)
def bothV (s a b c d : Int) : Value := if bothOk s a b c d then rv (a + s * c) (b + s * d) else rv 0 0
theorem both_no {s a b c d : Int} (h : bothOk s a b c d = false) : bothV s a b c d = rv 0 0 := by simp [bothV, h]
theorem both_yes {s a b c d : Int} (h : bothOk s a b c d = true) : bothV s a b c d = rv (a + s * c) (b + s * d) := by simp [bothV, h]
end Go.Proofs.YthnkbdjombiodaaGreat

/-
  Two amounts together, or one less the other: what the model's l02Both answers; a walk over the dump.
-/
namespace Go.Proofs.YthnkbdjombiodaaGreat
open Go.RowKit
set_option linter.unusedVariables false

set_option maxRecDepth 100000 in
set_option maxHeartbeats 1000000 in
theorem l02Both_any (a b c d s : Int) (w : World) (hs : s = 1 ∨ s = -1) :
    Calls Tryz.prog 107 #[rv a b, rv c d, .int .i64 s] w fun e w' => e = .returned (.tuple #[bothV s a b c d, .bool (bothOk s a b c d)]) ∧ Below w.heap.size w w' := by
  cases h1 : resOk a b
  · have hb : bothOk s a b c d = false := by simp [bothOk, h1]
    rw [both_no hb, hb]
    go_enter Tryz.func107, Tryz.ntmps107
    go_wp2_with (go_at_call 68; refine (specResOk_any _ _ _).mono ?_; rintro e w' ⟨rfl, rfl⟩)
    refine bodyPost_ret (v := .tuple #[rv 0 0, .bool false]) (by simp [results, Tryz.results107, go_sem]) rfl ⟨rfl, ?_⟩
    repeat (first | exact Below.refl _ _ | refine below_al ?_ _ | refine below_sc ?_ _ _ _ (by omega))
  · cases h2 : resOk c d
    · have hb : bothOk s a b c d = false := by simp [bothOk, h2]
      rw [both_no hb, hb]
      go_enter Tryz.func107, Tryz.ntmps107
      go_wp2_with (go_at_call 68; refine (specResOk_any _ _ _).mono ?_; rintro e w' ⟨rfl, rfl⟩)
      refine bodyPost_ret (v := .tuple #[rv 0 0, .bool false]) (by simp [results, Tryz.results107, go_sem]) rfl ⟨rfl, ?_⟩
      repeat (first | exact Below.refl _ _ | refine below_al ?_ _ | refine below_sc ?_ _ _ _ (by omega))
    · obtain ⟨q1, q2, q3, q4⟩ := resOk_bd h1
      obtain ⟨q5, q6, q7, q8⟩ := resOk_bd h2
      have m1 : IntKind.i64.wrap (s * c) = s * c := by rw [IntKind.wrap_i64]; rcases hs with rfl | rfl <;> omega
      have m2 : IntKind.i64.wrap (s * d) = s * d := by rw [IntKind.wrap_i64]; rcases hs with rfl | rfl <;> omega
      have m3 : IntKind.i64.wrap (a + s * c) = a + s * c := by rw [IntKind.wrap_i64]; rcases hs with rfl | rfl <;> omega
      have m4 : IntKind.i64.wrap (b + s * d) = b + s * d := by rw [IntKind.wrap_i64]; rcases hs with rfl | rfl <;> omega
      cases h3 : resOk (a + s * c) (b + s * d)
      · have hb : bothOk s a b c d = false := by simp [bothOk, h3]
        rw [both_no hb, hb]
        go_enter Tryz.func107, Tryz.ntmps107
        go_wp2_with (go_at_call 68; refine (specResOk_any _ _ _).mono ?_; rintro e w' ⟨rfl, rfl⟩)
        refine bodyPost_ret (v := .tuple #[rv 0 0, .bool false]) (by simp [results, Tryz.results107, go_sem]) rfl ⟨rfl, ?_⟩
        repeat (first | exact Below.refl _ _ | refine below_al ?_ _ | refine below_sc ?_ _ _ _ (by omega))
      · have hb : bothOk s a b c d = true := by simp [bothOk, h1, h2, h3]
        rw [both_yes hb, hb]
        go_enter Tryz.func107, Tryz.ntmps107
        go_wp2_with (go_at_call 68; refine (specResOk_any _ _ _).mono ?_; rintro e w' ⟨rfl, rfl⟩)
        refine bodyPost_ret (v := .tuple #[rv (a + s * c) (b + s * d), .bool true]) (by simp [results, Tryz.results107, go_sem]) rfl ⟨rfl, ?_⟩
        repeat (first | exact Below.refl _ _ | refine below_al ?_ _ | refine below_sc ?_ _ _ _ (by omega))
end Go.Proofs.YthnkbdjombiodaaGreat

/-
  Lists of amounts: in memory, and such as a call gathers, one behind the other; their sum, plain words.
-/
namespace Go.Proofs.YthnkbdjombiodaaGreat
open Go.RowKit
set_option linter.unusedVariables false

def RAt (w : World) (b p : Nat) (r : Int × Int) : Prop := w.cell? ⟨b, p, none⟩ = some (.int .i64 r.1) ∧ w.cell? ⟨b, p + 1, none⟩ = some (.int .i64 r.2)
def RRow (w : World) (ao : Option Addr) (len : Nat) (l : List (Int × Int)) : Prop :=
  len = l.length ∧ (len = 0 ∨ ∃ b off, ao = some ⟨b, off, none⟩ ∧ ∀ i (h : i < l.length), RAt w b (off + i * 2) l[i])
theorem RAt.lt {w : World} {b p : Nat} {r : Int × Int} (h : RAt w b p r) : b < w.heap.size := cell_lt h.1
theorem RAt.below {w w' : World} {b p : Nat} {r : Int × Int} (h : RAt w b p r) (hb : Below w.heap.size w w') : RAt w' b p r := ⟨(hb.cell h.lt).trans h.1, (hb.cell h.lt).trans h.2⟩
theorem RRow.below {w w' : World} {ao : Option Addr} {len : Nat} {l : List (Int × Int)} (h : RRow w ao len l) (hb : Below w.heap.size w w') : RRow w' ao len l := by
  obtain ⟨h1, h2⟩ := h
  refine ⟨h1, ?_⟩
  rcases h2 with h2 | ⟨b, off, h3, h4⟩
  · exact .inl h2
  · exact .inr ⟨b, off, h3, fun i h => (h4 i h).below hb⟩
theorem RRow.at {w : World} {ao : Option Addr} {len : Nat} {l : List (Int × Int)} (h : RRow w ao len l) {i : Nat} (hi : i < len) : ∃ b off, ao = some ⟨b, off, none⟩ ∧ ∀ (h : i < l.length), RAt w b (off + i * 2) l[i] := by
  obtain ⟨h1, h2⟩ := h
  rcases h2 with h2 | ⟨b, off, h3, h4⟩
  · omega
  · exact ⟨b, off, h3, fun hi => h4 i hi⟩
abbrev rcell (r : Int × Int) : List Value := [.int .i64 r.1, .int .i64 r.2]
def rcells : List (Int × Int) → List Value
  | [] => []
  | q :: t => rcell q ++ rcells t
theorem rcells_app (a : List (Int × Int)) (q : Int × Int) : rcells (a ++ [q]) = rcells a ++ rcell q := by
  induction a with
  | nil => rfl
  | cons x t ih => rw [List.cons_append, rcells, rcells, ih, List.append_assoc]
theorem rcells_at : ∀ (l : List (Int × Int)) (i : Nat) (h : i < l.length), (rcells l)[i * 2]? = some (.int .i64 l[i].1) ∧ (rcells l)[i * 2 + 1]? = some (.int .i64 l[i].2)
  | q :: t, 0, _ => ⟨rfl, rfl⟩
  | q :: t, i + 1, h => by
    have e := rcells_at t i (by simpa using h)
    have k : ∀ j, (rcells (q :: t))[(i + 1) * 2 + j]? = (rcells t)[i * 2 + j]? := fun j => by
      rw [rcells, show (i + 1) * 2 + j = (rcell q).length + (i * 2 + j) by simp; omega, List.getElem?_append_right (by omega)]
      congr 1
      omega
    have k0 := k 0
    simp only [Nat.add_zero] at k0
    rw [k0, k 1]
    simpa using e
/-- v is a list of these amounts, in memory of its own from block B on -/
def ROwn (B : Nat) (w : World) (v : Value) (l : List (Int × Int)) : Prop := w.ownsRow B 71 2 v l.length (rcells l)
theorem rown_nil (B : Nat) (w : World) : ROwn B w (.slice none 0 0) [] := World.ownsRow_nil _ _ _ _
theorem rown_empty (w : World) : ROwn w.heap.size (w.alloc (.cells #[] 71)) (.slice (some ⟨w.heap.size, 0, none⟩) 0 0) [] :=
  ⟨rfl, .inr ⟨w.heap.size, 0, #[], rfl, Nat.le_refl _, by show (w.heap.push _)[w.heap.size]? = _; simp, Nat.le_refl _, by unfold maxLen; omega, rfl, rfl⟩⟩
theorem ROwn.base {w : World} {B B' : Nat} {v : Value} {l : List (Int × Int)} (h : ROwn B w v l) (hb : B' ≤ B) : ROwn B' w v l := by
  obtain ⟨h1, h2⟩ := h
  refine ⟨h1, ?_⟩
  rcases h2 with h2 | ⟨g, cap, cur, a, b, c⟩
  · exact .inl h2
  · exact .inr ⟨g, cap, cur, a, Nat.le_trans hb b, c⟩
theorem ROwn.below {w w' : World} {B : Nat} {v : Value} {l : List (Int × Int)} (h : ROwn B w v l) (hb : Below w.heap.size w w') : ROwn B w' v l :=
  h.kept (grownBy_below (grownBy_refl w none) hb) (by by_cases e : v.ownBlock = none; exact .inl e; exact .inr e)
theorem ROwn.row {w : World} {B : Nat} {v : Value} {l : List (Int × Int)} (h : ROwn B w v l) : ∃ ao cap, v = .slice ao l.length cap ∧ RRow w ao l.length l ∧ l.length ≤ cap := by
  rcases h.2 with ⟨rfl, h0⟩ | ⟨g, cap, cur, rfl, h1, h2, h3, h4, h5, h6⟩
  · exact ⟨none, 0, by rw [h0], ⟨rfl, .inl h0⟩, by omega⟩
  · refine ⟨some ⟨g, 0, none⟩, cap, rfl, ⟨rfl, .inr ⟨g, 0, rfl, fun i hi => ?_⟩⟩, h3⟩
    obtain ⟨a, b⟩ := rcells_at l i hi
    have k : ∀ j (v : Value), j < l.length * 2 → (rcells l)[j]? = some v → w.cell? ⟨g, j, none⟩ = some v := fun j v hj hv => by
      rw [← h6, List.getElem?_take_of_lt hj] at hv
      simp [World.cell?, h2]
      simpa using hv
    unfold RAt
    rw [Nat.zero_add]
    exact ⟨k _ _ (by omega) a, k _ _ (by omega) b⟩
theorem rown_step {w wr w1 : World} {B : Nat} {v v' : Value} {l : List (Int × Int)} {q : Int × Int} {ob : Obj} (hb : Below B w wr) (hown : ROwn B wr v l)
    (h1 : w1.ownsRow B 71 2 v' (l.length + 1) (rcells l ++ rcell q)) (hg : (wr.alloc ob).grownBy w1 v.ownBlock) (hB : B ≤ wr.heap.size) :
    ROwn B w1 v' (l ++ [q]) ∧ Below B w w1 := by
  refine ⟨?_, (hb.alloc hB ob).grown hg (by simp; omega) ?_⟩
  · unfold ROwn
    rw [rcells_app, List.length_append]
    exact h1
  · intro k hk
    rcases hown.2 with ⟨rfl, _⟩ | ⟨g, cap, cur, rfl, hg', _⟩
    · simp [Value.ownBlock] at hk
    · simp [Value.ownBlock] at hk; omega
theorem Tryz.infoR : (Tryz.prog.info? 71).map (fun i => (i.zero, i.size, i.bytes)) = some (some (.agg #[.int .i64 0, .int .i64 0]), 2, 16) := by kernel_rfl

/-- what a list of amounts is together, and whether that is an amount -/
def sumFrom : List (Int × Int) → Int → Int → Int × Int × Bool
  | [], x, y => (x, y, true)
  | r :: t, x, y => if bothOk 1 x y r.1 r.2 = true then sumFrom t (x + 1 * r.1) (y + 1 * r.2) else (0, 0, false)
def sumR (l : List (Int × Int)) : Int × Int × Bool := sumFrom l 0 0
theorem sumFrom_step {l : List (Int × Int)} {k : Nat} (h : k < l.length) (x y : Int) : sumFrom (l.drop k) x y = if bothOk 1 x y l[k].1 l[k].2 = true then sumFrom (l.drop (k + 1)) (x + 1 * l[k].1) (y + 1 * l[k].2) else (0, 0, false) := by
  rw [List.drop_eq_getElem_cons h, sumFrom]
theorem sumFrom_end {l : List (Int × Int)} {k : Nat} (h : l.length ≤ k) (x y : Int) : sumFrom (l.drop k) x y = (x, y, true) := by
  rw [List.drop_of_length_le h]; rfl
end Go.Proofs.YthnkbdjombiodaaGreat

/-
  What all machines can: the list of their Caps; the worlds behind a state's box.
-/
namespace Go.Proofs.YthnkbdjombiodaaGreat
open Go.RowKit
set_option linter.unusedVariables false

def capsOf (l : List Mac) : List (Int × Int) := l.map (fun m => (m.mem, m.cpu))
theorem capsOf_step {l : List Mac} {k : Nat} (h : k < l.length) : capsOf (l.take (k + 1)) = capsOf (l.take k) ++ [(l[k].mem, l[k].cpu)] := by
  rw [List.take_succ_eq_append_getElem h, capsOf, List.map_append]; rfl

/-- the amounts of those containers that count -/
def usedL (p : Con → Bool) (l : List Con) : List (Int × Int) := (l.filter p).map (fun c => (c.mem, c.cpu))
theorem usedL_step {p : Con → Bool} {l : List Con} {k : Nat} (h : k < l.length) : usedL p (l.take (k + 1)) = if p l[k] = true then usedL p (l.take k) ++ [(l[k].mem, l[k].cpu)] else usedL p (l.take k) := by
  rw [List.take_succ_eq_append_getElem h]
  simp only [usedL, List.filter_append, List.map_append]
  by_cases hp : p l[k] = true <;> simp [hp]
/-- behind the box of a state and the result's variable -/
def capW (w : World) (c : Array Value) : World := (w.alloc (.cells c 29)).alloc (.cells #[.int .i64 0, .int .i64 0] 71)
theorem capW_size (w : World) (c : Array Value) : (capW w c).heap.size = w.heap.size + 1 + 1 := by simp only [capW, al_size]
theorem capW_below (w : World) (c : Array Value) : Below w.heap.size w (capW w c) := below_al (below_al (Below.refl _ w) _) _
theorem capW_var (w : World) (c : Array Value) : Var (capW w c) 71 (w.heap.size + 1) 0 0 := by
  have := var_new (w.alloc (.cells c 29)) 71 0 0
  rwa [al_size] at this
abbrev macobj (m : Mac) : Obj := .cells #[.string (bs m.name), .int .i64 m.mem, .int .i64 m.cpu, .int .i64 m.seen] 84

/-- behind the box of a state -/
def boxW (w : World) (c : Array Value) : World := w.alloc (.cells c 29)
theorem boxW_size (w : World) (c : Array Value) : (boxW w c).heap.size = w.heap.size + 1 := by simp only [boxW, al_size]
theorem boxW_below (w : World) (c : Array Value) : Below w.heap.size w (boxW w c) := below_al (Below.refl _ w) _
theorem boxW_blk (w : World) (c : Array Value) : Blk (boxW w c) w.heap.size c 29 := blk_new w c _
end Go.Proofs.YthnkbdjombiodaaGreat

/-
  The laws' own marks at a state that has nothing but queues; walks over the dump.
-/
namespace Go.Proofs.YthnkbdjombiodaaGreat
open Go.RowKit
set_option linter.unusedVariables false

/-- a state of queues alone, as memory and as what it says -/
abbrev newX (qo : Option Addr) (n c : Nat) : Sls := ⟨qo, n, c, none, 0, 0, none, 0, 0, none, 0, 0⟩
abbrev newSt (l : List Q) (ep nx se : Int) : St := ⟨l, 0, ep, nx, se, [], [], []⟩
theorem new_row {w : World} {qo : Option Addr} {n c : Nat} {l : List Q} (ep nx se : Int) (h : QRow w qo n l) : SRow w (newX qo n c) (newSt l ep nx se) := ⟨h, ⟨rfl, .inl rfl⟩, ⟨rfl, .inl rfl⟩, ⟨rfl, .inl rfl⟩⟩
theorem new_fit {l : List Q} (ep nx se : Int) (h : FitQ l) : FitSt (newSt l ep nx se) := ⟨h, ⟨by simp, by simp⟩, ⟨by simp, by simp⟩, ⟨by simp, by simp⟩⟩

set_option maxRecDepth 100000 in
set_option maxHeartbeats 1000000 in
theorem markAppS_nil (K : Int) (w : World) :
    Calls Tryz.prog 32 #[.slice none 0 0, .int .i64 K] w fun e w' => e = .returned (.int .i64 K) ∧ w = w' := by
  go_enter Tryz.func32, Tryz.ntmps32
  go_wp2
  go_loopw [1, 5] (fun s i wr => i = .int .i64 0 ∧ s = .int .i64 K ∧ wr = w) (fun _ _ _ => 0)
  case atStart => exact ⟨rfl, rfl, rfl⟩
  case round =>
    obtain ⟨rfl, rfl, rfl⟩ := hrel
    go_wp2
    go_ret
    exact ⟨rfl, rfl⟩

set_option maxRecDepth 100000 in
set_option maxHeartbeats 1000000 in
theorem markMachineS_nil (K : Int) (w : World) :
    Calls Tryz.prog 33 #[.slice none 0 0, .int .i64 K] w fun e w' => e = .returned (.int .i64 K) ∧ w = w' := by
  go_enter Tryz.func33, Tryz.ntmps33
  go_wp2
  go_loopw [1, 5] (fun s i wr => i = .int .i64 0 ∧ s = .int .i64 K ∧ wr = w) (fun _ _ _ => 0)
  case atStart => exact ⟨rfl, rfl, rfl⟩
  case round =>
    obtain ⟨rfl, rfl, rfl⟩ := hrel
    go_wp2
    go_ret
    exact ⟨rfl, rfl⟩

set_option maxRecDepth 100000 in
set_option maxHeartbeats 1000000 in
theorem markContS_nil (K : Int) (w : World) :
    Calls Tryz.prog 34 #[.slice none 0 0, .int .i64 K] w fun e w' => e = .returned (.int .i64 K) ∧ w = w' := by
  go_enter Tryz.func34, Tryz.ntmps34
  go_wp2
  go_loopw [1, 5] (fun s i wr => i = .int .i64 0 ∧ s = .int .i64 K ∧ wr = w) (fun _ _ _ => 0)
  case atStart => exact ⟨rfl, rfl, rfl⟩
  case round =>
    obtain ⟨rfl, rfl, rfl⟩ := hrel
    go_wp2
    go_ret
    exact ⟨rfl, rfl⟩

set_option maxRecDepth 100000 in
set_option maxHeartbeats 1000000 in
theorem heldAppS_nil (K : Int) (w : World) :
    Calls Tryz.prog 37 #[.slice none 0 0, .int .i64 K] w fun e w' => e = .returned (.int .i64 K) ∧ w = w' := by
  go_enter Tryz.func37, Tryz.ntmps37
  go_wp2
  go_loopw [1, 5] (fun s i wr => i = .int .i64 0 ∧ s = .int .i64 K ∧ wr = w) (fun _ _ _ => 0)
  case atStart => exact ⟨rfl, rfl, rfl⟩
  case round =>
    obtain ⟨rfl, rfl, rfl⟩ := hrel
    go_wp2
    go_ret
    exact ⟨rfl, rfl⟩

set_option maxRecDepth 100000 in
set_option maxHeartbeats 1000000 in
theorem heldMachineS_nil (K : Int) (w : World) :
    Calls Tryz.prog 38 #[.slice none 0 0, .int .i64 K] w fun e w' => e = .returned (.int .i64 K) ∧ w = w' := by
  go_enter Tryz.func38, Tryz.ntmps38
  go_wp2
  go_loopw [1, 5] (fun s i wr => i = .int .i64 0 ∧ s = .int .i64 K ∧ wr = w) (fun _ _ _ => 0)
  case atStart => exact ⟨rfl, rfl, rfl⟩
  case round =>
    obtain ⟨rfl, rfl, rfl⟩ := hrel
    go_wp2
    go_ret
    exact ⟨rfl, rfl⟩

set_option maxRecDepth 100000 in
set_option maxHeartbeats 1000000 in
theorem heldContS_nil (K : Int) (w : World) :
    Calls Tryz.prog 39 #[.slice none 0 0, .int .i64 K] w fun e w' => e = .returned (.int .i64 K) ∧ w = w' := by
  go_enter Tryz.func39, Tryz.ntmps39
  go_wp2
  go_loopw [1, 5] (fun s i wr => i = .int .i64 0 ∧ s = .int .i64 K ∧ wr = w) (fun _ _ _ => 0)
  case atStart => exact ⟨rfl, rfl, rfl⟩
  case round =>
    obtain ⟨rfl, rfl, rfl⟩ := hrel
    go_wp2
    go_ret
    exact ⟨rfl, rfl⟩

set_option maxRecDepth 100000 in
set_option maxHeartbeats 2000000 in
theorem markState_new (qo : Option Addr) (n c : Nat) (l : List Q) (ep nx se K : Int) (hK : ¬ K < 0) (w : World) (R : World → World → Prop)
    (hR : ∀ wx w1, Below w.heap.size w wx → R wx w1 → ∀ arr t, Blk wx w.heap.size arr t → Blk w1 w.heap.size arr t)
    (h : ∀ wx, Below w.heap.size w wx → w.heap.size < wx.heap.size → Calls Tryz.prog 10 #[.slice qo n c, .int .i64 1] wx fun e w' => e = .returned (.int .i64 K) ∧ R wx w') :
    Calls Tryz.prog 21 #[sv (newX qo n c) (newSt l ep nx se), .int .i64 1] w fun e w' => e = .returned (.int .i64 K) ∧ R (boxW w (svc (newX qo n c) (newSt l ep nx se))) w' := by
  have HK := hide (fun w1 hp => hR _ w1 (boxW_below w (svc (newX qo n c) (newSt l ep nx se))) hp (svc (newX qo n c) (newSt l ep nx se)) 29)
  have h' := h _ (boxW_below w (svc (newX qo n c) (newSt l ep nx se))) (by rw [boxW_size]; omega)
  have P0 := hide (boxW_blk w (svc (newX qo n c) (newSt l ep nx se)))
  have HB0 := hide (boxW_below w (svc (newX qo n c) (newSt l ep nx se)))
  have C0 := hide h'
  clear h h' hR
  go_enter Tryz.func21, Tryz.ntmps21
  go_wp2_with fail
  refine (unhide C0).mono ?_
  rintro e w1 ⟨rfl, hp⟩
  have P1 := hide (unhide HK w1 hp (unhide P0))
  have HP := hide hp
  obtain ⟨p5, p6, p7⟩ : _ ∧ _ ∧ _ := ⟨(unhide P1).at 5, (unhide P1).at 6, (unhide P1).at 7⟩
  simp at p5 p6 p7
  clear hp C0 P0
  go_wp2_with fail
  refine (markAppS_nil K _).mono ?_
  rintro e w2 ⟨rfl, rfl⟩
  go_wp2_with fail
  refine (markMachineS_nil K _).mono ?_
  rintro e w2 ⟨rfl, rfl⟩
  go_wp2_with fail
  refine (markContS_nil K _).mono ?_
  rintro e w2 ⟨rfl, rfl⟩
  go_wp2
  go_ret
  exact ⟨rfl, unhide HP⟩

set_option maxRecDepth 100000 in
set_option maxHeartbeats 2000000 in
theorem heldState_new (qo : Option Addr) (n c : Nat) (l : List Q) (ep nx se K : Int) (hK : ¬ K < 0) (w : World) (R : World → World → Prop)
    (hR : ∀ wx w1, Below w.heap.size w wx → R wx w1 → ∀ arr t, Blk wx w.heap.size arr t → Blk w1 w.heap.size arr t)
    (h : ∀ wx, Below w.heap.size w wx → w.heap.size < wx.heap.size → Calls Tryz.prog 36 #[.slice qo n c, .int .i64 1] wx fun e w' => e = .returned (.int .i64 K) ∧ R wx w') :
    Calls Tryz.prog 23 #[sv (newX qo n c) (newSt l ep nx se), .int .i64 1] w fun e w' => e = .returned (.int .i64 K) ∧ R (boxW w (svc (newX qo n c) (newSt l ep nx se))) w' := by
  have HK := hide (fun w1 hp => hR _ w1 (boxW_below w (svc (newX qo n c) (newSt l ep nx se))) hp (svc (newX qo n c) (newSt l ep nx se)) 29)
  have h' := h _ (boxW_below w (svc (newX qo n c) (newSt l ep nx se))) (by rw [boxW_size]; omega)
  have P0 := hide (boxW_blk w (svc (newX qo n c) (newSt l ep nx se)))
  have HB0 := hide (boxW_below w (svc (newX qo n c) (newSt l ep nx se)))
  have C0 := hide h'
  clear h h' hR
  go_enter Tryz.func23, Tryz.ntmps23
  go_wp2_with fail
  refine (unhide C0).mono ?_
  rintro e w1 ⟨rfl, hp⟩
  have P1 := hide (unhide HK w1 hp (unhide P0))
  have HP := hide hp
  obtain ⟨p5, p6, p7⟩ : _ ∧ _ ∧ _ := ⟨(unhide P1).at 5, (unhide P1).at 6, (unhide P1).at 7⟩
  simp at p5 p6 p7
  clear hp C0 P0
  go_wp2_with fail
  refine (heldAppS_nil K _).mono ?_
  rintro e w2 ⟨rfl, rfl⟩
  go_wp2_with fail
  refine (heldMachineS_nil K _).mono ?_
  rintro e w2 ⟨rfl, rfl⟩
  go_wp2_with fail
  refine (heldContS_nil K _).mono ?_
  rintro e w2 ⟨rfl, rfl⟩
  go_wp2
  go_ret
  exact ⟨rfl, unhide HP⟩
end Go.Proofs.YthnkbdjombiodaaGreat
