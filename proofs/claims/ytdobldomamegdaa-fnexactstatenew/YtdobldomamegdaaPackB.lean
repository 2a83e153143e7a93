/-
  Several texts of this claim in one: HeldQ, MarkZ, In, Res, BothM, Both, ROwn, Caps (pack.py put them together); each says in its own remark what is proved.
-/
import Derived.Test.YtdobldomamegdaaPackA
import Derived.Test.YtdobldomamegdaaEqQ
import Derived.Test.YtdobldomamegdaaBase
import Derived.Test.YtdobldomamegdaaResV
import Derived.Test.YtdobldomamegdaaStAll
import Derived.Laws.AppendOwn
/-
  The laws' own heldQueueS: the marks are found again; a walk over the dump.
-/
namespace Go.Proofs.Ytdobldomamegdaa
open Go.RowKit
set_option linter.unusedVariables false

/-- a queue stands at a place; of w0 nothing has turned -/
def QOne (w0 : World) (b p : Nat) (q : Q) (w : World) : Prop := QAt w b p q ∧ Below w0.heap.size w0 w
theorem QOne.call {w0 w w' : World} {b p : Nat} {q : Q} (h : QOne w0 b p q w) (hb : Below w.heap.size w w') : QOne w0 b p q w' := ⟨h.1.below hb, below_on h.2 hb⟩
theorem QOne.drew {w0 w : World} {b p : Nat} {q : Q} (h : QOne w0 b p q w) : QOne w0 b p q w.drew := h.call (Below.refl _ _).drew
theorem QOne.read (w0 : World) (b p : Nat) (q : Q) : ∀ wx, QOne w0 b p q wx → wx.cell? ⟨b, p, none⟩ = some (.string (bs q.name)) ∧ wx.cell? ⟨b, p + 1, none⟩ = some (.string (bs q.parent)) ∧ wx.cell? ⟨b, p + 2, none⟩ = some (.int .i64 q.due) ∧ wx.cell? ⟨b, p + 3, none⟩ = some (.int .i64 q.most) :=
  fun wx h => ⟨h.1.1, h.1.2.1, h.1.2.2.1, h.1.2.2.2⟩
set_option maxRecDepth 100000 in
set_option maxHeartbeats 2000000 in
theorem heldQueueS_any (g n c : Nat) (w : World) (h : QRow w (some ⟨g, 0, none⟩) n (marksQ n)) (hn : n ≤ 1048576) :
    Calls Try.prog 26 #[.slice (some ⟨g, 0, none⟩) n c, .int .i64 1] w fun e w' => e = .returned (.int .i64 (1 + 4 * (n : Int))) ∧ Below w.heap.size w w' := by
  have HR := hide h
  clear h
  go_enter Try.func26, Try.ntmps26
  go_wp2
  go_loopw [1, 5] (fun s i wr => ∃ (j : Nat) (k : Int), j ≤ n ∧ i = .int .i64 j ∧ s = .int .i64 k ∧ k = 1 + 4 * (j : Int) ∧ Hid (Below w.heap.size w wr)) (fun _ i _ => n - (intOf i).toNat)
  case atStart => exact ⟨0, 1, Nat.zero_le _, rfl, rfl, by omega, hide (Below.refl _ _)⟩
  case round =>
    obtain ⟨j, k, hj, rfl, rfl, hk, HB⟩ := hrel
    by_cases hlt : j < n
    · obtain ⟨b, off, e, hq⟩ := ((unhide HR).below (unhide HB)).at hlt
      simp only [Option.some.injEq, Addr.mk.injEq, and_true] at e
      obtain ⟨rfl, rfl⟩ := e
      have hqq := hq (by rw [marksQ_len]; exact hlt)
      rw [marksQ_at] at hqq
      have T0 : ∀ wx, Calls Try.prog 22 #[.int .i64 k] wx fun e w' => e = .returned (.string (bs (markQ j).name)) ∧ Below wx.heap.size wx w' := fun wx => by
        have := markText_int k wx (by omega) (by omega)
        rw [show k.toNat = 1 + 4 * j by omega] at this
        exact this
      have T1 : ∀ wx, Calls Try.prog 22 #[.int .i64 (k + 1)] wx fun e w' => e = .returned (.string (bs (markQ j).parent)) ∧ Below wx.heap.size wx w' := fun wx => by
        have := markText_int (k + 1) wx (by omega) (by omega)
        rw [show (k + 1).toNat = 1 + 4 * j + 1 by omega] at this
        exact this
      have hd : (markQ j).due = k + 1 + 1 := by rw [hk]; rfl
      have hm : (markQ j).most = k + 1 + 1 + 1 := by rw [hk]; rfl
      obtain ⟨q, hqe⟩ : ∃ q, markQ j = q := ⟨_, rfl⟩
      rw [hqe] at hqq T0 T1 hd hm
      have A0 := hide (show QOne w g (0 + j * 4) q wr from ⟨hqq, unhide HB⟩)
      have C0 := hide T0
      have C1 := hide T1
      have HK := hide hk
      have HD := hide hd
      have HM := hide hm
      have R := QOne.read w g (0 + j * 4) q
      simp only [Nat.zero_add] at A0 R
      have j0 : (0 : Int) ≤ j := by omega
      have j1 : (j : Int) < n := by omega
      have hk0 : 0 < k := by omega
      have hk1 : k ≤ 4194305 := by omega
      have hw1 : IntKind.i64.wrap (k + 1) = k + 1 := by rw [IntKind.wrap_i64]; omega
      clear hq hqq T0 T1 hqe hk hd hm
      go_wp2_with fail
      go_region_held3 (fun wx => QOne w g (j * 4) q wx)
        (first | (with_reducible assumption) | exact (unhide A0).drew | exact QOne.call (by assumption) (by assumption))
        (first
        | (go_at_call 22; refine (unhide C0 _).mono ?_; rintro e wt ⟨rfl, hb⟩; have SA := QOne.call (w0 := w) (b := g) (p := j * 4) (q := q) (by assumption) hb))
      have A1 := hide SA
      clear SA A0
      go_wp2_with fail
      go_region_held3 (fun wx => QOne w g (j * 4) q wx)
        (first | (with_reducible assumption) | exact (unhide A1).drew | exact QOne.call (by assumption) (by assumption))
        (first
        | (go_at_call 22; refine (unhide C1 _).mono ?_; rintro e wt2 ⟨rfl, hb⟩; have SA := QOne.call (w0 := w) (b := g) (p := j * 4) (q := q) (by assumption) hb))
      obtain ⟨_, _, r2, r3⟩ := R _ SA
      rw [unhide HD] at r2
      rw [unhide HM] at r3
      have HB2 := hide SA.2
      clear SA A1 R C0 C1
      go_wp2
      go_roundw
      case rel => exact ⟨j + 1, k + 1 + 1 + 1 + 1, by omega, by go_num, by go_num, by have := unhide HK; omega, HB2⟩
      case measure => simp [intOf]; omega
    · have hjn : j = n := by omega
      subst hjn
      go_wp2
      go_ret
      exact ⟨ret_int (by omega), unhide HB⟩
end Go.Proofs.Ytdobldomamegdaa

/-
  The laws' own marks at a list without a queue; walks over the dump.
-/
namespace Go.Proofs.Ytdobldomamegdaa
open Go.RowKit
set_option linter.unusedVariables false

set_option maxRecDepth 100000 in
set_option maxHeartbeats 1000000 in
theorem markQueueS_zero (ao : Option Addr) (c : Nat) (w : World) :
    Calls Try.prog 10 #[.slice ao 0 c, .int .i64 1] w fun e w' => e = .returned (.int .i64 1) ∧ w = w' := by
  go_enter Try.func10, Try.ntmps10
  go_wp2
  go_loopw [1, 5] (fun s i wr => i = .int .i64 0 ∧ s = .int .i64 1 ∧ wr = w) (fun _ _ _ => 0)
  case atStart => exact ⟨rfl, rfl, rfl⟩
  case round =>
    obtain ⟨rfl, rfl, rfl⟩ := hrel
    go_wp2
    go_ret
    exact ⟨rfl, rfl⟩
set_option maxRecDepth 100000 in
set_option maxHeartbeats 1000000 in
theorem heldQueueS_zero (ao : Option Addr) (c : Nat) (w : World) :
    Calls Try.prog 26 #[.slice ao 0 c, .int .i64 1] w fun e w' => e = .returned (.int .i64 1) ∧ w = w' := by
  go_enter Try.func26, Try.ntmps26
  go_wp2
  go_loopw [1, 5] (fun s i wr => i = .int .i64 0 ∧ s = .int .i64 1 ∧ wr = w) (fun _ _ _ => 0)
  case atStart => exact ⟨rfl, rfl, rfl⟩
  case round =>
    obtain ⟨rfl, rfl, rfl⟩ := hrel
    go_wp2
    go_ret
    exact ⟨rfl, rfl⟩
end Go.Proofs.Ytdobldomamegdaa

/-
  What the model's l01In answers: whether a number lies between two.
-/
namespace Go.Proofs.Ytdobldomamegdaa
open Go.RowKit

set_option maxHeartbeats 400000 in
theorem l01In_any (x a b : Int) (w : World) :
    Calls Try.prog 31 #[.int .i64 x, .int .i64 a, .int .i64 b] w fun e w' => e = .returned (.bool (inB x a b)) ∧ w = w' := by
  by_cases h1 : a ≤ x
  · by_cases h2 : x ≤ b
    · go_enter Try.func31, Try.ntmps31
      go_wp2
      go_ret
      exact ⟨ret_bool (inB_true h1 h2).symm, rfl⟩
    · go_enter Try.func31, Try.ntmps31
      go_wp2
      go_ret
      exact ⟨ret_bool (inB_false (by omega)).symm, rfl⟩
  · go_enter Try.func31, Try.ntmps31
    go_wp2
    go_ret
    exact ⟨ret_bool (inB_false (by omega)).symm, rfl⟩
end Go.Proofs.Ytdobldomamegdaa

/-
  What the model's ResOk answers; a walk over the dump.
-/
namespace Go.Proofs.Ytdobldomamegdaa
open Go.RowKit
set_option linter.unusedVariables false

set_option maxRecDepth 100000 in
set_option maxHeartbeats 400000 in
theorem specResOk_any (a b : Int) (w : World) :
    Calls Try.prog 56 #[rv a b] w fun e w' => e = .returned (.bool (resOk a b)) ∧ w' = w.alloc (.cells #[.int .i64 a, .int .i64 b] 56) := by
  cases h1 : inB a 0 1000000000
  · go_enter Try.func56, Try.ntmps56
    go_wp2_with (go_at_call 31; refine (l01In_any _ _ _ _).mono ?_; rintro e w' ⟨rfl, rfl⟩)
    go_ret
    exact ⟨ret_bool (by simp [resOk, h1]), rfl⟩
  · go_enter Try.func56, Try.ntmps56
    go_wp2_with (go_at_call 31; refine (l01In_any _ _ _ _).mono ?_; rintro e w' ⟨rfl, rfl⟩)
    go_ret
    exact ⟨ret_bool (by simp [resOk, h1]), rfl⟩
theorem specResOk_bel (a b : Int) (w : World) :
    Calls Try.prog 56 #[rv a b] w fun e w' => e = .returned (.bool (resOk a b)) ∧ Below w.heap.size w w' :=
  (specResOk_any a b w).mono fun e w' h => ⟨h.1, by rw [h.2]; exact below_al (Below.refl _ _) _⟩
end Go.Proofs.Ytdobldomamegdaa

/-
  Two amounts together, or one less the other: in plain words.
-/
namespace Go.Proofs.Ytdobldomamegdaa
open Go.RowKit
/-- a and b together, or a less b -/
def bothOk (s a b c d : Int) : Bool := resOk a b && resOk c d && resOk (a + s * c) (b + s * d)
def bothV (s a b c d : Int) : Value := if bothOk s a b c d then rv (a + s * c) (b + s * d) else rv 0 0
theorem both_no {s a b c d : Int} (h : bothOk s a b c d = false) : bothV s a b c d = rv 0 0 := by simp [bothV, h]
theorem both_yes {s a b c d : Int} (h : bothOk s a b c d = true) : bothV s a b c d = rv (a + s * c) (b + s * d) := by simp [bothV, h]
end Go.Proofs.Ytdobldomamegdaa

/-
  Two amounts together, or one less the other: what the model's l02Both answers; a walk over the dump.
-/
namespace Go.Proofs.Ytdobldomamegdaa
open Go.RowKit
set_option linter.unusedVariables false

set_option maxRecDepth 100000 in
set_option maxHeartbeats 1000000 in
theorem l02Both_any (a b c d s : Int) (w : World) (hs : s = 1 ∨ s = -1) :
    Calls Try.prog 95 #[rv a b, rv c d, .int .i64 s] w fun e w' => e = .returned (.tuple #[bothV s a b c d, .bool (bothOk s a b c d)]) ∧ Below w.heap.size w w' := by
  cases h1 : resOk a b
  · have hb : bothOk s a b c d = false := by simp [bothOk, h1]
    rw [both_no hb, hb]
    go_enter Try.func95, Try.ntmps95
    go_wp2_with (go_at_call 56; refine (specResOk_any _ _ _).mono ?_; rintro e w' ⟨rfl, rfl⟩)
    refine bodyPost_ret (v := .tuple #[rv 0 0, .bool false]) (by simp [results, Try.results95, go_sem]) rfl ⟨rfl, ?_⟩
    repeat (first | exact Below.refl _ _ | refine below_al ?_ _ | refine below_sc ?_ _ _ _ (by omega))
  · cases h2 : resOk c d
    · have hb : bothOk s a b c d = false := by simp [bothOk, h2]
      rw [both_no hb, hb]
      go_enter Try.func95, Try.ntmps95
      go_wp2_with (go_at_call 56; refine (specResOk_any _ _ _).mono ?_; rintro e w' ⟨rfl, rfl⟩)
      refine bodyPost_ret (v := .tuple #[rv 0 0, .bool false]) (by simp [results, Try.results95, go_sem]) rfl ⟨rfl, ?_⟩
      repeat (first | exact Below.refl _ _ | refine below_al ?_ _ | refine below_sc ?_ _ _ _ (by omega))
    · obtain ⟨q1, q2, q3, q4⟩ := resOk_bd h1
      obtain ⟨q5, q6, q7, q8⟩ := resOk_bd h2
      have m1 : IntKind.i64.wrap (s * c) = s * c := by rw [IntKind.wrap_i64]; rcases hs with rfl | rfl <;> omega
      have m2 : IntKind.i64.wrap (s * d) = s * d := by rw [IntKind.wrap_i64]; rcases hs with rfl | rfl <;> omega
      have m3 : IntKind.i64.wrap (a + s * c) = a + s * c := by rw [IntKind.wrap_i64]; rcases hs with rfl | rfl <;> omega
      have m4 : IntKind.i64.wrap (b + s * d) = b + s * d := by rw [IntKind.wrap_i64]; rcases hs with rfl | rfl <;> omega
      cases h3 : resOk (a + s * c) (b + s * d)
      · have hb : bothOk s a b c d = false := by simp [bothOk, h3]
        rw [both_no hb, hb]
        go_enter Try.func95, Try.ntmps95
        go_wp2_with (go_at_call 56; refine (specResOk_any _ _ _).mono ?_; rintro e w' ⟨rfl, rfl⟩)
        refine bodyPost_ret (v := .tuple #[rv 0 0, .bool false]) (by simp [results, Try.results95, go_sem]) rfl ⟨rfl, ?_⟩
        repeat (first | exact Below.refl _ _ | refine below_al ?_ _ | refine below_sc ?_ _ _ _ (by omega))
      · have hb : bothOk s a b c d = true := by simp [bothOk, h1, h2, h3]
        rw [both_yes hb, hb]
        go_enter Try.func95, Try.ntmps95
        go_wp2_with (go_at_call 56; refine (specResOk_any _ _ _).mono ?_; rintro e w' ⟨rfl, rfl⟩)
        refine bodyPost_ret (v := .tuple #[rv (a + s * c) (b + s * d), .bool true]) (by simp [results, Try.results95, go_sem]) rfl ⟨rfl, ?_⟩
        repeat (first | exact Below.refl _ _ | refine below_al ?_ _ | refine below_sc ?_ _ _ _ (by omega))
end Go.Proofs.Ytdobldomamegdaa

/-
  Lists of amounts: in memory, and such as a call gathers, one behind the other; their sum, plain words.
-/
namespace Go.Proofs.Ytdobldomamegdaa
open Go.RowKit
set_option linter.unusedVariables false

def RAt (w : World) (b p : Nat) (r : Int × Int) : Prop := w.cell? ⟨b, p, none⟩ = some (.int .i64 r.1) ∧ w.cell? ⟨b, p + 1, none⟩ = some (.int .i64 r.2)
def RRow (w : World) (ao : Option Addr) (len : Nat) (l : List (Int × Int)) : Prop :=
  len = l.length ∧ (len = 0 ∨ ∃ b off, ao = some ⟨b, off, none⟩ ∧ ∀ i (h : i < l.length), RAt w b (off + i * 2) l[i])
theorem RAt.lt {w : World} {b p : Nat} {r : Int × Int} (h : RAt w b p r) : b < w.heap.size := cell_lt h.1
theorem RAt.below {w w' : World} {b p : Nat} {r : Int × Int} (h : RAt w b p r) (hb : Below w.heap.size w w') : RAt w' b p r := ⟨(hb.cell h.lt).trans h.1, (hb.cell h.lt).trans h.2⟩
theorem RRow.below {w w' : World} {ao : Option Addr} {len : Nat} {l : List (Int × Int)} (h : RRow w ao len l) (hb : Below w.heap.size w w') : RRow w' ao len l := by
  obtain ⟨h1, h2⟩ := h
  refine ⟨h1, ?_⟩
  rcases h2 with h2 | ⟨b, off, h3, h4⟩
  · exact .inl h2
  · exact .inr ⟨b, off, h3, fun i h => (h4 i h).below hb⟩
theorem RRow.at {w : World} {ao : Option Addr} {len : Nat} {l : List (Int × Int)} (h : RRow w ao len l) {i : Nat} (hi : i < len) : ∃ b off, ao = some ⟨b, off, none⟩ ∧ ∀ (h : i < l.length), RAt w b (off + i * 2) l[i] := by
  obtain ⟨h1, h2⟩ := h
  rcases h2 with h2 | ⟨b, off, h3, h4⟩
  · omega
  · exact ⟨b, off, h3, fun hi => h4 i hi⟩
abbrev rcell (r : Int × Int) : List Value := [.int .i64 r.1, .int .i64 r.2]
def rcells : List (Int × Int) → List Value
  | [] => []
  | q :: t => rcell q ++ rcells t
theorem rcells_app (a : List (Int × Int)) (q : Int × Int) : rcells (a ++ [q]) = rcells a ++ rcell q := by
  induction a with
  | nil => rfl
  | cons x t ih => rw [List.cons_append, rcells, rcells, ih, List.append_assoc]
theorem rcells_at : ∀ (l : List (Int × Int)) (i : Nat) (h : i < l.length), (rcells l)[i * 2]? = some (.int .i64 l[i].1) ∧ (rcells l)[i * 2 + 1]? = some (.int .i64 l[i].2)
  | q :: t, 0, _ => ⟨rfl, rfl⟩
  | q :: t, i + 1, h => by
    have e := rcells_at t i (by simpa using h)
    have k : ∀ j, (rcells (q :: t))[(i + 1) * 2 + j]? = (rcells t)[i * 2 + j]? := fun j => by
      rw [rcells, show (i + 1) * 2 + j = (rcell q).length + (i * 2 + j) by simp; omega, List.getElem?_append_right (by omega)]
      congr 1
      omega
    have k0 := k 0
    simp only [Nat.add_zero] at k0
    rw [k0, k 1]
    simpa using e
/-- v is a list of these amounts, in memory of its own from block B on -/
def ROwn (B : Nat) (w : World) (v : Value) (l : List (Int × Int)) : Prop := w.ownsRow B 56 2 v l.length (rcells l)
theorem rown_nil (B : Nat) (w : World) : ROwn B w (.slice none 0 0) [] := World.ownsRow_nil _ _ _ _
theorem rown_empty (w : World) : ROwn w.heap.size (w.alloc (.cells #[] 56)) (.slice (some ⟨w.heap.size, 0, none⟩) 0 0) [] :=
  ⟨rfl, .inr ⟨w.heap.size, 0, #[], rfl, Nat.le_refl _, by show (w.heap.push _)[w.heap.size]? = _; simp, Nat.le_refl _, by unfold maxLen; omega, rfl, rfl⟩⟩
theorem ROwn.base {w : World} {B B' : Nat} {v : Value} {l : List (Int × Int)} (h : ROwn B w v l) (hb : B' ≤ B) : ROwn B' w v l := by
  obtain ⟨h1, h2⟩ := h
  refine ⟨h1, ?_⟩
  rcases h2 with h2 | ⟨g, cap, cur, a, b, c⟩
  · exact .inl h2
  · exact .inr ⟨g, cap, cur, a, Nat.le_trans hb b, c⟩
theorem ROwn.below {w w' : World} {B : Nat} {v : Value} {l : List (Int × Int)} (h : ROwn B w v l) (hb : Below w.heap.size w w') : ROwn B w' v l :=
  h.kept (grownBy_below (grownBy_refl w none) hb) (by by_cases e : v.ownBlock = none; exact .inl e; exact .inr e)
theorem ROwn.row {w : World} {B : Nat} {v : Value} {l : List (Int × Int)} (h : ROwn B w v l) : ∃ ao cap, v = .slice ao l.length cap ∧ RRow w ao l.length l ∧ l.length ≤ cap := by
  rcases h.2 with ⟨rfl, h0⟩ | ⟨g, cap, cur, rfl, h1, h2, h3, h4, h5, h6⟩
  · exact ⟨none, 0, by rw [h0], ⟨rfl, .inl h0⟩, by omega⟩
  · refine ⟨some ⟨g, 0, none⟩, cap, rfl, ⟨rfl, .inr ⟨g, 0, rfl, fun i hi => ?_⟩⟩, h3⟩
    obtain ⟨a, b⟩ := rcells_at l i hi
    have k : ∀ j (v : Value), j < l.length * 2 → (rcells l)[j]? = some v → w.cell? ⟨g, j, none⟩ = some v := fun j v hj hv => by
      rw [← h6, List.getElem?_take_of_lt hj] at hv
      simp [World.cell?, h2]
      simpa using hv
    unfold RAt
    rw [Nat.zero_add]
    exact ⟨k _ _ (by omega) a, k _ _ (by omega) b⟩
theorem rown_step {w wr w1 : World} {B : Nat} {v v' : Value} {l : List (Int × Int)} {q : Int × Int} {ob : Obj} (hb : Below B w wr) (hown : ROwn B wr v l)
    (h1 : w1.ownsRow B 56 2 v' (l.length + 1) (rcells l ++ rcell q)) (hg : (wr.alloc ob).grownBy w1 v.ownBlock) (hB : B ≤ wr.heap.size) :
    ROwn B w1 v' (l ++ [q]) ∧ Below B w w1 := by
  refine ⟨?_, (hb.alloc hB ob).grown hg (by simp; omega) ?_⟩
  · unfold ROwn
    rw [rcells_app, List.length_append]
    exact h1
  · intro k hk
    rcases hown.2 with ⟨rfl, _⟩ | ⟨g, cap, cur, rfl, hg', _⟩
    · simp [Value.ownBlock] at hk
    · simp [Value.ownBlock] at hk; omega
theorem Try.infoR : (Try.prog.info? 56).map (fun i => (i.zero, i.size, i.bytes)) = some (some (.agg #[.int .i64 0, .int .i64 0]), 2, 16) := by kernel_rfl

/-- what a list of amounts is together, and whether that is an amount -/
def sumFrom : List (Int × Int) → Int → Int → Int × Int × Bool
  | [], x, y => (x, y, true)
  | r :: t, x, y => if bothOk 1 x y r.1 r.2 = true then sumFrom t (x + 1 * r.1) (y + 1 * r.2) else (0, 0, false)
def sumR (l : List (Int × Int)) : Int × Int × Bool := sumFrom l 0 0
theorem sumFrom_step {l : List (Int × Int)} {k : Nat} (h : k < l.length) (x y : Int) : sumFrom (l.drop k) x y = if bothOk 1 x y l[k].1 l[k].2 = true then sumFrom (l.drop (k + 1)) (x + 1 * l[k].1) (y + 1 * l[k].2) else (0, 0, false) := by
  rw [List.drop_eq_getElem_cons h, sumFrom]
theorem sumFrom_end {l : List (Int × Int)} {k : Nat} (h : l.length ≤ k) (x y : Int) : sumFrom (l.drop k) x y = (x, y, true) := by
  rw [List.drop_of_length_le h]; rfl
end Go.Proofs.Ytdobldomamegdaa

/-
  What all machines can: the list of their Caps; the worlds behind a state's box.
-/
namespace Go.Proofs.Ytdobldomamegdaa
open Go.RowKit
set_option linter.unusedVariables false

def capsOf (l : List Mac) : List (Int × Int) := l.map (fun m => (m.mem, m.cpu))
theorem capsOf_step {l : List Mac} {k : Nat} (h : k < l.length) : capsOf (l.take (k + 1)) = capsOf (l.take k) ++ [(l[k].mem, l[k].cpu)] := by
  rw [List.take_succ_eq_append_getElem h, capsOf, List.map_append]; rfl

/-- the amounts of those containers that count -/
def usedL (p : Con → Bool) (l : List Con) : List (Int × Int) := (l.filter p).map (fun c => (c.mem, c.cpu))
theorem usedL_step {p : Con → Bool} {l : List Con} {k : Nat} (h : k < l.length) : usedL p (l.take (k + 1)) = if p l[k] = true then usedL p (l.take k) ++ [(l[k].mem, l[k].cpu)] else usedL p (l.take k) := by
  rw [List.take_succ_eq_append_getElem h]
  simp only [usedL, List.filter_append, List.map_append]
  by_cases hp : p l[k] = true <;> simp [hp]
/-- behind the box of a state and the result's variable -/
def capW (w : World) (c : Array Value) : World := (w.alloc (.cells c 29)).alloc (.cells #[.int .i64 0, .int .i64 0] 56)
theorem capW_size (w : World) (c : Array Value) : (capW w c).heap.size = w.heap.size + 1 + 1 := by simp only [capW, al_size]
theorem capW_below (w : World) (c : Array Value) : Below w.heap.size w (capW w c) := below_al (below_al (Below.refl _ w) _) _
theorem capW_var (w : World) (c : Array Value) : Var (capW w c) 56 (w.heap.size + 1) 0 0 := by
  have := var_new (w.alloc (.cells c 29)) 56 0 0
  rwa [al_size] at this
abbrev macobj (m : Mac) : Obj := .cells #[.string (bs m.name), .int .i64 m.mem, .int .i64 m.cpu, .int .i64 m.seen] 69

/-- behind the box of a state -/
def boxW (w : World) (c : Array Value) : World := w.alloc (.cells c 29)
theorem boxW_size (w : World) (c : Array Value) : (boxW w c).heap.size = w.heap.size + 1 := by simp only [boxW, al_size]
theorem boxW_below (w : World) (c : Array Value) : Below w.heap.size w (boxW w c) := below_al (Below.refl _ w) _
theorem boxW_blk (w : World) (c : Array Value) : Blk (boxW w c) w.heap.size c 29 := blk_new w c _
end Go.Proofs.Ytdobldomamegdaa
