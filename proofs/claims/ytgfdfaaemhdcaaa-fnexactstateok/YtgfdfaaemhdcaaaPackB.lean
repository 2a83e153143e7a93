/-
  Several texts of this claim in one: BothM, Both, ROwn, PairI, OrI, AddI, SumI4, Caps (pack.py put them together); each says in its own remark what is proved.
-/
import Derived.Test.YtgfdfaaemhdcaaaResV
import Derived.Test.YtgfdfaaemhdcaaaPackA
import Derived.Test.YtgfdfaaemhdcaaaStAll
import Derived.Laws.AppendOwn
/-
  Two amounts together, or one less the other: in plain words.
-/
namespace Go.Proofs.Ytgfdfaaemhdcaaa
open Go.RowKit
/-- a and b together, or a less b -/
def bothOk (s a b c d : Int) : Bool := resOk a b && resOk c d && resOk (a + s * c) (b + s * d)
def bothV (s a b c d : Int) : Value := if bothOk s a b c d then rv (a + s * c) (b + s * d) else rv 0 0
theorem both_no {s a b c d : Int} (h : bothOk s a b c d = false) : bothV s a b c d = rv 0 0 := by simp [bothV, h]
theorem both_yes {s a b c d : Int} (h : bothOk s a b c d = true) : bothV s a b c d = rv (a + s * c) (b + s * d) := by simp [bothV, h]
end Go.Proofs.Ytgfdfaaemhdcaaa

/-
  Two amounts together, or one less the other: what the model's l02Both answers; a walk over the dump.
-/
namespace Go.Proofs.Ytgfdfaaemhdcaaa
open Go.RowKit
set_option linter.unusedVariables false

set_option maxRecDepth 100000 in
set_option maxHeartbeats 1000000 in
theorem l02Both_any (a b c d s : Int) (w : World) (hs : s = 1 ∨ s = -1) :
    Calls Try.prog 93 #[rv a b, rv c d, .int .i64 s] w fun e w' => e = .returned (.tuple #[bothV s a b c d, .bool (bothOk s a b c d)]) ∧ Below w.heap.size w w' := by
  cases h1 : resOk a b
  · have hb : bothOk s a b c d = false := by simp [bothOk, h1]
    rw [both_no hb, hb]
    go_enter Try.func93, Try.ntmps93
    go_wp2_with (go_at_call 44; refine (specResOk_any _ _ _).mono ?_; rintro e w' ⟨rfl, rfl⟩)
    refine bodyPost_ret (v := .tuple #[rv 0 0, .bool false]) (by simp [results, Try.results93, go_sem]) rfl ⟨rfl, ?_⟩
    repeat (first | exact Below.refl _ _ | refine below_al ?_ _ | refine below_sc ?_ _ _ _ (by omega))
  · cases h2 : resOk c d
    · have hb : bothOk s a b c d = false := by simp [bothOk, h2]
      rw [both_no hb, hb]
      go_enter Try.func93, Try.ntmps93
      go_wp2_with (go_at_call 44; refine (specResOk_any _ _ _).mono ?_; rintro e w' ⟨rfl, rfl⟩)
      refine bodyPost_ret (v := .tuple #[rv 0 0, .bool false]) (by simp [results, Try.results93, go_sem]) rfl ⟨rfl, ?_⟩
      repeat (first | exact Below.refl _ _ | refine below_al ?_ _ | refine below_sc ?_ _ _ _ (by omega))
    · obtain ⟨q1, q2, q3, q4⟩ := resOk_bd h1
      obtain ⟨q5, q6, q7, q8⟩ := resOk_bd h2
      have m1 : IntKind.i64.wrap (s * c) = s * c := by rw [IntKind.wrap_i64]; rcases hs with rfl | rfl <;> omega
      have m2 : IntKind.i64.wrap (s * d) = s * d := by rw [IntKind.wrap_i64]; rcases hs with rfl | rfl <;> omega
      have m3 : IntKind.i64.wrap (a + s * c) = a + s * c := by rw [IntKind.wrap_i64]; rcases hs with rfl | rfl <;> omega
      have m4 : IntKind.i64.wrap (b + s * d) = b + s * d := by rw [IntKind.wrap_i64]; rcases hs with rfl | rfl <;> omega
      cases h3 : resOk (a + s * c) (b + s * d)
      · have hb : bothOk s a b c d = false := by simp [bothOk, h3]
        rw [both_no hb, hb]
        go_enter Try.func93, Try.ntmps93
        go_wp2_with (go_at_call 44; refine (specResOk_any _ _ _).mono ?_; rintro e w' ⟨rfl, rfl⟩)
        refine bodyPost_ret (v := .tuple #[rv 0 0, .bool false]) (by simp [results, Try.results93, go_sem]) rfl ⟨rfl, ?_⟩
        repeat (first | exact Below.refl _ _ | refine below_al ?_ _ | refine below_sc ?_ _ _ _ (by omega))
      · have hb : bothOk s a b c d = true := by simp [bothOk, h1, h2, h3]
        rw [both_yes hb, hb]
        go_enter Try.func93, Try.ntmps93
        go_wp2_with (go_at_call 44; refine (specResOk_any _ _ _).mono ?_; rintro e w' ⟨rfl, rfl⟩)
        refine bodyPost_ret (v := .tuple #[rv (a + s * c) (b + s * d), .bool true]) (by simp [results, Try.results93, go_sem]) rfl ⟨rfl, ?_⟩
        repeat (first | exact Below.refl _ _ | refine below_al ?_ _ | refine below_sc ?_ _ _ _ (by omega))
end Go.Proofs.Ytgfdfaaemhdcaaa

/-
  Lists of amounts: in memory, and such as a call gathers, one behind the other; their sum, plain words.
-/
namespace Go.Proofs.Ytgfdfaaemhdcaaa
open Go.RowKit
set_option linter.unusedVariables false

def RAt (w : World) (b p : Nat) (r : Int × Int) : Prop := w.cell? ⟨b, p, none⟩ = some (.int .i64 r.1) ∧ w.cell? ⟨b, p + 1, none⟩ = some (.int .i64 r.2)
def RRow (w : World) (ao : Option Addr) (len : Nat) (l : List (Int × Int)) : Prop :=
  len = l.length ∧ (len = 0 ∨ ∃ b off, ao = some ⟨b, off, none⟩ ∧ ∀ i (h : i < l.length), RAt w b (off + i * 2) l[i])
theorem RAt.lt {w : World} {b p : Nat} {r : Int × Int} (h : RAt w b p r) : b < w.heap.size := cell_lt h.1
theorem RAt.below {w w' : World} {b p : Nat} {r : Int × Int} (h : RAt w b p r) (hb : Below w.heap.size w w') : RAt w' b p r := ⟨(hb.cell h.lt).trans h.1, (hb.cell h.lt).trans h.2⟩
theorem RRow.below {w w' : World} {ao : Option Addr} {len : Nat} {l : List (Int × Int)} (h : RRow w ao len l) (hb : Below w.heap.size w w') : RRow w' ao len l := by
  obtain ⟨h1, h2⟩ := h
  refine ⟨h1, ?_⟩
  rcases h2 with h2 | ⟨b, off, h3, h4⟩
  · exact .inl h2
  · exact .inr ⟨b, off, h3, fun i h => (h4 i h).below hb⟩
theorem RRow.at {w : World} {ao : Option Addr} {len : Nat} {l : List (Int × Int)} (h : RRow w ao len l) {i : Nat} (hi : i < len) : ∃ b off, ao = some ⟨b, off, none⟩ ∧ ∀ (h : i < l.length), RAt w b (off + i * 2) l[i] := by
  obtain ⟨h1, h2⟩ := h
  rcases h2 with h2 | ⟨b, off, h3, h4⟩
  · omega
  · exact ⟨b, off, h3, fun hi => h4 i hi⟩
abbrev rcell (r : Int × Int) : List Value := [.int .i64 r.1, .int .i64 r.2]
def rcells : List (Int × Int) → List Value
  | [] => []
  | q :: t => rcell q ++ rcells t
theorem rcells_app (a : List (Int × Int)) (q : Int × Int) : rcells (a ++ [q]) = rcells a ++ rcell q := by
  induction a with
  | nil => rfl
  | cons x t ih => rw [List.cons_append, rcells, rcells, ih, List.append_assoc]
theorem rcells_at : ∀ (l : List (Int × Int)) (i : Nat) (h : i < l.length), (rcells l)[i * 2]? = some (.int .i64 l[i].1) ∧ (rcells l)[i * 2 + 1]? = some (.int .i64 l[i].2)
  | q :: t, 0, _ => ⟨rfl, rfl⟩
  | q :: t, i + 1, h => by
    have e := rcells_at t i (by simpa using h)
    have k : ∀ j, (rcells (q :: t))[(i + 1) * 2 + j]? = (rcells t)[i * 2 + j]? := fun j => by
      rw [rcells, show (i + 1) * 2 + j = (rcell q).length + (i * 2 + j) by simp; omega, List.getElem?_append_right (by omega)]
      congr 1
      omega
    have k0 := k 0
    simp only [Nat.add_zero] at k0
    rw [k0, k 1]
    simpa using e
/-- v is a list of these amounts, in memory of its own from block B on -/
def ROwn (B : Nat) (w : World) (v : Value) (l : List (Int × Int)) : Prop := w.ownsRow B 46 2 v l.length (rcells l)
theorem rown_nil (B : Nat) (w : World) : ROwn B w (.slice none 0 0) [] := World.ownsRow_nil _ _ _ _
theorem rown_empty (w : World) : ROwn w.heap.size (w.alloc (.cells #[] 46)) (.slice (some ⟨w.heap.size, 0, none⟩) 0 0) [] :=
  ⟨rfl, .inr ⟨w.heap.size, 0, #[], rfl, Nat.le_refl _, by show (w.heap.push _)[w.heap.size]? = _; simp, Nat.le_refl _, by unfold maxLen; omega, rfl, rfl⟩⟩
theorem ROwn.base {w : World} {B B' : Nat} {v : Value} {l : List (Int × Int)} (h : ROwn B w v l) (hb : B' ≤ B) : ROwn B' w v l := by
  obtain ⟨h1, h2⟩ := h
  refine ⟨h1, ?_⟩
  rcases h2 with h2 | ⟨g, cap, cur, a, b, c⟩
  · exact .inl h2
  · exact .inr ⟨g, cap, cur, a, Nat.le_trans hb b, c⟩
theorem ROwn.below {w w' : World} {B : Nat} {v : Value} {l : List (Int × Int)} (h : ROwn B w v l) (hb : Below w.heap.size w w') : ROwn B w' v l :=
  h.kept (grownBy_below (grownBy_refl w none) hb) (by by_cases e : v.ownBlock = none; exact .inl e; exact .inr e)
theorem ROwn.row {w : World} {B : Nat} {v : Value} {l : List (Int × Int)} (h : ROwn B w v l) : ∃ ao cap, v = .slice ao l.length cap ∧ RRow w ao l.length l ∧ l.length ≤ cap := by
  rcases h.2 with ⟨rfl, h0⟩ | ⟨g, cap, cur, rfl, h1, h2, h3, h4, h5, h6⟩
  · exact ⟨none, 0, by rw [h0], ⟨rfl, .inl h0⟩, by omega⟩
  · refine ⟨some ⟨g, 0, none⟩, cap, rfl, ⟨rfl, .inr ⟨g, 0, rfl, fun i hi => ?_⟩⟩, h3⟩
    obtain ⟨a, b⟩ := rcells_at l i hi
    have k : ∀ j (v : Value), j < l.length * 2 → (rcells l)[j]? = some v → w.cell? ⟨g, j, none⟩ = some v := fun j v hj hv => by
      rw [← h6, List.getElem?_take_of_lt hj] at hv
      simp [World.cell?, h2]
      simpa using hv
    unfold RAt
    rw [Nat.zero_add]
    exact ⟨k _ _ (by omega) a, k _ _ (by omega) b⟩
theorem rown_step {w wr w1 : World} {B : Nat} {v v' : Value} {l : List (Int × Int)} {q : Int × Int} {ob : Obj} (hb : Below B w wr) (hown : ROwn B wr v l)
    (h1 : w1.ownsRow B 46 2 v' (l.length + 1) (rcells l ++ rcell q)) (hg : (wr.alloc ob).grownBy w1 v.ownBlock) (hB : B ≤ wr.heap.size) :
    ROwn B w1 v' (l ++ [q]) ∧ Below B w w1 := by
  refine ⟨?_, (hb.alloc hB ob).grown hg (by simp; omega) ?_⟩
  · unfold ROwn
    rw [rcells_app, List.length_append]
    exact h1
  · intro k hk
    rcases hown.2 with ⟨rfl, _⟩ | ⟨g, cap, cur, rfl, hg', _⟩
    · simp [Value.ownBlock] at hk
    · simp [Value.ownBlock] at hk; omega
theorem Try.infoR : (Try.prog.info? 46).map (fun i => (i.zero, i.size, i.bytes)) = some (some (.agg #[.int .i64 0, .int .i64 0]), 2, 16) := by kernel_rfl

/-- what a list of amounts is together, and whether that is an amount -/
def sumFrom : List (Int × Int) → Int → Int → Int × Int × Bool
  | [], x, y => (x, y, true)
  | r :: t, x, y => if bothOk 1 x y r.1 r.2 = true then sumFrom t (x + 1 * r.1) (y + 1 * r.2) else (0, 0, false)
def sumR (l : List (Int × Int)) : Int × Int × Bool := sumFrom l 0 0
theorem sumFrom_step {l : List (Int × Int)} {k : Nat} (h : k < l.length) (x y : Int) : sumFrom (l.drop k) x y = if bothOk 1 x y l[k].1 l[k].2 = true then sumFrom (l.drop (k + 1)) (x + 1 * l[k].1) (y + 1 * l[k].2) else (0, 0, false) := by
  rw [List.drop_eq_getElem_cons h, sumFrom]
theorem sumFrom_end {l : List (Int × Int)} {k : Nat} (h : l.length ≤ k) (x y : Int) : sumFrom (l.drop k) x y = (x, y, true) := by
  rw [List.drop_of_length_le h]; rfl
end Go.Proofs.Ytgfdfaaemhdcaaa

/-
  Two amounts at once, and an amount or nothing; walks over the dump.
-/
namespace Go.Proofs.Ytgfdfaaemhdcaaa
open Go.RowKit
set_option linter.unusedVariables false

set_option maxRecDepth 100000 in
set_option maxHeartbeats 1000000 in
theorem pairOk_any (a b c d : Int) (w : World) :
    Calls Try.prog 86 #[pv a b c d] w fun e w' => e = .returned (.bool (resOk a b && resOk c d)) ∧ Below w.heap.size w w' := by
  cases h1 : resOk a b
  · go_enter Try.func86, Try.ntmps86
    go_wp2_with (go_at_call 88; refine (ok_any _ _ _).mono ?_; rintro e w' ⟨rfl, rfl⟩)
    go_ret
    refine ⟨rfl, ?_⟩
    repeat (first | exact Below.refl _ _ | refine below_al ?_ _ | refine Below.drew ?_ | refine below_sc ?_ _ _ _ (by omega))
  · go_enter Try.func86, Try.ntmps86
    go_wp2_with (go_at_call 88; refine (ok_any _ _ _).mono ?_; rintro e w' ⟨rfl, rfl⟩)
    go_ret
    refine ⟨rfl, ?_⟩
    repeat (first | exact Below.refl _ _ | refine below_al ?_ _ | refine Below.drew ?_ | refine below_sc ?_ _ _ _ (by omega))
end Go.Proofs.Ytgfdfaaemhdcaaa

/-
  An amount, or nothing where it is none; a walk over the dump.
-/
namespace Go.Proofs.Ytgfdfaaemhdcaaa
open Go.RowKit
set_option linter.unusedVariables false

def orV (a b : Int) : Value := if resOk a b then rv a b else rv 0 0
set_option maxRecDepth 100000 in
set_option maxHeartbeats 1000000 in
theorem or_any (a b : Int) (w : World) :
    Calls Try.prog 87 #[rv a b] w fun e w' => e = .returned (.tuple #[orV a b, .bool (resOk a b)]) ∧ Below w.heap.size w w' := by
  cases h1 : resOk a b
  · rw [show orV a b = rv 0 0 by simp [orV, h1]]
    go_enter Try.func87, Try.ntmps87
    go_wp2_with (go_at_call 88; refine (ok_any _ _ _).mono ?_; rintro e w' ⟨rfl, rfl⟩)
    refine bodyPost_ret (v := .tuple #[rv 0 0, .bool false]) (by simp [results, Try.results87, go_sem]) rfl ⟨rfl, ?_⟩
    repeat (first | exact Below.refl _ _ | refine below_al ?_ _ | refine Below.drew ?_ | refine below_sc ?_ _ _ _ (by omega))
  · rw [show orV a b = rv a b by simp [orV, h1]]
    go_enter Try.func87, Try.ntmps87
    go_wp2_with (go_at_call 88; refine (ok_any _ _ _).mono ?_; rintro e w' ⟨rfl, rfl⟩)
    refine bodyPost_ret (v := .tuple #[rv a b, .bool true]) (by simp [results, Try.results87, go_sem]) rfl ⟨rfl, ?_⟩
    repeat (first | exact Below.refl _ _ | refine below_al ?_ _ | refine Below.drew ?_ | refine below_sc ?_ _ _ _ (by omega))
end Go.Proofs.Ytgfdfaaemhdcaaa

/-
  What the program's Add answers; a walk over the dump.
-/
namespace Go.Proofs.Ytgfdfaaemhdcaaa
open Go.RowKit
set_option linter.unusedVariables false

set_option maxRecDepth 100000 in
set_option maxHeartbeats 1000000 in
theorem implAdd_any (a b c d : Int) (w : World) :
    Calls Try.prog 98 #[rv a b, rv c d] w fun e w' => e = .returned (.tuple #[bothV 1 a b c d, .bool (bothOk 1 a b c d)]) ∧ Below w.heap.size w w' := by
  have V1 := ((var_new w 46 a b).al (.cells #[.int .i64 c, .int .i64 d] 46)).al (.cells #[.int .i64 0, .int .i64 0] 46)
  have V2 := (var_new2 w 46 46 a b c d).al (.cells #[.int .i64 0, .int .i64 0] 46)
  have V3 := var_new2 (w.alloc (.cells #[.int .i64 a, .int .i64 b] 46)) 46 46 c d 0 0
  have B3 := below_al (below_al (below_al (Below.refl _ w) (.cells #[.int .i64 a, .int .i64 b] 46)) (.cells #[.int .i64 c, .int .i64 d] 46)) (.cells #[.int .i64 0, .int .i64 0] 46)
  simp at V3
  have HV1 := hide V1
  have HV2 := hide V2
  have HV3 := hide V3
  have HB3 := hide B3
  have hc := hide (pairOk_any a b c d)
  clear V1 V2 V3 B3
  cases h0 : resOk a b && resOk c d
  · have hb : bothOk 1 a b c d = false := by rw [bothOk, h0]; rfl
    rw [both_no hb, hb]
    go_enter Try.func98, Try.ntmps98
    go_wp2_with fail
    refine (unhide hc _).mono ?_
    rw [h0]
    rintro e w1 ⟨rfl, hb⟩
    have V3 := (unhide HV3).below hb
    have k2 := V3.f 0
    have k3 := V3.f 1
    have k0 := V3.c0
    have k1 := V3.c1
    have k4 := V3.s0 (.int .i64 0)
    have k5 := V3.s1 (.int .i64 0) (.int .i64 0)
    have HB := hide (below_on (unhide HB3) hb)
    clear hb HV1 HV2 HV3 HB3 V3 hc
    go_wp2
    refine bodyPost_ret (v := .tuple #[rv 0 0, .bool false]) (by simp [results, Try.results98, go_sem, k4, k5]) rfl ⟨rfl, ?_⟩
    repeat (first | exact unhide HB | refine below_al ?_ _ | refine Below.drew ?_ | refine below_sc ?_ _ _ _ (by omega))
  · have h0' := h0
    simp only [Bool.and_eq_true] at h0'
    obtain ⟨q1, q2, q3, q4⟩ := resOk_bd h0'.1
    obtain ⟨q5, q6, q7, q8⟩ := resOk_bd h0'.2
    obtain ⟨x, hx⟩ : ∃ x, a + c = x := ⟨_, rfl⟩
    obtain ⟨y, hy⟩ : ∃ y, b + d = y := ⟨_, rfl⟩
    have m3 : IntKind.i64.wrap (a + c) = x := by rw [IntKind.wrap_i64]; omega
    have m4 : IntKind.i64.wrap (b + d) = y := by rw [IntKind.wrap_i64]; omega
    have e1 : bothOk 1 a b c d = resOk x y := by rw [bothOk, h0, show a + 1 * c = x by omega, show b + 1 * d = y by omega]; rfl
    have e2 : bothV 1 a b c d = orV x y := by rw [bothV, orV, e1, show a + 1 * c = x by omega, show b + 1 * d = y by omega]
    obtain ⟨u, v, hv⟩ : ∃ u v, orV x y = rv u v := by unfold orV; split <;> exact ⟨_, _, rfl⟩
    obtain ⟨o, ho⟩ : ∃ o, resOk x y = o := ⟨_, rfl⟩
    have ho2 : ∀ wx, Calls Try.prog 87 #[rv x y] wx fun e w' => e = .returned (.tuple #[rv u v, .bool o]) ∧ Below wx.heap.size wx w' := fun wx => by have := or_any x y wx; rw [hv, ho] at this; exact this
    rw [e1, e2, hv, ho]
    have HO := hide ho2
    clear e1 e2 hv ho ho2 h0' q1 q2 q3 q4 q5 q6 q7 q8 hx hy
    go_enter Try.func98, Try.ntmps98
    go_wp2_with fail
    refine (unhide hc _).mono ?_
    rw [h0]
    rintro e w1 ⟨rfl, hb⟩
    have V1 := (unhide HV1).below hb
    have V2 := (unhide HV2).below hb
    have V3 := hide ((unhide HV3).below hb)
    have a1 := V1.c0
    have a2 := V1.c1
    have a3 := V2.c0
    have a4 := V2.c1
    have HB := hide (below_on (unhide HB3) hb)
    clear hb HV1 HV2 HV3 HB3 V1 V2 hc
    go_wp2_with fail
    refine (unhide HO _).mono ?_
    rintro e w2 ⟨rfl, hb⟩
    have V4 := (unhide V3).below hb
    have k0 := V4.c0
    have k1 := V4.c1
    have k2 := V4.f 0
    have k3 := V4.f 1
    have k4 := V4.s0 (.int .i64 u)
    have k5 := V4.s1 (.int .i64 u) (.int .i64 v)
    have HB2 := hide (below_on (unhide HB) hb)
    clear hb V4 V3 HB HO a1 a2 a3 a4
    go_wp2
    refine bodyPost_ret (v := .tuple #[rv u v, .bool o]) (by simp [results, Try.results98, go_sem, k4, k5]) rfl ⟨rfl, ?_⟩
    repeat (first | exact unhide HB2 | refine below_al ?_ _ | refine Below.drew ?_ | refine below_sc ?_ _ _ _ (by omega))
end Go.Proofs.Ytgfdfaaemhdcaaa

/-
  What amounts are together, by the program; a walk over the dump.
-/
namespace Go.Proofs.Ytgfdfaaemhdcaaa
open Go.RowKit
set_option linter.unusedVariables false

set_option maxRecDepth 100000 in
set_option maxHeartbeats 2000000 in
theorem together_any (ao : Option Addr) (len cap : Nat) (l : List (Int × Int)) (w : World) (h : RRow w ao len l) (hl : len ≤ 1048576) :
    Calls Try.prog 81 #[.slice ao len cap] w fun e w' => e = .returned (.tuple #[rv (sumR l).1 (sumR l).2.1, .bool (sumR l).2.2]) ∧ Below w.heap.size w w' := by
  have HR := hide h
  have HL := hide h.1
  obtain ⟨⟨sx, sy, so⟩, hs⟩ : ∃ s, sumR l = s := ⟨_, rfl⟩
  have HS := hide (show sumFrom l 0 0 = (sx, sy, so) from hs)
  rw [hs]
  clear h hs
  go_enter Try.func81, Try.ntmps81
  go_wp2
  go_loopw [12] (fun i wr => ∃ (k : Nat) (x y : Int), k ≤ len ∧ i = .int .i64 k ∧ Hid (sumFrom (l.drop k) x y = (sx, sy, so)) ∧ Hid (Var wr 46 w.heap.size 0 0) ∧ Hid (Var wr 46 (w.heap.size + 1) x y) ∧ Hid (Below w.heap.size w wr)) (fun i _ => len - (intOf i).toNat)
  case atStart => exact ⟨0, 0, 0, Nat.zero_le _, rfl, hide (by simpa using unhide HS), hide ((var_new w _ _ _).al _), hide (var_new2 w _ _ 0 0 0 0), hide (below_al (below_al (Below.refl _ _) _) _)⟩
  case round =>
    obtain ⟨k, x, y, hk, rfl, HQ, HV0, HV1, HB⟩ := hrel
    by_cases hlt : k < len
    · obtain ⟨b, off, rfl, hq⟩ := ((unhide HR).below (unhide HB)).at hlt
      have hkl : k < l.length := by have := unhide HL; omega
      have hst := sumFrom_step hkl x y
      obtain ⟨c0, c1⟩ := hq hkl
      obtain ⟨⟨a, d⟩, hs⟩ : ∃ q, l[k] = q := ⟨_, rfl⟩
      rw [hs] at c0 c1 hst
      simp only at c0 c1 hst
      have HST := hide hst
      have s0 := (unhide HV1).c0
      have s1 := (unhide HV1).c1
      have hsz := (unhide HV1).lt
      have hl2 := World.cell?_alloc_lt wr (.cells #[.int .i64 a, .int .i64 d] 46) ⟨w.heap.size + 1, 0, none⟩ hsz
      have hl3 := World.cell?_alloc_lt wr (.cells #[.int .i64 a, .int .i64 d] 46) ⟨w.heap.size + 1, 1, none⟩ hsz
      rw [s0] at hl2
      rw [s1] at hl3
      clear hq hs hkl hst
      have CA := hide (fun wx => implAdd_any x y a d wx)
      have HA := hide (below_al (Below.refl _ wr) (.cells #[.int .i64 a, .int .i64 d] 46))
      cases ho : bothOk 1 x y a d with
      | true =>
        rw [both_yes ho, ho] at CA
        rw [if_pos ho] at HST
        clear ho
        go_wp2_with fail
        refine (unhide CA _).mono ?_
        rintro e w1 ⟨rfl, hb⟩
        have W0 := hide (((unhide HV0).below (unhide HA)).below hb)
        have W1 := hide (((unhide HV1).below (unhide HA)).below hb)
        have HB1 := hide (below_on (below_on (unhide HB) (unhide HA)) hb)
        have hsz1 := (unhide W1).lt
        have t0 := (unhide W1).c0
        have t1 := (unhide W1).c1
        have f0 := (unhide W1).f 0
        have f1 := (unhide W1).f 1
        have g0 := World.cell?_alloc_lt w1 (.cells #[.int .i64 (x + 1 * a), .int .i64 (y + 1 * d)] 46) ⟨w.heap.size + 1, 0, none⟩ hsz1
        have g1 := World.cell?_alloc_lt w1 (.cells #[.int .i64 (x + 1 * a), .int .i64 (y + 1 * d)] 46) ⟨w.heap.size + 1, 1, none⟩ hsz1
        rw [t0] at g0
        rw [t1] at g1
        clear hb CA HA c0 c1 s0 s1 hl2 hl3 HV0 HV1 HB
        obtain ⟨x', hx'⟩ : ∃ x', x + 1 * a = x' := ⟨_, rfl⟩
        obtain ⟨y', hy'⟩ : ∃ y', y + 1 * d = y' := ⟨_, rfl⟩
        rw [hx', hy'] at HST g0 g1
        rw [hx', hy']
        clear hx' hy'
        have h2 := (unhide W1).al (.cells #[.int .i64 x', .int .i64 y'] 46)
        have ff0 := h2.f 0
        have ff1 := h2.f 1
        have W2 := hide h2
        clear h2
        go_wp2
        go_roundw
        case rel => exact ⟨k + 1, x', y', by omega, by go_num, hide (by rw [← unhide HST]; exact unhide HQ), hide ((((unhide W0).other _ _ _ (show w.heap.size ≠ w.heap.size + 1 by omega)).other _ _ _ (show w.heap.size ≠ w.heap.size + 1 by omega)).al _), hide (((unhide W1).set _ _).al _), hide (below_al (below_sc (below_sc (unhide HB1) _ _ _ (show w.heap.size ≤ w.heap.size + 1 by omega)) _ _ _ (show w.heap.size ≤ w.heap.size + 1 by omega)) _)⟩
        case measure => simp [intOf]; omega
      | false =>
        rw [both_no ho, ho] at CA
        rw [if_neg (by rw [ho]; simp)] at HST
        have hres := (unhide HST).symm.trans (unhide HQ)
        simp only [Prod.mk.injEq] at hres
        obtain ⟨rfl, rfl, rfl⟩ := hres
        clear ho HST HS
        go_wp2_with fail
        refine (unhide CA _).mono ?_
        rintro e w1 ⟨rfl, hb⟩
        have W0 := hide ((((unhide HV0).below (unhide HA)).below hb).al (.cells #[.int .i64 0, .int .i64 0] 46))
        have HB1 := hide (below_al (below_on (below_on (unhide HB) (unhide HA)) hb) (.cells #[.int .i64 0, .int .i64 0] 46))
        clear hb CA HA c0 c1 s0 s1 hl2 hl3 HV0 HV1 HB
        have t0 := (unhide W0).c0
        have t1 := (unhide W0).c1
        have f0 := (unhide W0).f 0
        have f1 := (unhide W0).f 1
        have k4 := (unhide W0).s0 (.int .i64 0)
        have k5 := (unhide W0).s1 (.int .i64 0) (.int .i64 0)
        go_wp2
        refine bodyPost_ret (v := .tuple #[rv 0 0, .bool false]) (by simp [results, Try.results81, go_sem, k4, k5]) rfl ⟨rfl, ?_⟩
        repeat (first | exact unhide HB1 | refine below_sc ?_ _ _ _ (by omega))
    · have hres : (x, y, true) = (sx, sy, so) := by rw [← unhide HQ, sumFrom_end (by have := unhide HL; omega)]
      simp only [Prod.mk.injEq] at hres
      obtain ⟨rfl, rfl, rfl⟩ := hres
      have s0 := (unhide HV1).c0
      have s1 := (unhide HV1).c1
      have t0 := (unhide HV0).c0
      have t1 := (unhide HV0).c1
      have f0 := (unhide HV0).f 0
      have f1 := (unhide HV0).f 1
      have k4 := (unhide HV0).s0 (.int .i64 x)
      have k5 := (unhide HV0).s1 (.int .i64 x) (.int .i64 y)
      go_wp2
      refine bodyPost_ret (v := .tuple #[rv x y, .bool true]) (by simp [results, Try.results81, go_sem, k4, k5]) rfl ⟨rfl, ?_⟩
      repeat (first | exact unhide HB | refine below_sc ?_ _ _ _ (by omega))
end Go.Proofs.Ytgfdfaaemhdcaaa

/-
  What all machines can: the list of their Caps; the worlds behind a state's box.
-/
namespace Go.Proofs.Ytgfdfaaemhdcaaa
open Go.RowKit
set_option linter.unusedVariables false

def capsOf (l : List Mac) : List (Int × Int) := l.map (fun m => (m.mem, m.cpu))
theorem capsOf_step {l : List Mac} {k : Nat} (h : k < l.length) : capsOf (l.take (k + 1)) = capsOf (l.take k) ++ [(l[k].mem, l[k].cpu)] := by
  rw [List.take_succ_eq_append_getElem h, capsOf, List.map_append]; rfl

/-- the amounts of those containers that count -/
def usedL (p : Con → Bool) (l : List Con) : List (Int × Int) := (l.filter p).map (fun c => (c.mem, c.cpu))
theorem usedL_step {p : Con → Bool} {l : List Con} {k : Nat} (h : k < l.length) : usedL p (l.take (k + 1)) = if p l[k] = true then usedL p (l.take k) ++ [(l[k].mem, l[k].cpu)] else usedL p (l.take k) := by
  rw [List.take_succ_eq_append_getElem h]
  simp only [usedL, List.filter_append, List.map_append]
  by_cases hp : p l[k] = true <;> simp [hp]
/-- behind the box of a state and the result's variable -/
def capW (w : World) (c : Array Value) : World := (w.alloc (.cells c 35)).alloc (.cells #[.int .i64 0, .int .i64 0] 46)
theorem capW_size (w : World) (c : Array Value) : (capW w c).heap.size = w.heap.size + 1 + 1 := by simp only [capW, al_size]
theorem capW_below (w : World) (c : Array Value) : Below w.heap.size w (capW w c) := below_al (below_al (Below.refl _ w) _) _
theorem capW_var (w : World) (c : Array Value) : Var (capW w c) 46 (w.heap.size + 1) 0 0 := by
  have := var_new (w.alloc (.cells c 35)) 46 0 0
  rwa [al_size] at this
abbrev macobj (m : Mac) : Obj := .cells #[.string (bs m.name), .int .i64 m.mem, .int .i64 m.cpu, .int .i64 m.seen] 86

/-- behind the box of a state -/
def boxW (w : World) (c : Array Value) : World := w.alloc (.cells c 35)
theorem boxW_size (w : World) (c : Array Value) : (boxW w c).heap.size = w.heap.size + 1 := by simp only [boxW, al_size]
theorem boxW_below (w : World) (c : Array Value) : Below w.heap.size w (boxW w c) := below_al (Below.refl _ w) _
theorem boxW_blk (w : World) (c : Array Value) : Blk (boxW w c) w.heap.size c 35 := blk_new w c _
end Go.Proofs.Ytgfdfaaemhdcaaa
