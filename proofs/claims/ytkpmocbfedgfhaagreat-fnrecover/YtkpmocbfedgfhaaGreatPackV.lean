/-
  Several texts of this claim in one: DrawG, DrawO, DrawP, NameD, Dec, QDraw, RightS, QueD, SpoilP (pack.py put them together); each says in its own remark what is proved.
-/
import Derived.Test.YtkpmocbfedgfhaaGreatPackU
import Derived.Test.YtkpmocbfedgfhaaGreatPackA
import Derived.Test.YtkpmocbfedgfhaaGreatPackH
import Derived.Lib.ItoaLen
import Derived.Maps.Range
import Derived.Laws.AppendOwn
import Derived.Deep.RegionWith
/-
  Draws: ints picked, what a cursor leaves alone.
-/
namespace Go.Proofs.YtkpmocbfedgfhaaGreat
open Go.RowKit
set_option linter.unusedVariables false
theorem Var.grown {w w' : World} {t : TypeId} {q g : Nat} {x y : Int} (h : Var w t q x y) (hg : w.grownBy w' (some g)) (hn : q ≠ g) : Var w' t q x y := h.same (hg.block q h.lt (fun e => hn (Option.some.inj e)))
def I64 (x : Int) : Prop := -9223372036854775808 ≤ x ∧ x ≤ 9223372036854775807
set_option maxRecDepth 100000 in
set_option maxHeartbeats 1000000 in
theorem pickG_st {w0 : World} {B g : Nat} {ao : Option Addr} {len cap : Nat} (q L c : Nat) (w : World) (h : CSt w0 B g ao len cap w) (hq : Ints w q L) (hne : q ≠ g) (hL : 0 < L) (hL1 : L ≤ 1000) :
    Calls Tryz.prog 43 #[.pointer (some ⟨g, 0, none⟩), .slice (some ⟨q, 0, none⟩) L c] w fun e w' => ∃ x : Int, e = .returned (.int .i64 x) ∧ I64 x ∧ CSt w0 B g ao len cap w' ∧ w.grownBy w' (some g) := by
  have HS := hide h
  clear h
  go_enter Tryz.func43, Tryz.ntmps43
  go_wp2_with fail
  refine (below_st _ _ (unhide HS) (by omega) (by omega)).mono ?_
  rintro e w1 ⟨x, rfl, hx0, hx1, hs1, hg1⟩
  obtain ⟨X, rfl⟩ := Int.eq_ofNat_of_zero_le hx0
  obtain ⟨z, hz, hz0, hz1⟩ := hq.2 X (by omega)
  have hc : w1.cell? ⟨q, X, none⟩ = some (.int .i64 z) := (World.cell?_of_block (w := w) (a := ⟨q, X, none⟩) (hg1.block q hq.1 (fun e => hne (Option.some.inj e)))).trans hz
  have HS1 := hide (And.intro hs1 hg1)
  clear hs1 hg1 hz hq
  go_wp2
  go_ret
  exact ⟨z, rfl, ⟨hz0, hz1⟩, unhide HS1⟩

/-- a store into a block that is not the cursor's, made behind w1 -/
theorem grown_set {w w1 : World} {g k j : Nat} {v : Value} (h : w.grownBy w1 (some g)) (hk : w.heap.size ≤ k) : w.grownBy (w1.setCell ⟨k, j, none⟩ v) (some g) :=
  ⟨h.os, h.tape, h.output, by simpa using h.size, fun i hi hn => by
    rw [heap_setCell_other w1 ⟨k, j, none⟩ i v (by have : i < k := Nat.lt_of_lt_of_le hi hk; exact Nat.ne_of_lt this)]
    exact h.block i hi hn⟩
theorem CSt.set {w0 w : World} {B g : Nat} {ao : Option Addr} {len cap : Nat} (h : CSt w0 B g ao len cap w) (k j : Nat) (v : Value) (hk : w0.heap.size ≤ k) (hB : B ≤ k) (hn : k ≠ g) : CSt w0 B g ao len cap (w.setCell ⟨k, j, none⟩ v) := by
  refine ⟨?_, ?_, grown_set h.2.2.1 hk, h.2.2.2⟩
  · obtain ⟨i, x, h1, h2⟩ := h.1
    exact ⟨i, x, by rw [heap_setCell_other w ⟨k, j, none⟩ g v (fun e => hn e.symm)]; exact h1, h2⟩
  · have hb : Below B w (w.setCell ⟨k, j, none⟩ v) := (Below.refl B w).setCell hB v
    exact h.2.1.below hb (Nat.le_refl _)
end Go.Proofs.YtkpmocbfedgfhaaGreat

/-
  One of so many: what the model's l01Once answers at a cursor; a walk over the dump.
-/
namespace Go.Proofs.YtkpmocbfedgfhaaGreat
open Go.RowKit
set_option linter.unusedVariables false
set_option maxHeartbeats 400000 in
theorem l01Once_any (B g : Nat) (ao : Option Addr) (len cap : Nat) (n : Int) (w : World) (hcur : Cur w g ao len cap) (hcode : Code w B ao len) (hB : B ≤ g) (hn0 : 0 < n) (hn1 : n ≤ 9223372036854775807) :
    Calls Tryz.prog 78 #[.pointer (some ⟨g, 0, none⟩), .int .i64 n] w fun e w' => ∃ x : Bool, e = .returned (.bool x) ∧ Cur w' g ao len cap ∧ w.grownBy w' (some g) := by
  have HC := hide hcur
  have HK := hide hcode
  clear hcur hcode
  go_enter Tryz.func78, Tryz.ntmps78
  go_wp2_with fail
  refine (l01Below_any B g ao len cap _ _ (unhide HC) (unhide HK) hB hn0 hn1).mono ?_
  rintro e w1 ⟨x, rfl, hx0, hx1, hc1, hg1⟩
  have HC1 := hide hc1
  have HG1 := hide hg1
  clear hc1 hg1
  go_wp2
  go_ret
  exact ⟨_, rfl, unhide HC1, unhide HG1⟩
theorem once_st {w0 : World} {B g : Nat} {ao : Option Addr} {len cap : Nat} (n : Int) (w : World) (h : CSt w0 B g ao len cap w) (hn0 : 0 < n) (hn1 : n ≤ 9223372036854775807) :
    Calls Tryz.prog 78 #[.pointer (some ⟨g, 0, none⟩), .int .i64 n] w fun e w' => ∃ x : Bool, e = .returned (.bool x) ∧ CSt w0 B g ao len cap w' :=
  (l01Once_any B g ao len cap n w h.1 h.2.1 h.2.2.2 hn0 hn1).mono fun e w' ⟨x, h1, h4, h5⟩ => ⟨x, h1, h.step h4 h5⟩
end Go.Proofs.YtkpmocbfedgfhaaGreat

/-
  A text out of a list, drawn: what the model's l01Pick answers at a cursor; a walk over the dump.
-/
namespace Go.Proofs.YtkpmocbfedgfhaaGreat
open Go.RowKit
set_option linter.unusedVariables false
/-- block q holds a list of so many texts, each of at most twelve bytes -/
def PickT (w : World) (q L : Nat) : Prop := q < w.heap.size ∧ ∀ j, j < L → ∃ s : ByteArray, w.cell? ⟨q, j, none⟩ = some (.string s) ∧ s.size ≤ 12
theorem pickt_alloc (w : World) (t : TypeId) (xs : List ByteArray) (h : xs.all (fun s => decide (s.size ≤ 12)) = true) : PickT (w.alloc (.cells (xs.map Value.string).toArray t)) w.heap.size xs.length := by
  refine ⟨by simp, fun j hj => ⟨xs[j], ?_, ?_⟩⟩
  · rw [World.cell?_alloc_mark]; simp [hj]
  · have := List.all_eq_true.1 h xs[j] (List.getElem_mem hj)
    simpa using this
set_option maxRecDepth 100000 in
set_option maxHeartbeats 1000000 in
theorem pickS_st {w0 : World} {B g : Nat} {ao : Option Addr} {len cap : Nat} (q L c : Nat) (w : World) (h : CSt w0 B g ao len cap w) (hq : PickT w q L) (hne : q ≠ g) (hL : 0 < L) (hL1 : L ≤ 1000) :
    Calls Tryz.prog 42 #[.pointer (some ⟨g, 0, none⟩), .slice (some ⟨q, 0, none⟩) L c] w fun e w' => ∃ s : ByteArray, e = .returned (.string s) ∧ s.size ≤ 12 ∧ CSt w0 B g ao len cap w' := by
  have HS := hide h
  clear h
  go_enter Tryz.func42, Tryz.ntmps42
  go_wp2_with fail
  refine (below_st _ _ (unhide HS) (by omega) (by omega)).mono ?_
  rintro e w1 ⟨x, rfl, hx0, hx1, hs1, hg1⟩
  obtain ⟨X, rfl⟩ := Int.eq_ofNat_of_zero_le hx0
  obtain ⟨z, hz, hz0⟩ := hq.2 X (by omega)
  have hc : w1.cell? ⟨q, X, none⟩ = some (.string z) := (World.cell?_of_block (w := w) (a := ⟨q, X, none⟩) (hg1.block q hq.1 (fun e => hne (Option.some.inj e)))).trans hz
  have HS1 := hide hs1
  clear hs1 hg1 hz hq
  go_wp2
  go_ret
  exact ⟨z, rfl, hz0, unhide HS1⟩
end Go.Proofs.YtkpmocbfedgfhaaGreat

/-
  A name that is drawn; a walk over the dump.
-/
namespace Go.Proofs.YtkpmocbfedgfhaaGreat
open Go.RowKit
set_option linter.unusedVariables false
set_option maxRecDepth 100000 in
set_option maxHeartbeats 1000000 in
theorem name_st {w0 : World} {B g : Nat} {ao : Option Addr} {len cap : Nat} (w : World) (h : CSt w0 B g ao len cap w) :
    Calls Tryz.prog 41 #[.pointer (some ⟨g, 0, none⟩)] w fun e w' => ∃ s : ByteArray, e = .returned (.string s) ∧ s.size ≤ 12 ∧ CSt w0 B g ao len cap w' := by
  have HS := hide h
  clear h
  go_enter Tryz.func41, Tryz.ntmps41
  go_wp2_with fail
  refine (once_st 16 _ (unhide HS) (by decide) (by decide)).mono ?_
  rintro e w1 ⟨x, rfl, hs1⟩
  have HS1 := hide hs1
  have hne : Hid (w1.heap.size ≠ g) := hide (by have := hs1.1.lt; omega)
  clear hs1
  cases x with
  | true =>
    have hq := hide (pickt_alloc w1 9 [⟨#[]⟩, ⟨#[65]⟩, ⟨#[48, 49, 50, 51, 52, 53, 54, 55, 56, 57]⟩, ⟨#[48, 49, 50, 51, 52, 53, 54, 55, 56, 57, 48]⟩, ⟨#[97, 32, 98]⟩] (by decide))
    go_wp2_with fail
    refine (pickS_st w1.heap.size 5 5 _ ((unhide HS1).alloc _) (unhide hq) (unhide hne) (by decide) (by decide)).mono ?_
    rintro e w2 ⟨x, rfl, hx0, hs2⟩
    have HS2 := hide hs2
    clear hs2
    go_wp2
    go_ret
    exact ⟨x, rfl, hx0, unhide HS2⟩
  | false =>
    have hq := hide (pickt_alloc w1 9 [⟨#[97]⟩, ⟨#[98]⟩, ⟨#[114, 111, 111, 116]⟩] (by decide))
    go_wp2_with fail
    refine (pickS_st w1.heap.size 3 3 _ ((unhide HS1).alloc _) (unhide hq) (unhide hne) (by decide) (by decide)).mono ?_
    rintro e w2 ⟨x, rfl, hx0, hs2⟩
    have HS2 := hide hs2
    clear hs2
    go_wp2
    go_ret
    exact ⟨x, rfl, hx0, unhide HS2⟩
end Go.Proofs.YtkpmocbfedgfhaaGreat

/-
  What the model's DecText answers at every int: the decimal numeral; a walk over the dump.
-/
namespace Go.Proofs.YtkpmocbfedgfhaaGreat
open Go.RowKit
set_option maxHeartbeats 800000 in
theorem specDecText_pos (N : Nat) (w : World) (hN : (N : Int) ≤ 9223372036854775807) :
    Calls Tryz.prog 44 #[.int .i64 (N : Int)] w fun e w' => e = .returned (.string (bs (Lib.itoa N))) ∧ w' = w := by
  by_cases h0 : N = 0
  · subst h0
    go_enter Tryz.func44, Tryz.ntmps44
    go_wp2
    go_ret
    exact ⟨ret_str (by rw [Lib.itoa_nonneg, Lib.decDigits]; rfl), rfl⟩
  · have hlen : (Lib.decDigits N).length ≤ 20 := by rw [Lib.decDigits_length]; exact Lib.nDigits_le20 N (by omega)
    have hne : ((N : Int) == 0) = false := by simp; omega
    have hit : Hid (dgs N = Lib.itoa N) := hide (by rw [dgs_pos h0, Lib.itoa_nonneg])
    have hlen2 : (dgs N).length ≤ 20 := by rw [dgs_pos h0]; exact hlen
    clear hlen
    go_enter Tryz.func44, Tryz.ntmps44
    go_wp2
    go_loop [3, 4, 5] (fun o m _ => ∃ (u : Nat) (l : List UInt8), u ≤ N ∧ m = .int .i64 (u : Int) ∧ o = .string (bs l) ∧ dgs u ++ l = dgs N) (fun _ m _ => (intOf m).toNat)
    case atStart => exact ⟨N, [], Nat.le_refl _, rfl, rfl, by simp⟩
    case round =>
      obtain ⟨u, l, hu, rfl, rfl, hcat⟩ := hrel
      have hl : l.length ≤ 20 := by have := congrArg List.length hcat; simp only [List.length_append] at this; omega
      have hl2 : (bs l).size ≤ 20 := by rw [bs_size]; exact hl
      have HC := hide hcat
      clear hcat hl
      by_cases hu0 : u = 0
      · subst hu0
        go_wp2
        go_ret
        exact ⟨ret_str (congrArg bs ((unhide HC).trans (unhide hit))), rfl⟩
      · go_wp2
        go_round
        case rel => exact ⟨u / 10, UInt8.ofNat (48 + u % 10) :: l, by omega, by go_num, str_eq (by rw [ten_cut _ (by omega), cons_bs]), by rw [← unhide HC, dgs_step hu0]; simp⟩
        case measure => simp [intOf]; omega

set_option maxHeartbeats 800000 in
theorem specDecText_neg (N : Nat) (w : World) (h0 : N ≠ 0) (hN : (N : Int) ≤ 9223372036854775808) :
    Calls Tryz.prog 44 #[.int .i64 (-(N : Int))] w fun e w' => e = .returned (.string (bs (Lib.itoa (-(N : Int))))) ∧ w' = w := by
  have hlen : (Lib.decDigits N).length ≤ 20 := by rw [Lib.decDigits_length]; exact Lib.nDigits_le20 N (by omega)
  have hne : ((-(N : Int)) == 0) = false := by simp; omega
  have hit : Hid (45 :: dgs N = Lib.itoa (-(N : Int))) := hide (by rw [dgs_pos h0, Lib.itoa_neg _ (by omega)])
  have hlen2 : (dgs N).length ≤ 20 := by rw [dgs_pos h0]; exact hlen
  clear hlen
  go_enter Tryz.func44, Tryz.ntmps44
  go_wp2
  go_loop [3, 4, 5] (fun o m _ => ∃ (u : Nat) (l : List UInt8), u ≤ N ∧ m = .int .i64 (-(u : Int)) ∧ o = .string (bs l) ∧ dgs u ++ l = dgs N) (fun _ m _ => (-(intOf m)).toNat)
  case atStart => exact ⟨N, [], Nat.le_refl _, rfl, rfl, by simp⟩
  case round =>
    obtain ⟨u, l, hu, rfl, rfl, hcat⟩ := hrel
    have hl : l.length ≤ 20 := by have := congrArg List.length hcat; simp only [List.length_append] at this; omega
    have hl2 : (bs l).size ≤ 20 := by rw [bs_size]; exact hl
    have HC := hide hcat
    clear hcat hl
    by_cases hu0 : u = 0
    · subst hu0
      go_wp2
      go_ret
      exact ⟨ret_str (by rw [cons_bs]; exact congrArg bs ((congrArg (fun t => 45 :: t) (unhide HC)).trans (unhide hit))), rfl⟩
    · go_wp2
      · go_round
        case rel => exact ⟨u / 10, UInt8.ofNat (48 + u % 10) :: l, by omega, by go_num, str_eq (by rw [ten_cut _ (by omega), cons_bs]), by rw [← unhide HC, dgs_step hu0]; simp⟩
        case measure => simp [intOf]; omega
      · have hd : (u : Int) % 10 ≤ 0 := by assumption
        go_round
        case rel => exact ⟨u / 10, UInt8.ofNat (48 + u % 10) :: l, by omega, by go_num, str_eq (by rw [show (-((u : Int) % 10)).toNat = u % 10 from by omega, show (-((u : Int) % 10) + 1).toNat = u % 10 + 1 from by omega, ten_cut _ (by omega), cons_bs]), by rw [← unhide HC, dgs_step hu0]; simp⟩
        case measure => simp [intOf]; omega

theorem specDecText_any (n : Int) (w : World) (h0 : -9223372036854775808 ≤ n) (h1 : n ≤ 9223372036854775807) :
    Calls Tryz.prog 44 #[.int .i64 n] w fun e w' => e = .returned (.string (bs (Lib.itoa n))) ∧ w' = w := by
  by_cases h : 0 ≤ n
  · obtain ⟨N, rfl⟩ := Int.eq_ofNat_of_zero_le h
    exact specDecText_pos N w h1
  · obtain ⟨N, hN⟩ := Int.eq_ofNat_of_zero_le (a := -n) (by omega)
    have e : n = -(N : Int) := by omega
    subst e
    exact specDecText_neg N w (by omega) (by omega)
end Go.Proofs.YtkpmocbfedgfhaaGreat

/-
  Queues that are drawn: l03Right, l03Queues, l03Asked; each within its bounds; walks over the dump.
-/
namespace Go.Proofs.YtkpmocbfedgfhaaGreat
open Go.RowKit
set_option linter.unusedVariables false
abbrev dcell (q : Q) : List Value := [.string (bs q.name), .string (bs q.parent), .int .i64 q.due, .int .i64 q.most]
def dcells : List Q → List Value
  | [] => []
  | q :: t => dcell q ++ dcells t
theorem dcells_app (a b : List Q) : dcells (a ++ b) = dcells a ++ dcells b := by
  induction a with
  | nil => rfl
  | cons x t ih => rw [List.cons_append, dcells, dcells, ih, List.append_assoc]
theorem dcells_len : ∀ l : List Q, (dcells l).length = l.length * 4
  | [] => rfl
  | q :: t => by rw [dcells, List.length_append, dcells_len t]; simp; omega
theorem dcells_at : ∀ (l : List Q) (i : Nat) (h : i < l.length), (dcells l)[i * 4]? = some (.string (bs l[i].name)) ∧ (dcells l)[i * 4 + 1]? = some (.string (bs l[i].parent)) ∧ (dcells l)[i * 4 + 2]? = some (.int .i64 l[i].due) ∧ (dcells l)[i * 4 + 3]? = some (.int .i64 l[i].most)
  | q :: t, 0, _ => ⟨rfl, rfl, rfl, rfl⟩
  | q :: t, i + 1, h => by
    have e := dcells_at t i (by simpa using h)
    have k : ∀ j, (dcells (q :: t))[(i + 1) * 4 + j]? = (dcells t)[i * 4 + j]? := fun j => by
      rw [dcells, show (i + 1) * 4 + j = (dcell q).length + (i * 4 + j) by simp; omega, List.getElem?_append_right (by omega)]
      congr 1
      omega
    have k0 := k 0
    simp only [Nat.add_zero] at k0
    rw [k0, k 1, k 2, k 3]
    simpa using e
/-- v is a list of these queues, in memory of its own from block B on -/
def QDr (B : Nat) (w : World) (v : Value) (l : List Q) : Prop := w.ownsRow B 63 4 v l.length (dcells l)
theorem QDr.kept {w w' : World} {B : Nat} {v : Value} {l : List Q} {row : Option Nat} (h : QDr B w v l) (hg : w.grownBy w' row) (hr : ∀ k, row = some k → k < B) : QDr B w' v l := by
  refine World.ownsRow.kept h hg ?_
  rcases h.2 with ⟨rfl, _⟩ | ⟨g, cap, cur, rfl, hg', _⟩
  · exact .inl rfl
  · right
    intro e
    have := hr g e.symm
    omega
theorem QDr.below {w w' : World} {B : Nat} {v : Value} {l : List Q} (h : QDr B w v l) (hb : Below w.heap.size w w') : QDr B w' v l := h.kept (grownBy_below (grownBy_refl w none) hb) (fun k e => by cases e)
theorem QDr.row {w : World} {B : Nat} {v : Value} {l : List Q} (h : QDr B w v l) (hl : l ≠ []) : ∃ g cap cur, v = .slice (some ⟨g, 0, none⟩) l.length cap ∧ QRow w (some ⟨g, 0, none⟩) l.length l ∧ l.length ≤ cap ∧ B ≤ g ∧ w.heap[g]? = some (.cells cur 63 (0, 0)) := by
  rcases h.2 with ⟨rfl, h0⟩ | ⟨g, cap, cur, rfl, h1, h2, h3, h4, h5, h6⟩
  · exact absurd (List.length_eq_zero_iff.1 h0) hl
  · refine ⟨g, cap, cur, rfl, ⟨rfl, .inr ⟨g, 0, rfl, fun i hi => ?_⟩⟩, h3, h1, h2⟩
    obtain ⟨a, b, c, d⟩ := dcells_at l i hi
    have k : ∀ j (v : Value), j < l.length * 4 → (dcells l)[j]? = some v → w.cell? ⟨g, j, none⟩ = some v := fun j v hj hv => by
      rw [← h6, List.getElem?_take_of_lt hj] at hv
      simp [World.cell?, h2]
      simpa using hv
    unfold QAt
    rw [Nat.zero_add]
    exact ⟨k _ _ (by omega) a, k _ _ (by omega) b, k _ _ (by omega) c, k _ _ (by omega) d⟩
theorem qdr_lit (w : World) (l : List Q) (n : Nat) (hn : l.length = n) (hm : n ≤ 1000) : QDr w.heap.size (w.alloc (.cells (dcells l).toArray 63)) (.slice (some ⟨w.heap.size, 0, none⟩) n n) l := by
  subst hn
  refine ⟨dcells_len l, .inr ⟨w.heap.size, l.length, (dcells l).toArray, rfl, Nat.le_refl _, by show (w.heap.push _)[w.heap.size]? = _; simp, Nat.le_refl _, by unfold maxLen; omega, by simp [dcells_len], ?_⟩⟩
  rw [← dcells_len]
  simp
theorem QRow.put {w : World} {b off len : Nat} {l : List Q} (h : QRow w (some ⟨b, off, none⟩) len l) (i : Nat) (hi : i < l.length) (q : Q) (j : Nat) (x : Value)
    (hx : (j = 0 ∧ x = .string (bs q.name) ∧ q = { l[i] with name := q.name }) ∨ (j = 1 ∧ x = .string (bs q.parent) ∧ q = { l[i] with parent := q.parent }) ∨ (j = 2 ∧ x = .int .i64 q.due ∧ q = { l[i] with due := q.due }) ∨ (j = 3 ∧ x = .int .i64 q.most ∧ q = { l[i] with most := q.most })) :
    QRow (w.setCell ⟨b, off + i * 4 + j, none⟩ x) (some ⟨b, off, none⟩) len (l.set i q) := by
  obtain ⟨h1, h2⟩ := h
  have hl : len ≠ 0 := by omega
  rcases h2 with h2 | ⟨b', off', e, h4⟩
  · exact absurd h2 hl
  · cases e
    have hot : ∀ p, p ≠ off + i * 4 + j → (w.setCell ⟨b, off + i * 4 + j, none⟩ x).cell? ⟨b, p, none⟩ = w.cell? ⟨b, p, none⟩ := fun p hp => World.cell?_setCell_other _ ⟨b, off + i * 4 + j, none⟩ ⟨b, p, none⟩ _ (by intro e; have := congrArg Addr.off e; simp at this; omega)
    have hsame : ∀ v, w.cell? ⟨b, off + i * 4 + j, none⟩ = some v → (w.setCell ⟨b, off + i * 4 + j, none⟩ x).cell? ⟨b, off + i * 4 + j, none⟩ = some x := fun v hv => World.cell?_setCell_same w _ _ hv
    refine ⟨by simpa using h1, .inr ⟨b, off, rfl, fun k hk => ?_⟩⟩
    have hk' : k < l.length := by simpa using hk
    obtain ⟨a0, a1, a2, a3⟩ := h4 k hk'
    by_cases e : k = i
    · subst e
      rw [show (l.set k q)[k] = q by simp]
      rcases hx with ⟨rfl, rfl, hq⟩ | ⟨rfl, rfl, hq⟩ | ⟨rfl, rfl, hq⟩ | ⟨rfl, rfl, hq⟩
      · refine ⟨hsame _ a0, ?_, ?_, ?_⟩
        · rw [hot _ (by omega), a1, hq]
        · rw [hot _ (by omega), a2, hq]
        · rw [hot _ (by omega), a3, hq]
      · refine ⟨?_, hsame _ a1, ?_, ?_⟩
        · rw [hot _ (by omega), a0, hq]
        · rw [hot _ (by omega), a2, hq]
        · rw [hot _ (by omega), a3, hq]
      · refine ⟨?_, ?_, hsame _ a2, ?_⟩
        · rw [hot _ (by omega), a0, hq]
        · rw [hot _ (by omega), a1, hq]
        · rw [hot _ (by omega), a3, hq]
      · refine ⟨?_, ?_, ?_, hsame _ a3⟩
        · rw [hot _ (by omega), a0, hq]
        · rw [hot _ (by omega), a1, hq]
        · rw [hot _ (by omega), a2, hq]
    · rw [show (l.set i q)[k] = l[k] by rw [List.getElem_set_ne (fun h => e h.symm)]]
      have hj : j < 4 := by rcases hx with ⟨rfl, _⟩ | ⟨rfl, _⟩ | ⟨rfl, _⟩ | ⟨rfl, _⟩ <;> omega
      refine ⟨?_, ?_, ?_, ?_⟩
      · rw [hot _ (by omega), a0]
      · rw [hot _ (by omega), a1]
      · rw [hot _ (by omega), a2]
      · rw [hot _ (by omega), a3]
/-- names that are not long -/
def Brief (l : List Q) : Prop := ∀ q ∈ l, q.name.length ≤ 1000 ∧ q.parent.length ≤ 1000
theorem Brief.set {l : List Q} (h : Brief l) (i : Nat) (q : Q) (hq : q.name.length ≤ 1000 ∧ q.parent.length ≤ 1000) : Brief (l.set i q) := fun x hx => by
  rcases List.mem_or_eq_of_mem_set hx with hx | rfl
  · exact h x hx
  · exact hq
theorem CSt.gro {w0 w w' : World} {B g : Nat} {ao : Option Addr} {len cap : Nat} (h : CSt w0 B g ao len cap w) {row : Option Nat} (hg : w.grownBy w' row) (hr : ∀ k, row = some k → w0.heap.size ≤ k ∧ g < k) : CSt w0 B g ao len cap w' := by
  obtain ⟨⟨i, x, h1, h2⟩, hc, hgr, hB⟩ := h
  have hgl : g < w.heap.size := lt_of_block h1
  refine ⟨⟨i, x, (hg.block g hgl (fun e => by have := hr g e.symm; omega)).trans h1, h2⟩, ?_, hgr.andThen hg (fun j hj => .inl (hr j hj).1), hB⟩
  exact hc.below ((Below.refl B w).grown hg hc.1 (fun k e => by have := hr k e; omega)) (Nat.le_refl _)
theorem Tryz.infoQD : (Tryz.prog.info? 63).map (fun i => (i.zero, i.size, i.bytes)) = some (some (.agg #[.string ByteArray.empty, .string ByteArray.empty, .int .i64 0, .int .i64 0]), 4, 48) := by kernel_rfl
end Go.Proofs.YtkpmocbfedgfhaaGreat

/-
  Queues that are drawn: l03Right, l03Queues; walks over the dump.
-/
namespace Go.Proofs.YtkpmocbfedgfhaaGreat
open Go.RowKit
set_option linter.unusedVariables false
theorem CSt.rebase {w0 w : World} {B g : Nat} {ao : Option Addr} {len cap : Nat} (h : CSt w0 B g ao len cap w) : CSt w B g ao len cap w := ⟨h.1, h.2.1, grownBy_refl w _, h.2.2.2⟩
/-- three queues, of which two have drawn points -/
def three (a b c d : Int) : List Q := [⟨[114, 111, 111, 116], [], 10000, 10000⟩, ⟨[97], [114, 111, 111, 116], a, b⟩, ⟨[98], [114, 111, 111, 116], c, d⟩]
theorem three_brief (a b c d : Int) : Brief (three a b c d) := fun q hq => by
  simp [three] at hq
  rcases hq with rfl | rfl | rfl <;> simp

set_option maxRecDepth 100000 in
set_option maxHeartbeats 4000000 in
theorem right_st {w0 : World} {B g : Nat} {ao : Option Addr} {len cap : Nat} (w : World) (h : CSt w0 B g ao len cap w) :
    Calls Tryz.prog 39 #[.pointer (some ⟨g, 0, none⟩)] w fun e w' => ∃ v ls, e = .returned v ∧ Hid (QDr w.heap.size w' v ls) ∧ 3 ≤ ls.length ∧ ls.length ≤ 5 ∧ Hid (Brief ls) ∧ Hid (CSt w0 B g ao len cap w') := by
  obtain ⟨i0, hi, hz0, hz1, hz2⟩ := info_parts Tryz.infoQD
  have HS := hide h
  have hgl := h.1.lt
  have hw0 := h.2.2.1.size
  clear h
  have hq1 := hide (ints_alloc w 3 [5000, 3000, 0, 6000] (by decide))
  go_enter Tryz.func39, Tryz.ntmps39
  go_wp2_with fail
  refine (pick_st w.heap.size 4 4 _ ((unhide HS).alloc _).rebase (unhide hq1) (by omega) (by decide) (by decide)).mono ?_
  rintro e w1 ⟨x1, rfl, _, _, hs1⟩
  have HS1 := hide (((unhide HS).alloc _).step hs1.1 hs1.2.2.1)
  have hz1' : w.heap.size + 1 ≤ w1.heap.size := by have := hs1.2.2.1.size; rwa [World.size_alloc] at this
  have hq2 := hide (ints_alloc w1 3 [8000, 10000, 6000] (by decide))
  clear hs1 hq1 HS
  go_wp2_with fail
  refine (pick_st w1.heap.size 3 3 _ ((unhide HS1).alloc _).rebase (unhide hq2) (by omega) (by decide) (by decide)).mono ?_
  rintro e w2 ⟨x2, rfl, _, _, hs2⟩
  have HS2 := hide (((unhide HS1).alloc _).step hs2.1 hs2.2.2.1)
  have hz2' : w1.heap.size + 1 ≤ w2.heap.size := by have := hs2.2.2.1.size; rwa [World.size_alloc] at this
  have hq3 := hide (ints_alloc w2 3 [4000, 2000, 0] (by decide))
  clear hs2 hq2 HS1
  go_wp2_with fail
  refine (pick_st w2.heap.size 3 3 _ ((unhide HS2).alloc _).rebase (unhide hq3) (by omega) (by decide) (by decide)).mono ?_
  rintro e w3 ⟨x3, rfl, _, _, hs3⟩
  have HS3 := hide (((unhide HS2).alloc _).step hs3.1 hs3.2.2.1)
  have hz3' : w2.heap.size + 1 ≤ w3.heap.size := by have := hs3.2.2.1.size; rwa [World.size_alloc] at this
  have hq4 := hide (ints_alloc w3 3 [10000, 5000] (by decide))
  clear hs3 hq3 HS2
  go_wp2_with fail
  refine (pick_st w3.heap.size 2 2 _ ((unhide HS3).alloc _).rebase (unhide hq4) (by omega) (by decide) (by decide)).mono ?_
  rintro e w4 ⟨x4, rfl, _, _, hs4⟩
  have HS4 := hide ((((unhide HS3).alloc _).step hs4.1 hs4.2.2.1).alloc (.cells (dcells (three x1 x2 x3 x4)).toArray 63))
  have hz4' : w3.heap.size + 1 ≤ w4.heap.size := by have := hs4.2.2.1.size; rwa [World.size_alloc] at this
  have HQ4 := hide (qdr_lit w4 (three x1 x2 x3 x4) 3 rfl (by decide))
  have HBR := hide (three_brief x1 x2 x3 x4)
  have HLN := hide (show (three x1 x2 x3 x4).length = 3 from rfl)
  clear hs4 hq4 HS3
  go_wp2_with fail
  refine (once_st 2 _ (unhide HS4).rebase (by decide) (by decide)).mono ?_
  rintro e w5 ⟨x, rfl, hs5⟩
  have HS5 := hide ((unhide HS4).step hs5.1 hs5.2.2.1)
  have HQ5 := hide ((unhide HQ4).kept hs5.2.2.1 (fun k e => by cases e; omega))
  have hz5' : w4.heap.size + 1 ≤ w5.heap.size := by have := hs5.2.2.1.size; rwa [World.size_alloc] at this
  clear hs5 HS4 HQ4
  cases x with
  | false =>
    go_wp2
    go_ret
    exact ⟨_, three x1 x2 x3 x4, rfl, hide ⟨(unhide HQ5).1, by rcases (unhide HQ5).2 with h | ⟨a, b, c, h1, h2, h3⟩; exact .inl h; exact .inr ⟨a, b, c, h1, by omega, h3⟩⟩, by rw [unhide HLN]; omega, by rw [unhide HLN]; omega, HBR, HS5⟩
  | true =>
    have hq6 := hide (ints_alloc w5 3 [5000, 1000] (by decide))
    go_wp2_with fail
    refine (pick_st w5.heap.size 2 2 _ ((unhide HS5).alloc _).rebase (unhide hq6) (by omega) (by decide) (by decide)).mono ?_
    rintro e w6 ⟨x6, rfl, _, _, hs6⟩
    have HS6 := hide (((unhide HS5).alloc _).step hs6.1 hs6.2.2.1)
    have HQ6 := hide (((unhide HQ5).below (below_al (Below.refl _ _) _)).kept hs6.2.2.1 (fun k e => by cases e; omega))
    have hz6' : w5.heap.size + 1 ≤ w6.heap.size := by have := hs6.2.2.1.size; rwa [World.size_alloc] at this
    have hown : w6.ownsRow w4.heap.size 63 4 _ 3 (dcells (three x1 x2 x3 x4)) := unhide HQ6
    have hs2 : w4.heap.size ≤ w6.heap.size := by omega
    clear hs6 hq6 HS5 HQ5
    go_wp2_with (at_builtin; refine wpList_append_own _ rfl _ _ 24 rfl w4.heap.size 63 i0 (.agg #[.string ByteArray.empty, .string ByteArray.empty, .int .i64 0, .int .i64 0]) 4 48 Tryz.underlying24 hi hz0 hz1 hz2 rfl (by decide) _ _ _ rfl (hown.alloc _) ⟨w6.heap.size, 0, none⟩ 2 2 (dcells [⟨[98, 49], [98], 5000, 10000⟩, ⟨[98, 50], [98], x6, 9000⟩]) rfl rfl ?c1 ?c2 ?c3 ?c4 ?c5 ?_)
    case c1 =>
      intro j x hj
      have hj8 : j < 8 := by have := (List.getElem?_eq_some_iff.1 hj).1; simpa [dcells] using this
      match j, hj8, hj with
      | 0, _, hj => simp [dcells] at hj; subst hj; simp [Addr.add]; rfl
      | 1, _, hj => simp [dcells] at hj; subst hj; simp [Addr.add]; rfl
      | 2, _, hj => simp [dcells] at hj; subst hj; simp [Addr.add]
      | 3, _, hj => simp [dcells] at hj; subst hj; simp [Addr.add]
      | 4, _, hj => simp [dcells] at hj; subst hj; simp [Addr.add]; rfl
      | 5, _, hj => simp [dcells] at hj; subst hj; simp [Addr.add]; rfl
      | 6, _, hj => simp [dcells] at hj; subst hj; simp [Addr.add]
      | 7, _, hj => simp [dcells] at hj; subst hj; simp [Addr.add]
    case c2 => intro x hx; simp [dcells] at hx; rcases hx with rfl | rfl | rfl | rfl | rfl | rfl | rfl | rfl <;> rfl
    case c3 => unfold maxLen; omega
    case c4 => omega
    case c5 => simp at hs2 ⊢; omega
    intro v' w7 hown' hgrow _
    have HQ7 := hide (show QDr w4.heap.size w7 v' (three x1 x2 x3 x4 ++ [⟨[98, 49], [98], 5000, 10000⟩, ⟨[98, 50], [98], x6, 9000⟩]) by unfold QDr; rw [dcells_app]; exact hown')
    have HS7 := hide (((unhide HS6).alloc _).gro hgrow (fun k hk => by
      rcases (unhide HQ6).2 with ⟨e, _⟩ | ⟨q, _, _, e, hq, _⟩
      · rw [e] at hk; simp [Value.ownBlock] at hk
      · rw [e] at hk; simp [Value.ownBlock] at hk; omega))
    clear hown' hgrow hown
    go_wp2
    go_ret
    refine ⟨_, three x1 x2 x3 x4 ++ [⟨[98, 49], [98], 5000, 10000⟩, ⟨[98, 50], [98], x6, 9000⟩], rfl, hide ⟨(unhide HQ7).1, by rcases (unhide HQ7).2 with h | ⟨a, b, c, h1, h2, h3⟩; exact .inl h; exact .inr ⟨a, b, c, h1, by omega, h3⟩⟩, by simp [unhide HLN], by simp [unhide HLN], hide ?_, HS7⟩
    intro q hq
    rcases List.mem_append.1 hq with hq | hq
    · exact unhide HBR q hq
    · simp at hq
      rcases hq with rfl | rfl <;> simp
end Go.Proofs.YtkpmocbfedgfhaaGreat

/-
  Queues that are drawn, and what is wrong with some of them: l03Queues; a walk over the dump.
-/
namespace Go.Proofs.YtkpmocbfedgfhaaGreat
open Go.RowKit
set_option linter.unusedVariables false
def lenOf : Value → Nat
  | .slice _ n _ => n
  | _ => 0
theorem bs_z (l : List UInt8) : ({ data := #[122] } : ByteArray) ++ bs l = bs (122 :: l) := by
  apply ByteArray.ext
  simp [bs]
theorem QRow.gro {w w' : World} {b off len : Nat} {l : List Q} {row : Option Nat} (h : QRow w (some ⟨b, off, none⟩) len l) (hb : b < w.heap.size) (hg : w.grownBy w' row) (hr : row ≠ some b) : QRow w' (some ⟨b, off, none⟩) len l := by
  have hblk := hg.block b hb (fun e => hr e.symm)
  have hc : ∀ p, w'.cell? ⟨b, p, none⟩ = w.cell? ⟨b, p, none⟩ := fun p => by unfold World.cell?; rw [hblk]
  obtain ⟨h1, h2⟩ := h
  refine ⟨h1, ?_⟩
  rcases h2 with h2 | ⟨b', off', e, h4⟩
  · exact .inl h2
  · cases e
    exact .inr ⟨b, off, rfl, fun i hi => by obtain ⟨a0, a1, a2, a3⟩ := h4 i hi; exact ⟨(hc _).trans a0, (hc _).trans a1, (hc _).trans a2, (hc _).trans a3⟩⟩

set_option maxRecDepth 100000 in
set_option maxHeartbeats 4000000 in
theorem queues_st {w0 : World} {B g : Nat} {ao : Option Addr} {len cap : Nat} (w : World) (h : CSt w0 B g ao len cap w) :
    Calls Tryz.prog 15 #[.pointer (some ⟨g, 0, none⟩)] w fun e w' => ∃ qb n c' ls, e = .returned (.slice (some ⟨qb, 0, none⟩) n c') ∧ Hid (QRow w' (some ⟨qb, 0, none⟩) n ls) ∧ (g < qb ∧ 3 ≤ n) ∧ n ≤ c' ∧ n ≤ 1000 ∧ Hid (Brief ls) ∧ Hid (CSt w0 B g ao len cap w') := by
  obtain ⟨i0, hi, hz0, hz1, hz2⟩ := info_parts Tryz.infoQD
  have HS := hide h
  have hgl := h.1.lt
  have hw0 := h.2.2.1.size
  have hBg := h.2.2.2
  clear h
  go_enter Tryz.func15, Tryz.ntmps15
  go_wp2_with fail
  refine (right_st w (unhide HS)).mono ?_
  rintro e w1 ⟨v, ls, rfl, HQ, hn3, hn5, HBR, HS1⟩
  obtain ⟨qb, qc, cur, rfl, hrow, hqc, hwq, hblk⟩ := (unhide HQ).row (by intro e; rw [e] at hn3; simp at hn3)
  have hqb : qb < w1.heap.size := lt_of_block hblk
  have HROW := hide hrow
  have HBLK := hide hblk
  obtain ⟨n, hn⟩ : ∃ n, ls.length = n := ⟨_, rfl⟩
  have HN := hide hn
  rw [hn] at hn3 hn5 hqc HROW HQ ⊢
  clear hrow hblk hn HS
  go_wp2_with fail
  refine (below_st (n : Int) _ (unhide HS1) (by omega) (by omega)).mono ?_
  rintro e w2 ⟨x, rfl, hx0, hx1, hs2, hg2⟩
  obtain ⟨X, rfl⟩ := Int.eq_ofNat_of_zero_le hx0
  have HS2 := hide hs2
  have HR2 := hide ((unhide HROW).gro hqb hg2 (by intro e; cases e; omega))
  have HB2 := hide ((hg2.block qb hqb (by intro e; cases e; omega)).trans (unhide HBLK))
  have HQ2 := hide ((unhide HQ).kept hg2 (fun k e => by cases e; omega))
  have hs12 := hg2.size
  clear hs2 hg2 HROW HBLK HQ HS1
  go_wp2_with fail
  refine (below_st 16 _ (unhide HS2) (by decide) (by decide)).mono ?_
  rintro e w3 ⟨k, rfl, hk0, hk1, hs3, hg3⟩
  have HS3 := hide hs3
  have HR3 := hide ((unhide HR2).gro (by omega) hg3 (by intro e; cases e; omega))
  have HB3 := hide ((hg3.block qb (by omega) (by intro e; cases e; omega)).trans (unhide HB2))
  have HQ3 := hide ((unhide HQ2).kept hg3 (fun k e => by cases e; omega))
  have hs23 := hg3.size
  clear hs3 hg3 HR2 HB2 HQ2 HS2
  have hXl : X < n := by omega
  have hXls : X < ls.length := by have := unhide HN; omega
  have fin : ∀ (wy : World) (j : Nat) (val : Value) (q : Q), QRow wy (some ⟨qb, 0, none⟩) n ls → CSt w0 B g ao len cap wy → (q.name.length ≤ 1000 ∧ q.parent.length ≤ 1000) →
      ((j = 0 ∧ val = .string (bs q.name) ∧ q = { ls[X] with name := q.name }) ∨ (j = 1 ∧ val = .string (bs q.parent) ∧ q = { ls[X] with parent := q.parent }) ∨ (j = 2 ∧ val = .int .i64 q.due ∧ q = { ls[X] with due := q.due }) ∨ (j = 3 ∧ val = .int .i64 q.most ∧ q = { ls[X] with most := q.most })) →
      Hid (QRow (wy.setCell ⟨qb, 0 + X * 4 + j, none⟩ val) (some ⟨qb, 0, none⟩) n (ls.set X q)) ∧ Hid (Brief (ls.set X q)) ∧ Hid (CSt w0 B g ao len cap (wy.setCell ⟨qb, 0 + X * 4 + j, none⟩ val)) := fun wy j val q h1 h2 h3 h4 =>
    ⟨hide (h1.put X hXls q j val h4), hide ((unhide HBR).set X q h3), hide (h2.set qb _ val (by omega) (by omega) (by omega))⟩
  have FIN := hide fin
  have hnm := unhide HBR ls[X] (List.getElem_mem _)
  obtain ⟨⟨qn, qp, qd, qm⟩, hqX⟩ : ∃ q, ls[X] = q := ⟨_, rfl⟩
  rw [hqX] at hnm
  have HQX := hide hqX
  clear fin hqX
  simp only at hnm
  have X0 : (0 : Int) ≤ X := by omega
  have X1 : (X : Int) < n := by omega
  rcases (show k = 0 ∨ k = 1 ∨ k = 2 ∨ k = 3 ∨ k = 4 ∨ 5 ≤ k by omega) with rfl | rfl | rfl | rfl | rfl | hk5
  · go_wp2_with fail
    refine (name_st _ (unhide HS3).rebase).mono ?_
    rintro e w4 ⟨s, rfl, hsz, hs4⟩
    have HS4 := hide ((unhide HS3).step hs4.1 hs4.2.2.1)
    have HR4 := hide ((unhide HR3).gro (by omega) hs4.2.2.1 (by intro e; cases e; omega))
    have hb4 := (hs4.2.2.1.block qb (by omega) (by intro e; cases e; omega)).trans (unhide HB3)
    have cc := ((unhide HR4).at hXl)
    obtain ⟨b', off', e', hat⟩ := cc
    cases e'
    have c0 := (hat hXls).1
    have f0 : w4.frozen? ⟨qb, X * 4, none⟩ = false := by simp [World.frozen?, hb4]
    simp only [Nat.zero_add] at c0
    obtain ⟨nn, rfl⟩ : ∃ l, s = bs l := ⟨s.data.toList, by simp [bs]⟩
    rw [bs_size] at hsz
    obtain ⟨F1, F2, F3⟩ := unhide FIN w4 0 (.string (bs nn)) ⟨nn, qp, qd, qm⟩ (unhide HR4) (unhide HS4) ⟨by simp only; omega, hnm.2⟩ (.inl ⟨rfl, rfl, by rw [unhide HQX]⟩)
    simp only [Nat.zero_add, Nat.add_zero] at F1 F2 F3
    clear hs4 hb4 hat
    go_wp2
    go_ret
    exact ⟨qb, n, qc, _, rfl, F1, ⟨by omega, hn3⟩, hqc, by omega, F2, F3⟩
  · have hq := hide (pickt_alloc w3 9 [⟨#[]⟩, ⟨#[97]⟩, ⟨#[110, 111, 110, 101]⟩, ⟨#[98, 50]⟩] (by decide))
    go_wp2_with fail
    refine (pickS_st w3.heap.size 4 4 _ ((unhide HS3).alloc _).rebase (unhide hq) (by omega) (by decide) (by decide)).mono ?_
    rintro e w4 ⟨s, rfl, hsz, hs4⟩
    have hg4 := grownBy_trans (grownBy_below (grownBy_refl w3 (some g)) (below_al (Below.refl _ w3) _)) hs4.2.2.1
    have HS4 := hide ((unhide HS3).step hs4.1 hg4)
    have HR4 := hide ((unhide HR3).gro (by omega) hg4 (by intro e; cases e; omega))
    have hb4 := (hg4.block qb (by omega) (by intro e; cases e; omega)).trans (unhide HB3)
    obtain ⟨b', off', e', hat⟩ := ((unhide HR4).at hXl)
    cases e'
    have c0 := (hat hXls).2.1
    have f0 : w4.frozen? ⟨qb, X * 4 + 1, none⟩ = false := by simp [World.frozen?, hb4]
    simp only [Nat.zero_add] at c0
    obtain ⟨nn, rfl⟩ : ∃ l, s = bs l := ⟨s.data.toList, by simp [bs]⟩
    rw [bs_size] at hsz
    obtain ⟨F1, F2, F3⟩ := unhide FIN w4 1 (.string (bs nn)) ⟨qn, nn, qd, qm⟩ (unhide HR4) (unhide HS4) ⟨hnm.1, by simp only; omega⟩ (.inr (.inl ⟨rfl, rfl, by rw [unhide HQX]⟩))
    simp only [Nat.zero_add] at F1 F2 F3
    clear hs4 hb4 hat hg4 hq
    go_wp2
    go_ret
    exact ⟨qb, n, qc, _, rfl, F1, ⟨by omega, hn3⟩, hqc, by omega, F2, F3⟩
  · have hq := hide (ints_alloc w3 3 [-1, 10001, 9999, 0] (by decide))
    go_wp2_with fail
    refine (pick_st w3.heap.size 4 4 _ ((unhide HS3).alloc _).rebase (unhide hq) (by omega) (by decide) (by decide)).mono ?_
    rintro e w4 ⟨s, rfl, _, _, hs4⟩
    have hg4 := grownBy_trans (grownBy_below (grownBy_refl w3 (some g)) (below_al (Below.refl _ w3) _)) hs4.2.2.1
    have HS4 := hide ((unhide HS3).step hs4.1 hg4)
    have HR4 := hide ((unhide HR3).gro (by omega) hg4 (by intro e; cases e; omega))
    have hb4 := (hg4.block qb (by omega) (by intro e; cases e; omega)).trans (unhide HB3)
    obtain ⟨b', off', e', hat⟩ := ((unhide HR4).at hXl)
    cases e'
    have c0 := (hat hXls).2.2.1
    have f0 : w4.frozen? ⟨qb, X * 4 + 2, none⟩ = false := by simp [World.frozen?, hb4]
    simp only [Nat.zero_add] at c0
    obtain ⟨F1, F2, F3⟩ := unhide FIN w4 2 (.int .i64 s) ⟨qn, qp, s, qm⟩ (unhide HR4) (unhide HS4) hnm (.inr (.inr (.inl ⟨rfl, rfl, by rw [unhide HQX]⟩)))
    simp only [Nat.zero_add] at F1 F2 F3
    clear hs4 hb4 hat hg4 hq
    go_wp2
    go_ret
    exact ⟨qb, n, qc, _, rfl, F1, ⟨by omega, hn3⟩, hqc, by omega, F2, F3⟩
  · have hq := hide (ints_alloc w3 3 [-1, 10001, 0] (by decide))
    go_wp2_with fail
    refine (pick_st w3.heap.size 3 3 _ ((unhide HS3).alloc _).rebase (unhide hq) (by omega) (by decide) (by decide)).mono ?_
    rintro e w4 ⟨s, rfl, _, _, hs4⟩
    have hg4 := grownBy_trans (grownBy_below (grownBy_refl w3 (some g)) (below_al (Below.refl _ w3) _)) hs4.2.2.1
    have HS4 := hide ((unhide HS3).step hs4.1 hg4)
    have HR4 := hide ((unhide HR3).gro (by omega) hg4 (by intro e; cases e; omega))
    have hb4 := (hg4.block qb (by omega) (by intro e; cases e; omega)).trans (unhide HB3)
    obtain ⟨b', off', e', hat⟩ := ((unhide HR4).at hXl)
    cases e'
    have c0 := (hat hXls).2.2.2
    have f0 : w4.frozen? ⟨qb, X * 4 + 3, none⟩ = false := by simp [World.frozen?, hb4]
    simp only [Nat.zero_add] at c0
    obtain ⟨F1, F2, F3⟩ := unhide FIN w4 3 (.int .i64 s) ⟨qn, qp, qd, s⟩ (unhide HR4) (unhide HS4) hnm (.inr (.inr (.inr ⟨rfl, rfl, by rw [unhide HQX]⟩)))
    simp only [Nat.zero_add] at F1 F2 F3
    clear hs4 hb4 hat hg4 hq
    go_wp2
    go_ret
    exact ⟨qb, n, qc, _, rfl, F1, ⟨by omega, hn3⟩, hqc, by omega, F2, F3⟩
  · go_wp2
    go_loopw [3] (fun v wr => ∃ ls', v.ownBlock = v.ownBlock ∧ Hid (QDr w.heap.size wr v ls') ∧ 3 ≤ ls'.length ∧ ls'.length ≤ 21 ∧ Hid (Brief ls') ∧ Hid (CSt w0 B g ao len cap wr) ∧ w1.heap.size ≤ wr.heap.size) (fun v _ => 21 - lenOf v)
    case atStart => exact ⟨ls, rfl, HQ3, by have := unhide HN; omega, by have := unhide HN; omega, HBR, HS3, by omega⟩
    case round =>
      obtain ⟨ls', _, HQr, hl3, hl21, HBRr, HSr, hszr⟩ := hrel
      obtain ⟨qb', qc', cur', rfl, hrow, hqc', hwq', hblk⟩ := (unhide HQr).row (by intro e; rw [e] at hl3; simp at hl3)
      obtain ⟨m, hm⟩ : ∃ n, ls'.length = n := ⟨_, rfl⟩
      have HM := hide hm
      rw [hm] at hl3 hl21 hqc' HQr ⊢
      clear hrow hblk hm
      go_wp2_with fail
      refine (below_st 2 _ (unhide HSr) (by decide) (by decide)).mono ?_
      rintro e w5 ⟨y, rfl, hy0, hy1, hs5, hg5⟩
      have HS5 := hide hs5
      have HQ5 := hide ((unhide HQr).kept hg5 (fun k e => by cases e; omega))
      have hsz5 : wr.heap.size ≤ w5.heap.size := hg5.size
      clear hs5 hg5 HSr HQr
      by_cases hlt : (m : Int) < 20 + y
      · have hit := Lib.itoa_length_le (100 + (m : Int)) (by omega) (by omega)
        have CD := hide (fun wx => (specDecText_any (100 + (m : Int)) wx (by omega) (by omega)).mono (fun e w' (h : _ ∧ w' = wx) => (show _ ∧ wx = w' from ⟨h.1, h.2.symm⟩)))
        have hzz := bs_z (Lib.itoa (100 + (m : Int)))
        have hsi : (bs (Lib.itoa (100 + (m : Int)))).size ≤ 30 := by rw [bs_size]; omega
        have hnl : (122 :: Lib.itoa (100 + (m : Int))).length ≤ 1000 := by simp; omega
        obtain ⟨it, hite⟩ : ∃ l, Lib.itoa (100 + (m : Int)) = l := ⟨_, rfl⟩
        rw [hite] at CD hzz hsi hnl
        obtain ⟨nz, hnz⟩ : ∃ l, 122 :: it = l := ⟨_, rfl⟩
        rw [hnz] at hzz hnl
        have n1 : ¬ 9223372036854775807 < 1 + (bs it).size := by omega
        obtain ⟨sb, hsb⟩ : ∃ s, bs it = s := ⟨_, rfl⟩
        rw [hsb] at CD hzz hsi n1
        have hown : w5.ownsRow w.heap.size 63 4 _ ls'.length (dcells ls') := unhide HQ5
        rw [unhide HM] at hown
        have hs2 : w.heap.size ≤ w5.heap.size := by omega
        clear hit hite hnz hsb
        go_wp2_with (first
          | (go_at_call 44; refine (unhide CD _).mono ?_; rintro e w6 ⟨rfl, rfl⟩)
          | (at_builtin; refine wpList_append_own _ rfl _ _ 24 rfl w.heap.size 63 i0 (.agg #[.string ByteArray.empty, .string ByteArray.empty, .int .i64 0, .int .i64 0]) 4 48 Tryz.underlying24 hi hz0 hz1 hz2 rfl (by decide) _ _ _ rfl (hown.alloc _) ⟨w5.heap.size, 0, none⟩ 1 1 (dcell ⟨nz, [114, 111, 111, 116], 0, 5⟩) rfl rfl ?c1 ?c2 ?c3 ?c4 ?c5 ?_))
        case c1 =>
          intro j x hj
          match j, hj with
          | 0, hj => simp at hj; subst hj; simp [Addr.add]
          | 1, hj => simp at hj; subst hj; simp [Addr.add]; rfl
          | 2, hj => simp at hj; subst hj; simp [Addr.add]
          | 3, hj => simp at hj; subst hj; simp [Addr.add]
          | _ + 4, hj => simp at hj
        case c2 => intro x hx; simp at hx; rcases hx with rfl | rfl | rfl | rfl <;> rfl
        case c3 => unfold maxLen; omega
        case c4 => omega
        case c5 => simp at hs2 ⊢; omega
        intro v' w7 hown' hgrow _
        have HQ7 := hide (show QDr w.heap.size w7 v' (ls' ++ [⟨nz, [114, 111, 111, 116], 0, 5⟩]) by unfold QDr; rw [dcells_app, List.length_append, unhide HM]; exact hown')
        have HS7 := hide (((unhide HS5).alloc _).gro hgrow (fun k hk => by
          rcases (unhide HQ5).2 with ⟨e, _⟩ | ⟨q, _, _, e, hq, _⟩
          · rw [e] at hk; simp [Value.ownBlock] at hk
          · rw [e] at hk; simp [Value.ownBlock] at hk; omega))
        have hsz7 : w5.heap.size + 1 ≤ w7.heap.size := by have := hgrow.size; rwa [World.size_alloc] at this
        have hlen7 : lenOf v' = m + 1 := by
          rcases (unhide HQ7).2 with ⟨_, h0⟩ | ⟨a, b, c, e, _⟩
          · simp at h0
          · rw [e]; simp [lenOf, unhide HM]
        have HL7 := hide hlen7
        clear hown' hgrow hown hlen7
        go_wp2
        go_roundw
        case rel =>
          refine ⟨ls' ++ [⟨nz, [114, 111, 111, 116], 0, 5⟩], by trivial, HQ7, by simp; have := unhide HM; omega, by simp; have := unhide HM; omega, hide ?_, HS7, by omega⟩
          intro q hq
          rcases List.mem_append.1 hq with hq | hq
          · exact unhide HBRr q hq
          · have : q = ⟨nz, [114, 111, 111, 116], 0, 5⟩ := by simpa using hq
            rw [this]; exact ⟨hnl, by simp⟩
        case measure => rw [unhide HL7]; simp [lenOf]; omega
      · obtain ⟨HRW, hle⟩ : Hid (QRow w5 (some ⟨qb', 0, none⟩) m ls') ∧ m ≤ qc' := by
          obtain ⟨qb2, qc2, cur2, e2, hrow2, hqc2, _, _⟩ := (unhide HQ5).row (by intro e; have := unhide HM; rw [e] at this; simp at this; omega)
          rw [unhide HM] at e2 hrow2 hqc2
          cases e2
          exact ⟨hide hrow2, hqc2⟩
        go_wp2
        go_ret
        exact ⟨qb', m, qc', ls', rfl, HRW, ⟨by omega, hl3⟩, hle, by omega, HBRr, HS5⟩
  · have e0 : (k == 0) = false := by simp; omega
    have e1 : (k == 1) = false := by simp; omega
    have e2 : (k == 2) = false := by simp; omega
    have e3 : (k == 3) = false := by simp; omega
    have e4 : (k == 4) = false := by simp; omega
    go_wp2
    go_ret
    exact ⟨qb, n, qc, ls, rfl, HR3, ⟨by omega, hn3⟩, hqc, by omega, HBR, HS3⟩
theorem QRow.blk_lt {w : World} {b off n : Nat} {l : List Q} (h : QRow w (some ⟨b, off, none⟩) n l) (hn : 0 < n) : b < w.heap.size := by
  obtain ⟨b', off', e, hq⟩ := h.at hn
  cases e
  exact (hq (by have := h.1; omega)).lt
end Go.Proofs.YtkpmocbfedgfhaaGreat

/-
  A text spoilt: what the model's l01Spoil answers at a cursor; a walk over the dump.
-/
namespace Go.Proofs.YtkpmocbfedgfhaaGreat
open Go.RowKit
set_option linter.unusedVariables false
theorem PickT.drew {w : World} {q L : Nat} (h : PickT w q L) : PickT w.drew q L := h
set_option maxRecDepth 100000 in
set_option maxHeartbeats 2000000 in
theorem spoil_st {w0 : World} {B g : Nat} {ao : Option Addr} {len cap : Nat} (s : ByteArray) (w : World) (h : CSt w0 B g ao len cap w) (hsz : s.size ≤ 3000) :
    Calls Tryz.prog 47 #[.pointer (some ⟨g, 0, none⟩), .string s] w fun e w' => ∃ t : ByteArray, e = .returned (.string t) ∧ t.size ≤ s.size + 12 ∧ CSt w0 B g ao len cap w' := by
  have HS := hide h
  clear h
  go_enter Tryz.func47, Tryz.ntmps47
  go_wp2_with fail
  refine (below_st _ _ (unhide HS) (by omega) (by omega)).mono ?_
  rintro e w1 ⟨i, rfl, hi0, hi1, hs, hg⟩
  obtain ⟨I, rfl⟩ := Int.eq_ofNat_of_zero_le hi0
  have HS1 := hide hs
  clear hs hg HS
  go_wp2_with fail
  refine (below_st 8 _ (unhide HS1) (by decide) (by decide)).mono ?_
  rintro e w2 ⟨z, rfl, hz0, hz1, hs, hg⟩
  have HS2 := hide hs
  clear hs hg HS1
  have hle : I ≤ s.size := by omega
  have hs1 : ∀ wx : World, (Instr.slice 9 (.string s) none (some (.int .i64 (I : Int))) none).run Tryz.prog wx = .ok (.string (s.extract 0 I)) wx := fun wx => by
    have := run_slice_string_to_if (P := Tryz.prog) wx 9 s .i64 (I : Int) Tryz.underlying9
    rw [this, if_pos (by omega), show ((I : Int)).toNat = I from by omega]
  have hs2 : ∀ wx : World, (Instr.slice 9 (.string s) (some (.int .i64 (I : Int))) none none).run Tryz.prog wx = .ok (.string (s.extract I s.size)) wx := fun wx => by
    have := run_slice_string_from_if (P := Tryz.prog) wx 9 s .i64 (I : Int) Tryz.underlying9
    rw [this, if_pos (by omega), show ((I : Int)).toNat = I from by omega]
  have z1 : (s.extract 0 I).size = I := by rw [ByteArray.size_extract]; omega
  have z2 : (s.extract I s.size).size = s.size - I := by rw [ByteArray.size_extract]; omega
  obtain ⟨t1, ht1⟩ : ∃ t, t = s.extract 0 I := ⟨_, rfl⟩
  obtain ⟨t2, ht2⟩ : ∃ t, t = s.extract I s.size := ⟨_, rfl⟩
  rw [← ht1] at z1
  rw [← ht2] at z2
  simp only [← ht1] at hs1
  simp only [← ht2] at hs2
  clear ht1 ht2
  by_cases c0 : z = 0
  · subst c0
    go_wp2
    go_ret
    exact ⟨t1, rfl, by omega, unhide HS2⟩
  · by_cases c1 : z = 1
    · subst c1
      have hq := hide (pickt_alloc w2 9 [⟨#[32]⟩, ⟨#[48]⟩, ⟨#[120]⟩, ⟨#[10]⟩, ⟨#[128]⟩, ⟨#[57]⟩] (by decide)).drew
      have hne : Hid (w2.heap.size ≠ g) := hide (by have := (unhide HS2).1.lt; omega)
      have HS3 := hide (((unhide HS2).alloc (.cells #[.string ⟨#[32]⟩, .string ⟨#[48]⟩, .string ⟨#[120]⟩, .string ⟨#[10]⟩, .string ⟨#[128]⟩, .string ⟨#[57]⟩] 9)).below (Below.refl _ _).drew)
      go_wp2_with fail
      go_region_with (go_at_call 42; refine (pickS_st w2.heap.size 6 6 _ (unhide HS3) (unhide hq) (unhide hne) (by decide) (by decide)).mono ?_; rintro e w3 ⟨x, rfl, hx, hs⟩; have n1 : ¬ 9223372036854775807 < t1.size + x.size := (by omega); have n2 : ¬ 9223372036854775807 < t1.size + x.size + t2.size := (by omega); have HX := hide hx; have HS4 := hide hs; clear hs)
      all_goals
        go_wp2
        go_ret
        exact ⟨_, rfl, by simp only [ByteArray.size_append]; have := unhide HX; omega, unhide HS4⟩
    · go_wp2
      go_ret
      exact ⟨s, rfl, by omega, unhide HS2⟩
end Go.Proofs.YtkpmocbfedgfhaaGreat
