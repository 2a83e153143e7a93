/-
  What the model's PutNum answers: seven bits a byte, the lowest first; a walk over the dump.
-/
import Derived.Test.YtmmdckakchconaaIn
import Derived.Test.YtmmdckakchconaaBytes
import Derived.Laws.IdiomStrings
import Derived.Lib.ItoaMem
namespace Go.Proofs.Ytmmdckakchconaa
open Go.RowKit
def pn : Nat → Nat → List UInt8
  | 0, u => [UInt8.ofNat u]
  | f + 1, u => if u < 128 then [UInt8.ofNat u] else UInt8.ofNat (128 + u % 128) :: pn f (u / 128)
/-- the bytes of u: seven bits each, the lowest first, each but the last with 128 more -/
def put (u : Nat) : List UInt8 := pn u u
theorem pn_eq : ∀ (f g u : Nat), u ≤ f → u ≤ g → pn f u = pn g u := by
  intro f
  induction f with
  | zero =>
    intro g u h _
    have : u = 0 := by omega
    subst this
    cases g <;> simp [pn]
  | succ f ih =>
    intro g u h1 h2
    cases g with
    | zero =>
      have : u = 0 := by omega
      subst this
      simp [pn]
    | succ g =>
      by_cases hu : u < 128
      · simp [pn, hu]
      · simp only [pn, hu, if_false]
        rw [ih g (u / 128) (by omega) (by omega)]
theorem put_small {u : Nat} (h : u < 128) : put u = [UInt8.ofNat u] := by
  unfold put
  cases u <;> simp [pn]
  omega
theorem put_step {u : Nat} (h : ¬ u < 128) : put u = UInt8.ofNat (128 + u % 128) :: put (u / 128) := by
  unfold put
  cases u with
  | zero => omega
  | succ u =>
    rw [pn, if_neg h, pn_eq u ((u + 1) / 128) ((u + 1) / 128) (by omega) (by omega)]
theorem put_len : ∀ (k u : Nat), u < 128 ^ (k + 1) → (put u).length ≤ k + 1 := by
  intro k
  induction k with
  | zero => intro u h; rw [put_small (by simpa using h)]; simp
  | succ k ih =>
    intro u h
    by_cases hu : u < 128
    · rw [put_small hu]; simp
    · rw [put_step hu]
      have := ih (u / 128) (by rw [Nat.pow_succ] at h; omega)
      simp only [List.length_cons]; omega
theorem put_pos (u : Nat) : 1 ≤ (put u).length := by
  by_cases hu : u < 128
  · rw [put_small hu]; simp
  · rw [put_step hu]; simp
theorem put_le5 {u : Nat} (h : u ≤ 4000000000) : (put u).length ≤ 5 := put_len 4 u (by omega)
def putNum (n : Int) : List UInt8 := if 0 ≤ n ∧ n ≤ 4000000000 then put n.toNat else []

set_option maxRecDepth 100000 in
set_option maxHeartbeats 1000000 in
theorem specPutNum_yes (N : Nat) (w : World) (hN : N ≤ 4000000000) :
    Calls Try.prog 26 #[.int .i64 (N : Int)] w fun e w' => e = .returned (.string (bs (put N))) ∧ Below w.heap.size w w' := by
  obtain ⟨i0, hi, hz0, hz1, hz2⟩ := info_parts Try.info5
  have e0 : inB (N : Int) 0 4000000000 = true := inB_true (by omega) (by omega)
  have hl5 := put_le5 hN
  go_enter Try.func26, Try.ntmps26
  go_wp2_with (go_at_call 35; refine (l01In_any _ _ _ _).mono ?_; rintro e w' ⟨rfl, rfl⟩)
  go_loopw [0, 3] (fun n o wr => ∃ (u : Nat) (l : List UInt8), u ≤ N ∧ n = .int .i64 (u : Int) ∧ l ++ put u = put N ∧ wr.ownsRow w.heap.size 5 1 o l.length (cells l) ∧ Below w.heap.size w wr) (fun n _ _ => (intOf n).toNat)
  case atStart => exact ⟨N, [], Nat.le_refl _, rfl, rfl, own_empty w 5, (Below.refl _ _).alloc (Nat.le_refl _) _⟩
  case round =>
    obtain ⟨u, l, hu, rfl, hcat, hown, hbel⟩ := hrel
    have hl : l.length ≤ 4 := by have := congrArg List.length hcat; have := put_pos u; simp only [List.length_append] at *; omega
    have hsz := hbel.size
    have HC := hide hcat
    clear hcat
    by_cases hu0 : u < 128
    · have hx : Hid (((UInt8.ofNat u).toNat : Int) = (u : Int)) := hide (byteOf u (by omega))
      go_wp2_with (at_builtin; refine wpList_append_own _ rfl _ _ 65 rfl w.heap.size 5 i0 (.int .u8 0) 1 1 Try.underlying65 hi hz0 hz1 hz2 rfl (by decide) _ _ _ rfl (hown.alloc _) ⟨wr.heap.size, 0, none⟩ 1 1 [.int .u8 (u : Int)] rfl rfl ?c1 ?c2 ?c3 ?c4 ?c5 ?_)
      case c1 => intro j v hj; match j, hj with | 0, hj => simp at hj; subst hj; simp [Addr.add]
      case c2 => intro v hv; simp at hv; subst hv; rfl
      case c3 => unfold maxLen; omega
      case c4 => omega
      case c5 => simp; omega
      intro v' w1 hown' hgrow _
      have R := row_step (B := w.heap.size) hbel hown hown' hgrow (unhide hx) (by omega)
      have hc := own_str R.1 (by simp)
      have HB := hide R.2
      have HP : Hid (l ++ [UInt8.ofNat u] = put N) := hide (by rw [← unhide HC, put_small hu0])
      clear hown' hgrow hown hbel R
      go_wp2
      go_ret
      exact ⟨ret_str (congrArg bs (unhide HP)), unhide HB⟩
    · have hx : Hid (((UInt8.ofNat (128 + u % 128)).toNat : Int) = 128 + (u : Int) % 128) := hide (byteOf (128 + u % 128) (by omega))
      go_wp2_with (at_builtin; refine wpList_append_own _ rfl _ _ 65 rfl w.heap.size 5 i0 (.int .u8 0) 1 1 Try.underlying65 hi hz0 hz1 hz2 rfl (by decide) _ _ _ rfl (hown.alloc _) ⟨wr.heap.size, 0, none⟩ 1 1 [.int .u8 (128 + (u : Int) % 128)] rfl rfl ?d1 ?d2 ?d3 ?d4 ?d5 ?_)
      case d1 => intro j v hj; match j, hj with | 0, hj => simp at hj; subst hj; simp [Addr.add]
      case d2 => intro v hv; simp at hv; subst hv; rfl
      case d3 => unfold maxLen; omega
      case d4 => omega
      case d5 => simp; omega
      intro v' w1 hown' hgrow _
      have R := row_step (B := w.heap.size) hbel hown hown' hgrow (unhide hx) (by omega)
      clear hown' hgrow hown hbel
      go_wp2
      go_roundw
      case rel => exact ⟨u / 128, l ++ [UInt8.ofNat (128 + u % 128)], by omega, by go_num, by rw [← unhide HC, put_step hu0]; simp, R.1, R.2⟩
      case measure => simp [intOf]; omega

set_option maxHeartbeats 400000 in
theorem specPutNum_no (n : Int) (w : World) (h : ¬ (0 ≤ n ∧ n ≤ 4000000000)) :
    Calls Try.prog 26 #[.int .i64 n] w fun e w' => e = .returned (.string (bs [])) ∧ Below w.heap.size w w' := by
  have e0 : inB n 0 4000000000 = false := inB_false h
  clear h
  go_enter Try.func26, Try.ntmps26
  go_wp2_with (go_at_call 35; refine (l01In_any _ _ _ _).mono ?_; rintro e w' ⟨rfl, rfl⟩)
  go_ret
  exact ⟨rfl, Below.refl _ _⟩

theorem specPutNum_any (n : Int) (w : World) :
    Calls Try.prog 26 #[.int .i64 n] w fun e w' => e = .returned (.string (bs (putNum n))) ∧ Below w.heap.size w w' := by
  by_cases h : 0 ≤ n ∧ n ≤ 4000000000
  · rw [putNum, if_pos h]
    obtain ⟨N, rfl⟩ := Int.eq_ofNat_of_zero_le h.1
    exact specPutNum_yes N w (by omega)
  · rw [putNum, if_neg h]
    exact specPutNum_no n w h
end Go.Proofs.Ytmmdckakchconaa
