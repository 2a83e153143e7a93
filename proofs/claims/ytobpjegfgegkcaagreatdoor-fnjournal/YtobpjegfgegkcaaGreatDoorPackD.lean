/-
  Several texts of this claim in one: PutI, PutText, TakeD, RegS (pack.py put them together); each says in its own remark what is proved.
-/
import Derived.Test.YtobpjegfgegkcaaGreatDoorPackA
import Derived.Deep.RegionHeld3
/-
  What the program's PutNum answers: seven bits a byte, the lowest first; a walk over the dump.
-/
namespace Go.Proofs.YtobpjegfgegkcaaGreatDoor
open Go.RowKit
theorem own_five (w : World) : (w.alloc (.cells #[.int .u8 0, .int .u8 0, .int .u8 0, .int .u8 0, .int .u8 0] 5)).ownsRow w.heap.size 5 1 (.slice (some ⟨w.heap.size, 0, none⟩) 0 5) ([] : List UInt8).length (cells []) :=
  ⟨rfl, .inr ⟨w.heap.size, 5, #[.int .u8 0, .int .u8 0, .int .u8 0, .int .u8 0, .int .u8 0], rfl, Nat.le_refl _, by show (w.heap.push _)[w.heap.size]? = _; simp, by simp, by unfold maxLen; omega, rfl, rfl⟩⟩

set_option maxHeartbeats 400000 in
theorem implPutNum_no (n : Int) (w : World) (h : ¬ (0 ≤ n ∧ n ≤ 4000000000)) :
    Calls Tryz.prog 29 #[.int .i64 n] w fun e w' => e = .returned (.string (bs [])) ∧ Below w.heap.size w w' := by
  by_cases h0 : n < 0
  · clear h
    go_enter Tryz.func29, Tryz.ntmps29
    go_wp2
    go_ret
    exact ⟨rfl, Below.refl _ _⟩
  · have h1 : 4000000000 < n := by omega
    clear h
    go_enter Tryz.func29, Tryz.ntmps29
    go_wp2
    go_ret
    exact ⟨rfl, Below.refl _ _⟩

set_option maxRecDepth 100000 in
set_option maxHeartbeats 1000000 in
theorem implPutNum_yes (N : Nat) (w : World) (hN : N ≤ 4000000000) :
    Calls Tryz.prog 29 #[.int .i64 (N : Int)] w fun e w' => e = .returned (.string (bs (put N))) ∧ Below w.heap.size w w' := by
  obtain ⟨i0, hi, hz0, hz1, hz2⟩ := info_parts Tryz.info5
  have hl5 := put_le5 hN
  have hmk : ∀ w : World, (Instr.makeSlice 22 (.int .i64 0) (.int .i64 5)).run Tryz.prog w = .ok (.slice (some ⟨w.heap.size, 0, none⟩) 0 5) (w.alloc (.cells #[.int .u8 0, .int .u8 0, .int .u8 0, .int .u8 0, .int .u8 0] 5)) := fun _ => by kernel_rfl
  go_enter Tryz.func29, Tryz.ntmps29
  go_wp2
  clear hmk
  go_loopw [3, 4] (fun o n wr => ∃ (u : Nat) (l : List UInt8), u ≤ N ∧ n = .int .u32 (u : Int) ∧ l ++ put u = put N ∧ wr.ownsRow w.heap.size 5 1 o l.length (cells l) ∧ Below w.heap.size w wr) (fun _ n _ => (intOf n).toNat)
  case atStart => exact ⟨N, [], Nat.le_refl _, rfl, rfl, own_five w, (Below.refl _ _).alloc (Nat.le_refl _) _⟩
  case round =>
    obtain ⟨u, l, hu, rfl, hcat, hown, hbel⟩ := hrel
    have hl : l.length ≤ 4 := by have := congrArg List.length hcat; have := put_pos u; simp only [List.length_append] at *; omega
    have hsz := hbel.size
    have HC := hide hcat
    clear hcat
    by_cases hu0 : u < 128
    · have hx : Hid (((UInt8.ofNat u).toNat : Int) = (u : Int)) := hide (byteOf u (by omega))
      go_wp2_with (at_builtin; refine wpList_append_own _ rfl _ _ 22 rfl w.heap.size 5 i0 (.int .u8 0) 1 1 Tryz.underlying22 hi hz0 hz1 hz2 rfl (by decide) _ _ _ rfl (hown.alloc _) ⟨wr.heap.size, 0, none⟩ 1 1 [.int .u8 (u : Int)] rfl rfl ?c1 ?c2 ?c3 ?c4 ?c5 ?_)
      case c1 => intro j v hj; match j, hj with | 0, hj => simp at hj; subst hj; simp [Addr.add]
      case c2 => intro v hv; simp at hv; subst hv; rfl
      case c3 => unfold maxLen; omega
      case c4 => omega
      case c5 => simp; omega
      intro v' w1 hown' hgrow _
      have R := row_step (B := w.heap.size) hbel hown hown' hgrow (unhide hx) (by omega)
      have hc := own_str R.1 (by simp)
      have HB := hide R.2
      have HP : Hid (l ++ [UInt8.ofNat u] = put N) := hide (by rw [← unhide HC, put_small hu0])
      clear hown' hgrow hown hbel R
      go_wp2
      go_ret
      exact ⟨ret_str (congrArg bs (unhide HP)), unhide HB⟩
    · have hx : Hid (((UInt8.ofNat (128 + u % 128)).toNat : Int) = bits .or .u8 ((u : Int) % 256) 128) := hide (by rw [or128 u]; exact byteOf (128 + u % 128) (by omega))
      go_wp2_with (at_builtin; refine wpList_append_own _ rfl _ _ 22 rfl w.heap.size 5 i0 (.int .u8 0) 1 1 Tryz.underlying22 hi hz0 hz1 hz2 rfl (by decide) _ _ _ rfl (hown.alloc _) ⟨wr.heap.size, 0, none⟩ 1 1 [.int .u8 (bits .or .u8 ((u : Int) % 256) 128)] rfl rfl ?d1 ?d2 ?d3 ?d4 ?d5 ?_)
      case d1 => intro j v hj; match j, hj with | 0, hj => simp at hj; subst hj; simp [Addr.add]
      case d2 => intro v hv; simp at hv; subst hv; rfl
      case d3 => unfold maxLen; omega
      case d4 => omega
      case d5 => simp; omega
      intro v' w1 hown' hgrow _
      have R := row_step (B := w.heap.size) hbel hown hown' hgrow (unhide hx) (by omega)
      clear hown' hgrow hown hbel
      go_wp2
      go_roundw
      case rel => exact ⟨u / 128, l ++ [UInt8.ofNat (128 + u % 128)], by omega, by go_num, by rw [← unhide HC, put_step hu0]; simp, R.1, R.2⟩
      case measure => simp [intOf]; omega

theorem implPutNum_any (n : Int) (w : World) :
    Calls Tryz.prog 29 #[.int .i64 n] w fun e w' => e = .returned (.string (bs (putNum n))) ∧ Below w.heap.size w w' := by
  by_cases h : 0 ≤ n ∧ n ≤ 4000000000
  · rw [putNum, if_pos h]
    obtain ⟨N, rfl⟩ := Int.eq_ofNat_of_zero_le h.1
    exact implPutNum_yes N w (by omega)
  · rw [putNum, if_neg h]
    exact implPutNum_no n w h
end Go.Proofs.YtobpjegfgegkcaaGreatDoor

/-
  What PutText answers, the program's and the model's: the bytes of the length, and the text; walks over the dump.
-/
namespace Go.Proofs.YtobpjegfgegkcaaGreatDoor
open Go.RowKit
def putText (l : List UInt8) : List UInt8 := if l.length ≤ 2000 then put l.length ++ l else []
theorem bs_append (l : List UInt8) (s : ByteArray) : bs l ++ s = bs (l ++ s.data.toList) := by
  cases s with
  | mk d => unfold bs; rw [ByteArray.mk_append_mk]

set_option maxHeartbeats 400000 in
theorem specPutText_any (s : ByteArray) (w : World) (hs : s.size ≤ 1048576) :
    Calls Tryz.prog 38 #[.string s] w fun e w' => e = .returned (.string (bs (putText s.data.toList))) ∧ Below w.heap.size w w' := by
  by_cases h : s.size ≤ 2000
  · have hp : (bs (put s.size)).size ≤ 5 := by rw [bs_size]; exact put_le5 (by omega)
    have hf : Hid (bs (put s.size) ++ s = bs (putText s.data.toList)) := hide (by rw [putText, len_eq, if_pos h, bs_append])
    go_enter Tryz.func38, Tryz.ntmps38
    go_wp2_with fail
    refine (specPutNum_yes s.size _ (by omega)).mono ?_
    rintro e w1 ⟨rfl, hb1⟩
    have HB := hide hb1
    clear hb1
    go_wp2
    go_ret
    exact ⟨ret_str (unhide hf), unhide HB⟩
  · have hf : Hid (putText s.data.toList = []) := hide (by rw [putText, len_eq, if_neg h])
    go_enter Tryz.func38, Tryz.ntmps38
    go_wp2
    go_ret
    exact ⟨ret_str (by rw [unhide hf]; rfl), Below.refl _ _⟩

set_option maxHeartbeats 400000 in
theorem implPutText_any (s : ByteArray) (w : World) (hs : s.size ≤ 1048576) :
    Calls Tryz.prog 30 #[.string s] w fun e w' => e = .returned (.string (bs (putText s.data.toList))) ∧ Below w.heap.size w w' := by
  by_cases h : s.size ≤ 2000
  · have hp : (bs (put s.size)).size ≤ 5 := by rw [bs_size]; exact put_le5 (by omega)
    have hf : Hid (bs (put s.size) ++ s = bs (putText s.data.toList)) := hide (by rw [putText, len_eq, if_pos h, bs_append])
    go_enter Tryz.func30, Tryz.ntmps30
    go_wp2_with fail
    refine (implPutNum_yes s.size _ (by omega)).mono ?_
    rintro e w1 ⟨rfl, hb1⟩
    have HB := hide hb1
    clear hb1
    go_wp2
    go_ret
    exact ⟨ret_str (unhide hf), unhide HB⟩
  · have hf : Hid (putText s.data.toList = []) := hide (by rw [putText, len_eq, if_neg h])
    go_enter Tryz.func30, Tryz.ntmps30
    go_wp2
    go_ret
    exact ⟨ret_str (by rw [unhide hf]; rfl), Below.refl _ _⟩
end Go.Proofs.YtobpjegfgegkcaaGreatDoor

/-
  An operation of a region that draws its order, taken first, where it puts its value said by its number.
-/
namespace Go.Proofs.YtobpjegfgegkcaaGreatDoor
open Go.RowKit
theorem takeD {P : Program} {ops : Array Oper} {Q : Exit → Act → World → Prop} {md : Region.Mode} {S : World → Prop} {i : Nat} {oi : Oper} {v : Value} {d : Option Tmp} {fuel : Nat} {listed : Array Bool} {a : Act} {w : World} (hi : ops[i]? = some oi) (hd : oi.dst = d)
    (hs : Region.noSelect ops = true) (hf : Region.free md ops listed i = true) (hr : (Region.ready md ops listed).contains i = true)
    (hQ : ∀ c a w, Q (.panic c) (a.put d v) w → Q (.panic c) a w) (hy : YieldsIf P ops S oi v a) (hS : S w)
    (h : wpAnyH P md ops Q S fuel (listed.setIfInBounds i true) (a.put d v) w) : wpAnyH P md ops Q S (fuel + 1) listed a w := by
  subst hd
  exact wpAnyH_take hi hs hf hr hQ hy hS h
end Go.Proofs.YtobpjegfgegkcaaGreatDoor

/-
  A region that draws its order: what is held of the world may be narrowed on the way.
-/
namespace Go.Proofs.YtobpjegfgegkcaaGreatDoor
open Go.RowKit
theorem wpAnyH_narrow {P : Program} {ops : Array Oper} {Q : Exit → Act → World → Prop} {md : Region.Mode} {S S' : World → Prop} (hs : ∀ w, S' w → S w) :
    ∀ (fuel : Nat) (listed : Array Bool) (a : Act) (w : World), wpAnyH P md ops Q S' fuel listed a w → wpAnyH P md ops Q S fuel listed a w
  | 0, _, _, _, h => h
  | fuel + 1, _, _, _, h => ⟨h.1, fun i hi => wpOp_mono (fun a' w' h' => ⟨hs _ h'.1, wpAnyH_narrow hs fuel _ a' w' h'.2⟩) (h.2 i hi)⟩
end Go.Proofs.YtobpjegfgegkcaaGreatDoor
