/-
  PickW and numbers drawn for sums, numerals, words and names; walks over the dump.
-/
import Derived.Test.YthnkbdjombiodaaDoorDrawB
import Derived.Test.YthnkbdjombiodaaDoorDrawO
import Derived.Test.YthnkbdjombiodaaDoorDrawT
import Derived.Test.YthnkbdjombiodaaDoorDec
namespace Go.Proofs.YthnkbdjombiodaaDoor
open Go.RowKit
set_option linter.unusedVariables false

set_option maxRecDepth 100000 in
set_option maxHeartbeats 1000000 in
theorem name_st {w0 : World} {B g : Nat} {ao : Option Addr} {len cap : Nat} (w : World) (h : St w0 B g ao len cap w) :
    Calls Tryd.prog 47 #[.pointer (some ⟨g, 0, none⟩)] w fun e w' => ∃ s : ByteArray, e = .returned (.string s) ∧ s.size ≤ 12 ∧ St w0 B g ao len cap w' := by
  have HS := hide h
  clear h
  go_enter Tryd.func47, Tryd.ntmps47
  go_wp2_with fail
  refine (once_st 16 _ (unhide HS) (by decide) (by decide)).mono ?_
  rintro e w1 ⟨x, rfl, hs1⟩
  have HS1 := hide hs1
  have hne : Hid (w1.heap.size ≠ g) := hide (by have := hs1.1.lt; omega)
  clear hs1
  cases x with
  | true =>
    have hq := hide (texts_alloc w1 9 [⟨#[]⟩, ⟨#[65]⟩, ⟨#[48, 49, 50, 51, 52, 53, 54, 55, 56, 57]⟩, ⟨#[48, 49, 50, 51, 52, 53, 54, 55, 56, 57, 48]⟩, ⟨#[97, 32, 98]⟩] (by decide))
    go_wp2_with fail
    refine (pickS_st w1.heap.size 5 5 _ ((unhide HS1).alloc _) (unhide hq) (unhide hne) (by decide) (by decide)).mono ?_
    rintro e w2 ⟨x, rfl, hx0, hs2⟩
    have HS2 := hide hs2
    clear hs2
    go_wp2
    go_ret
    exact ⟨x, rfl, hx0, unhide HS2⟩
  | false =>
    have hq := hide (texts_alloc w1 9 [⟨#[97]⟩, ⟨#[98]⟩, ⟨#[114, 111, 111, 116]⟩] (by decide))
    go_wp2_with fail
    refine (pickS_st w1.heap.size 3 3 _ ((unhide HS1).alloc _) (unhide hq) (unhide hne) (by decide) (by decide)).mono ?_
    rintro e w2 ⟨x, rfl, hx0, hs2⟩
    have HS2 := hide hs2
    clear hs2
    go_wp2
    go_ret
    exact ⟨x, rfl, hx0, unhide HS2⟩

set_option maxHeartbeats 400000 in
theorem drawNameOk_any (B : Nat) (ao : Option Addr) (len cap : Nat) (w : World) (hcode : Code w B ao len) :
    Calls Tryd.prog 16 #[.slice ao len cap] w fun e w' => ∃ s : ByteArray, e = .returned (.string s) ∧ s.size ≤ 3000 ∧ Below w.heap.size w w' := by
  have HK := hide hcode
  clear hcode
  go_enter Tryd.func16, Tryd.ntmps16
  go_wp2_with fail
  refine (new_st B ao len cap _ (unhide HK)).mono ?_
  rintro e w1 ⟨rfl, hs1⟩
  have HS1 := hide hs1
  clear hs1
  go_wp2_with fail
  refine (name_st _ (unhide HS1)).mono ?_
  rintro e w2 ⟨x, rfl, hx0, hs2⟩
  have HB := hide (hs2.done (Nat.le_refl _))
  clear hs2
  go_wp2
  go_ret
  exact ⟨x, rfl, by omega, unhide HB⟩

set_option maxHeartbeats 400000 in
theorem drawCheckSum_any (B : Nat) (ao : Option Addr) (len cap : Nat) (w : World) (hcode : Code w B ao len) :
    Calls Tryd.prog 11 #[.slice ao len cap] w fun e w' => ∃ s : ByteArray, e = .returned (.string s) ∧ s.size ≤ 3000 ∧ Below w.heap.size w w' := by
  have HK := hide hcode
  clear hcode
  go_enter Tryd.func11, Tryd.ntmps11
  go_wp2_with fail
  refine (new_st B ao len cap _ (unhide HK)).mono ?_
  rintro e w1 ⟨rfl, hs1⟩
  have HS1 := hide hs1
  clear hs1
  go_wp2_with fail
  refine (below_st 40 _ (unhide HS1) (by decide) (by decide)).mono ?_
  rintro e w2 ⟨z, rfl, hz0, hz1, hs2, _⟩
  have HS2 := hide hs2
  clear hs2
  go_wp2_with fail
  refine (bytes_int _ _ (unhide HS2) (by omega) (by omega)).mono ?_
  rintro e w3 ⟨s, rfl, hsz, hs3⟩
  have HB := hide (hs3.done (Nat.le_refl _))
  have HSZ := hide hsz
  clear hs3 hsz
  go_wp2
  go_ret
  exact ⟨s, rfl, by have := unhide HSZ; omega, unhide HB⟩

set_option maxRecDepth 100000 in
set_option maxHeartbeats 1000000 in
theorem drawReadDec_any (B : Nat) (ao : Option Addr) (len cap : Nat) (w : World) (hcode : Code w B ao len) :
    Calls Tryd.prog 12 #[.slice ao len cap] w fun e w' => ∃ s : ByteArray, e = .returned (.string s) ∧ s.size ≤ 3000 ∧ Below w.heap.size w w' := by
  have HK := hide hcode
  clear hcode
  go_enter Tryd.func12, Tryd.ntmps12
  go_wp2_with fail
  refine (new_st B ao len cap _ (unhide HK)).mono ?_
  rintro e w1 ⟨rfl, hs1⟩
  have HS1 := hide hs1
  clear hs1
  go_wp2_with fail
  refine (once_st 3 _ (unhide HS1) (by decide) (by decide)).mono ?_
  rintro e w2 ⟨x, rfl, hs2⟩
  have HS2 := hide hs2
  have hne : Hid (w2.heap.size ≠ w.heap.size) := hide (by have := hs2.1.lt; omega)
  clear hs2
  cases x with
  | true =>
    have hq := hide (texts_alloc w2 9 [⟨#[]⟩, ⟨#[45, 49]⟩, ⟨#[48, 48]⟩, ⟨#[48, 49]⟩, ⟨#[49, 120]⟩, ⟨#[49, 48, 48, 48, 48, 48, 48, 48, 48, 48]⟩, ⟨#[49, 48, 48, 48, 48, 48, 48, 48, 48, 49]⟩, ⟨#[57, 57, 57, 57, 57, 57, 57, 57, 57, 57, 57]⟩] (by decide))
    go_wp2_with fail
    refine (pickS_st w2.heap.size 8 8 _ ((unhide HS2).alloc _) (unhide hq) (unhide hne) (by decide) (by decide)).mono ?_
    rintro e w3 ⟨x, rfl, hx0, hs3⟩
    have HB := hide (hs3.done (Nat.le_refl _))
    clear hs3
    go_wp2
    go_ret
    exact ⟨x, rfl, by omega, unhide HB⟩
  | false =>
    go_wp2_with fail
    refine (below_st 100000 _ (unhide HS2) (by decide) (by decide)).mono ?_
    rintro e w3 ⟨z, rfl, hz0, hz1, hs3, _⟩
    have HB := hide (hs3.done (Nat.le_refl _))
    clear hs3
    have hln : Hid ((bs (Lib.itoa z)).size ≤ 3000) := hide (by rw [bs_size]; have := Lib.itoa_length_le z (by omega) (by omega); omega)
    go_wp2_with fail
    refine (specDecText_any _ _ (by omega) (by omega)).mono ?_
    rintro e w4 ⟨rfl, rfl⟩
    go_wp2
    go_ret
    exact ⟨_, rfl, unhide hln, unhide HB⟩

set_option maxRecDepth 100000 in
set_option maxHeartbeats 1000000 in
theorem drawDecText_any (B : Nat) (ao : Option Addr) (len cap : Nat) (w : World) (hcode : Code w B ao len) :
    Calls Tryd.prog 14 #[.slice ao len cap] w fun e w' => ∃ x : Int, e = .returned (.int .i64 x) ∧ -9223372036854775808 ≤ x ∧ x ≤ 9223372036854775807 ∧ Below w.heap.size w w' := by
  have HK := hide hcode
  clear hcode
  go_enter Tryd.func14, Tryd.ntmps14
  go_wp2_with fail
  refine (new_st B ao len cap _ (unhide HK)).mono ?_
  rintro e w1 ⟨rfl, hs1⟩
  have HS1 := hide hs1
  clear hs1
  go_wp2_with fail
  refine (below_st 100000 _ (unhide HS1) (by decide) (by decide)).mono ?_
  rintro e w2 ⟨z, rfl, hz0, hz1, hs2, _⟩
  have HS2 := hide hs2
  have hne : Hid (w2.heap.size ≠ w.heap.size) := hide (by have := hs2.1.lt; omega)
  clear hs2
  have hq := hide (ints_alloc w2 3 [0, -1, 10, 9223372036854775807, -9223372036854775808, z] (by simp; omega))
  go_wp2_with fail
  refine (pick_st w2.heap.size 6 6 _ ((unhide HS2).alloc _) (unhide hq) (unhide hne) (by decide) (by decide)).mono ?_
  rintro e w3 ⟨x, rfl, hx0, hx1, hs3⟩
  have HB := hide (hs3.done (Nat.le_refl _))
  clear hs3
  go_wp2
  go_ret
  exact ⟨x, rfl, hx0, hx1, unhide HB⟩

set_option maxRecDepth 100000 in
set_option maxHeartbeats 1000000 in
theorem drawWords_any (B : Nat) (ao : Option Addr) (len cap : Nat) (w : World) (hcode : Code w B ao len) :
    Calls Tryd.prog 15 #[.slice ao len cap] w fun e w' => ∃ s : ByteArray, e = .returned (.string s) ∧ s.size ≤ 3000 ∧ Below w.heap.size w w' := by
  have HK := hide hcode
  clear hcode
  go_enter Tryd.func15, Tryd.ntmps15
  go_wp2_with fail
  refine (new_st B ao len cap _ (unhide HK)).mono ?_
  rintro e w1 ⟨rfl, hs1⟩
  have HS1 := hide hs1
  clear hs1
  go_wp2_with fail
  refine (below_st 6 _ (unhide HS1) (by decide) (by decide)).mono ?_
  rintro e w2 ⟨z, rfl, hz0, hz1, hs2, _⟩
  have HS2 := hide hs2
  clear hs2
  obtain ⟨Z, rfl⟩ := Int.eq_ofNat_of_zero_le hz0
  go_wp2
  go_loopw [4, 6] (fun o i wr => ∃ (k : Nat) (s : ByteArray), k ≤ Z ∧ i = .int .i64 (k : Int) ∧ o = .string s ∧ s.size ≤ 12 * k ∧ St w B w.heap.size ao len cap wr) (fun _ i _ => Z - (intOf i).toNat)
  case atStart => exact ⟨0, ⟨#[]⟩, Nat.zero_le _, rfl, rfl, by decide, unhide HS2⟩
  case round =>
    obtain ⟨k, s, hk, rfl, rfl, hsz, hst⟩ := hrel
    have HST := hide hst
    have hne : Hid (wr.heap.size ≠ w.heap.size) := hide (by have := hst.1.lt; omega)
    clear hst
    by_cases hlt : k < Z
    · have hq := hide (texts_alloc wr 9 [⟨#[97]⟩, ⟨#[32]⟩, ⟨#[98, 99]⟩, ⟨#[32]⟩, ⟨#[]⟩] (by decide))
      go_wp2_with fail
      refine (pickS_st wr.heap.size 5 5 _ ((unhide HST).alloc _) (unhide hq) (unhide hne) (by decide) (by decide)).mono ?_
      rintro e w3 ⟨x, rfl, hx0, hs3⟩
      have HS3 := hide hs3
      clear hs3
      go_wp2
      go_roundw
      case rel => exact ⟨k + 1, s ++ x, by omega, by go_num, rfl, by rw [ByteArray.size_append]; omega, unhide HS3⟩
      case measure => simp [intOf]; omega
    · have HB := hide ((unhide HST).done (Nat.le_refl _))
      go_wp2
      go_ret
      exact ⟨s, rfl, by omega, unhide HB⟩
end Go.Proofs.YthnkbdjombiodaaDoor
