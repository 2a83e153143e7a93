/-
  Texts drawn for the first chapter, as they are put and spoilt; walks over the dump.
-/
import Derived.Test.YtfmhibkgmcafgaaDraw3
import Derived.Test.YtfmhibkgmcafgaaPutText
namespace Go.Proofs.Ytfmhibkgmcafgaa
open Go.RowKit
set_option linter.unusedVariables false

set_option maxRecDepth 100000 in
set_option maxHeartbeats 1000000 in
theorem drawPutText_any (B : Nat) (ao : Option Addr) (len cap : Nat) (w : World) (hcode : Code w B ao len) :
    Calls Try.prog 10 #[.slice ao len cap] w fun e w' => ∃ s : ByteArray, e = .returned (.string s) ∧ s.size ≤ 3000 ∧ Below w.heap.size w w' := by
  have HK := hide hcode
  clear hcode
  go_enter Try.func10, Try.ntmps10
  go_wp2_with fail
  refine (new_st B ao len cap _ (unhide HK)).mono ?_
  rintro e w1 ⟨rfl, hs1⟩
  have HS1 := hide hs1
  clear hs1
  go_wp2_with fail
  refine (once_st 20 _ (unhide HS1) (by decide) (by decide)).mono ?_
  rintro e w4 ⟨y, rfl, hs4⟩
  have HS4 := hide hs4
  clear hs4
  cases y with
  | true =>
    go_wp2_with fail
    refine (below_st 2 _ (unhide HS4) (by decide) (by decide)).mono ?_
    rintro e w5 ⟨z, rfl, hz0, hz1, hs5, _⟩
    have HS5 := hide hs5
    clear hs5
    go_wp2_with fail
    refine (bytes_int _ _ (unhide HS5) (by omega) (by omega)).mono ?_
    rintro e w6 ⟨s, rfl, hsz, hs6⟩
    have HB := hide (hs6.done (Nat.le_refl _))
    have HSZ := hide hsz
    clear hs6 hsz
    go_wp2
    go_ret
    exact ⟨s, rfl, by have := unhide HSZ; omega, unhide HB⟩
  | false =>
    go_wp2_with fail
    refine (below_st 20 _ (unhide HS4) (by decide) (by decide)).mono ?_
    rintro e w5 ⟨z, rfl, hz0, hz1, hs5, _⟩
    have HS5 := hide hs5
    clear hs5
    go_wp2_with fail
    refine (bytes_int _ _ (unhide HS5) (by omega) (by omega)).mono ?_
    rintro e w6 ⟨s, rfl, hsz, hs6⟩
    have HB := hide (hs6.done (Nat.le_refl _))
    have HSZ := hide hsz
    clear hs6 hsz
    go_wp2
    go_ret
    exact ⟨s, rfl, by have := unhide HSZ; omega, unhide HB⟩

theorem putText_le (s : ByteArray) : (bs (putText s.data.toList)).size ≤ s.size + 5 := by
  rw [bs_size, putText]
  split
  · rename_i h
    have := put_le5 (u := s.data.toList.length) (by omega)
    simp only [List.length_append, len_eq] at *; omega
  · simp
set_option maxRecDepth 100000 in
set_option maxHeartbeats 1000000 in
theorem drawGetText_any (B : Nat) (ao : Option Addr) (len cap : Nat) (w : World) (hcode : Code w B ao len) :
    Calls Try.prog 12 #[.slice ao len cap] w fun e w' => ∃ (s : ByteArray) (x : Int), e = .returned (.tuple #[.string s, .int .i64 x]) ∧ s.size ≤ 3000 ∧ -9223372036854775808 ≤ x ∧ x ≤ 9223372036854775807 ∧ Below w.heap.size w w' := by
  have HK := hide hcode
  clear hcode
  go_enter Try.func12, Try.ntmps12
  go_wp2_with fail
  refine (new_st B ao len cap _ (unhide HK)).mono ?_
  rintro e w1 ⟨rfl, hs1⟩
  have HS1 := hide hs1
  clear hs1
  go_wp2_with fail
  refine (below_st 6 _ (unhide HS1) (by decide) (by decide)).mono ?_
  rintro e w2 ⟨z, rfl, hz0, hz1, hs2, _⟩
  have HS2 := hide hs2
  clear hs2
  go_wp2_with fail
  refine (bytes_int _ _ (unhide HS2) (by omega) (by omega)).mono ?_
  rintro e w3 ⟨s, rfl, hsz, hs3⟩
  have HS3 := hide hs3
  have hss : s.size ≤ 6 := by omega
  clear hs3 hsz
  go_wp2_with fail
  refine (specPutText_any _ _ (by omega)).mono ?_
  rintro e w4 ⟨rfl, hb4⟩
  have HS4 := hide ((unhide HS3).below hb4)
  have hpl := putText_le s
  have hcs : (ByteArray.mk #[120]).size = 1 := rfl
  have hcs2 : (ByteArray.mk #[121]).size = 1 := rfl
  clear hb4
  go_wp2_with fail
  refine (once_st 3 _ (unhide HS4) (by decide) (by decide)).mono ?_
  rintro e w5 ⟨y, rfl, hs5⟩
  have HS5 := hide hs5
  have hne : Hid (w5.heap.size ≠ w.heap.size) := hide (by have := hs5.1.lt; omega)
  clear hs5
  have hU : (ByteArray.mk #[120] ++ bs (putText s.data.toList) ++ ByteArray.mk #[121]).size ≤ 13 := by simp only [ByteArray.size_append]; omega
  generalize hgu : ByteArray.mk #[120] ++ bs (putText s.data.toList) ++ ByteArray.mk #[121] = u at hU ⊢
  clear hgu
  cases y with
  | true =>
    go_wp2_with fail
    refine (below_st _ _ (unhide HS5) (by omega) (by omega)).mono ?_
    rintro e w6 ⟨x, rfl, hx0, hx1, hs6, _⟩
    have HB := hide (hs6.done (Nat.le_refl _))
    clear hs6
    obtain ⟨X, rfl⟩ := Int.eq_ofNat_of_zero_le hx0
    go_wp2
    go_ret2
    exact ⟨_, 1, rfl, by rw [ByteArray.size_extract]; omega, by decide, by decide, unhide HB⟩
  | false =>
    have hq := hide (ints_alloc w5 3 [1, 1, 0, 2, -1] (by decide))
    go_wp2_with fail
    refine (pick_st w5.heap.size 5 5 _ ((unhide HS5).alloc _) (unhide hq) (unhide hne) (by decide) (by decide)).mono ?_
    rintro e w7 ⟨x7, rfl, hx70, hx71, hs7⟩
    have HB := hide (hs7.done (Nat.le_refl _))
    clear hs7
    go_wp2
    go_ret2
    exact ⟨u, x7, rfl, by omega, hx70, hx71, unhide HB⟩
end Go.Proofs.Ytfmhibkgmcafgaa
