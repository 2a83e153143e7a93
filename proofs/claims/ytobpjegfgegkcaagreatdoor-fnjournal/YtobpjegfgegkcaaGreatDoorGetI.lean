/-
  What the program's GetNum answers: the number whose bytes stand at a place, and the place behind them; a walk over the dump.
-/
import Derived.Test.YtobpjegfgegkcaaGreatDoorGet
namespace Go.Proofs.YtobpjegfgegkcaaGreatDoor
open Go.RowKit
set_option linter.unusedVariables false
theorem pw_two (j : Nat) : (2 : Int) ^ (7 * j) = (pw j : Int) := by
  have : (2 : Nat) ^ (7 * j) = pw j := by rw [pw, Nat.pow_mul]
  rw [← this]; simp
/-- the next seven bits are laid above those that are there -/
theorem next_bits (D B j : Nat) (hB : B ≤ 255) (hj : j < 5) (hD : D < pw j) :
    bits .or .u64 (D : Int) (IntKind.u64.wrap (IntKind.u64.wrap (bits .and .u8 (B : Int) 127) * 2 ^ (7 * j))) = ((D + B % 128 * pw j : Nat) : Int) := by
  have e1 : bits .and .u8 (B : Int) 127 = (B : Int) % 128 := bits_mask .u8 8 (by decide) wraps_u8 7 (by decide) B (by omega) (by omega)
  have hp := pw_le4 hj
  have hm : B % 128 * pw j ≤ 127 * 268435456 := Nat.mul_le_mul (by omega) hp
  have e2 : IntKind.u64.wrap ((B : Int) % 128) = ((B % 128 : Nat) : Int) := by rw [IntKind.wrap_u64]; omega
  rw [e1, e2, pw_two]
  have e3 : IntKind.u64.wrap (((B % 128 : Nat) : Int) * (pw j : Int)) = ((B % 128 * pw j : Nat) : Int) := by
    rw [IntKind.wrap_u64]
    have : ((B % 128 : Nat) : Int) * (pw j : Int) = ((B % 128 * pw j : Nat) : Int) := by simp
    rw [this]; omega
  rw [e3, u64_or_nat _ _ (by omega) (by omega)]
  have h2 : pw j = 2 ^ (7 * j) := by rw [pw, Nat.pow_mul]
  rw [Nat.or_comm, Nat.mul_comm, h2, ← Nat.two_pow_add_eq_or_of_lt (by rw [← h2]; exact hD)]
  rw [Nat.add_comm]
theorem dk_lt {s : ByteArray} {I j : Nat} (h : I + j ≤ s.size ∨ j = 0) : dk s I j < pw j := by
  have h1 := dv_lt (pre s.data.toList I j)
  have h2 : (pre s.data.toList I j).length = j := by
    rcases h with h | rfl
    · exact pre_len (by rw [len_eq]; exact h)
    · rw [pre_zero]; rfl
  rw [h2] at h1
  exact h1

set_option maxRecDepth 100000 in
set_option maxHeartbeats 1000000 in
theorem implGetNum_pos (s : ByteArray) (I : Nat) (w : World) (hs : s.size ≤ 1048576) (hI : (I : Int) ≤ 9223372036854775807) :
    Calls Tryz.prog 65 #[.string s, .int .i64 (I : Int)] w fun e w' => e = .returned (.tuple #[.int .i64 (getNum s.data.toList (I : Int)).1, .int .i64 (getNum s.data.toList (I : Int)).2]) ∧ Below w.heap.size w w' := by
  go_enter Tryz.func65, Tryz.ntmps65
  go_wp2
  go_loop [6, 7, 8, 9] (fun n a h _ => ∃ j : Nat, j ≤ 5 ∧ (I + j ≤ s.size ∨ j = 0) ∧ n = .int .u64 (dk s I j : Int) ∧ a = .int .i64 ((I : Int) + (j : Int)) ∧ h = .int .i64 (7 * (j : Int)) ∧ (pre s.data.toList I j).all hi = true) (fun _ a _ _ => I + 5 - (intOf a).toNat)
  case atStart => exact ⟨0, by omega, .inr rfl, by rw [dk_zero]; rfl, by go_num, by go_num, by rw [pre_zero]; rfl⟩
  case round =>
    obtain ⟨j, hj, hle, rfl, rfl, rfl, hall⟩ := hrel
    have hd := dk_le (s := s) hj hle
    have HA := hide hall
    have HL := hide hle
    clear hall hle
    by_cases hlt : I + j < s.size ∧ j < 5
    · obtain ⟨hlt, hj5⟩ := hlt
      have hb : (s[I + j].toNat : Int) ≤ 255 := byte_le _
      have hE : bits .or .u64 (dk s I j : Int) (IntKind.u64.wrap (IntKind.u64.wrap (bits .and .u8 (s[I + j].toNat : Int) 127) * 2 ^ (7 * j))) = (dk s I (j + 1) : Int) := by
        rw [next_bits _ _ _ (by omega) hj5 (dk_lt (unhide HL)), dk_succ hlt]
      have hd1 := dk_le (s := s) (I := I) (j := j + 1) (by omega) (.inl (by omega))
      by_cases h128 : 128 ≤ (s[I + j].toNat : Int)
      · go_wp2
        go_round
        case rel => exact ⟨j + 1, by omega, .inl (by omega), rfl, by go_num, by go_num, hi_snoc hlt (unhide HA) (by omega)⟩
        case measure => simp [intOf]; omega
      · have hlo : s[I + j].toNat < 128 := by omega
        have hst := getNum_stop (l := s.data.toList) (I := I) (j := j) hj5 (unhide HA) (by rw [len_eq]; exact hlt) hlo
        have hok := putNum_dv (unhide HA) hlo
        rw [← pre_snoc' hlt] at hok
        have HS := hide hst
        have HO := hide hok
        clear hst hok
        by_cases h4 : 4000000000 < (dk s I (j + 1) : Int)
        · have hf : Hid (getNum s.data.toList (I : Int) = (0, -1)) := hide (by rw [unhide HS]; exact if_neg (fun h => by have := ((unhide HO).1 h).1; unfold dk at h4; omega))
          go_wp2
          go_ret2
          exact ⟨ret_two (by rw [unhide hf]) (by rw [unhide hf]), Below.refl _ _⟩
        · by_cases h0 : s[I + j].toNat = 0
          · have hq : ((s[I + j].toNat : Int) == 0) = true := by simp; omega
            by_cases hj0 : j = 0
            · have hf : Hid (getNum s.data.toList (I : Int) = ((dk s I (j + 1) : Int), (I : Int) + j + 1)) := hide (by rw [unhide HS]; exact if_pos ((unhide HO).2 ⟨by unfold dk at h4; omega, fun h => h.2 (by rw [hj0, pre_zero])⟩))
              have hj1 : ¬ 0 < 7 * (j : Int) := by omega
              clear h0 hj0
              go_wp2
              go_ret2
              exact ⟨ret_two (by rw [unhide hf]) (by rw [unhide hf]), Below.refl _ _⟩
            · have hf : Hid (getNum s.data.toList (I : Int) = (0, -1)) := hide (by rw [unhide HS]; exact if_neg (fun h => ((unhide HO).1 h).2 ⟨h0, fun e => by have h1 := pre_len (l := s.data.toList) (I := I) (j := j) (by rw [len_eq]; omega); rw [e] at h1; simp at h1; omega⟩))
              have hj1 : 0 < 7 * (j : Int) := by omega
              clear h0
              go_wp2
              go_ret2
              exact ⟨ret_two (by rw [unhide hf]) (by rw [unhide hf]), Below.refl _ _⟩
          · have hf : Hid (getNum s.data.toList (I : Int) = ((dk s I (j + 1) : Int), (I : Int) + j + 1)) := hide (by rw [unhide HS]; exact if_pos ((unhide HO).2 ⟨by unfold dk at h4; omega, fun h => h0 h.1⟩))
            have hq : ((s[I + j].toNat : Int) == 0) = false := by simp; omega
            clear h0
            go_wp2
            go_ret2
            exact ⟨ret_two (by rw [unhide hf]) (by rw [unhide hf]), Below.refl _ _⟩
    · have hf : Hid (getNum s.data.toList (I : Int) = (0, -1)) := hide (getNum_end hj (unhide HA) (by rw [len_eq]; exact unhide HL) (by rw [len_eq]; omega))
      clear hd
      by_cases h5 : j < 5
      · go_wp2
        go_ret2
        exact ⟨ret_two (by rw [unhide hf]) (by rw [unhide hf]), Below.refl _ _⟩
      · go_wp2
        go_ret2
        exact ⟨ret_two (by rw [unhide hf]) (by rw [unhide hf]), Below.refl _ _⟩

set_option maxHeartbeats 400000 in
theorem implGetNum_neg (s : ByteArray) (i : Int) (w : World) (hs : s.size ≤ 1048576) (h : i < 0) :
    Calls Tryz.prog 65 #[.string s, .int .i64 i] w fun e w' => e = .returned (.tuple #[.int .i64 (getNum s.data.toList i).1, .int .i64 (getNum s.data.toList i).2]) ∧ Below w.heap.size w w' := by
  rw [getNum_neg h]
  go_enter Tryz.func65, Tryz.ntmps65
  go_wp2
  go_ret2
  exact ⟨rfl, Below.refl _ _⟩

theorem implGetNum_any (s : ByteArray) (i : Int) (w : World) (hs : s.size ≤ 1048576) (h0 : -9223372036854775808 ≤ i) (h1 : i ≤ 9223372036854775807) :
    Calls Tryz.prog 65 #[.string s, .int .i64 i] w fun e w' => e = .returned (.tuple #[.int .i64 (getNum s.data.toList i).1, .int .i64 (getNum s.data.toList i).2]) ∧ Below w.heap.size w w' := by
  by_cases h : i < 0
  · exact implGetNum_neg s i w hs h
  · obtain ⟨I, rfl⟩ := Int.eq_ofNat_of_zero_le (a := i) (by omega)
    exact implGetNum_pos s I w hs h1
theorem specGetNum_any (s : ByteArray) (i : Int) (w : World) (hs : s.size ≤ 1048576) (h0 : -9223372036854775808 ≤ i) (h1 : i ≤ 9223372036854775807) :
    Calls Tryz.prog 35 #[.string s, .int .i64 i] w fun e w' => e = .returned (.tuple #[.int .i64 (getNum s.data.toList i).1, .int .i64 (getNum s.data.toList i).2]) ∧ Below w.heap.size w w' := by
  by_cases h : i < 0
  · exact specGetNum_neg s i w hs h h0
  · obtain ⟨I, rfl⟩ := Int.eq_ofNat_of_zero_le (a := i) (by omega)
    exact specGetNum_pos s I w hs h1
end Go.Proofs.YtobpjegfgegkcaaGreatDoor
