/-
  What the program's NameOk and the model's NameOk answer, each by its own text, and that the two are one: walks over the dump.
-/
import Derived.Test.YtmkaoiiempfheaaDoorIn
namespace Go.Proofs.YtmkaoiiempfheaaDoor
open Go.RowKit

set_option maxHeartbeats 400000 in
theorem isDigit_any (x : Int) (w : World) :
    Calls Tryd.prog 27 #[.int .u8 x] w fun e w' => e = .returned (.bool (inB x 48 57)) ∧ w' = w := by
  by_cases h1 : 48 ≤ x
  · by_cases h2 : x ≤ 57
    · go_enter Tryd.func27, Tryd.ntmps27
      go_wp2
      go_ret
      exact ⟨ret_bool (inB_true h1 h2).symm, rfl⟩
    · go_enter Tryd.func27, Tryd.ntmps27
      go_wp2
      go_ret
      exact ⟨ret_bool (inB_false (by omega)).symm, rfl⟩
  · go_enter Tryd.func27, Tryd.ntmps27
    go_wp2
    go_ret
    exact ⟨ret_bool (inB_false (by omega)).symm, rfl⟩

/-- a small letter or a digit -/
def nameB (c : UInt8) : Bool := inB c.toNat 97 122 || inB c.toNat 48 57
def nameOk (l : List UInt8) : Bool := inB l.length 1 10 && l.all nameB


theorem all_snoc (s : ByteArray) (k : Nat) (h : k < s.size) (p : UInt8 → Bool) (h1 : (s.data.toList.take k).all p = true) (h2 : p s[k] = true) : (s.data.toList.take (k + 1)).all p = true := by
  rw [take_snoc s k h, List.all_append, h1]; simpa using h2
theorem not_all (s : ByteArray) (k : Nat) (h : k < s.size) (p : UInt8 → Bool) (h2 : p s[k] = false) : s.data.toList.all p = false := by
  rw [List.all_eq_false]
  exact ⟨s[k], by simp [ByteArray.getElem_eq_getElem_data], by simp [h2]⟩



set_option maxHeartbeats 800000 in
theorem specNameOk_any (s : ByteArray) (w : World) (hs : s.size ≤ 1048576) :
    Calls Tryd.prog 20 #[.string s] w fun e w' => e = .returned (.bool (nameOk s.data.toList)) ∧ w' = w := by
  go_enter Tryd.func20, Tryd.ntmps20
  go_wp2
  go_loop [3] (fun i => ∃ k : Nat, k ≤ s.size ∧ i = .int .i64 k ∧ (s.data.toList.take k).all nameB = true) (fun i => s.size - (intOf i).toNat)
  case atStart => exact ⟨0, Nat.zero_le _, rfl, by simp⟩
  case round =>
    obtain ⟨k, hk, rfl, hall⟩ := hrel
    have HA := hide hall
    clear hall
    by_cases hlt : k < s.size
    · have hb : (s[k].toNat : Int) ≤ 255 := byte_le _
      by_cases h1 : 97 ≤ (s[k].toNat : Int) ∧ (s[k].toNat : Int) ≤ 122
      · have e1 : inB (s[k].toNat : Int) 97 122 = true := inB_true h1.1 h1.2
        clear h1
        go_wp2_with (go_at_call 31; refine (l01In_any _ _ _ _).mono ?_; rintro e w' ⟨rfl, rfl⟩)
        go_round
        case rel => exact ⟨k + 1, by omega, by go_num, all_snoc s k hlt _ (unhide HA) (by simp [nameB, e1])⟩
        case measure => simp [intOf]; omega
      · have e1 : inB (s[k].toNat : Int) 97 122 = false := inB_false h1
        clear h1
        by_cases h2 : 48 ≤ (s[k].toNat : Int) ∧ (s[k].toNat : Int) ≤ 57
        · have e2 : inB (s[k].toNat : Int) 48 57 = true := inB_true h2.1 h2.2
          clear h2
          go_wp2_with (go_at_call 31; refine (l01In_any _ _ _ _).mono ?_; rintro e w' ⟨rfl, rfl⟩)
          go_round
          case rel => exact ⟨k + 1, by omega, by go_num, all_snoc s k hlt _ (unhide HA) (by simp [nameB, e1, e2])⟩
          case measure => simp [intOf]; omega
        · have e2 : inB (s[k].toNat : Int) 48 57 = false := inB_false h2
          clear h2
          have hf : Hid (nameOk s.data.toList = false) := hide (by rw [nameOk, not_all s k hlt nameB (by simp [nameB, e1, e2])]; simp)
          go_wp2_with (go_at_call 31; refine (l01In_any _ _ _ _).mono ?_; rintro e w' ⟨rfl, rfl⟩)
          go_ret
          exact ⟨ret_bool (unhide hf).symm, rfl⟩
    · have hf : Hid (nameOk s.data.toList = inB (s.size : Int) 1 10) := hide (by rw [nameOk, ← take_all s k (by omega), unhide HA, take_all s k (by omega), len_eq]; simp)
      go_wp2_with (go_at_call 31; refine (l01In_any _ _ _ _).mono ?_; rintro e w' ⟨rfl, rfl⟩)
      go_ret
      exact ⟨ret_bool (unhide hf).symm, rfl⟩

set_option maxHeartbeats 800000 in
theorem implNameOk_any (s : ByteArray) (w : World) (hs : s.size ≤ 1048576) :
    Calls Tryd.prog 19 #[.string s] w fun e w' => e = .returned (.bool (nameOk s.data.toList)) ∧ w' = w := by
  by_cases h0 : 1 ≤ s.size
  · by_cases h1 : s.size ≤ 10
    · have hin : Hid (inB (s.data.toList.length : Int) 1 10 = true) := hide (by rw [len_eq]; exact inB_true (by omega) (by omega))
      go_enter Tryd.func19, Tryd.ntmps19
      go_wp2
      go_loop [14] (fun i => ∃ k : Nat, k ≤ s.size ∧ i = .int .i64 k ∧ (s.data.toList.take k).all nameB = true) (fun i => s.size - (intOf i).toNat)
      case atStart => exact ⟨0, Nat.zero_le _, rfl, by simp⟩
      case round =>
        obtain ⟨k, hk, rfl, hall⟩ := hrel
        have HA := hide hall
        clear hall
        by_cases hlt : k < s.size
        · have hb : (s[k].toNat : Int) ≤ 255 := byte_le _
          by_cases h3 : 48 ≤ (s[k].toNat : Int) ∧ (s[k].toNat : Int) ≤ 57
          · have e1 : inB (s[k].toNat : Int) 48 57 = true := inB_true h3.1 h3.2
            clear h3
            go_wp2_with (go_at_call 27; refine (isDigit_any _ _).mono ?_; rintro e w' ⟨rfl, rfl⟩)
            go_round
            case rel => exact ⟨k + 1, by omega, by go_num, all_snoc s k hlt _ (unhide HA) (by simp [nameB, e1])⟩
            case measure => simp [intOf]; omega
          · have e1 : inB (s[k].toNat : Int) 48 57 = false := inB_false h3
            clear h3
            by_cases h4 : 97 ≤ (s[k].toNat : Int)
            · by_cases h5 : (s[k].toNat : Int) ≤ 122
              · have HN : Hid (nameB s[k] = true) := hide (by simp [nameB, e1, inB_true h4 h5])
                go_wp2_with (go_at_call 27; refine (isDigit_any _ _).mono ?_; rintro e w' ⟨rfl, rfl⟩)
                go_round
                case rel => exact ⟨k + 1, by omega, by go_num, all_snoc s k hlt _ (unhide HA) (unhide HN)⟩
                case measure => simp [intOf]; omega
              · have hf : Hid (nameOk s.data.toList = false) := hide (by rw [nameOk, not_all s k hlt nameB (by simp [nameB, e1, inB_false (x := (s[k].toNat : Int)) (a := 97) (b := 122) (by omega)])]; simp)
                go_wp2_with (go_at_call 27; refine (isDigit_any _ _).mono ?_; rintro e w' ⟨rfl, rfl⟩)
                go_ret
                exact ⟨ret_bool (unhide hf).symm, rfl⟩
            · have hf : Hid (nameOk s.data.toList = false) := hide (by rw [nameOk, not_all s k hlt nameB (by simp [nameB, e1, inB_false (x := (s[k].toNat : Int)) (a := 97) (b := 122) (by omega)])]; simp)
              go_wp2_with (go_at_call 27; refine (isDigit_any _ _).mono ?_; rintro e w' ⟨rfl, rfl⟩)
              go_ret
              exact ⟨ret_bool (unhide hf).symm, rfl⟩
        · have hf : Hid (nameOk s.data.toList = true) := hide (by rw [nameOk, unhide hin, ← take_all s k (by omega), unhide HA]; rfl)
          go_wp2
          go_ret
          exact ⟨ret_bool (unhide hf).symm, rfl⟩
    · have hf : Hid (nameOk s.data.toList = false) := hide (by rw [nameOk, len_eq, inB_false (by omega)]; simp)
      go_enter Tryd.func19, Tryd.ntmps19
      go_wp2
      go_ret
      exact ⟨ret_bool (unhide hf).symm, rfl⟩
  · have hf : Hid (nameOk s.data.toList = false) := hide (by rw [nameOk, len_eq, inB_false (by omega)]; simp)
    go_enter Tryd.func19, Tryd.ntmps19
    go_wp2
    go_ret
    exact ⟨ret_bool (unhide hf).symm, rfl⟩
end Go.Proofs.YtmkaoiiempfheaaDoor
