/-
  What the program's NameOk answers: as the model's; a walk over the dump.
-/
import Derived.Test.YtmmdckakchconaaNameS
import Derived.Test.YtmmdckakchconaaDigit
namespace Go.Proofs.Ytmmdckakchconaa
open Go.RowKit
set_option maxHeartbeats 800000 in
theorem implNameOk_any (s : ByteArray) (w : World) (hs : s.size ≤ 1048576) :
    Calls Try.prog 41 #[.string s] w fun e w' => e = .returned (.bool (nameOk s.data.toList)) ∧ w' = w := by
  by_cases h0 : 1 ≤ s.size
  · by_cases h1 : s.size ≤ 10
    · have hin : Hid (inB (s.data.toList.length : Int) 1 10 = true) := hide (by rw [len_eq]; exact inB_true (by omega) (by omega))
      go_enter Try.func41, Try.ntmps41
      go_wp2
      go_loop [14] (fun i => ∃ k : Nat, k ≤ s.size ∧ i = .int .i64 k ∧ (s.data.toList.take k).all nameB = true) (fun i => s.size - (intOf i).toNat)
      case atStart => exact ⟨0, Nat.zero_le _, rfl, by simp⟩
      case round =>
        obtain ⟨k, hk, rfl, hall⟩ := hrel
        have HA := hide hall
        clear hall
        by_cases hlt : k < s.size
        · have hb : (s[k].toNat : Int) ≤ 255 := byte_le _
          by_cases h3 : 48 ≤ (s[k].toNat : Int) ∧ (s[k].toNat : Int) ≤ 57
          · have e1 : inB (s[k].toNat : Int) 48 57 = true := inB_true h3.1 h3.2
            clear h3
            go_wp2_with (go_at_call 44; refine (isDigit_any _ _).mono ?_; rintro e w' ⟨rfl, rfl⟩)
            go_round
            case rel => exact ⟨k + 1, by omega, by go_num, all_snoc s k hlt _ (unhide HA) (by simp [nameB, e1])⟩
            case measure => simp [intOf]; omega
          · have e1 : inB (s[k].toNat : Int) 48 57 = false := inB_false h3
            clear h3
            by_cases h4 : 97 ≤ (s[k].toNat : Int)
            · by_cases h5 : (s[k].toNat : Int) ≤ 122
              · have HN : Hid (nameB s[k] = true) := hide (by simp [nameB, e1, inB_true h4 h5])
                go_wp2_with (go_at_call 44; refine (isDigit_any _ _).mono ?_; rintro e w' ⟨rfl, rfl⟩)
                go_round
                case rel => exact ⟨k + 1, by omega, by go_num, all_snoc s k hlt _ (unhide HA) (unhide HN)⟩
                case measure => simp [intOf]; omega
              · have hf : Hid (nameOk s.data.toList = false) := hide (by rw [nameOk, not_all s k hlt nameB (by simp [nameB, e1, inB_false (x := (s[k].toNat : Int)) (a := 97) (b := 122) (by omega)])]; simp)
                go_wp2_with (go_at_call 44; refine (isDigit_any _ _).mono ?_; rintro e w' ⟨rfl, rfl⟩)
                go_ret
                exact ⟨ret_bool (unhide hf).symm, rfl⟩
            · have hf : Hid (nameOk s.data.toList = false) := hide (by rw [nameOk, not_all s k hlt nameB (by simp [nameB, e1, inB_false (x := (s[k].toNat : Int)) (a := 97) (b := 122) (by omega)])]; simp)
              go_wp2_with (go_at_call 44; refine (isDigit_any _ _).mono ?_; rintro e w' ⟨rfl, rfl⟩)
              go_ret
              exact ⟨ret_bool (unhide hf).symm, rfl⟩
        · have hf : Hid (nameOk s.data.toList = true) := hide (by rw [nameOk, unhide hin, ← take_all s k (by omega), unhide HA]; rfl)
          go_wp2
          go_ret
          exact ⟨ret_bool (unhide hf).symm, rfl⟩
    · have hf : Hid (nameOk s.data.toList = false) := hide (by rw [nameOk, len_eq, inB_false (by omega)]; simp)
      go_enter Try.func41, Try.ntmps41
      go_wp2
      go_ret
      exact ⟨ret_bool (unhide hf).symm, rfl⟩
  · have hf : Hid (nameOk s.data.toList = false) := hide (by rw [nameOk, len_eq, inB_false (by omega)]; simp)
    go_enter Try.func41, Try.ntmps41
    go_wp2
    go_ret
    exact ⟨ret_bool (unhide hf).symm, rfl⟩
end Go.Proofs.Ytmmdckakchconaa
