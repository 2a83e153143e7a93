/-
  What the program's ReadDec answers: as the model's; a walk over the dump.
-/
import Derived.Test.YtfhnjghjibklcaaDoorReadDecS
import Derived.Test.YtfhnjghjibklcaaDoorDigit
namespace Go.Proofs.YtfhnjghjibklcaaDoor
open Go.RowKit

theorem nought_of {s : ByteArray} (h0 : 0 < s.size) : noughtAhead s.data.toList = (decide (s[0].toNat = 48) && decide (1 < s.size)) := by
  have e : s.data.toList.head? = some s[0] := by
    rw [List.head?_eq_getElem?, List.getElem?_eq_getElem (by simpa using h0)]; rfl
  rw [noughtAhead, e, len_eq]
  congr 1
  rw [Bool.eq_iff_iff]
  simp only [beq_iff_eq, Option.some.injEq, decide_eq_true_eq]
  constructor
  · intro h; rw [h]; rfl
  · intro h; exact UInt8.toNat_inj.1 h

set_option maxHeartbeats 1000000 in
theorem implReadDec_any (s : ByteArray) (w : World) (hs : s.size ≤ 1048576) :
    Calls Tryd.prog 34 #[.string s] w fun e w' => e = .returned (.int .i64 (readDec s.data.toList)) ∧ w' = w := by
  by_cases h0 : s.size < 1
  · have hf : Hid (readDec s.data.toList = -1) := hide (readDec_no (.inl (by rw [len_eq]; omega)))
    go_enter Tryd.func34, Tryd.ntmps34
    go_wp2
    go_ret
    exact ⟨ret_int (unhide hf).symm, rfl⟩
  by_cases h10 : 10 < s.size
  · have hf : Hid (readDec s.data.toList = -1) := hide (readDec_no (.inr (.inl (by rw [len_eq]; omega))))
    go_enter Tryd.func34, Tryd.ntmps34
    go_wp2
    go_ret
    exact ⟨ret_int (unhide hf).symm, rfl⟩
  have hp : 0 < s.size := by omega
  by_cases hz : s[0].toNat = 48 ∧ 1 < s.size
  · have hf : Hid (readDec s.data.toList = -1) := hide (readDec_no (.inr (.inr (.inr (.inl (by rw [nought_of hp]; simp [hz]))))))
    have hq : ((s[0].toNat : Int) == 48) = true := by simp; omega
    have hq2 : (1 : Int) < (s.size : Int) := by omega
    clear hz
    go_enter Tryd.func34, Tryd.ntmps34
    go_wp2
    go_ret
    exact ⟨ret_int (unhide hf).symm, rfl⟩
  have hnz : Hid (noughtAhead s.data.toList = false) := hide (by rw [nought_of hp]; simpa using hz)
  have main : ∀ (_ : ((s[0].toNat : Int) == 48) = false ∨ ((s[0].toNat : Int) == 48) = true ∧ (s.size : Int) ≤ 1), Calls Tryd.prog 34 #[.string s] w fun e w' => e = .returned (.int .i64 (readDec s.data.toList)) ∧ w' = w := by
    intro hcase
    rcases hcase with hq | ⟨hq, hq2⟩
    all_goals
      clear hz
      go_enter Tryd.func34, Tryd.ntmps34
      go_wp2
      go_loop [3, 25] (fun n i => ∃ k : Nat, k ≤ s.size ∧ i = .int .i64 k ∧ n = .int .i64 (vk s k) ∧ (s.data.toList.take k).all isD = true) (fun _ i => s.size - (intOf i).toNat)
      case atStart => exact ⟨0, Nat.zero_le _, rfl, by rw [vk_zero]; rfl, by simp⟩
      case round =>
        obtain ⟨k, hk, rfl, rfl, hall⟩ := hrel
        have hvb : vk s k < 10000000000 := val_bound (by rw [List.length_take]; have := len_eq s; omega) hall
        have HA := hide hall
        clear hall
        by_cases hlt : k < s.size
        · have hb : (s[k].toNat : Int) ≤ 255 := byte_le _
          by_cases h1 : 48 ≤ (s[k].toNat : Int) ∧ (s[k].toNat : Int) ≤ 57
          · have e1 : inB (s[k].toNat : Int) 48 57 = true := inB_true h1.1 h1.2
            obtain ⟨h1a, h1b⟩ := h1
            go_wp2_with (go_at_call 40; refine (isDigit_any _ _).mono ?_; rintro e w' ⟨rfl, rfl⟩)
            go_round
            case rel => exact ⟨k + 1, by omega, by go_num, by rw [vk_succ s k hlt]; go_num, d_snoc s k hlt (unhide HA) e1⟩
            case measure => simp [intOf]; omega
          · have e1 : inB (s[k].toNat : Int) 48 57 = false := inB_false h1
            clear h1
            have hf : Hid (readDec s.data.toList = -1) := hide (readDec_no (.inr (.inr (.inl (not_all s k hlt isD e1)))))
            go_wp2_with (go_at_call 40; refine (isDigit_any _ _).mono ?_; rintro e w' ⟨rfl, rfl⟩)
            go_ret
            exact ⟨ret_int (unhide hf).symm, rfl⟩
        · have hfull : Hid (s.data.toList.all isD = true) := hide (by rw [← take_all s k (by omega)]; exact unhide HA)
          have hvv : Hid (vk s k = val s.data.toList) := hide (vk_all s k (by omega))
          by_cases hv : 1000000000 < (vk s k : Int)
          · have hf : Hid (readDec s.data.toList = -1) := hide (readDec_no (.inr (.inr (.inr (.inr (by rw [← unhide hvv]; omega))))))
            go_wp2
            go_ret
            exact ⟨ret_int (unhide hf).symm, rfl⟩
          · have hf : Hid (readDec s.data.toList = (vk s k : Int)) := hide (by rw [unhide hvv]; exact readDec_yes (by rw [len_eq]; omega) (by rw [len_eq]; omega) (unhide hfull) (unhide hnz) (by rw [← unhide hvv]; omega))
            go_wp2
            go_ret
            exact ⟨ret_int (unhide hf).symm, rfl⟩
  exact main (by
    by_cases hc : s[0].toNat = 48
    · exact .inr ⟨by simp; omega, by omega⟩
    · exact .inl (by simp; omega))
end Go.Proofs.YtfhnjghjibklcaaDoor
