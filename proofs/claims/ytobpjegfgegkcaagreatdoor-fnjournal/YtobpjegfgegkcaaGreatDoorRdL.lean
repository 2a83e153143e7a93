/-
  The program's reader: a sum, an entry of a log; walks over the dump.
-/
import Derived.Test.YtobpjegfgegkcaaGreatDoorGRecM
import Derived.Test.YtobpjegfgegkcaaGreatDoorWordB
import Derived.LoopN
namespace Go.Proofs.YtobpjegfgegkcaaGreatDoor
open Go.RowKit
set_option linter.unusedVariables false
set_option linter.unusedSimpArgs false
/-- the number of k bytes, the highest first -/
def svN (s : ByteArray) (i : Nat) : Nat → Nat
  | 0 => 0
  | k + 1 => svN s i k * 256 + (s.data.toList[i + k]?.getD 0).toNat
theorem svN_lt (s : ByteArray) (i : Nat) : ∀ k, svN s i k < 256 ^ k
  | 0 => by simp [svN]
  | k + 1 => by
    have := svN_lt s i k
    have hb := (s.data.toList[i + k]?.getD 0).toNat_lt
    rw [svN, Nat.pow_succ]
    omega
theorem shl8_or (x b : Nat) (hx : x < 16777216) (hb : b < 256) : bits .or .u32 ((x * 256 : Nat) : Int) (b : Int) = ((x * 256 + b : Nat) : Int) := by
  have h := u32_or_nat (x * 256) b (by omega) (by omega)
  rw [h]
  congr 1
  rw [Nat.mul_comm x 256]
  exact (Nat.two_pow_add_eq_or_of_lt (i := 8) hb x).symm

set_option maxRecDepth 100000 in
set_option maxHeartbeats 2000000 in
theorem nextSum_any (g : Nat) (s : ByteArray) (i : Nat) (bg : Int) (w : World) (h : Rd w g s i bg) (hs : s.size ≤ 1048576) (hi : i ≤ s.size) :
    Calls Tryz.prog 47 #[rdp g] w fun e w' => Reads w g s bg (if i + 4 ≤ s.size then some (.int .u32 (svN s i 4 : Int), ((i + 4 : Nat) : Int)) else none) e w' := by
  have CB := hide (fun k wx (hr : Rd wx g s ((i + k : Nat) : Int) bg) (hk : i + k ≤ s.size) => nextByte_any g s (i + k) bg wx hr hs hk)
  have HR0 := hide h
  clear h
  go_enter Tryz.func47, Tryz.ntmps47
  go_wp2
  go_loopw [3, 4] (fun x j wr => ∃ k : Nat, k ≤ 4 ∧ i + k ≤ s.size ∧ j = .int .i64 k ∧ x = .int .u32 (svN s i k : Int) ∧ Hid (Rd wr g s ((i + k : Nat) : Int) bg) ∧ Hid (w.grownBy wr (some g))) (fun _ j _ => 4 - (intOf j).toNat)
  case atStart => exact ⟨0, by omega, by omega, rfl, rfl, HR0, hide (grownBy_refl _ _)⟩
  case round =>
    obtain ⟨k, hk, hik, rfl, rfl, HR, HG⟩ := hrel
    by_cases hlt : k < 4
    · have C := hide (unhide CB k wr (unhide HR) hik)
      by_cases hb : i + k < s.size
      · have hx4 : svN s i k < 16777216 := by
          have h1 := svN_lt s i k
          have h2 : 256 ^ k ≤ 256 ^ 3 := Nat.pow_le_pow_right (by decide) (by omega)
          omega
        have hv : s.data.toList[i + k]?.getD 0 = s[i + k] := by
          rw [List.getElem?_eq_getElem (by rw [len_eq]; exact hb)]; rfl
        have hst : svN s i (k + 1) = svN s i k * 256 + s[i + k].toNat := by rw [svN, hv]
        have C' := hide (by have := unhide C; rw [dif_pos hb] at this; exact this)
        have hby := s[i + k].toNat_lt
        obtain ⟨b, hbe⟩ : ∃ b, s[i + k].toNat = b := ⟨_, rfl⟩
        rw [hbe] at C' hst hby
        have HST := hide hst
        obtain ⟨x, hx⟩ : ∃ x, svN s i k = x := ⟨_, rfl⟩
        rw [hx] at hx4 HST ⊢
        have hor : bits .or .u32 ((x : Int) * 256) (b : Int) = (x : Int) * 256 + (b : Int) := by have := shl8_or x b hx4 hby; push_cast at this; exact this
        have hb2 : (b : Int) ≤ 255 := by omega
        have hw5 : (x : Int) * 256 % 4294967296 = (x : Int) * 256 := by omega
        clear hv hst hbe hx C hx4 hby
        go_wp2_with fail
        refine (unhide C').mono ?_
        rintro e w1 ⟨hg, rfl, hr⟩
        have HG1 := hide (grownBy_trans (unhide HG) hg)
        have e1 : ((i + (k + 1) : Nat) : Int) = ((i + k : Nat) : Int) + 1 := by omega
        have HR1 := hide (show Rd w1 g s ((i + (k + 1) : Nat) : Int) bg by rw [e1]; exact hr)
        clear e1
        clear hg hr
        go_wp2
        go_roundw
        case rel => exact ⟨k + 1, by omega, by omega, by go_num, by rw [unhide HST]; push_cast; rfl, HR1, HG1⟩
        case measure => simp [intOf]; omega
      · have C' := hide (by have := unhide C; rw [dif_neg hb] at this; exact this)
        clear C
        go_wp2_with fail
        refine (unhide C').mono ?_
        rintro e w1 ⟨hg, rfl, hr⟩
        have HG1 := hide (grownBy_trans (unhide HG) hg)
        have HR1 := hide hr
        clear hg hr
        go_wp2
        try rw [if_neg (by omega)]
        exact ⟨rfl, unhide HG1, rfl, unhide HR1⟩
    · have hk4 : k = 4 := by omega
      subst hk4
      go_wp2
      go_ret
      try rw [if_pos hik]
      exact ⟨unhide HG, rfl, unhide HR⟩
end Go.Proofs.YtobpjegfgegkcaaGreatDoor
