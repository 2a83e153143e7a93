/-
  The sum known as CRC-32, as plain mathematics; and what the model's CheckSum and the program's halveFour answer: walks over the dump.
-/
import Derived.Test.YtobpjegfgegkcaaGreatDoorPackA
namespace Go.Proofs.YtobpjegfgegkcaaGreatDoor
open Go.RowKit
set_option linter.unusedVariables false
def half (x : Nat) : Nat := if x % 2 = 1 then (x / 2) ^^^ 3988292384 else x / 2
/-- so many halvings -/
def hN : Nat → Nat → Nat
  | 0, x => x
  | k + 1, x => half (hN k x)
theorem hN_succ (k x : Nat) : hN (k + 1) x = half (hN k x) := rfl
theorem half_lt {x : Nat} (h : x < 4294967296) : half x < 4294967296 := by
  unfold half
  split
  · exact Nat.xor_lt_two_pow (n := 32) (by omega) (by decide)
  · omega
theorem hN_lt : ∀ (k : Nat) {x : Nat}, x < 4294967296 → hN k x < 4294967296
  | 0, _, h => h
  | k + 1, _, h => half_lt (hN_lt k h)
theorem half_xor (a b : Nat) : half (a ^^^ b) = half a ^^^ half b := by
  unfold half
  have hm := Nat.xor_mod_two_eq_one (a := a) (b := b)
  rw [Nat.xor_div_two]
  by_cases ha : a % 2 = 1 <;> by_cases hb : b % 2 = 1
  · have : ¬ (a ^^^ b) % 2 = 1 := by rw [hm]; simp [ha, hb]
    rw [if_neg this, if_pos ha, if_pos hb]
    rw [Nat.xor_assoc, Nat.xor_comm (b / 2), ← Nat.xor_assoc 3988292384, Nat.xor_self, Nat.zero_xor]
  · have : (a ^^^ b) % 2 = 1 := by rw [hm]; simp [ha, hb]
    rw [if_pos this, if_pos ha, if_neg hb, Nat.xor_assoc, Nat.xor_comm (b / 2), ← Nat.xor_assoc]
  · have : (a ^^^ b) % 2 = 1 := by rw [hm]; simp [ha, hb]
    rw [if_pos this, if_neg ha, if_pos hb, Nat.xor_assoc]
  · have : ¬ (a ^^^ b) % 2 = 1 := by rw [hm]; simp [ha, hb]
    rw [if_neg this, if_neg ha, if_neg hb]
theorem hN_xor : ∀ (k a b : Nat), hN k (a ^^^ b) = hN k a ^^^ hN k b
  | 0, _, _ => rfl
  | k + 1, a, b => by rw [hN_succ, hN_xor k, half_xor]; rfl
theorem half_two (y : Nat) : half (2 * y) = y := by unfold half; rw [if_neg (by omega)]; omega
theorem split16 (x : Nat) : x = (x % 16) ^^^ (2 ^ 4 * (x / 16)) := by
  apply Nat.eq_of_testBit_eq
  intro i
  rw [Nat.testBit_xor, Nat.testBit_two_pow_mul]
  have e : x = 2 ^ 4 * (x / 16) + x % 16 := by omega
  rw (occs := .pos [1]) [e]
  rw [Nat.testBit_two_pow_mul_add _ (by omega)]
  by_cases h : i < 4
  · rw [if_pos h]; simp [show ¬ 4 ≤ i from by omega]
  · rw [if_neg h]
    have h0 : (x % 16).testBit i = false := Nat.testBit_lt_two_pow (Nat.lt_of_lt_of_le (by omega : x % 16 < 2 ^ 4) (Nat.pow_le_pow_right (by decide) (by omega)))
    rw [h0]; simp [show 4 ≤ i from by omega]
theorem four_sixteen (y : Nat) : hN 4 (2 ^ 4 * y) = y := by
  simp only [hN]
  rw [show 2 ^ 4 * y = 2 * (2 * (2 * (2 * y))) from by omega, half_two, half_two, half_two, half_two]
/-- four halvings at once: the lowest four bits by a table, the others moved down -/
theorem four_split (x : Nat) : hN 4 x = hN 4 (x % 16) ^^^ (x / 16) := by
  rw (occs := .pos [1]) [split16 x]
  rw [hN_xor, four_sixteen]
theorem hN_add (a : Nat) : ∀ (b x : Nat), hN (b + a) x = hN b (hN a x)
  | 0, x => by rw [Nat.zero_add]; rfl
  | b + 1, x => by rw [show b + 1 + a = (b + a) + 1 from by omega, hN_succ, hN_add a b, hN_succ]
def crcTo (l : List UInt8) : Nat := l.foldl (fun x b => hN 8 (x ^^^ b.toNat)) 4294967295
def crc (l : List UInt8) : Nat := crcTo l ^^^ 4294967295
theorem xor_lt32 {a b : Nat} (ha : a < 4294967296) (hb : b < 4294967296) : a ^^^ b < 4294967296 := Nat.xor_lt_two_pow (n := 32) ha hb
theorem byte_lt32 (c : UInt8) : c.toNat < 4294967296 := by have := c.toNat_lt; omega
theorem crcTo_snoc (l : List UInt8) (b : UInt8) : crcTo (l ++ [b]) = hN 8 (crcTo l ^^^ b.toNat) := by simp [crcTo]
theorem fold_lt : ∀ (l : List UInt8) (x : Nat), x < 4294967296 → l.foldl (fun x (b : UInt8) => hN 8 (x ^^^ b.toNat)) x < 4294967296
  | [], _, h => h
  | b :: l, x, h => fold_lt l _ (hN_lt 8 (xor_lt32 h (byte_lt32 b)))
theorem crcTo_lt (l : List UInt8) : crcTo l < 4294967296 := fold_lt l _ (by decide)
def ck (s : ByteArray) (k : Nat) : Nat := crcTo (s.data.toList.take k)
theorem ck_zero (s : ByteArray) : ck s 0 = 4294967295 := by simp [ck, crcTo]
theorem ck_succ (s : ByteArray) (k : Nat) (h : k < s.size) : ck s (k + 1) = hN 8 (ck s k ^^^ s[k].toNat) := by rw [ck, take_snoc s k h, crcTo_snoc]; rfl
theorem ck_all (s : ByteArray) (k : Nat) (h : s.size ≤ k) : ck s k = crcTo s.data.toList := by rw [ck, take_all s k h]
theorem ck_lt (s : ByteArray) (k : Nat) : ck s k < 4294967296 := crcTo_lt _
theorem half_odd {x : Nat} (h : x % 2 = 1) : half x = (x / 2) ^^^ 3988292384 := by rw [half, if_pos h]
theorem half_even {x : Nat} (h : ¬ x % 2 = 1) : half x = x / 2 := by rw [half, if_neg h]
theorem xor_int (a b : Nat) (ha : a < 4294967296) (hb : b < 4294967296) : bits .xor .u32 (a : Int) (b : Int) = ((a ^^^ b : Nat) : Int) := u32_xor_nat a b ha hb

set_option maxRecDepth 100000 in
set_option maxHeartbeats 1000000 in
theorem specCheckSum_any (s : ByteArray) (w : World) (hs : s.size ≤ 1048576) :
    Calls Tryz.prog 27 #[.string s] w fun e w' => e = .returned (.int .u32 (crc s.data.toList : Int)) ∧ w = w' := by
  go_enter Tryz.func27, Tryz.ntmps27
  go_wp2
  go_loop [3, 4, 5, 6] (fun x i _ _ => ∃ k : Nat, k ≤ s.size ∧ i = .int .i64 k ∧ x = .int .u32 (ck s k : Int)) (fun _ i _ _ => s.size - (intOf i).toNat)
  case atStart => exact ⟨0, Nat.zero_le _, rfl, by rw [ck_zero]; rfl⟩
  case round =>
    obtain ⟨k, hk, rfl, rfl⟩ := hrel
    have hlt32 := ck_lt s k
    by_cases hlt : k < s.size
    · have hb : (s[k].toNat : Int) ≤ 255 := byte_le _
      have hx : bits .xor .u32 (ck s k : Int) (s[k].toNat : Int) = ((ck s k ^^^ s[k].toNat : Nat) : Int) := xor_int _ _ hlt32 (byte_lt32 _)
      have hX : ck s k ^^^ s[k].toNat < 4294967296 := xor_lt32 hlt32 (byte_lt32 _)
      have hck : Hid (ck s (k + 1) = hN 8 (ck s k ^^^ s[k].toNat)) := hide (ck_succ s k hlt)
      go_wp2
      go_loop [3, 5, 6] (fun x j _ => ∃ t : Nat, t ≤ 8 ∧ j = .int .i64 t ∧ x = .int .u32 (hN t (ck s k ^^^ s[k].toNat) : Int)) (fun _ j _ => 8 - (intOf j).toNat)
      case atStart => exact ⟨0, Nat.zero_le _, rfl, rfl⟩
      case round =>
        obtain ⟨t, ht, rfl, rfl⟩ := hrel
        have hn := hN_lt t hX
        have HS : Hid (hN (t + 1) (ck s k ^^^ s[k].toNat) = half (hN t (ck s k ^^^ s[k].toNat))) := hide rfl
        clear hx
        by_cases ht8 : t < 8
        · by_cases ho : hN t (ck s k ^^^ s[k].toNat) % 2 = 1
          · have hq : (((hN t (ck s k ^^^ s[k].toNat) : Nat) : Int) % 2 == 1) = true := by simp; omega
            have hx2 : bits .xor .u32 ((hN t (ck s k ^^^ s[k].toNat) : Int) / 2) 3988292384 = ((half (hN t (ck s k ^^^ s[k].toNat)) : Nat) : Int) := by
              rw [half_odd ho]; exact xor_int (hN t (ck s k ^^^ s[k].toNat) / 2) 3988292384 (by omega) (by decide)
            clear ho
            go_wp2
            go_round
            case rel => exact ⟨t + 1, by omega, by go_num, by rw [unhide HS]⟩
            case measure => simp [intOf]; omega
          · have hq : (((hN t (ck s k ^^^ s[k].toNat) : Nat) : Int) % 2 == 1) = false := by simp; omega
            have hx2 : Hid (((half (hN t (ck s k ^^^ s[k].toNat)) : Nat) : Int) = (hN t (ck s k ^^^ s[k].toNat) : Int) / 2) := hide (by rw [half_even ho]; omega)
            clear ho
            go_wp2
            go_round
            case rel => exact ⟨t + 1, by omega, by go_num, by rw [unhide HS, unhide hx2]⟩
            case measure => simp [intOf]; omega
        · have he : t = 8 := by omega
          subst he
          go_wp2
          go_round
          case rel => exact ⟨k + 1, by omega, by go_num, by rw [unhide hck]⟩
          case measure => simp [intOf]; omega
    · have hx : bits .xor .u32 (ck s k : Int) 4294967295 = ((crc s.data.toList : Nat) : Int) := by
        rw [crc, ← ck_all s k (by omega)]; exact xor_int _ 4294967295 hlt32 (by decide)
      go_wp2
      go_ret
      exact ⟨rfl, rfl⟩

set_option maxRecDepth 100000 in
set_option maxHeartbeats 1000000 in
theorem halveFour_any (x : Nat) (w : World) (h : x < 4294967296) :
    Calls Tryz.prog 72 #[.int .u32 (x : Int)] w fun e w' => e = .returned (.int .u32 (hN 4 x : Int)) ∧ w = w' := by
  go_enter Tryz.func72, Tryz.ntmps72
  go_wp2
  go_loop [0, 3, 4] (fun v _ j => ∃ t : Nat, t ≤ 4 ∧ j = .int .i64 t ∧ v = .int .u32 (hN t x : Int)) (fun _ _ j => 4 - (intOf j).toNat)
  case atStart => exact ⟨0, Nat.zero_le _, rfl, rfl⟩
  case round =>
    obtain ⟨t, ht, rfl, rfl⟩ := hrel
    have hn := hN_lt t h
    have HS : Hid (hN (t + 1) x = half (hN t x)) := hide rfl
    by_cases ht4 : t < 4
    · have ha : bits .and .u32 (hN t x : Int) 1 = ((hN t x % 2 : Nat) : Int) := by
        rw [show (1 : Int) = ((1 : Nat) : Int) from rfl, u32_and_nat _ _ hn (by decide), Nat.and_one_is_mod]
      by_cases ho : hN t x % 2 = 1
      · have hq : (((hN t x % 2 : Nat) : Int) == 1) = true := by simp; omega
        have hx2 : bits .xor .u32 ((hN t x : Int) / 2) 3988292384 = ((half (hN t x) : Nat) : Int) := by
          rw [half_odd ho]; exact xor_int (hN t x / 2) 3988292384 (by omega) (by decide)
        clear ho
        go_wp2
        go_round
        case rel => exact ⟨t + 1, by omega, by go_num, by rw [unhide HS]⟩
        case measure => simp [intOf]; omega
      · have hq : (((hN t x % 2 : Nat) : Int) == 1) = false := by simp; omega
        have hx2 : Hid (((half (hN t x) : Nat) : Int) = (hN t x : Int) / 2) := hide (by rw [half_even ho]; omega)
        clear ho
        go_wp2
        go_round
        case rel => exact ⟨t + 1, by omega, by go_num, by rw [unhide HS, unhide hx2]⟩
        case measure => simp [intOf]; omega
    · have he : t = 4 := by omega
      subst he
      go_wp2
      go_ret
      exact ⟨rfl, rfl⟩
end Go.Proofs.YtobpjegfgegkcaaGreatDoor
