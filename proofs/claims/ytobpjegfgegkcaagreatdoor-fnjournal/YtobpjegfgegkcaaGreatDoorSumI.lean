/-
  What the program's CheckSum answers: the sum known as CRC-32; a walk over the dump.
-/
import Derived.Test.YtobpjegfgegkcaaGreatDoorFill
namespace Go.Proofs.YtobpjegfgegkcaaGreatDoor
open Go.RowKit
set_option linter.unusedVariables false
set_option maxRecDepth 100000 in
set_option maxHeartbeats 1000000 in
theorem shiftFour_any (B x : Nat) (w : World) (hx : x < 4294967296) (h : Tabled w B) :
    Calls Tryz.prog 63 #[.pointer (some ⟨B, 0, none⟩), .int .u32 (x : Int)] w fun e w' => e = .returned (.int .u32 (hN 4 x : Int)) ∧ Tabled w' B ∧ Below B w w' := by
  have hmf : ∀ (fn : Fn) (first cap : Array Value) (w : World), (Instr.makeFunc fn first cap).run Tryz.prog w = .ok (.func fn first cap) w := fun _ _ _ _ => rfl
  have HT := hide h
  clear h
  have ha : bits .and .u32 (x : Int) 15 = ((x % 16 : Nat) : Int) := by
    rw [show (15 : Int) = ((15 : Nat) : Int) from rfl, u32_and_nat _ _ hx (by decide), show (15 : Nat) = 2 ^ 4 - 1 from rfl, Nat.and_two_pow_sub_one_eq_mod]
  have hxr : bits .xor .u32 (hN 4 (x % 16) : Int) ((x : Int) / 16) = (hN 4 x : Int) := by
    rw [four_split x]; exact xor_int _ (x / 16) (hN_lt 4 (by omega)) (by omega)
  go_enter Tryz.func63, Tryz.ntmps63
  go_wp2_with fail
  refine (do_any B _ (unhide HT)).mono ?_
  rintro e w2 ⟨rfl, hs2, hb2⟩
  have HS := hide hs2
  have HB := hide hb2
  have hc : w2.cell? ⟨B, 3 + x % 16, none⟩ = some (.int .u32 (hN 4 (x % 16) : Int)) := by rw [hs2.cell, tab_at _ _ _ _ (by omega), if_pos (by omega)]
  clear hs2 hb2
  go_wp2
  go_ret
  exact ⟨rfl, .inr (unhide HS), unhide HB⟩

set_option maxRecDepth 100000 in
set_option maxHeartbeats 1000000 in
theorem sumOf_any (B : Nat) (s : ByteArray) (w : World) (hs : s.size ≤ 1048576) (h : Tabled w B) :
    Calls Tryz.prog 49 #[.pointer (some ⟨B, 0, none⟩), .string s] w fun e w' => e = .returned (.int .u32 (crc s.data.toList : Int)) ∧ Tabled w' B ∧ Below B w w' := by
  have H0 := hide h
  clear h
  go_enter Tryz.func49, Tryz.ntmps49
  go_wp2
  go_loopw [5, 6, 9] (fun x _ i wr => ∃ k : Nat, k ≤ s.size ∧ i = .int .i64 k ∧ x = .int .u32 (ck s k : Int) ∧ Tabled wr B ∧ Below B w wr) (fun _ _ i _ => s.size - (intOf i).toNat)
  case atStart =>
    exact ⟨0, Nat.zero_le _, rfl, by rw [ck_zero]; rfl, unhide H0, Below.refl _ _⟩
  case round =>
    obtain ⟨k, hk, rfl, rfl, ht, hb0⟩ := hrel
    have hlt32 := ck_lt s k
    by_cases hlt : k < s.size
    · have hb : (s[k].toNat : Int) ≤ 255 := byte_le _
      have hx : bits .xor .u32 (ck s k : Int) (s[k].toNat : Int) = ((ck s k ^^^ s[k].toNat : Nat) : Int) := xor_int _ _ hlt32 (byte_lt32 _)
      have hX : ck s k ^^^ s[k].toNat < 4294967296 := xor_lt32 hlt32 (byte_lt32 _)
      have hck : Hid (ck s (k + 1) = hN 4 (hN 4 (ck s k ^^^ s[k].toNat))) := hide (by rw [ck_succ s k hlt, ← hN_add])
      have hX4 := hN_lt 4 hX
      have HT := hide ht
      have HB := hide hb0
      clear ht hb0
      go_wp2_with fail
      refine (shiftFour_any B _ _ hX (unhide HT)).mono ?_
      rintro e w1 ⟨rfl, ht1, hb1⟩
      have HT1 := hide ht1
      have HB1 := hide (Below.trans (unhide HB) hb1)
      clear ht1 hb1
      go_wp2_with fail
      refine (shiftFour_any B _ _ hX4 (unhide HT1)).mono ?_
      rintro e w2 ⟨rfl, ht2, hb2⟩
      have HT2 := hide ht2
      have HB2 := hide (Below.trans (unhide HB1) hb2)
      clear ht2 hb2
      go_wp2
      go_roundw
      case rel => exact ⟨k + 1, by omega, by go_num, by rw [unhide hck], unhide HT2, unhide HB2⟩
      case measure => simp [intOf]; omega
    · have hx : bits .xor .u32 (ck s k : Int) 4294967295 = ((crc s.data.toList : Nat) : Int) := by
        rw [crc, ← ck_all s k (by omega)]; exact xor_int _ 4294967295 hlt32 (by decide)
      have HB := hide hb0
      have HT := hide ht
      clear ht hb0
      go_wp2
      go_ret
      exact ⟨rfl, unhide HT, unhide HB⟩

set_option maxRecDepth 100000 in
set_option maxHeartbeats 1000000 in
theorem implCheckSum_any (s : ByteArray) (w : World) (hs : s.size ≤ 1048576) :
    Calls Tryz.prog 54 #[.string s] w fun e w' => e = .returned (.int .u32 (crc s.data.toList : Int)) ∧ Below w.heap.size w w' := by
  have CS := hide (fun wx (h : Tabled wx w.heap.size) => sumOf_any w.heap.size s wx hs h)
  go_enter Tryz.func54, Tryz.ntmps54
  go_wp2_with fail
  refine (unhide CS _ (.inl ?_)).mono ?_
  · show (w.heap.push _)[w.heap.size]? = _
    rw [Array.getElem?_push_size]
    rfl
  rintro e w1 ⟨rfl, _, hb⟩
  have HB := hide (Below.trans ((Below.refl _ _).alloc (Nat.le_refl _) _) hb)
  clear hb
  go_wp2
  go_ret
  exact ⟨rfl, unhide HB⟩
end Go.Proofs.YtobpjegfgegkcaaGreatDoor
