/-
  A text with one byte changed has another sum: plain mathematics.
-/
import Derived.Test.YtobpjegfgegkcaaGreatDoorSum
namespace Go.Proofs.YtobpjegfgegkcaaGreatDoor
theorem xor_right_inj {a b c : Nat} (h : a ^^^ c = b ^^^ c) : a = b := by
  have := congrArg (· ^^^ c) h
  simp only [Nat.xor_assoc, Nat.xor_self, Nat.xor_zero] at this
  exact this
theorem top_odd {x y : Nat} (hx : x < 4294967296) (hy : y < 4294967296) : (x / 2) ^^^ 3988292384 ≠ y / 2 := by
  intro e
  have h1 := congrArg (fun t => Nat.testBit t 31) e
  simp only [Nat.testBit_xor] at h1
  have h2 : (x / 2).testBit 31 = false := Nat.testBit_lt_two_pow (by omega)
  have h3 : (y / 2).testBit 31 = false := Nat.testBit_lt_two_pow (by omega)
  rw [h2, h3] at h1
  exact absurd h1 (by decide)
theorem half_inj {x y : Nat} (hx : x < 4294967296) (hy : y < 4294967296) (h : half x = half y) : x = y := by
  by_cases ox : x % 2 = 1 <;> by_cases oy : y % 2 = 1
  · rw [half_odd ox, half_odd oy] at h
    have := xor_right_inj h
    omega
  · rw [half_odd ox, half_even oy] at h
    exact absurd h (top_odd hx hy)
  · rw [half_even ox, half_odd oy] at h
    exact absurd h.symm (top_odd hy hx)
  · rw [half_even ox, half_even oy] at h
    omega
theorem hN_inj : ∀ (k : Nat) {x y : Nat}, x < 4294967296 → y < 4294967296 → hN k x = hN k y → x = y
  | 0, _, _, _, _, h => h
  | k + 1, _, _, hx, hy, h => hN_inj k hx hy (half_inj (hN_lt k hx) (hN_lt k hy) h)
theorem fold_ne : ∀ (l : List UInt8) {x y : Nat}, x < 4294967296 → y < 4294967296 → x ≠ y → l.foldl (fun x (b : UInt8) => hN 8 (x ^^^ b.toNat)) x ≠ l.foldl (fun x (b : UInt8) => hN 8 (x ^^^ b.toNat)) y
  | [], _, _, _, _, h => h
  | b :: l, x, y, hx, hy, h => by
    simp only [List.foldl_cons]
    exact fold_ne l (hN_lt 8 (xor_lt32 hx (byte_lt32 b))) (hN_lt 8 (xor_lt32 hy (byte_lt32 b))) (fun e => h (xor_right_inj (hN_inj 8 (xor_lt32 hx (byte_lt32 b)) (xor_lt32 hy (byte_lt32 b)) e)))
theorem crc_changed (l : List UInt8) (i : Nat) (h : i < l.length) (c : UInt8) (hc : c ≠ l[i]) : crc (l.set i c) ≠ crc l := by
  unfold crc
  intro e
  have e1 := xor_right_inj e
  have hs : l = l.take i ++ l[i] :: l.drop (i + 1) := by rw [← List.drop_eq_getElem_cons h, List.take_append_drop]
  have hset : l.set i c = l.take i ++ c :: l.drop (i + 1) := by rw [List.set_eq_take_append_cons_drop, if_pos h]
  unfold crcTo at e1
  have e0 := congrArg (fun t : List UInt8 => t.foldl (fun x (b : UInt8) => hN 8 (x ^^^ b.toNat)) 4294967295) hs
  have e1 := (congrArg (fun t : List UInt8 => t.foldl (fun x (b : UInt8) => hN 8 (x ^^^ b.toNat)) 4294967295) hset).symm.trans (e1.trans e0)
  simp only [List.foldl_append, List.foldl_cons] at e1
  have hx := fold_lt (l.take i) 4294967295 (by decide)
  refine fold_ne (l.drop (i + 1)) (hN_lt 8 (xor_lt32 hx (byte_lt32 c))) (hN_lt 8 (xor_lt32 hx (byte_lt32 l[i]))) (fun e2 => hc ?_) e1
  have e3 := hN_inj 8 (xor_lt32 hx (byte_lt32 c)) (xor_lt32 hx (byte_lt32 l[i])) e2
  rw [Nat.xor_comm _ c.toNat, Nat.xor_comm _ l[i].toNat] at e3
  exact UInt8.toNat_inj.1 (xor_right_inj e3)
end Go.Proofs.YtobpjegfgegkcaaGreatDoor
