/-
  Several texts of this claim in one: Get, GetI, GetText, Sum, Once, SumR (pack.py put them together); each says in its own remark what is proved.
-/
import Derived.Test.YtkpmocbfedgfhaaGreatPackL
import Derived.Lib.Strings
import Derived.LoopN
import Derived.Deep.RegionWith
import Derived.WideShapes
import Derived.Test.YtkpmocbfedgfhaaGreatPackJ
import Derived.Test.YtkpmocbfedgfhaaGreatPackA
import Derived.Defers
import Derived.Laws.LoneSync
import Derived.Laws.Pointers
import Derived.RegionTactic
import Derived.RegionCalls
import Derived.ChangeAlike
/-
  What GetNum answers, the program's and the model's, each by its own text: the number whose bytes stand at a place, and the place behind them; walks over the dump.
-/
namespace Go.Proofs.YtkpmocbfedgfhaaGreat
open Go.RowKit
set_option linter.unusedVariables false
/-- the number of bytes of seven bits, the lowest first -/
def dv : List UInt8 → Nat
  | [] => 0
  | b :: t => b.toNat % 128 + 128 * dv t
theorem dv_snoc : ∀ (p : List UInt8) (b : UInt8), dv (p ++ [b]) = dv p + 128 ^ p.length * (b.toNat % 128)
  | [], b => by simp [dv]
  | c :: p, b => by
    simp only [List.cons_append, dv, dv_snoc p b, List.length_cons, Nat.pow_succ]
    rw [Nat.mul_add, ← Nat.mul_assoc, Nat.mul_comm (128 ^ p.length) 128]
    omega
theorem dv_lt : ∀ (p : List UInt8), dv p < 128 ^ p.length
  | [] => by simp [dv]
  | c :: p => by
    have := dv_lt p
    simp only [dv, List.length_cons, Nat.pow_succ]
    omega
def hi (b : UInt8) : Bool := decide (128 ≤ b.toNat)
theorem put_dv : ∀ (q : List UInt8) (b : UInt8), q.all hi = true → b.toNat < 128 → (put (dv (q ++ [b])) = q ++ [b] ↔ ¬ (b.toNat = 0 ∧ q ≠ []))
  | [], b, _, hb => by
    have e : dv ([] ++ [b]) = b.toNat := by simp [dv]; omega
    rw [e, put_small hb]
    simp
  | c :: q, b, hq, hb => by
    simp only [List.all_cons, Bool.and_eq_true] at hq
    have hc : 128 ≤ c.toNat := by have := hq.1; simpa [hi] using this
    have ih := put_dv q b hq.2 hb
    have hlt := c.toNat_lt
    simp only [List.cons_append, dv]
    by_cases h0 : dv (q ++ [b]) = 0
    · have hb0 : b.toNat = 0 := by
        rw [dv_snoc] at h0
        have h1 : 128 ^ q.length * (b.toNat % 128) = 0 := by omega
        have h2 : 0 < 128 ^ q.length := Nat.pow_pos (by decide)
        rcases Nat.mul_eq_zero.1 h1 with h | h <;> omega
      rw [h0, put_small (by omega)]
      simp [hb0]
    · rw [put_step (by omega)]
      rw [show (c.toNat % 128 + 128 * dv (q ++ [b])) / 128 = dv (q ++ [b]) from by omega, show 128 + (c.toNat % 128 + 128 * dv (q ++ [b])) % 128 = c.toNat from by omega]
      simp only [UInt8.ofNat_toNat, List.cons.injEq, true_and, ih]
      constructor
      · intro h; rintro ⟨hb0, _⟩
        refine h ⟨hb0, ?_⟩
        rintro rfl
        apply h0
        simp [dv, hb0]
      · intro h; rintro ⟨hb0, _⟩
        exact h ⟨hb0, by simp⟩
theorem putNum_dv {q : List UInt8} {b : UInt8} (hq : q.all hi = true) (hb : b.toNat < 128) : putNum (dv (q ++ [b]) : Int) = q ++ [b] ↔ dv (q ++ [b]) ≤ 4000000000 ∧ ¬ (b.toNat = 0 ∧ q ≠ []) := by
  rw [putNum]
  by_cases h : dv (q ++ [b]) ≤ 4000000000
  · rw [if_pos (by omega), Int.toNat_natCast, put_dv q b hq hb]
    exact ⟨fun x => ⟨h, x⟩, fun x => x.2⟩
  · rw [if_neg (by omega)]
    simp [h]

/-- how far the bytes go on -/
def stop : Nat → List UInt8 → Option Nat
  | 0, _ => none
  | _ + 1, [] => none
  | f + 1, b :: t => if b.toNat < 128 then some 0 else (stop f t).map (· + 1)
theorem stop_past : ∀ (q : List UInt8) (f : Nat) (t : List UInt8), q.all hi = true → q.length ≤ f → stop f (q ++ t) = (stop (f - q.length) t).map (· + q.length)
  | [], f, t, _, _ => by simp
  | c :: q, 0, t, _, h => by simp at h
  | c :: q, f + 1, t, hq, h => by
    simp only [List.all_cons, Bool.and_eq_true] at hq
    have hc : ¬ c.toNat < 128 := by have := hq.1; simp [hi] at this; omega
    simp only [List.cons_append, stop, if_neg hc, List.length_cons]
    rw [stop_past q f t hq.2 (by simp at h; omega), show f + 1 - (q.length + 1) = f - q.length from by omega, Option.map_map]
    congr 1
theorem stop_lt : ∀ (f : Nat) (t : List UInt8) (j : Nat), stop f t = some j → j < t.length
  | 0, t, j, h => by simp [stop] at h
  | f + 1, [], j, h => by simp [stop] at h
  | f + 1, b :: t, j, h => by
    rw [stop] at h
    by_cases hb : b.toNat < 128
    · rw [if_pos hb] at h
      simp at h
      simp; omega
    · rw [if_neg hb] at h
      obtain ⟨k, hk, rfl⟩ := Option.map_eq_some_iff.1 h
      have := stop_lt f t k hk
      simp; omega
/-- what GetNum answers -/
def getNum (l : List UInt8) (i : Int) : Int × Int :=
  if i < 0 then (0, -1) else
  match stop 5 (l.drop i.toNat) with
  | none => (0, -1)
  | some j =>
    let p := (l.drop i.toNat).take (j + 1)
    if putNum (dv p) = p then (((dv p : Nat) : Int), i + j + 1) else (0, -1)
theorem getNum_neg {l : List UInt8} {i : Int} (h : i < 0) : getNum l i = (0, -1) := by rw [getNum, if_pos h]
/-- the bytes from I on, the first j of them -/
def pre (l : List UInt8) (I j : Nat) : List UInt8 := (l.drop I).take j
theorem pre_zero (l : List UInt8) (I : Nat) : pre l I 0 = [] := by simp [pre]
theorem pre_len {l : List UInt8} {I j : Nat} (h : I + j ≤ l.length) : (pre l I j).length = j := by simp [pre]; omega
theorem pre_snoc {l : List UInt8} {I j : Nat} (h : I + j < l.length) : pre l I (j + 1) = pre l I j ++ [l[I + j]] := by
  rw [pre, List.take_succ_eq_append_getElem (by simp; omega)]
  simp [pre]
theorem getNum_end {l : List UInt8} {I j : Nat} (hj : j ≤ 5) (hall : (pre l I j).all hi = true) (hlen : I + j ≤ l.length ∨ j = 0) (h : j = 5 ∨ l.length ≤ I + j) : getNum l I = (0, -1) := by
  rw [getNum, if_neg (by omega), Int.toNat_natCast]
  have hs : stop 5 (l.drop I) = none := by
    have e : l.drop I = pre l I j ++ (l.drop I).drop j := (List.take_append_drop j _).symm
    by_cases hl : I + j ≤ l.length
    · rw [e, stop_past _ _ _ hall (by rw [pre_len hl]; exact hj), pre_len hl]
      rcases h with rfl | h
      · simp [stop]
      · have : (l.drop I).drop j = [] := by simp; omega
        rw [this]
        cases 5 - j <;> simp [stop]
    · have : l.drop I = [] := by simp; omega
      rw [this]; rfl
  rw [hs]
theorem getNum_stop {l : List UInt8} {I j : Nat} (hj : j < 5) (hall : (pre l I j).all hi = true) (hlen : I + j < l.length) (hb : (l[I + j]).toNat < 128) :
    getNum l I = if putNum (dv (pre l I (j + 1))) = pre l I (j + 1) then (((dv (pre l I (j + 1)) : Nat) : Int), (I : Int) + j + 1) else (0, -1) := by
  rw [getNum, if_neg (by omega), Int.toNat_natCast]
  have hs : stop 5 (l.drop I) = some j := by
    have e : l.drop I = pre l I j ++ (l.drop I).drop j := (List.take_append_drop j _).symm
    have e2 : (l.drop I).drop j = l[I + j] :: l.drop (I + j + 1) := by rw [List.drop_drop, List.drop_eq_getElem_cons hlen]
    rw [e, stop_past _ _ _ hall (by rw [pre_len (by omega)]; omega), pre_len (by omega), e2]
    obtain ⟨f, hf⟩ : ∃ f, 5 - j = f + 1 := ⟨4 - j, by omega⟩
    rw [hf, stop, if_pos hb]; simp
  rw [hs]
  rfl

def pw (j : Nat) : Nat := 128 ^ j
theorem pw_succ (j : Nat) : pw (j + 1) = 128 * pw j := by rw [pw, Nat.pow_succ, Nat.mul_comm]; rfl
theorem pw_le {j : Nat} (h : j ≤ 5) : pw j ≤ 34359738368 := Nat.pow_le_pow_right (n := 128) (by decide) h
theorem pw_le4 {j : Nat} (h : j < 5) : pw j ≤ 268435456 := Nat.pow_le_pow_right (n := 128) (j := 4) (by decide) (by omega)
def dk (s : ByteArray) (I j : Nat) : Nat := dv (pre s.data.toList I j)
theorem dk_zero (s : ByteArray) (I : Nat) : dk s I 0 = 0 := by rw [dk, pre_zero]; rfl
theorem dk_succ {s : ByteArray} {I j : Nat} (h : I + j < s.size) : dk s I (j + 1) = dk s I j + s[I + j].toNat % 128 * pw j := by
  rw [dk, pre_snoc (by simpa using h), dv_snoc, pre_len (by have := len_eq s; omega), Nat.mul_comm]; rfl
theorem dk_le {s : ByteArray} {I j : Nat} (hj : j ≤ 5) (h : I + j ≤ s.size ∨ j = 0) : dk s I j ≤ 34359738368 := by
  have h1 := dv_lt (pre s.data.toList I j)
  have h2 : (pre s.data.toList I j).length ≤ 5 := by simp [pre]; omega
  have h3 : 128 ^ (pre s.data.toList I j).length ≤ 128 ^ 5 := Nat.pow_le_pow_right (by decide) h2
  unfold dk; omega
theorem pre_snoc' {s : ByteArray} {I j : Nat} (h : I + j < s.size) : pre s.data.toList I (j + 1) = pre s.data.toList I j ++ [s[I + j]] := pre_snoc (by simpa using h)
theorem hi_snoc {s : ByteArray} {I j : Nat} (h : I + j < s.size) (h1 : (pre s.data.toList I j).all hi = true) (h2 : 128 ≤ s[I + j].toNat) : (pre s.data.toList I (j + 1)).all hi = true := by
  rw [pre_snoc' h, List.all_append, h1]; simp [hi, h2]
theorem extract_pre (s : ByteArray) (I j : Nat) : s.extract I (I + j) = bs (pre s.data.toList I j) := by
  apply WideShapes.bytes_inj
  rw [Lib.extract_data]
  simp [bs, pre]
theorem bs_other {a b : List UInt8} (h : a ≠ b) : ((bs a).toList == (bs b).toList) = false := by
  rw [ByteArray.toList_eq, ByteArray.toList_eq]; simpa [bs] using h
theorem ret_two {k : IntKind} {a b c d : Int} (h1 : a = c) (h2 : b = d) : Ending.returned (.tuple #[.int k a, .int k b]) = .returned (.tuple #[.int k c, .int k d]) := by rw [h1, h2]

set_option maxHeartbeats 1000000 in
theorem specGetNum_neg (s : ByteArray) (i : Int) (w : World) (hs : s.size ≤ 1048576) (h : i < 0) (hl : -9223372036854775808 ≤ i) :
    Calls Tryz.prog 91 #[.string s, .int .i64 i] w fun e w' => e = .returned (.tuple #[.int .i64 (getNum s.data.toList i).1, .int .i64 (getNum s.data.toList i).2]) ∧ Below w.heap.size w w' := by
  rw [getNum_neg h]
  go_enter Tryz.func91, Tryz.ntmps91
  go_wp2
  refine wp_loop_rounds 1 ?_
  rw [rounds_succ]
  go_wp2
  go_ret2
  exact ⟨rfl, Below.refl _ _⟩

set_option maxRecDepth 100000 in
set_option maxHeartbeats 1000000 in
theorem specGetNum_pos (s : ByteArray) (I : Nat) (w : World) (hs : s.size ≤ 1048576) (hI : (I : Int) ≤ 9223372036854775807) :
    Calls Tryz.prog 91 #[.string s, .int .i64 (I : Int)] w fun e w' => e = .returned (.tuple #[.int .i64 (getNum s.data.toList (I : Int)).1, .int .i64 (getNum s.data.toList (I : Int)).2]) ∧ Below w.heap.size w w' := by
  go_enter Tryz.func91, Tryz.ntmps91
  go_wp2
  go_loop [6, 7, 8] (fun n v k => ∃ j : Nat, j ≤ 5 ∧ (I + j ≤ s.size ∨ j = 0) ∧ n = .int .i64 (dk s I j : Int) ∧ v = .int .i64 (pw j : Int) ∧ k = .int .i64 ((I : Int) + (j : Int)) ∧ (pre s.data.toList I j).all hi = true) (fun _ _ k => I + 5 - (intOf k).toNat)
  case atStart => exact ⟨0, by omega, .inr rfl, by rw [dk_zero]; rfl, rfl, by go_num, by rw [pre_zero]; rfl⟩
  case round =>
    obtain ⟨j, hj, hle, rfl, rfl, rfl, hall⟩ := hrel
    have hd := dk_le (s := s) hj hle
    have hp := pw_le hj
    have HA := hide hall
    have HL := hide hle
    clear hall hle
    by_cases hlt : I + j < s.size ∧ j < 5
    · obtain ⟨hlt, hj5⟩ := hlt
      have hb : (s[I + j].toNat : Int) ≤ 255 := byte_le _
      have hp4 := pw_le4 hj5
      have hm0 : 0 ≤ (s[I + j].toNat : Int) % 128 * (pw j : Int) := Int.mul_nonneg (by omega) (by omega)
      have hm1 : (s[I + j].toNat : Int) % 128 * (pw j : Int) ≤ 127 * 268435456 := Int.mul_le_mul (by omega) (by omega) (by omega) (by omega)
      have hX : Hid ((dk s I j : Int) + (s[I + j].toNat : Int) % 128 * (pw j : Int) = (dk s I (j + 1) : Int)) := hide (by rw [dk_succ hlt]; simp)
      by_cases h128 : 128 ≤ (s[I + j].toNat : Int)
      · go_wp2
        go_round
        case rel => exact ⟨j + 1, by omega, .inl (by omega), by rw [unhide hX], by rw [pw_succ]; go_num, by go_num, hi_snoc hlt (unhide HA) (by omega)⟩
        case measure => simp [intOf]; omega
      · have hlo : s[I + j].toNat < 128 := by omega
        have hst := getNum_stop (l := s.data.toList) (I := I) (j := j) hj5 (unhide HA) (by rw [len_eq]; exact hlt) hlo
        have HS := hide hst
        clear hst
        have hwr : IntKind.i64.wrap ((I : Int) + (j : Int) + 1) = (I : Int) + (j : Int) + 1 := by rw [IntKind.wrap_i64]; omega
        have hsl : ∀ wx : World, (Instr.slice 9 (.string s) (some (.int .i64 (I : Int))) (some (.int .i64 ((I : Int) + (j : Int) + 1))) none).run Tryz.prog wx = .ok (.string (s.extract I (I + j + 1))) wx := fun wx => by
          have := run_slice_string (P := Tryz.prog) wx 9 s .i64 .i64 (I : Int) ((I : Int) + (j : Int) + 1) Tryz.underlying9 (by omega) (by omega) (by omega)
          rw [this, show ((I : Int)).toNat = I from by omega, show ((I : Int) + (j : Int) + 1).toNat = I + j + 1 from by omega]
        by_cases hq0 : putNum ((dk s I (j + 1) : Nat) : Int) = pre s.data.toList I (j + 1)
        · have hq : ((bs (putNum ((dk s I j : Int) + (s[I + j].toNat : Int) % 128 * (pw j : Int)))).toList == (s.extract I (I + j + 1)).toList) = true := by
            rw [unhide hX, hq0, Nat.add_assoc, extract_pre]; simp
          have hf : Hid (getNum s.data.toList (I : Int) = ((dk s I (j + 1) : Int), (I : Int) + j + 1)) := hide (by rw [unhide HS]; exact if_pos hq0)
          clear hq0
          go_wp2_with fail
          go_region_with (go_at_call 119; refine (specPutNum_any _ _).mono ?_; rintro e w1 ⟨rfl, hb1⟩)
          all_goals
            go_wp2
            go_ret2
            exact ⟨ret_two (by rw [unhide hf]; exact unhide hX) (by rw [unhide hf]), Below.trans ((Below.refl _ _).drew) hb1⟩
        · have hq : ((bs (putNum ((dk s I j : Int) + (s[I + j].toNat : Int) % 128 * (pw j : Int)))).toList == (s.extract I (I + j + 1)).toList) = false := by
            rw [unhide hX, Nat.add_assoc, extract_pre]; exact bs_other hq0
          have hf : Hid (getNum s.data.toList (I : Int) = (0, -1)) := hide (by rw [unhide HS]; exact if_neg hq0)
          clear hq0
          go_wp2_with fail
          go_region_with (go_at_call 119; refine (specPutNum_any _ _).mono ?_; rintro e w1 ⟨rfl, hb1⟩)
          all_goals
            go_wp2
            go_ret2
            exact ⟨ret_two (by rw [unhide hf]) (by rw [unhide hf]), Below.trans ((Below.refl _ _).drew) hb1⟩
    · have hf : Hid (getNum s.data.toList (I : Int) = (0, -1)) := hide (getNum_end hj (unhide HA) (by rw [len_eq]; exact unhide HL) (by rw [len_eq]; omega))
      clear hp hd
      by_cases h1 : I + j < s.size
      · have h5 : j = 5 := by omega
        subst h5
        go_wp2
        go_ret2
        exact ⟨ret_two (by rw [unhide hf]) (by rw [unhide hf]), Below.refl _ _⟩
      · go_wp2
        go_ret2
        exact ⟨ret_two (by rw [unhide hf]) (by rw [unhide hf]), Below.refl _ _⟩
end Go.Proofs.YtkpmocbfedgfhaaGreat

/-
  What the program's GetNum answers: the number whose bytes stand at a place, and the place behind them; a walk over the dump.
-/
namespace Go.Proofs.YtkpmocbfedgfhaaGreat
open Go.RowKit
set_option linter.unusedVariables false
theorem pw_two (j : Nat) : (2 : Int) ^ (7 * j) = (pw j : Int) := by
  have : (2 : Nat) ^ (7 * j) = pw j := by rw [pw, Nat.pow_mul]
  rw [← this]; simp
/-- the next seven bits are laid above those that are there -/
theorem next_bits (D B j : Nat) (hB : B ≤ 255) (hj : j < 5) (hD : D < pw j) :
    bits .or .u64 (D : Int) (IntKind.u64.wrap (IntKind.u64.wrap (bits .and .u8 (B : Int) 127) * 2 ^ (7 * j))) = ((D + B % 128 * pw j : Nat) : Int) := by
  have e1 : bits .and .u8 (B : Int) 127 = (B : Int) % 128 := bits_mask .u8 8 (by decide) wraps_u8 7 (by decide) B (by omega) (by omega)
  have hp := pw_le4 hj
  have hm : B % 128 * pw j ≤ 127 * 268435456 := Nat.mul_le_mul (by omega) hp
  have e2 : IntKind.u64.wrap ((B : Int) % 128) = ((B % 128 : Nat) : Int) := by rw [IntKind.wrap_u64]; omega
  rw [e1, e2, pw_two]
  have e3 : IntKind.u64.wrap (((B % 128 : Nat) : Int) * (pw j : Int)) = ((B % 128 * pw j : Nat) : Int) := by
    rw [IntKind.wrap_u64]
    have : ((B % 128 : Nat) : Int) * (pw j : Int) = ((B % 128 * pw j : Nat) : Int) := by simp
    rw [this]; omega
  rw [e3, u64_or_nat _ _ (by omega) (by omega)]
  have h2 : pw j = 2 ^ (7 * j) := by rw [pw, Nat.pow_mul]
  rw [Nat.or_comm, Nat.mul_comm, h2, ← Nat.two_pow_add_eq_or_of_lt (by rw [← h2]; exact hD)]
  rw [Nat.add_comm]
theorem dk_lt {s : ByteArray} {I j : Nat} (h : I + j ≤ s.size ∨ j = 0) : dk s I j < pw j := by
  have h1 := dv_lt (pre s.data.toList I j)
  have h2 : (pre s.data.toList I j).length = j := by
    rcases h with h | rfl
    · exact pre_len (by rw [len_eq]; exact h)
    · rw [pre_zero]; rfl
  rw [h2] at h1
  exact h1

set_option maxRecDepth 100000 in
set_option maxHeartbeats 1000000 in
theorem implGetNum_pos (s : ByteArray) (I : Nat) (w : World) (hs : s.size ≤ 1048576) (hI : (I : Int) ≤ 9223372036854775807) :
    Calls Tryz.prog 134 #[.string s, .int .i64 (I : Int)] w fun e w' => e = .returned (.tuple #[.int .i64 (getNum s.data.toList (I : Int)).1, .int .i64 (getNum s.data.toList (I : Int)).2]) ∧ Below w.heap.size w w' := by
  go_enter Tryz.func134, Tryz.ntmps134
  go_wp2
  go_loop [6, 7, 8, 9] (fun n a h _ => ∃ j : Nat, j ≤ 5 ∧ (I + j ≤ s.size ∨ j = 0) ∧ n = .int .u64 (dk s I j : Int) ∧ a = .int .i64 ((I : Int) + (j : Int)) ∧ h = .int .i64 (7 * (j : Int)) ∧ (pre s.data.toList I j).all hi = true) (fun _ a _ _ => I + 5 - (intOf a).toNat)
  case atStart => exact ⟨0, by omega, .inr rfl, by rw [dk_zero]; rfl, by go_num, by go_num, by rw [pre_zero]; rfl⟩
  case round =>
    obtain ⟨j, hj, hle, rfl, rfl, rfl, hall⟩ := hrel
    have hd := dk_le (s := s) hj hle
    have HA := hide hall
    have HL := hide hle
    clear hall hle
    by_cases hlt : I + j < s.size ∧ j < 5
    · obtain ⟨hlt, hj5⟩ := hlt
      have hb : (s[I + j].toNat : Int) ≤ 255 := byte_le _
      have hE : bits .or .u64 (dk s I j : Int) (IntKind.u64.wrap (IntKind.u64.wrap (bits .and .u8 (s[I + j].toNat : Int) 127) * 2 ^ (7 * j))) = (dk s I (j + 1) : Int) := by
        rw [next_bits _ _ _ (by omega) hj5 (dk_lt (unhide HL)), dk_succ hlt]
      have hd1 := dk_le (s := s) (I := I) (j := j + 1) (by omega) (.inl (by omega))
      by_cases h128 : 128 ≤ (s[I + j].toNat : Int)
      · go_wp2
        go_round
        case rel => exact ⟨j + 1, by omega, .inl (by omega), rfl, by go_num, by go_num, hi_snoc hlt (unhide HA) (by omega)⟩
        case measure => simp [intOf]; omega
      · have hlo : s[I + j].toNat < 128 := by omega
        have hst := getNum_stop (l := s.data.toList) (I := I) (j := j) hj5 (unhide HA) (by rw [len_eq]; exact hlt) hlo
        have hok := putNum_dv (unhide HA) hlo
        rw [← pre_snoc' hlt] at hok
        have HS := hide hst
        have HO := hide hok
        clear hst hok
        by_cases h4 : 4000000000 < (dk s I (j + 1) : Int)
        · have hf : Hid (getNum s.data.toList (I : Int) = (0, -1)) := hide (by rw [unhide HS]; exact if_neg (fun h => by have := ((unhide HO).1 h).1; unfold dk at h4; omega))
          go_wp2
          go_ret2
          exact ⟨ret_two (by rw [unhide hf]) (by rw [unhide hf]), Below.refl _ _⟩
        · by_cases h0 : s[I + j].toNat = 0
          · have hq : ((s[I + j].toNat : Int) == 0) = true := by simp; omega
            by_cases hj0 : j = 0
            · have hf : Hid (getNum s.data.toList (I : Int) = ((dk s I (j + 1) : Int), (I : Int) + j + 1)) := hide (by rw [unhide HS]; exact if_pos ((unhide HO).2 ⟨by unfold dk at h4; omega, fun h => h.2 (by rw [hj0, pre_zero])⟩))
              have hj1 : ¬ 0 < 7 * (j : Int) := by omega
              clear h0 hj0
              go_wp2
              go_ret2
              exact ⟨ret_two (by rw [unhide hf]) (by rw [unhide hf]), Below.refl _ _⟩
            · have hf : Hid (getNum s.data.toList (I : Int) = (0, -1)) := hide (by rw [unhide HS]; exact if_neg (fun h => ((unhide HO).1 h).2 ⟨h0, fun e => by have h1 := pre_len (l := s.data.toList) (I := I) (j := j) (by rw [len_eq]; omega); rw [e] at h1; simp at h1; omega⟩))
              have hj1 : 0 < 7 * (j : Int) := by omega
              clear h0
              go_wp2
              go_ret2
              exact ⟨ret_two (by rw [unhide hf]) (by rw [unhide hf]), Below.refl _ _⟩
          · have hf : Hid (getNum s.data.toList (I : Int) = ((dk s I (j + 1) : Int), (I : Int) + j + 1)) := hide (by rw [unhide HS]; exact if_pos ((unhide HO).2 ⟨by unfold dk at h4; omega, fun h => h0 h.1⟩))
            have hq : ((s[I + j].toNat : Int) == 0) = false := by simp; omega
            clear h0
            go_wp2
            go_ret2
            exact ⟨ret_two (by rw [unhide hf]) (by rw [unhide hf]), Below.refl _ _⟩
    · have hf : Hid (getNum s.data.toList (I : Int) = (0, -1)) := hide (getNum_end hj (unhide HA) (by rw [len_eq]; exact unhide HL) (by rw [len_eq]; omega))
      clear hd
      by_cases h5 : j < 5
      · go_wp2
        go_ret2
        exact ⟨ret_two (by rw [unhide hf]) (by rw [unhide hf]), Below.refl _ _⟩
      · go_wp2
        go_ret2
        exact ⟨ret_two (by rw [unhide hf]) (by rw [unhide hf]), Below.refl _ _⟩

set_option maxHeartbeats 400000 in
theorem implGetNum_neg (s : ByteArray) (i : Int) (w : World) (hs : s.size ≤ 1048576) (h : i < 0) :
    Calls Tryz.prog 134 #[.string s, .int .i64 i] w fun e w' => e = .returned (.tuple #[.int .i64 (getNum s.data.toList i).1, .int .i64 (getNum s.data.toList i).2]) ∧ Below w.heap.size w w' := by
  rw [getNum_neg h]
  go_enter Tryz.func134, Tryz.ntmps134
  go_wp2
  go_ret2
  exact ⟨rfl, Below.refl _ _⟩

theorem implGetNum_any (s : ByteArray) (i : Int) (w : World) (hs : s.size ≤ 1048576) (h0 : -9223372036854775808 ≤ i) (h1 : i ≤ 9223372036854775807) :
    Calls Tryz.prog 134 #[.string s, .int .i64 i] w fun e w' => e = .returned (.tuple #[.int .i64 (getNum s.data.toList i).1, .int .i64 (getNum s.data.toList i).2]) ∧ Below w.heap.size w w' := by
  by_cases h : i < 0
  · exact implGetNum_neg s i w hs h
  · obtain ⟨I, rfl⟩ := Int.eq_ofNat_of_zero_le (a := i) (by omega)
    exact implGetNum_pos s I w hs h1
theorem specGetNum_any (s : ByteArray) (i : Int) (w : World) (hs : s.size ≤ 1048576) (h0 : -9223372036854775808 ≤ i) (h1 : i ≤ 9223372036854775807) :
    Calls Tryz.prog 91 #[.string s, .int .i64 i] w fun e w' => e = .returned (.tuple #[.int .i64 (getNum s.data.toList i).1, .int .i64 (getNum s.data.toList i).2]) ∧ Below w.heap.size w w' := by
  by_cases h : i < 0
  · exact specGetNum_neg s i w hs h h0
  · obtain ⟨I, rfl⟩ := Int.eq_ofNat_of_zero_le (a := i) (by omega)
    exact specGetNum_pos s I w hs h1
end Go.Proofs.YtkpmocbfedgfhaaGreat

/-
  What GetText answers, the program's and the model's: the text whose bytes stand at a place, and the place behind them; walks over the dump.
-/
namespace Go.Proofs.YtkpmocbfedgfhaaGreat
open Go.RowKit
set_option linter.unusedVariables false
theorem getNum_le (s : ByteArray) (i : Int) (h : 0 ≤ (getNum s.data.toList i).2) : 0 ≤ (getNum s.data.toList i).1 ∧ (getNum s.data.toList i).1 ≤ 4000000000 ∧ (getNum s.data.toList i).2 ≤ s.size := by
  unfold getNum at *
  by_cases hi : i < 0
  · rw [if_pos hi] at h; simp at h
  · rw [if_neg hi] at *
    cases hs : stop 5 (s.data.toList.drop i.toNat) with
    | none => rw [hs] at h; simp at h
    | some j =>
      rw [hs] at h
      simp only at *
      by_cases hp : putNum (dv ((s.data.toList.drop i.toNat).take (j + 1))) = (s.data.toList.drop i.toNat).take (j + 1)
      · rw [if_pos hp] at *
        have hlt := stop_lt _ _ _ hs
        rw [List.length_drop, len_eq] at hlt
        refine ⟨by simp, ?_, by simp; omega⟩
        simp only
        unfold putNum at hp
        by_cases h4 : (0 : Int) ≤ (dv ((s.data.toList.drop i.toNat).take (j + 1)) : Int) ∧ (dv ((s.data.toList.drop i.toNat).take (j + 1)) : Int) ≤ 4000000000
        · exact h4.2
        · rw [if_neg h4] at hp
          have := congrArg List.length hp
          simp only [List.length_nil, List.length_take, List.length_drop, len_eq] at this
          omega
      · rw [if_neg hp] at h; simp at h
def getText (l : List UInt8) (i : Int) : List UInt8 × Int :=
  let g := getNum l i
  if g.2 < 0 ∨ 2000 < g.1 ∨ l.length - g.2 < g.1 then ([], -1) else ((l.drop g.2.toNat).take g.1.toNat, g.2 + g.1)
theorem getText_of {s : ByteArray} {i a b : Int} (h : getNum s.data.toList i = (a, b)) :
    getText s.data.toList i = if b < 0 ∨ 2000 < a ∨ (s.size : Int) - b < a then ([], -1) else ((s.data.toList.drop b.toNat).take a.toNat, b + a) := by
  unfold getText; rw [h]; simp only [len_eq]
theorem ret_st {a b : ByteArray} {c d : Int} (h1 : a = b) (h2 : c = d) : Ending.returned (.tuple #[.string a, .int .i64 c]) = .returned (.tuple #[.string b, .int .i64 d]) := by rw [h1, h2]

set_option maxRecDepth 100000 in
set_option maxHeartbeats 1000000 in
theorem specGetText_any (s : ByteArray) (i : Int) (w : World) (hs : s.size ≤ 1048576) (h0 : -9223372036854775808 ≤ i) (h1 : i ≤ 9223372036854775807) :
    Calls Tryz.prog 51 #[.string s, .int .i64 i] w fun e w' => e = .returned (.tuple #[.string (bs (getText s.data.toList i).1), .int .i64 (getText s.data.toList i).2]) ∧ Below w.heap.size w w' := by
  have hle := getNum_le s i
  have hcall := specGetNum_any s i w hs h0 h1
  obtain ⟨a, b, hg⟩ : ∃ a b, getNum s.data.toList i = (a, b) := ⟨_, _, rfl⟩
  have hgt := getText_of hg
  rw [hg] at hle hcall
  simp only at hle hcall
  have HG := hide hgt
  have HC := hide hcall
  clear hgt hcall hg
  by_cases hb : b < 0
  · have hf : Hid (getText s.data.toList i = ([], -1)) := hide (by rw [unhide HG]; exact if_pos (.inl hb))
    clear hle
    go_enter Tryz.func51, Tryz.ntmps51
    go_wp2_with fail
    refine (unhide HC).mono ?_
    rintro e w1 ⟨rfl, hb1⟩
    have HB := hide hb1
    clear hb1
    go_wp2
    go_ret2
    exact ⟨ret_st (by rw [unhide hf]; rfl) (by rw [unhide hf]), unhide HB⟩
  obtain ⟨ha0, ha4, hbs⟩ := hle (by omega)
  clear hle
  have hb0 : 0 ≤ b := by omega
  by_cases ha : 2000 < a
  · have hf : Hid (getText s.data.toList i = ([], -1)) := hide (by rw [unhide HG]; exact if_pos (.inr (.inl ha)))
    go_enter Tryz.func51, Tryz.ntmps51
    go_wp2_with fail
    refine (unhide HC).mono ?_
    rintro e w1 ⟨rfl, hb1⟩
    have HB := hide hb1
    clear hb1
    go_wp2
    go_ret2
    exact ⟨ret_st (by rw [unhide hf]; rfl) (by rw [unhide hf]), unhide HB⟩
  by_cases hl : (s.size : Int) - b < a
  · have hf : Hid (getText s.data.toList i = ([], -1)) := hide (by rw [unhide HG]; exact if_pos (.inr (.inr hl)))
    go_enter Tryz.func51, Tryz.ntmps51
    go_wp2_with fail
    refine (unhide HC).mono ?_
    rintro e w1 ⟨rfl, hb1⟩
    have HB := hide hb1
    clear hb1
    go_wp2
    go_ret2
    exact ⟨ret_st (by rw [unhide hf]; rfl) (by rw [unhide hf]), unhide HB⟩
  · have hf : Hid (getText s.data.toList i = ((s.data.toList.drop b.toNat).take a.toNat, b + a)) := hide (by rw [unhide HG]; exact if_neg (by omega))
    obtain ⟨B, rfl⟩ := Int.eq_ofNat_of_zero_le hb0
    obtain ⟨A, rfl⟩ := Int.eq_ofNat_of_zero_le ha0
    have hx : Hid (s.extract B (B + A) = bs ((s.data.toList.drop B).take A)) := hide (extract_pre s B A)
    have hsz : (s.extract B (B + A)).size ≤ 281474976710656 := by rw [unhide hx, bs_size, List.length_take]; omega
    go_enter Tryz.func51, Tryz.ntmps51
    go_wp2_with fail
    refine (unhide HC).mono ?_
    rintro e w1 ⟨rfl, hb1⟩
    have HB := hide hb1
    clear hb1
    go_wp2
    go_ret2
    exact ⟨ret_st (by rw [unhide hf]; exact unhide hx) (by rw [unhide hf]), unhide HB⟩

set_option maxRecDepth 100000 in
set_option maxHeartbeats 1000000 in
theorem implGetText_any (s : ByteArray) (i : Int) (w : World) (hs : s.size ≤ 1048576) (h0 : -9223372036854775808 ≤ i) (h1 : i ≤ 9223372036854775807) :
    Calls Tryz.prog 95 #[.string s, .int .i64 i] w fun e w' => e = .returned (.tuple #[.string (bs (getText s.data.toList i).1), .int .i64 (getText s.data.toList i).2]) ∧ Below w.heap.size w w' := by
  have hle := getNum_le s i
  have hcall := implGetNum_any s i w hs h0 h1
  obtain ⟨a, b, hg⟩ : ∃ a b, getNum s.data.toList i = (a, b) := ⟨_, _, rfl⟩
  have hgt := getText_of hg
  rw [hg] at hle hcall
  simp only at hle hcall
  have HG := hide hgt
  have HC := hide hcall
  clear hgt hcall hg
  by_cases hb : b < 0
  · have hf : Hid (getText s.data.toList i = ([], -1)) := hide (by rw [unhide HG]; exact if_pos (.inl hb))
    clear hle
    go_enter Tryz.func95, Tryz.ntmps95
    go_wp2_with fail
    refine (unhide HC).mono ?_
    rintro e w1 ⟨rfl, hb1⟩
    have HB := hide hb1
    clear hb1
    go_wp2
    go_ret2
    exact ⟨ret_st (by rw [unhide hf]; rfl) (by rw [unhide hf]), unhide HB⟩
  obtain ⟨ha0, ha4, hbs⟩ := hle (by omega)
  clear hle
  have hb0 : 0 ≤ b := by omega
  by_cases ha : 2000 < a
  · have hf : Hid (getText s.data.toList i = ([], -1)) := hide (by rw [unhide HG]; exact if_pos (.inr (.inl ha)))
    go_enter Tryz.func95, Tryz.ntmps95
    go_wp2_with fail
    refine (unhide HC).mono ?_
    rintro e w1 ⟨rfl, hb1⟩
    have HB := hide hb1
    clear hb1
    go_wp2
    go_ret2
    exact ⟨ret_st (by rw [unhide hf]; rfl) (by rw [unhide hf]), unhide HB⟩
  by_cases hl : (s.size : Int) - b < a
  · have hf : Hid (getText s.data.toList i = ([], -1)) := hide (by rw [unhide HG]; exact if_pos (.inr (.inr hl)))
    go_enter Tryz.func95, Tryz.ntmps95
    go_wp2_with fail
    refine (unhide HC).mono ?_
    rintro e w1 ⟨rfl, hb1⟩
    have HB := hide hb1
    clear hb1
    go_wp2
    go_ret2
    exact ⟨ret_st (by rw [unhide hf]; rfl) (by rw [unhide hf]), unhide HB⟩
  · have hf : Hid (getText s.data.toList i = ((s.data.toList.drop b.toNat).take a.toNat, b + a)) := hide (by rw [unhide HG]; exact if_neg (by omega))
    obtain ⟨B, rfl⟩ := Int.eq_ofNat_of_zero_le hb0
    obtain ⟨A, rfl⟩ := Int.eq_ofNat_of_zero_le ha0
    have hx : Hid (s.extract B (B + A) = bs ((s.data.toList.drop B).take A)) := hide (extract_pre s B A)
    have hsz : (s.extract B (B + A)).size ≤ 281474976710656 := by rw [unhide hx, bs_size, List.length_take]; omega
    go_enter Tryz.func95, Tryz.ntmps95
    go_wp2_with fail
    refine (unhide HC).mono ?_
    rintro e w1 ⟨rfl, hb1⟩
    have HB := hide hb1
    clear hb1
    go_wp2_with fail
    refine (clone_any _ _ hsz).mono ?_
    rintro e w2 ⟨rfl, hb2⟩
    have HB2 := hide (Below.trans (unhide HB) (hb2.mono (unhide HB).size))
    clear hb2
    go_wp2
    go_ret2
    exact ⟨ret_st (by rw [unhide hf]; exact unhide hx) (by rw [unhide hf]), unhide HB2⟩
end Go.Proofs.YtkpmocbfedgfhaaGreat

/-
  The sum known as CRC-32, as plain mathematics; and what the model's CheckSum and the program's halveFour answer: walks over the dump.
-/
namespace Go.Proofs.YtkpmocbfedgfhaaGreat
open Go.RowKit
set_option linter.unusedVariables false
def half (x : Nat) : Nat := if x % 2 = 1 then (x / 2) ^^^ 3988292384 else x / 2
/-- so many halvings -/
def hN : Nat → Nat → Nat
  | 0, x => x
  | k + 1, x => half (hN k x)
theorem hN_succ (k x : Nat) : hN (k + 1) x = half (hN k x) := rfl
theorem half_lt {x : Nat} (h : x < 4294967296) : half x < 4294967296 := by
  unfold half
  split
  · exact Nat.xor_lt_two_pow (n := 32) (by omega) (by decide)
  · omega
theorem hN_lt : ∀ (k : Nat) {x : Nat}, x < 4294967296 → hN k x < 4294967296
  | 0, _, h => h
  | k + 1, _, h => half_lt (hN_lt k h)
theorem half_xor (a b : Nat) : half (a ^^^ b) = half a ^^^ half b := by
  unfold half
  have hm := Nat.xor_mod_two_eq_one (a := a) (b := b)
  rw [Nat.xor_div_two]
  by_cases ha : a % 2 = 1 <;> by_cases hb : b % 2 = 1
  · have : ¬ (a ^^^ b) % 2 = 1 := by rw [hm]; simp [ha, hb]
    rw [if_neg this, if_pos ha, if_pos hb]
    rw [Nat.xor_assoc, Nat.xor_comm (b / 2), ← Nat.xor_assoc 3988292384, Nat.xor_self, Nat.zero_xor]
  · have : (a ^^^ b) % 2 = 1 := by rw [hm]; simp [ha, hb]
    rw [if_pos this, if_pos ha, if_neg hb, Nat.xor_assoc, Nat.xor_comm (b / 2), ← Nat.xor_assoc]
  · have : (a ^^^ b) % 2 = 1 := by rw [hm]; simp [ha, hb]
    rw [if_pos this, if_neg ha, if_pos hb, Nat.xor_assoc]
  · have : ¬ (a ^^^ b) % 2 = 1 := by rw [hm]; simp [ha, hb]
    rw [if_neg this, if_neg ha, if_neg hb]
theorem hN_xor : ∀ (k a b : Nat), hN k (a ^^^ b) = hN k a ^^^ hN k b
  | 0, _, _ => rfl
  | k + 1, a, b => by rw [hN_succ, hN_xor k, half_xor]; rfl
theorem half_two (y : Nat) : half (2 * y) = y := by unfold half; rw [if_neg (by omega)]; omega
theorem split16 (x : Nat) : x = (x % 16) ^^^ (2 ^ 4 * (x / 16)) := by
  apply Nat.eq_of_testBit_eq
  intro i
  rw [Nat.testBit_xor, Nat.testBit_two_pow_mul]
  have e : x = 2 ^ 4 * (x / 16) + x % 16 := by omega
  rw (occs := .pos [1]) [e]
  rw [Nat.testBit_two_pow_mul_add _ (by omega)]
  by_cases h : i < 4
  · rw [if_pos h]; simp [show ¬ 4 ≤ i from by omega]
  · rw [if_neg h]
    have h0 : (x % 16).testBit i = false := Nat.testBit_lt_two_pow (Nat.lt_of_lt_of_le (by omega : x % 16 < 2 ^ 4) (Nat.pow_le_pow_right (by decide) (by omega)))
    rw [h0]; simp [show 4 ≤ i from by omega]
theorem four_sixteen (y : Nat) : hN 4 (2 ^ 4 * y) = y := by
  simp only [hN]
  rw [show 2 ^ 4 * y = 2 * (2 * (2 * (2 * y))) from by omega, half_two, half_two, half_two, half_two]
/-- four halvings at once: the lowest four bits by a table, the others moved down -/
theorem four_split (x : Nat) : hN 4 x = hN 4 (x % 16) ^^^ (x / 16) := by
  rw (occs := .pos [1]) [split16 x]
  rw [hN_xor, four_sixteen]
theorem hN_add (a : Nat) : ∀ (b x : Nat), hN (b + a) x = hN b (hN a x)
  | 0, x => by rw [Nat.zero_add]; rfl
  | b + 1, x => by rw [show b + 1 + a = (b + a) + 1 from by omega, hN_succ, hN_add a b, hN_succ]
def crcTo (l : List UInt8) : Nat := l.foldl (fun x b => hN 8 (x ^^^ b.toNat)) 4294967295
def crc (l : List UInt8) : Nat := crcTo l ^^^ 4294967295
theorem xor_lt32 {a b : Nat} (ha : a < 4294967296) (hb : b < 4294967296) : a ^^^ b < 4294967296 := Nat.xor_lt_two_pow (n := 32) ha hb
theorem byte_lt32 (c : UInt8) : c.toNat < 4294967296 := by have := c.toNat_lt; omega
theorem crcTo_snoc (l : List UInt8) (b : UInt8) : crcTo (l ++ [b]) = hN 8 (crcTo l ^^^ b.toNat) := by simp [crcTo]
theorem fold_lt : ∀ (l : List UInt8) (x : Nat), x < 4294967296 → l.foldl (fun x (b : UInt8) => hN 8 (x ^^^ b.toNat)) x < 4294967296
  | [], _, h => h
  | b :: l, x, h => fold_lt l _ (hN_lt 8 (xor_lt32 h (byte_lt32 b)))
theorem crcTo_lt (l : List UInt8) : crcTo l < 4294967296 := fold_lt l _ (by decide)
def ck (s : ByteArray) (k : Nat) : Nat := crcTo (s.data.toList.take k)
theorem ck_zero (s : ByteArray) : ck s 0 = 4294967295 := by simp [ck, crcTo]
theorem ck_succ (s : ByteArray) (k : Nat) (h : k < s.size) : ck s (k + 1) = hN 8 (ck s k ^^^ s[k].toNat) := by rw [ck, take_snoc s k h, crcTo_snoc]; rfl
theorem ck_all (s : ByteArray) (k : Nat) (h : s.size ≤ k) : ck s k = crcTo s.data.toList := by rw [ck, take_all s k h]
theorem ck_lt (s : ByteArray) (k : Nat) : ck s k < 4294967296 := crcTo_lt _
theorem half_odd {x : Nat} (h : x % 2 = 1) : half x = (x / 2) ^^^ 3988292384 := by rw [half, if_pos h]
theorem half_even {x : Nat} (h : ¬ x % 2 = 1) : half x = x / 2 := by rw [half, if_neg h]
theorem xor_int (a b : Nat) (ha : a < 4294967296) (hb : b < 4294967296) : bits .xor .u32 (a : Int) (b : Int) = ((a ^^^ b : Nat) : Int) := u32_xor_nat a b ha hb

set_option maxRecDepth 100000 in
set_option maxHeartbeats 1000000 in
theorem specCheckSum_any (s : ByteArray) (w : World) (hs : s.size ≤ 1048576) :
    Calls Tryz.prog 54 #[.string s] w fun e w' => e = .returned (.int .u32 (crc s.data.toList : Int)) ∧ w = w' := by
  go_enter Tryz.func54, Tryz.ntmps54
  go_wp2
  go_loop [3, 4, 5, 6] (fun x i _ _ => ∃ k : Nat, k ≤ s.size ∧ i = .int .i64 k ∧ x = .int .u32 (ck s k : Int)) (fun _ i _ _ => s.size - (intOf i).toNat)
  case atStart => exact ⟨0, Nat.zero_le _, rfl, by rw [ck_zero]; rfl⟩
  case round =>
    obtain ⟨k, hk, rfl, rfl⟩ := hrel
    have hlt32 := ck_lt s k
    by_cases hlt : k < s.size
    · have hb : (s[k].toNat : Int) ≤ 255 := byte_le _
      have hx : bits .xor .u32 (ck s k : Int) (s[k].toNat : Int) = ((ck s k ^^^ s[k].toNat : Nat) : Int) := xor_int _ _ hlt32 (byte_lt32 _)
      have hX : ck s k ^^^ s[k].toNat < 4294967296 := xor_lt32 hlt32 (byte_lt32 _)
      have hck : Hid (ck s (k + 1) = hN 8 (ck s k ^^^ s[k].toNat)) := hide (ck_succ s k hlt)
      go_wp2
      go_loop [3, 5, 6] (fun x j _ => ∃ t : Nat, t ≤ 8 ∧ j = .int .i64 t ∧ x = .int .u32 (hN t (ck s k ^^^ s[k].toNat) : Int)) (fun _ j _ => 8 - (intOf j).toNat)
      case atStart => exact ⟨0, Nat.zero_le _, rfl, rfl⟩
      case round =>
        obtain ⟨t, ht, rfl, rfl⟩ := hrel
        have hn := hN_lt t hX
        have HS : Hid (hN (t + 1) (ck s k ^^^ s[k].toNat) = half (hN t (ck s k ^^^ s[k].toNat))) := hide rfl
        clear hx
        by_cases ht8 : t < 8
        · by_cases ho : hN t (ck s k ^^^ s[k].toNat) % 2 = 1
          · have hq : (((hN t (ck s k ^^^ s[k].toNat) : Nat) : Int) % 2 == 1) = true := by simp; omega
            have hx2 : bits .xor .u32 ((hN t (ck s k ^^^ s[k].toNat) : Int) / 2) 3988292384 = ((half (hN t (ck s k ^^^ s[k].toNat)) : Nat) : Int) := by
              rw [half_odd ho]; exact xor_int (hN t (ck s k ^^^ s[k].toNat) / 2) 3988292384 (by omega) (by decide)
            clear ho
            go_wp2
            go_round
            case rel => exact ⟨t + 1, by omega, by go_num, by rw [unhide HS]⟩
            case measure => simp [intOf]; omega
          · have hq : (((hN t (ck s k ^^^ s[k].toNat) : Nat) : Int) % 2 == 1) = false := by simp; omega
            have hx2 : Hid (((half (hN t (ck s k ^^^ s[k].toNat)) : Nat) : Int) = (hN t (ck s k ^^^ s[k].toNat) : Int) / 2) := hide (by rw [half_even ho]; omega)
            clear ho
            go_wp2
            go_round
            case rel => exact ⟨t + 1, by omega, by go_num, by rw [unhide HS, unhide hx2]⟩
            case measure => simp [intOf]; omega
        · have he : t = 8 := by omega
          subst he
          go_wp2
          go_round
          case rel => exact ⟨k + 1, by omega, by go_num, by rw [unhide hck]⟩
          case measure => simp [intOf]; omega
    · have hx : bits .xor .u32 (ck s k : Int) 4294967295 = ((crc s.data.toList : Nat) : Int) := by
        rw [crc, ← ck_all s k (by omega)]; exact xor_int _ 4294967295 hlt32 (by decide)
      go_wp2
      go_ret
      exact ⟨rfl, rfl⟩

set_option maxRecDepth 100000 in
set_option maxHeartbeats 1000000 in
theorem halveFour_any (x : Nat) (w : World) (h : x < 4294967296) :
    Calls Tryz.prog 150 #[.int .u32 (x : Int)] w fun e w' => e = .returned (.int .u32 (hN 4 x : Int)) ∧ w = w' := by
  go_enter Tryz.func150, Tryz.ntmps150
  go_wp2
  go_loop [0, 3, 4] (fun v _ j => ∃ t : Nat, t ≤ 4 ∧ j = .int .i64 t ∧ v = .int .u32 (hN t x : Int)) (fun _ _ j => 4 - (intOf j).toNat)
  case atStart => exact ⟨0, Nat.zero_le _, rfl, rfl⟩
  case round =>
    obtain ⟨t, ht, rfl, rfl⟩ := hrel
    have hn := hN_lt t h
    have HS : Hid (hN (t + 1) x = half (hN t x)) := hide rfl
    by_cases ht4 : t < 4
    · have ha : bits .and .u32 (hN t x : Int) 1 = ((hN t x % 2 : Nat) : Int) := by
        rw [show (1 : Int) = ((1 : Nat) : Int) from rfl, u32_and_nat _ _ hn (by decide), Nat.and_one_is_mod]
      by_cases ho : hN t x % 2 = 1
      · have hq : (((hN t x % 2 : Nat) : Int) == 1) = true := by simp; omega
        have hx2 : bits .xor .u32 ((hN t x : Int) / 2) 3988292384 = ((half (hN t x) : Nat) : Int) := by
          rw [half_odd ho]; exact xor_int (hN t x / 2) 3988292384 (by omega) (by decide)
        clear ho
        go_wp2
        go_round
        case rel => exact ⟨t + 1, by omega, by go_num, by rw [unhide HS]⟩
        case measure => simp [intOf]; omega
      · have hq : (((hN t x % 2 : Nat) : Int) == 1) = false := by simp; omega
        have hx2 : Hid (((half (hN t x) : Nat) : Int) = (hN t x : Int) / 2) := hide (by rw [half_even ho]; omega)
        clear ho
        go_wp2
        go_round
        case rel => exact ⟨t + 1, by omega, by go_num, by rw [unhide HS, unhide hx2]⟩
        case measure => simp [intOf]; omega
    · have he : t = 4 := by omega
      subst he
      go_wp2
      go_ret
      exact ⟨rfl, rfl⟩
end Go.Proofs.YtkpmocbfedgfhaaGreat

/-
  The program's table of sums, made once by sync.Once in one goroutine: what each step of it does to the table's block; walks over the dump.
-/
namespace Go.Proofs.YtkpmocbfedgfhaaGreat
open Go.RowKit
set_option linter.unusedVariables false
def HoldsT (w : World) (B : Nat) (C : Array Value) : Prop := w.heap[B]? = some (.cells C 85 (0, 0))
theorem HoldsT.cell {w : World} {B : Nat} {C : Array Value} (h : HoldsT w B C) (j : Nat) : w.cell? ⟨B, j, none⟩ = C[j]? := by
  unfold HoldsT at h; simp [World.cell?, h]
theorem HoldsT.frozen {w : World} {B : Nat} {C : Array Value} (h : HoldsT w B C) (j : Nat) : w.frozen? ⟨B, j, none⟩ = false := by
  unfold HoldsT at h; simp [World.frozen?, h]
theorem HoldsT.set {w : World} {B : Nat} {C : Array Value} (h : HoldsT w B C) (j : Nat) (v : Value) : HoldsT (w.setCell ⟨B, j, none⟩ v) B (C.setIfInBounds j v) := heap_setCell_same w B j C _ v h
theorem HoldsT.drew {w : World} {B : Nat} {C : Array Value} (h : HoldsT w B C) : HoldsT w.drew B C := h
theorem HoldsT.lt {w : World} {B : Nat} {C : Array Value} (h : HoldsT w B C) : B < w.heap.size := lt_of_block h
theorem disable (w : World) : (callFunc 161 #[]).run Tryz.prog w = .ok (.value (.tuple #[])) w := run_call_mark0 Tryz.func161 (by kernel_rfl) (by kernel_rfl) (by kernel_rfl) .disable (by kernel_rfl) w
theorem enable (w : World) : (callFunc 163 #[]).run Tryz.prog w = .ok (.value (.tuple #[])) w := run_call_mark0 Tryz.func163 (by kernel_rfl) (by kernel_rfl) (by kernel_rfl) .enable (by kernel_rfl) w
theorem acquire (a : Addr) (w : World) : (callFunc 164 #[.pointer (some a)]).run Tryz.prog w = .ok (.value (.tuple #[])) w := run_call_marked Tryz.func164 (by kernel_rfl) (by kernel_rfl) (by kernel_rfl) .acquire (by kernel_rfl) a w
theorem releaseMerge (a : Addr) (w : World) : (callFunc 166 #[.pointer (some a)]).run Tryz.prog w = .ok (.value (.tuple #[])) w := run_call_marked Tryz.func166 (by kernel_rfl) (by kernel_rfl) (by kernel_rfl) .releaseMerge (by kernel_rfl) a w

set_option maxRecDepth 100000 in
set_option maxHeartbeats 1000000 in
/-- atomic.Bool's Store of true, deferred: the cell holds 1. -/
theorem store_deferred (a : Addr) (x : Value) (u : FrameMode) (w : World) (hc : w.cell? a = some x) (hz : w.frozen? a = false) :
    CallsD Tryz.prog 156 #[.pointer (some a), .bool true] u w fun e u' w' => u' = u ∧ (e = .returned (.tuple #[]) ∧ w' = w.drew.setCell a (.int .u32 1)) := by
  have hc' : w.drew.cell? a = some x := by go_simp
  have hz' : w.drew.frozen? a = false := by go_simp
  have hst := run_call_store (P := Tryz.prog) Tryz.func159 (by kernel_rfl) (by kernel_rfl) (by kernel_rfl) (by kernel_rfl) (k := .u32) (y := 1) hc' hz'
  go_enter_d Tryz.func156, Tryz.ntmps156
  go_wp2
  go_region_calls
  all_goals (go_end0; exact ⟨rfl, rfl⟩)

set_option maxRecDepth 100000 in
set_option maxHeartbeats 1000000 in
/-- sync.Mutex's Unlock, deferred, the lock held and nobody waiting: the state is 0. -/
theorem unlock_deferred (a : Addr) (u : FrameMode) (w : World) (hc : w.cell? a = some (.int .i32 1)) (hz : w.frozen? a = false) :
    CallsD Tryz.prog 155 #[.pointer (some a)] u w fun e u' w' => u' = u ∧ (e = .returned (.tuple #[]) ∧ w' = w.setCell a (.int .i32 0)) := by
  have hd := disable
  have he := enable
  have hr := releaseMerge
  have hadd := run_call_add (P := Tryz.prog) Tryz.func167 (by kernel_rfl) (by kernel_rfl) (by kernel_rfl) .i32 (by kernel_rfl) (y := -1) (s := 0) hc hz (by simp [go_sem]; rfl)
  have hcv := run_convert_to_unsafe (P := Tryz.prog) (src := 209) (dst := 213) Tryz.underlying209 Tryz.underlying213 (by kernel_rfl) hc
  go_enter_d Tryz.func155, Tryz.ntmps155
  go_wp2
  go_end0
  go_wp2
  go_end0
  exact ⟨rfl, rfl⟩

set_option maxRecDepth 100000 in
set_option maxHeartbeats 1000000 in
/-- sync.Mutex's Lock, the lock free: the state is 1. -/
theorem lock_free (a : Addr) (w : World) (hc : w.cell? a = some (.int .i32 0)) (hz : w.frozen? a = false) :
    Calls Tryz.prog 154 #[.pointer (some a)] w fun e w' => e = .returned (.tuple #[]) ∧ w' = w.setCell a (.int .i32 1) := by
  have hd := disable
  have he := enable
  have ha := acquire
  have hcas := run_call_cas_hit (P := Tryz.prog) Tryz.func162 (by kernel_rfl) (by kernel_rfl) (by kernel_rfl) .i32 (by kernel_rfl) (y := 1) hc hz
  have hc' : (w.setCell a (.int .i32 1)).cell? a = some (.int .i32 1) := World.cell?_setCell_same w a _ hc
  have hcv := run_convert_to_unsafe (P := Tryz.prog) (src := 209) (dst := 213) Tryz.underlying209 Tryz.underlying213 (by kernel_rfl) hc'
  go_enter Tryz.func154, Tryz.ntmps154
  go_wp2
  first | go_end0 | (simp only [Exit.inBlock, Exit.then]; refine bodyPost_ret (results_none rfl _ _ _) rfl ?_) | refine bodyPost_ret (results_none rfl _ _ _) rfl ?_
  go_wp2
  go_end0
  exact ⟨rfl, rfl⟩
end Go.Proofs.YtkpmocbfedgfhaaGreat

/-
  The table of sums within a reader, made once, and what a text sums to by it: walks over the dump (mksumr.py wrote this out of Once, Fill and SumI).
-/
namespace Go.Proofs.YtkpmocbfedgfhaaGreat
open Go.RowKit
set_option linter.unusedVariables false
/-- the table's cells: the once's word, the lock's state and its word, and the sixteen sums of which the first k are made -/
def tabLR (P : Value × Value × Value) (d m : Value) (k : Nat) : List Value := [P.1, P.2.1, P.2.2, d, m, .int .u32 0] ++ (List.range 16).map (fun i => Value.int .u32 (if i < k then (hN 4 i : Int) else 0))
def tabR (P : Value × Value × Value) (d m : Value) (k : Nat) : Array Value := (tabLR P d m k).toArray
theorem tab_sizeR {P : Value × Value × Value} (d m : Value) (k : Nat) : (tabR P d m k).size = 22 := by simp [tabR, tabLR]
def HoldsR (w : World) (B : Nat) (C : Array Value) : Prop := w.heap[B]? = some (.cells C 87 (0, 0))
theorem HoldsR.cell {w : World} {B : Nat} {C : Array Value} (h : HoldsR w B C) (j : Nat) : w.cell? ⟨B, j, none⟩ = C[j]? := by
  unfold HoldsR at h; simp [World.cell?, h]
theorem HoldsR.frozen {w : World} {B : Nat} {C : Array Value} (h : HoldsR w B C) (j : Nat) : w.frozen? ⟨B, j, none⟩ = false := by
  unfold HoldsR at h; simp [World.frozen?, h]
theorem HoldsR.set {w : World} {B : Nat} {C : Array Value} (h : HoldsR w B C) (j : Nat) (v : Value) : HoldsR (w.setCell ⟨B, j, none⟩ v) B (C.setIfInBounds j v) := heap_setCell_same w B j C _ v h
theorem HoldsR.drew {w : World} {B : Nat} {C : Array Value} (h : HoldsR w B C) : HoldsR w.drew B C := h
theorem HoldsR.lt {w : World} {B : Nat} {C : Array Value} (h : HoldsR w B C) : B < w.heap.size := lt_of_block h
theorem tab_set0R {P : Value × Value × Value} (d d' m : Value) (k : Nat) : (tabR P d m k).setIfInBounds 3 d' = tabR P d' m k := by simp [tabR, tabLR]
theorem tab_set1R {P : Value × Value × Value} (d m m' : Value) (k : Nat) : (tabR P d m k).setIfInBounds 4 m' = tabR P d m' k := by simp [tabR, tabLR]
theorem tab_at0R {P : Value × Value × Value} (d m : Value) (k : Nat) : (tabR P d m k)[3]? = some d := by simp [tabR, tabLR]
theorem tab_at1R {P : Value × Value × Value} (d m : Value) (k : Nat) : (tabR P d m k)[4]? = some m := by simp [tabR, tabLR]
theorem tab_atR {P : Value × Value × Value} (d m : Value) (k i : Nat) (h : i < 16) : (tabR P d m k)[6 + i]? = some (.int .u32 (if i < k then (hN 4 i : Int) else 0)) := by
  simp only [tabR, tabLR, List.getElem?_toArray]
  rw [List.getElem?_append_right (by simp)]
  simp [h]
theorem tab_setR {P : Value × Value × Value} (d m : Value) (k : Nat) (h : k < 16) : (tabR P d m k).setIfInBounds (6 + k) (.int .u32 (hN 4 k : Int)) = tabR P d m (k + 1) := by
  apply Array.ext_getElem?
  intro i
  rw [Array.getElem?_setIfInBounds]
  by_cases hi : 6 + k = i
  · rw [if_pos hi, if_pos (by rw [tab_sizeR]; omega), ← hi, tab_atR _ _ _ _ h, if_pos (by omega)]
  · rw [if_neg hi]
    by_cases h3 : i < 6
    · match i, h3 with
      | 0, _ => simp [tabR, tabLR]
      | 1, _ => simp [tabR, tabLR]
      | 2, _ => simp [tabR, tabLR]
      | 3, _ => rw [tab_at0R, tab_at0R]
      | 4, _ => rw [tab_at1R, tab_at1R]
      | 5, _ => simp [tabR, tabLR]
    · obtain ⟨n, rfl⟩ : ∃ n, i = 6 + n := ⟨i - 6, by omega⟩
      by_cases hn : n < 16
      · rw [tab_atR _ _ _ _ hn, tab_atR _ _ _ _ hn]
        by_cases hk : n < k
        · rw [if_pos hk, if_pos (by omega)]
        · rw [if_neg hk, if_neg (by omega)]
      · rw [Array.getElem?_eq_none (by rw [tab_sizeR]; omega), Array.getElem?_eq_none (by rw [tab_sizeR]; omega)]

/-- the sixteen sums are made -/
theorem below_setR {B : Nat} {w wr : World} (h : w.grownBy wr (some B)) (j : Nat) (v : Value) : w.grownBy (wr.setCell ⟨B, j, none⟩ v) (some B) := grownBy_set h j v
theorem fill_stepR {P : Value × Value × Value} {B k : Nat} {d m : Value} {w wr : World} (hk : k < 16) (h : HoldsR wr B (tabR P d m k)) (hb : w.grownBy wr (some B)) :
    HoldsR ((wr.setCell ⟨B, 6 + k, none⟩ (.int .u32 (hN 4 k : Int))).drew) B (tabR P d m (k + 1)) ∧ w.grownBy ((wr.setCell ⟨B, 6 + k, none⟩ (.int .u32 (hN 4 k : Int))).drew) (some B) := by
  refine ⟨?_, grownBy_drewN (below_setR hb _ _) 1⟩
  have := h.set (6 + k) (.int .u32 (hN 4 k : Int))
  rw [tab_setR d m k hk] at this
  exact this.drew

set_option maxRecDepth 100000 in
set_option maxHeartbeats 1000000 in
theorem fill_anyR {P : Value × Value × Value} (B : Nat) (d m : Value) (w : World) (h : HoldsR w B (tabR P d m 0)) :
    Calls Tryz.prog 138 #[.pointer (some ⟨B, 3, none⟩)] w fun e w' => e = .returned (.tuple #[]) ∧ HoldsR w' B (tabR P d m 16) ∧ w.grownBy w' (some B) := by
  go_enter Tryz.func138, Tryz.ntmps138
  go_wp2
  go_loopw [2, 3] (fun _ i wr => ∃ k : Nat, k ≤ 16 ∧ i = .int .i64 k ∧ HoldsR wr B (tabR P d m k) ∧ w.grownBy wr (some B)) (fun _ i _ => 16 - (intOf i).toNat)
  case atStart => exact ⟨0, Nat.zero_le _, rfl, h, grownBy_refl _ _⟩
  case round =>
    obtain ⟨k, hk, rfl, hh, hb⟩ := hrel
    have HH := hide hh
    have HB := hide hb
    by_cases hlt : k < 16
    · have hc : wr.cell? ⟨B, 6 + k, none⟩ = some (.int .u32 0) := by rw [hh.cell, tab_atR _ _ _ _ hlt, if_neg (by omega)]
      have hf : wr.frozen? ⟨B, 6 + k, none⟩ = false := hh.frozen _
      have hlt2 : (k : Int) < 16 := by omega
      have hk32 : k < 4294967296 := by omega
      have hwr : IntKind.u32.wrap (k : Int) = (k : Int) := by rw [IntKind.wrap_u32]; omega
      clear hh hb
      go_wp2_with fail
      go_region_with (go_at_call 150; refine (halveFour_any k _ hk32).mono ?_; rintro e w' ⟨rfl, rfl⟩)
      all_goals
        have R := fill_stepR hlt (unhide HH) (unhide HB)
        go_wp2
        go_roundw
        case rel => exact ⟨k + 1, by omega, by go_num, R.1, R.2⟩
        case measure => simp [intOf]; omega
    · have he : k = 16 := by omega
      subst he
      clear hh hb
      go_wp2
      go_end0
      exact ⟨rfl, unhide HH, unhide HB⟩

abbrev fillFR (B : Nat) : Value := .func (.func 138) #[.pointer (some ⟨B, 3, none⟩)] #[]
set_option maxRecDepth 100000 in
set_option maxHeartbeats 1600000 in
/-- the slow road of sync.Once: the lock is taken, the table is filled, the word is stored, the lock is let go -/
theorem slow_anyR {P : Value × Value × Value} (B : Nat) (w : World) (h : HoldsR w B (tabR P (.int .u32 0) (.int .i32 0) 0)) :
    Calls Tryz.prog 149 #[.pointer (some ⟨B, 3, none⟩), fillFR B] w fun e w' => e = .returned (.tuple #[]) ∧ HoldsR w' B (tabR P (.int .u32 1) (.int .i32 0) 16) ∧ w.grownBy w' (some B) := by
  have h0 : w.cell? ⟨B, 3, none⟩ = some (.int .u32 0) := by rw [h.cell, tab_at0R]
  have h1 : w.cell? ⟨B, 4, none⟩ = some (.int .i32 0) := by rw [h.cell, tab_at1R]
  have f1 : w.frozen? ⟨B, 4, none⟩ = false := h.frozen _
  have hs1 := h.set 4 (.int .i32 1)
  rw [tab_set1R] at hs1
  have hb1 := below_setR (grownBy_refl w (some B)) 4 (.int .i32 1)
  have hl := run_call_load (P := Tryz.prog) Tryz.func153 (by kernel_rfl) (by kernel_rfl) (by kernel_rfl) .u32 (by kernel_rfl) (w := w.setCell ⟨B, 4, none⟩ (.int .i32 1)) (a := ⟨B, 3, none⟩) (x := 0) (by rw [hs1.cell, tab_at0R])
  have hnot : ∀ (x : Bool) (w : World), (Op.unary .not (.bool x)).run Tryz.prog w = .ok (.bool (!x)) w := fun _ _ => rfl
  have HS := hide hs1
  have HB := hide hb1
  clear hs1 hb1 h
  go_enter_defers Tryz.func149, Tryz.ntmps149
  go_wp2_with (first | (go_at_call 154; refine (lock_free ⟨B, 4, none⟩ _ (by go_simp) (by go_simp)).mono ?_; rintro e w' ⟨rfl, rfl⟩) | (go_at_call 148; go_in))
  refine (fill_anyR B (.int .u32 0) (.int .i32 1) _ (unhide HS)).mono ?_
  rintro e w2 ⟨rfl, hs2, hb2⟩
  have HS2 := hide hs2
  have HB2 := hide (grownBy_trans (unhide HB) hb2)
  have g0 : w2.cell? ⟨B, 3, none⟩ = some (.int .u32 0) := by rw [hs2.cell, tab_at0R]
  have z0 : w2.frozen? ⟨B, 3, none⟩ = false := hs2.frozen _
  have hs3 := (hs2.drew).set 3 (.int .u32 1)
  rw [tab_set0R] at hs3
  have g1 : (w2.drew.setCell ⟨B, 3, none⟩ (.int .u32 1)).cell? ⟨B, 4, none⟩ = some (.int .i32 1) := by rw [hs3.cell, tab_at1R]
  have z1 : (w2.drew.setCell ⟨B, 3, none⟩ (.int .u32 1)).frozen? ⟨B, 4, none⟩ = false := hs3.frozen _
  have hs4 := hs3.set 4 (.int .i32 0)
  rw [tab_set1R] at hs4
  have HS4 := hide hs4
  have HB4 := hide (below_setR (below_setR (grownBy_drewN (unhide HB2) 1) 3 (.int .u32 1)) 4 (.int .i32 0))
  clear hs2 hb2 hs3 hs4
  go_wp2
  refine leaves_cons (f := 156) (args := #[.pointer (some ⟨B, 3, none⟩), .bool true]) (by simp) (by simp [go_sem]) ?_
  refine (store_deferred ⟨B, 3, none⟩ (.int .u32 0) .returning _ g0 z0).mono ?_
  rintro e u' w'' ⟨rfl, rfl, rfl⟩
  refine leaves_cons (f := 155) (args := #[.pointer (some ⟨B, 4, none⟩)]) (by simp [settle]) (by simp [go_sem]) ?_
  refine (unlock_deferred ⟨B, 4, none⟩ _ _ g1 z1).mono ?_
  rintro e u' w'' ⟨rfl, rfl, rfl⟩
  simp [Leaves, settle, results, Tryz.results149]
  exact ⟨unhide HS4, unhide HB4⟩

set_option maxRecDepth 100000 in
set_option maxHeartbeats 1600000 in
theorem do_firstR {P : Value × Value × Value} (B : Nat) (w : World) (h : HoldsR w B (tabR P (.int .u32 0) (.int .i32 0) 0)) :
    Calls Tryz.prog 137 #[.pointer (some ⟨B, 3, none⟩), fillFR B] w fun e w' => e = .returned (.tuple #[]) ∧ HoldsR w' B (tabR P (.int .u32 1) (.int .i32 0) 16) ∧ w.grownBy w' (some B) := by
  have hl := run_call_load (P := Tryz.prog) Tryz.func153 (by kernel_rfl) (by kernel_rfl) (by kernel_rfl) .u32 (by kernel_rfl) (w := w) (a := ⟨B, 3, none⟩) (x := 0) (by rw [h.cell, tab_at0R])
  have hnot : ∀ (x : Bool) (w : World), (Op.unary .not (.bool x)).run Tryz.prog w = .ok (.bool (!x)) w := fun _ _ => rfl
  have HH := hide h
  clear h
  go_enter Tryz.func137, Tryz.ntmps137
  go_wp2_with (first | (go_at_call 149; refine (slow_anyR B _ (unhide HH)).mono ?_; rintro e w2 ⟨rfl, hs2, hb2⟩) | (go_at_call 148; go_in))
  go_end0
  exact ⟨rfl, hs2, hb2⟩

set_option maxHeartbeats 400000 in
theorem do_doneR {P : Value × Value × Value} (B : Nat) (fv : Value) (w : World) (h : HoldsR w B (tabR P (.int .u32 1) (.int .i32 0) 16)) :
    Calls Tryz.prog 137 #[.pointer (some ⟨B, 3, none⟩), fv] w fun e w' => e = .returned (.tuple #[]) ∧ HoldsR w' B (tabR P (.int .u32 1) (.int .i32 0) 16) ∧ w.grownBy w' (some B) := by
  have hl := run_call_load (P := Tryz.prog) Tryz.func153 (by kernel_rfl) (by kernel_rfl) (by kernel_rfl) .u32 (by kernel_rfl) (w := w) (a := ⟨B, 3, none⟩) (x := 1) (by rw [h.cell, tab_at0R])
  have hnot : ∀ (x : Bool) (w : World), (Op.unary .not (.bool x)).run Tryz.prog w = .ok (.bool (!x)) w := fun _ _ => rfl
  have HH := hide h
  clear h
  go_enter Tryz.func137, Tryz.ntmps137
  go_wp2
  go_end0
  exact ⟨rfl, unhide HH, grownBy_refl _ _⟩

/-- the table stands as at the beginning, or is made -/
def TabledR (P : Value × Value × Value) (w : World) (B : Nat) : Prop := HoldsR w B (tabR P (.int .u32 0) (.int .i32 0) 0) ∨ HoldsR w B (tabR P (.int .u32 1) (.int .i32 0) 16)
theorem do_anyR {P : Value × Value × Value} (B : Nat) (w : World) (h : TabledR P w B) :
    Calls Tryz.prog 137 #[.pointer (some ⟨B, 3, none⟩), fillFR B] w fun e w' => e = .returned (.tuple #[]) ∧ HoldsR w' B (tabR P (.int .u32 1) (.int .i32 0) 16) ∧ w.grownBy w' (some B) := by
  rcases h with h | h
  · exact do_firstR B w h
  · exact do_doneR B _ w h
set_option maxRecDepth 100000 in
set_option maxHeartbeats 1000000 in
theorem shiftFour_anyR {P : Value × Value × Value} (B x : Nat) (w : World) (hx : x < 4294967296) (h : TabledR P w B) :
    Calls Tryz.prog 99 #[.pointer (some ⟨B, 3, none⟩), .int .u32 (x : Int)] w fun e w' => e = .returned (.int .u32 (hN 4 x : Int)) ∧ TabledR P w' B ∧ w.grownBy w' (some B) := by
  have hmf : ∀ (fn : Fn) (first cap : Array Value) (w : World), (Instr.makeFunc fn first cap).run Tryz.prog w = .ok (.func fn first cap) w := fun _ _ _ _ => rfl
  have HT := hide h
  clear h
  have ha : bits .and .u32 (x : Int) 15 = ((x % 16 : Nat) : Int) := by
    rw [show (15 : Int) = ((15 : Nat) : Int) from rfl, u32_and_nat _ _ hx (by decide), show (15 : Nat) = 2 ^ 4 - 1 from rfl, Nat.and_two_pow_sub_one_eq_mod]
  have hxr : bits .xor .u32 (hN 4 (x % 16) : Int) ((x : Int) / 16) = (hN 4 x : Int) := by
    rw [four_split x]; exact xor_int _ (x / 16) (hN_lt 4 (by omega)) (by omega)
  go_enter Tryz.func99, Tryz.ntmps99
  go_wp2_with fail
  refine (do_anyR B _ (unhide HT)).mono ?_
  rintro e w2 ⟨rfl, hs2, hb2⟩
  have HS := hide hs2
  have HB := hide hb2
  have hc : w2.cell? ⟨B, 6 + x % 16, none⟩ = some (.int .u32 (hN 4 (x % 16) : Int)) := by rw [hs2.cell, tab_atR _ _ _ _ (by omega), if_pos (by omega)]
  clear hs2 hb2
  go_wp2
  go_ret
  exact ⟨rfl, .inr (unhide HS), unhide HB⟩

set_option maxRecDepth 100000 in
set_option maxHeartbeats 1000000 in
theorem sumOf_anyR {P : Value × Value × Value} (B : Nat) (s : ByteArray) (w : World) (hs : s.size ≤ 1048576) (h : TabledR P w B) :
    Calls Tryz.prog 60 #[.pointer (some ⟨B, 3, none⟩), .string s] w fun e w' => e = .returned (.int .u32 (crc s.data.toList : Int)) ∧ TabledR P w' B ∧ w.grownBy w' (some B) := by
  have H0 := hide h
  clear h
  go_enter Tryz.func60, Tryz.ntmps60
  go_wp2
  go_loopw [5, 6, 9] (fun x _ i wr => ∃ k : Nat, k ≤ s.size ∧ i = .int .i64 k ∧ x = .int .u32 (ck s k : Int) ∧ TabledR P wr B ∧ w.grownBy wr (some B)) (fun _ _ i _ => s.size - (intOf i).toNat)
  case atStart =>
    exact ⟨0, Nat.zero_le _, rfl, by rw [ck_zero]; rfl, unhide H0, grownBy_refl _ _⟩
  case round =>
    obtain ⟨k, hk, rfl, rfl, ht, hb0⟩ := hrel
    have hlt32 := ck_lt s k
    by_cases hlt : k < s.size
    · have hb : (s[k].toNat : Int) ≤ 255 := byte_le _
      have hx : bits .xor .u32 (ck s k : Int) (s[k].toNat : Int) = ((ck s k ^^^ s[k].toNat : Nat) : Int) := xor_int _ _ hlt32 (byte_lt32 _)
      have hX : ck s k ^^^ s[k].toNat < 4294967296 := xor_lt32 hlt32 (byte_lt32 _)
      have hck : Hid (ck s (k + 1) = hN 4 (hN 4 (ck s k ^^^ s[k].toNat))) := hide (by rw [ck_succ s k hlt, ← hN_add])
      have hX4 := hN_lt 4 hX
      have HT := hide ht
      have HB := hide hb0
      clear ht hb0
      go_wp2_with fail
      refine (shiftFour_anyR B _ _ hX (unhide HT)).mono ?_
      rintro e w1 ⟨rfl, ht1, hb1⟩
      have HT1 := hide ht1
      have HB1 := hide (grownBy_trans (unhide HB) hb1)
      clear ht1 hb1
      go_wp2_with fail
      refine (shiftFour_anyR B _ _ hX4 (unhide HT1)).mono ?_
      rintro e w2 ⟨rfl, ht2, hb2⟩
      have HT2 := hide ht2
      have HB2 := hide (grownBy_trans (unhide HB1) hb2)
      clear ht2 hb2
      go_wp2
      go_roundw
      case rel => exact ⟨k + 1, by omega, by go_num, by rw [unhide hck], unhide HT2, unhide HB2⟩
      case measure => simp [intOf]; omega
    · have hx : bits .xor .u32 (ck s k : Int) 4294967295 = ((crc s.data.toList : Nat) : Int) := by
        rw [crc, ← ck_all s k (by omega)]; exact xor_int _ 4294967295 hlt32 (by decide)
      have HB := hide hb0
      have HT := hide ht
      clear ht hb0
      go_wp2
      go_ret
      exact ⟨rfl, unhide HT, unhide HB⟩

end Go.Proofs.YtkpmocbfedgfhaaGreat
