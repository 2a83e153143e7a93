/-
  What GetNum answers, the program's and the model's, each by its own text: the number whose bytes stand at a place, and the place behind them; walks over the dump.
-/
import Derived.Test.YtobpjegfgegkcaaGreatDoorPackA
import Derived.Lib.Strings
import Derived.LoopN
import Derived.Deep.RegionWith
import Derived.WideShapes
namespace Go.Proofs.YtobpjegfgegkcaaGreatDoor
open Go.RowKit
set_option linter.unusedVariables false
/-- the number of bytes of seven bits, the lowest first -/
def dv : List UInt8 → Nat
  | [] => 0
  | b :: t => b.toNat % 128 + 128 * dv t
theorem dv_snoc : ∀ (p : List UInt8) (b : UInt8), dv (p ++ [b]) = dv p + 128 ^ p.length * (b.toNat % 128)
  | [], b => by simp [dv]
  | c :: p, b => by
    simp only [List.cons_append, dv, dv_snoc p b, List.length_cons, Nat.pow_succ]
    rw [Nat.mul_add, ← Nat.mul_assoc, Nat.mul_comm (128 ^ p.length) 128]
    omega
theorem dv_lt : ∀ (p : List UInt8), dv p < 128 ^ p.length
  | [] => by simp [dv]
  | c :: p => by
    have := dv_lt p
    simp only [dv, List.length_cons, Nat.pow_succ]
    omega
def hi (b : UInt8) : Bool := decide (128 ≤ b.toNat)
theorem put_dv : ∀ (q : List UInt8) (b : UInt8), q.all hi = true → b.toNat < 128 → (put (dv (q ++ [b])) = q ++ [b] ↔ ¬ (b.toNat = 0 ∧ q ≠ []))
  | [], b, _, hb => by
    have e : dv ([] ++ [b]) = b.toNat := by simp [dv]; omega
    rw [e, put_small hb]
    simp
  | c :: q, b, hq, hb => by
    simp only [List.all_cons, Bool.and_eq_true] at hq
    have hc : 128 ≤ c.toNat := by have := hq.1; simpa [hi] using this
    have ih := put_dv q b hq.2 hb
    have hlt := c.toNat_lt
    simp only [List.cons_append, dv]
    by_cases h0 : dv (q ++ [b]) = 0
    · have hb0 : b.toNat = 0 := by
        rw [dv_snoc] at h0
        have h1 : 128 ^ q.length * (b.toNat % 128) = 0 := by omega
        have h2 : 0 < 128 ^ q.length := Nat.pow_pos (by decide)
        rcases Nat.mul_eq_zero.1 h1 with h | h <;> omega
      rw [h0, put_small (by omega)]
      simp [hb0]
    · rw [put_step (by omega)]
      rw [show (c.toNat % 128 + 128 * dv (q ++ [b])) / 128 = dv (q ++ [b]) from by omega, show 128 + (c.toNat % 128 + 128 * dv (q ++ [b])) % 128 = c.toNat from by omega]
      simp only [UInt8.ofNat_toNat, List.cons.injEq, true_and, ih]
      constructor
      · intro h; rintro ⟨hb0, _⟩
        refine h ⟨hb0, ?_⟩
        rintro rfl
        apply h0
        simp [dv, hb0]
      · intro h; rintro ⟨hb0, _⟩
        exact h ⟨hb0, by simp⟩
theorem putNum_dv {q : List UInt8} {b : UInt8} (hq : q.all hi = true) (hb : b.toNat < 128) : putNum (dv (q ++ [b]) : Int) = q ++ [b] ↔ dv (q ++ [b]) ≤ 4000000000 ∧ ¬ (b.toNat = 0 ∧ q ≠ []) := by
  rw [putNum]
  by_cases h : dv (q ++ [b]) ≤ 4000000000
  · rw [if_pos (by omega), Int.toNat_natCast, put_dv q b hq hb]
    exact ⟨fun x => ⟨h, x⟩, fun x => x.2⟩
  · rw [if_neg (by omega)]
    simp [h]

/-- how far the bytes go on -/
def stop : Nat → List UInt8 → Option Nat
  | 0, _ => none
  | _ + 1, [] => none
  | f + 1, b :: t => if b.toNat < 128 then some 0 else (stop f t).map (· + 1)
theorem stop_past : ∀ (q : List UInt8) (f : Nat) (t : List UInt8), q.all hi = true → q.length ≤ f → stop f (q ++ t) = (stop (f - q.length) t).map (· + q.length)
  | [], f, t, _, _ => by simp
  | c :: q, 0, t, _, h => by simp at h
  | c :: q, f + 1, t, hq, h => by
    simp only [List.all_cons, Bool.and_eq_true] at hq
    have hc : ¬ c.toNat < 128 := by have := hq.1; simp [hi] at this; omega
    simp only [List.cons_append, stop, if_neg hc, List.length_cons]
    rw [stop_past q f t hq.2 (by simp at h; omega), show f + 1 - (q.length + 1) = f - q.length from by omega, Option.map_map]
    congr 1
theorem stop_lt : ∀ (f : Nat) (t : List UInt8) (j : Nat), stop f t = some j → j < t.length
  | 0, t, j, h => by simp [stop] at h
  | f + 1, [], j, h => by simp [stop] at h
  | f + 1, b :: t, j, h => by
    rw [stop] at h
    by_cases hb : b.toNat < 128
    · rw [if_pos hb] at h
      simp at h
      simp; omega
    · rw [if_neg hb] at h
      obtain ⟨k, hk, rfl⟩ := Option.map_eq_some_iff.1 h
      have := stop_lt f t k hk
      simp; omega
/-- what GetNum answers -/
def getNum (l : List UInt8) (i : Int) : Int × Int :=
  if i < 0 then (0, -1) else
  match stop 5 (l.drop i.toNat) with
  | none => (0, -1)
  | some j =>
    let p := (l.drop i.toNat).take (j + 1)
    if putNum (dv p) = p then (((dv p : Nat) : Int), i + j + 1) else (0, -1)
theorem getNum_neg {l : List UInt8} {i : Int} (h : i < 0) : getNum l i = (0, -1) := by rw [getNum, if_pos h]
/-- the bytes from I on, the first j of them -/
def pre (l : List UInt8) (I j : Nat) : List UInt8 := (l.drop I).take j
theorem pre_zero (l : List UInt8) (I : Nat) : pre l I 0 = [] := by simp [pre]
theorem pre_len {l : List UInt8} {I j : Nat} (h : I + j ≤ l.length) : (pre l I j).length = j := by simp [pre]; omega
theorem pre_snoc {l : List UInt8} {I j : Nat} (h : I + j < l.length) : pre l I (j + 1) = pre l I j ++ [l[I + j]] := by
  rw [pre, List.take_succ_eq_append_getElem (by simp; omega)]
  simp [pre]
theorem getNum_end {l : List UInt8} {I j : Nat} (hj : j ≤ 5) (hall : (pre l I j).all hi = true) (hlen : I + j ≤ l.length ∨ j = 0) (h : j = 5 ∨ l.length ≤ I + j) : getNum l I = (0, -1) := by
  rw [getNum, if_neg (by omega), Int.toNat_natCast]
  have hs : stop 5 (l.drop I) = none := by
    have e : l.drop I = pre l I j ++ (l.drop I).drop j := (List.take_append_drop j _).symm
    by_cases hl : I + j ≤ l.length
    · rw [e, stop_past _ _ _ hall (by rw [pre_len hl]; exact hj), pre_len hl]
      rcases h with rfl | h
      · simp [stop]
      · have : (l.drop I).drop j = [] := by simp; omega
        rw [this]
        cases 5 - j <;> simp [stop]
    · have : l.drop I = [] := by simp; omega
      rw [this]; rfl
  rw [hs]
theorem getNum_stop {l : List UInt8} {I j : Nat} (hj : j < 5) (hall : (pre l I j).all hi = true) (hlen : I + j < l.length) (hb : (l[I + j]).toNat < 128) :
    getNum l I = if putNum (dv (pre l I (j + 1))) = pre l I (j + 1) then (((dv (pre l I (j + 1)) : Nat) : Int), (I : Int) + j + 1) else (0, -1) := by
  rw [getNum, if_neg (by omega), Int.toNat_natCast]
  have hs : stop 5 (l.drop I) = some j := by
    have e : l.drop I = pre l I j ++ (l.drop I).drop j := (List.take_append_drop j _).symm
    have e2 : (l.drop I).drop j = l[I + j] :: l.drop (I + j + 1) := by rw [List.drop_drop, List.drop_eq_getElem_cons hlen]
    rw [e, stop_past _ _ _ hall (by rw [pre_len (by omega)]; omega), pre_len (by omega), e2]
    obtain ⟨f, hf⟩ : ∃ f, 5 - j = f + 1 := ⟨4 - j, by omega⟩
    rw [hf, stop, if_pos hb]; simp
  rw [hs]
  rfl

def pw (j : Nat) : Nat := 128 ^ j
theorem pw_succ (j : Nat) : pw (j + 1) = 128 * pw j := by rw [pw, Nat.pow_succ, Nat.mul_comm]; rfl
theorem pw_le {j : Nat} (h : j ≤ 5) : pw j ≤ 34359738368 := Nat.pow_le_pow_right (n := 128) (by decide) h
theorem pw_le4 {j : Nat} (h : j < 5) : pw j ≤ 268435456 := Nat.pow_le_pow_right (n := 128) (j := 4) (by decide) (by omega)
def dk (s : ByteArray) (I j : Nat) : Nat := dv (pre s.data.toList I j)
theorem dk_zero (s : ByteArray) (I : Nat) : dk s I 0 = 0 := by rw [dk, pre_zero]; rfl
theorem dk_succ {s : ByteArray} {I j : Nat} (h : I + j < s.size) : dk s I (j + 1) = dk s I j + s[I + j].toNat % 128 * pw j := by
  rw [dk, pre_snoc (by simpa using h), dv_snoc, pre_len (by have := len_eq s; omega), Nat.mul_comm]; rfl
theorem dk_le {s : ByteArray} {I j : Nat} (hj : j ≤ 5) (h : I + j ≤ s.size ∨ j = 0) : dk s I j ≤ 34359738368 := by
  have h1 := dv_lt (pre s.data.toList I j)
  have h2 : (pre s.data.toList I j).length ≤ 5 := by simp [pre]; omega
  have h3 : 128 ^ (pre s.data.toList I j).length ≤ 128 ^ 5 := Nat.pow_le_pow_right (by decide) h2
  unfold dk; omega
theorem pre_snoc' {s : ByteArray} {I j : Nat} (h : I + j < s.size) : pre s.data.toList I (j + 1) = pre s.data.toList I j ++ [s[I + j]] := pre_snoc (by simpa using h)
theorem hi_snoc {s : ByteArray} {I j : Nat} (h : I + j < s.size) (h1 : (pre s.data.toList I j).all hi = true) (h2 : 128 ≤ s[I + j].toNat) : (pre s.data.toList I (j + 1)).all hi = true := by
  rw [pre_snoc' h, List.all_append, h1]; simp [hi, h2]
theorem extract_pre (s : ByteArray) (I j : Nat) : s.extract I (I + j) = bs (pre s.data.toList I j) := by
  apply WideShapes.bytes_inj
  rw [Lib.extract_data]
  simp [bs, pre]
theorem bs_other {a b : List UInt8} (h : a ≠ b) : ((bs a).toList == (bs b).toList) = false := by
  rw [ByteArray.toList_eq, ByteArray.toList_eq]; simpa [bs] using h
theorem ret_two {k : IntKind} {a b c d : Int} (h1 : a = c) (h2 : b = d) : Ending.returned (.tuple #[.int k a, .int k b]) = .returned (.tuple #[.int k c, .int k d]) := by rw [h1, h2]

set_option maxHeartbeats 1000000 in
theorem specGetNum_neg (s : ByteArray) (i : Int) (w : World) (hs : s.size ≤ 1048576) (h : i < 0) (hl : -9223372036854775808 ≤ i) :
    Calls Tryz.prog 35 #[.string s, .int .i64 i] w fun e w' => e = .returned (.tuple #[.int .i64 (getNum s.data.toList i).1, .int .i64 (getNum s.data.toList i).2]) ∧ Below w.heap.size w w' := by
  rw [getNum_neg h]
  go_enter Tryz.func35, Tryz.ntmps35
  go_wp2
  refine wp_loop_rounds 1 ?_
  rw [rounds_succ]
  go_wp2
  go_ret2
  exact ⟨rfl, Below.refl _ _⟩

set_option maxRecDepth 100000 in
set_option maxHeartbeats 1000000 in
theorem specGetNum_pos (s : ByteArray) (I : Nat) (w : World) (hs : s.size ≤ 1048576) (hI : (I : Int) ≤ 9223372036854775807) :
    Calls Tryz.prog 35 #[.string s, .int .i64 (I : Int)] w fun e w' => e = .returned (.tuple #[.int .i64 (getNum s.data.toList (I : Int)).1, .int .i64 (getNum s.data.toList (I : Int)).2]) ∧ Below w.heap.size w w' := by
  go_enter Tryz.func35, Tryz.ntmps35
  go_wp2
  go_loop [6, 7, 8] (fun n v k => ∃ j : Nat, j ≤ 5 ∧ (I + j ≤ s.size ∨ j = 0) ∧ n = .int .i64 (dk s I j : Int) ∧ v = .int .i64 (pw j : Int) ∧ k = .int .i64 ((I : Int) + (j : Int)) ∧ (pre s.data.toList I j).all hi = true) (fun _ _ k => I + 5 - (intOf k).toNat)
  case atStart => exact ⟨0, by omega, .inr rfl, by rw [dk_zero]; rfl, rfl, by go_num, by rw [pre_zero]; rfl⟩
  case round =>
    obtain ⟨j, hj, hle, rfl, rfl, rfl, hall⟩ := hrel
    have hd := dk_le (s := s) hj hle
    have hp := pw_le hj
    have HA := hide hall
    have HL := hide hle
    clear hall hle
    by_cases hlt : I + j < s.size ∧ j < 5
    · obtain ⟨hlt, hj5⟩ := hlt
      have hb : (s[I + j].toNat : Int) ≤ 255 := byte_le _
      have hp4 := pw_le4 hj5
      have hm0 : 0 ≤ (s[I + j].toNat : Int) % 128 * (pw j : Int) := Int.mul_nonneg (by omega) (by omega)
      have hm1 : (s[I + j].toNat : Int) % 128 * (pw j : Int) ≤ 127 * 268435456 := Int.mul_le_mul (by omega) (by omega) (by omega) (by omega)
      have hX : Hid ((dk s I j : Int) + (s[I + j].toNat : Int) % 128 * (pw j : Int) = (dk s I (j + 1) : Int)) := hide (by rw [dk_succ hlt]; simp)
      by_cases h128 : 128 ≤ (s[I + j].toNat : Int)
      · go_wp2
        go_round
        case rel => exact ⟨j + 1, by omega, .inl (by omega), by rw [unhide hX], by rw [pw_succ]; go_num, by go_num, hi_snoc hlt (unhide HA) (by omega)⟩
        case measure => simp [intOf]; omega
      · have hlo : s[I + j].toNat < 128 := by omega
        have hst := getNum_stop (l := s.data.toList) (I := I) (j := j) hj5 (unhide HA) (by rw [len_eq]; exact hlt) hlo
        have HS := hide hst
        clear hst
        have hwr : IntKind.i64.wrap ((I : Int) + (j : Int) + 1) = (I : Int) + (j : Int) + 1 := by rw [IntKind.wrap_i64]; omega
        have hsl : ∀ wx : World, (Instr.slice 9 (.string s) (some (.int .i64 (I : Int))) (some (.int .i64 ((I : Int) + (j : Int) + 1))) none).run Tryz.prog wx = .ok (.string (s.extract I (I + j + 1))) wx := fun wx => by
          have := run_slice_string (P := Tryz.prog) wx 9 s .i64 .i64 (I : Int) ((I : Int) + (j : Int) + 1) Tryz.underlying9 (by omega) (by omega) (by omega)
          rw [this, show ((I : Int)).toNat = I from by omega, show ((I : Int) + (j : Int) + 1).toNat = I + j + 1 from by omega]
        by_cases hq0 : putNum ((dk s I (j + 1) : Nat) : Int) = pre s.data.toList I (j + 1)
        · have hq : ((bs (putNum ((dk s I j : Int) + (s[I + j].toNat : Int) % 128 * (pw j : Int)))).toList == (s.extract I (I + j + 1)).toList) = true := by
            rw [unhide hX, hq0, Nat.add_assoc, extract_pre]; simp
          have hf : Hid (getNum s.data.toList (I : Int) = ((dk s I (j + 1) : Int), (I : Int) + j + 1)) := hide (by rw [unhide HS]; exact if_pos hq0)
          clear hq0
          go_wp2_with fail
          go_region_with (go_at_call 40; refine (specPutNum_any _ _).mono ?_; rintro e w1 ⟨rfl, hb1⟩)
          all_goals
            go_wp2
            go_ret2
            exact ⟨ret_two (by rw [unhide hf]; exact unhide hX) (by rw [unhide hf]), Below.trans ((Below.refl _ _).drew) hb1⟩
        · have hq : ((bs (putNum ((dk s I j : Int) + (s[I + j].toNat : Int) % 128 * (pw j : Int)))).toList == (s.extract I (I + j + 1)).toList) = false := by
            rw [unhide hX, Nat.add_assoc, extract_pre]; exact bs_other hq0
          have hf : Hid (getNum s.data.toList (I : Int) = (0, -1)) := hide (by rw [unhide HS]; exact if_neg hq0)
          clear hq0
          go_wp2_with fail
          go_region_with (go_at_call 40; refine (specPutNum_any _ _).mono ?_; rintro e w1 ⟨rfl, hb1⟩)
          all_goals
            go_wp2
            go_ret2
            exact ⟨ret_two (by rw [unhide hf]) (by rw [unhide hf]), Below.trans ((Below.refl _ _).drew) hb1⟩
    · have hf : Hid (getNum s.data.toList (I : Int) = (0, -1)) := hide (getNum_end hj (unhide HA) (by rw [len_eq]; exact unhide HL) (by rw [len_eq]; omega))
      clear hp hd
      by_cases h1 : I + j < s.size
      · have h5 : j = 5 := by omega
        subst h5
        go_wp2
        go_ret2
        exact ⟨ret_two (by rw [unhide hf]) (by rw [unhide hf]), Below.refl _ _⟩
      · go_wp2
        go_ret2
        exact ⟨ret_two (by rw [unhide hf]) (by rw [unhide hf]), Below.refl _ _⟩
end Go.Proofs.YtobpjegfgegkcaaGreatDoor
