/-
  What the model's ReadDec answers: the number of 0 .. 1000000000 whose numeral the text is, or -1; a walk over the dump.
-/
import Derived.Test.YtfhnjghjibklcaaDoorDec
import Derived.Test.YtfhnjghjibklcaaDoorAll
namespace Go.Proofs.YtfhnjghjibklcaaDoor
open Go.RowKit

def isD (c : UInt8) : Bool := inB c.toNat 48 57
theorem isD_iff {c : UInt8} : isD c = true ↔ 48 ≤ c.toNat ∧ c.toNat ≤ 57 := by simp only [isD, inB, decide_eq_true_eq]; omega
def val (l : List UInt8) : Nat := l.foldl (fun n c => 10 * n + (c.toNat - 48)) 0
theorem val_nil : val [] = 0 := rfl
theorem val_snoc (l : List UInt8) (c : UInt8) : val (l ++ [c]) = 10 * val l + (c.toNat - 48) := by simp [val]
theorem snoc_cases (l : List UInt8) : l = [] ∨ ∃ l' c, l = l' ++ [c] := by
  by_cases h : l = []
  · exact .inl h
  · exact .inr ⟨l.dropLast, l.getLast h, (List.dropLast_concat_getLast h).symm⟩
theorem val_lt : ∀ (n : Nat) (l : List UInt8), l.length = n → l.all isD = true → val l < 10 ^ n := by
  intro n
  induction n with
  | zero => intro l hl _; rw [List.length_eq_zero_iff.1 hl]; simp [val]
  | succ n ih =>
    intro l hl ha
    rcases snoc_cases l with rfl | ⟨l', c, rfl⟩
    · simp at hl
    · simp only [List.all_append, Bool.and_eq_true, List.length_append, List.length_cons, List.length_nil] at ha hl
      have h1 := ih l' (by omega) ha.1
      have h2 : isD c = true := by simpa using ha.2
      rw [isD_iff] at h2
      rw [val_snoc, Nat.pow_succ]
      omega
theorem val_bound {l : List UInt8} (hl : l.length ≤ 10) (ha : l.all isD = true) : val l < 10000000000 := by
  have h := val_lt _ l rfl ha
  have h2 : 10 ^ l.length ≤ 10 ^ 10 := Nat.pow_le_pow_right (by decide) hl
  omega
theorem digit_back {c : UInt8} (h : isD c = true) : UInt8.ofNat (48 + (c.toNat - 48)) = c := by
  rw [isD_iff] at h
  rw [show 48 + (c.toNat - 48) = c.toNat from by omega]; simp
/-- a nought ahead of other digits -/
def noughtAhead (l : List UInt8) : Bool := l.head? == some 48 && decide (1 < l.length)
theorem head_zero : ∀ u : Nat, (Lib.decDigits u).head? = some 48 → u = 0 := by
  intro u
  induction u using Nat.strongRecOn with
  | _ u ih =>
    intro h
    rw [Lib.decDigits] at h
    by_cases h10 : u < 10
    · rw [dif_pos h10] at h
      simp only [List.head?_cons, Option.some.injEq] at h
      have h' := congrArg UInt8.toNat h
      rw [UInt8.toNat_ofNat'] at h'
      rw [show (48 : UInt8).toNat = 48 from rfl] at h'
      omega
    · rw [dif_neg h10] at h
      have hl := Lib.decDigits_length (u / 10)
      have hp := Lib.nDigits_pos (u / 10)
      cases hd : Lib.decDigits (u / 10) with
      | nil => rw [hd] at hl; simp at hl; omega
      | cons a t =>
        rw [hd] at h
        have := ih (u / 10) (by omega) (by rw [hd]; simpa using h)
        omega
theorem dec_val : ∀ (n : Nat) (l : List UInt8), l.length = n → 1 ≤ n → l.all isD = true → noughtAhead l = false → Lib.decDigits (val l) = l := by
  intro n
  induction n with
  | zero => intro l _ h; omega
  | succ n ih =>
    intro l hl _ ha hz
    rcases snoc_cases l with rfl | ⟨l', c, rfl⟩
    · simp at hl
    · simp only [List.all_append, Bool.and_eq_true, List.length_append, List.length_cons, List.length_nil] at ha hl
      have h2 : isD c = true := by simpa using ha.2
      have h3 := isD_iff.1 h2
      rw [val_snoc]
      cases l' with
      | nil =>
        rw [val_nil, Lib.decDigits, dif_pos (by omega)]
        simp only [List.nil_append, List.cons.injEq, and_true]
        have := digit_back h2
        simpa using this
      | cons a t =>
        have hne : a ≠ 48 := by
          intro e; subst e
          simp [noughtAhead] at hz
        have hz' : noughtAhead (a :: t) = false := by simp [noughtAhead, hne]
        have e := ih (a :: t) (by simpa using hl) (by simp at hl; omega) ha.1 hz'
        have hv : val (a :: t) ≠ 0 := by
          intro h0
          rw [h0] at e
          have e0 : Lib.decDigits 0 = [48] := by rw [Lib.decDigits]; rfl
          rw [e0] at e
          simp at e
          exact hne e.1.symm
        rw [Lib.decDigits, dif_neg (by omega)]
        rw [show (10 * val (a :: t) + (c.toNat - 48)) / 10 = val (a :: t) from by omega, show (10 * val (a :: t) + (c.toNat - 48)) % 10 = c.toNat - 48 from by omega, e, digit_back h2]
theorem dec_val_iff {l : List UInt8} (h1 : 1 ≤ l.length) (ha : l.all isD = true) : Lib.decDigits (val l) = l ↔ noughtAhead l = false := by
  constructor
  · intro e
    cases hz : noughtAhead l with
    | false => rfl
    | true =>
      simp only [noughtAhead, Bool.and_eq_true, beq_iff_eq, decide_eq_true_eq] at hz
      have h0 := head_zero (val l) (by rw [e]; exact hz.1)
      rw [h0] at e
      have e0 : Lib.decDigits 0 = [48] := by rw [Lib.decDigits]; rfl
      rw [e0] at e
      rw [← e] at hz
      simp at hz
  · exact dec_val _ l rfl h1 ha

def readOk (l : List UInt8) : Bool := inB l.length 1 10 && l.all isD && !noughtAhead l && decide (val l ≤ 1000000000)
def readDec (l : List UInt8) : Int := if readOk l = true then (val l : Int) else -1
theorem readDec_yes {l : List UInt8} (h1 : 1 ≤ l.length) (h2 : l.length ≤ 10) (ha : l.all isD = true) (hz : noughtAhead l = false) (hv : val l ≤ 1000000000) : readDec l = val l := by
  rw [readDec, if_pos]; simp [readOk, inB, ha, hz, hv]; omega
theorem readDec_no {l : List UInt8} (h : l.length < 1 ∨ 10 < l.length ∨ l.all isD = false ∨ noughtAhead l = true ∨ 1000000000 < val l) : readDec l = -1 := by
  rw [readDec, if_neg]
  simp only [readOk, inB, Bool.and_eq_true, decide_eq_true_eq, Bool.not_eq_true']
  rintro ⟨⟨⟨a, b⟩, c⟩, d⟩
  rcases h with h | h | h | h | h
  · omega
  · omega
  · rw [b] at h; cases h
  · rw [c] at h; cases h
  · omega

theorem d_snoc (s : ByteArray) (k : Nat) (h : k < s.size) (h1 : (s.data.toList.take k).all isD = true) (h2 : isD s[k] = true) : (s.data.toList.take (k + 1)).all isD = true := all_snoc s k h isD h1 h2
theorem v_snoc (s : ByteArray) (k : Nat) (h : k < s.size) : val (s.data.toList.take (k + 1)) = 10 * val (s.data.toList.take k) + (s[k].toNat - 48) := by rw [take_snoc s k h, val_snoc]




def vk (s : ByteArray) (k : Nat) : Nat := val (s.data.toList.take k)
theorem vk_zero (s : ByteArray) : vk s 0 = 0 := by simp [vk, val]
theorem vk_succ (s : ByteArray) (k : Nat) (h : k < s.size) : vk s (k + 1) = 10 * vk s k + (s[k].toNat - 48) := v_snoc s k h
theorem vk_all (s : ByteArray) (k : Nat) (h : s.size ≤ k) : vk s k = val s.data.toList := by rw [vk, take_all s k h]

set_option maxHeartbeats 1000000 in
theorem specReadDec_any (s : ByteArray) (w : World) (hs : s.size ≤ 1048576) :
    Calls Tryd.prog 11 #[.string s] w fun e w' => e = .returned (.int .i64 (readDec s.data.toList)) ∧ w' = w := by
  go_enter Tryd.func11, Tryd.ntmps11
  go_wp2
  go_loop [3, 4] (fun n i => ∃ k : Nat, k ≤ s.size ∧ (10 < s.size → k = 0) ∧ i = .int .i64 k ∧ n = .int .i64 (vk s k) ∧ (s.data.toList.take k).all isD = true) (fun _ i => s.size - (intOf i).toNat)
  case atStart => exact ⟨0, Nat.zero_le _, fun _ => rfl, rfl, by rw [vk_zero]; rfl, by simp⟩
  case round =>
    obtain ⟨k, hk, hk10, rfl, rfl, hall⟩ := hrel
    have hvb : vk s k < 10000000000 := by
      by_cases h10 : 10 < s.size
      · rw [hk10 h10, vk_zero]; omega
      · exact val_bound (by rw [List.length_take]; have := len_eq s; omega) hall
    have HK := hide hk10
    have HA := hide hall
    clear hall hk10
    by_cases hlt : k < s.size
    · have hb : (s[k].toNat : Int) ≤ 255 := byte_le _
      by_cases h1 : 48 ≤ (s[k].toNat : Int) ∧ (s[k].toNat : Int) ≤ 57
      · have e1 : inB (s[k].toNat : Int) 48 57 = true := inB_true h1.1 h1.2
        obtain ⟨h1a, h1b⟩ := h1
        by_cases h10 : 10 < s.size
        · have hf : Hid (readDec s.data.toList = -1) := hide (readDec_no (by rw [len_eq]; omega))
          go_wp2_with (go_at_call 12; refine (l01In_any _ _ _ _).mono ?_; rintro e w' ⟨rfl, rfl⟩)
          go_ret
          exact ⟨ret_int (unhide hf).symm, rfl⟩
        · go_wp2_with (go_at_call 12; refine (l01In_any _ _ _ _).mono ?_; rintro e w' ⟨rfl, rfl⟩)
          go_round
          case rel => exact ⟨k + 1, by omega, by omega, by go_num, by rw [vk_succ s k hlt]; go_num, d_snoc s k hlt (unhide HA) e1⟩
          case measure => simp [intOf]; omega
      · have e1 : inB (s[k].toNat : Int) 48 57 = false := inB_false h1
        clear h1
        have hf : Hid (readDec s.data.toList = -1) := hide (readDec_no (.inr (.inr (.inl (not_all s k hlt isD e1)))))
        go_wp2_with (go_at_call 12; refine (l01In_any _ _ _ _).mono ?_; rintro e w' ⟨rfl, rfl⟩)
        go_ret
        exact ⟨ret_int (unhide hf).symm, rfl⟩
    · have hfull : Hid (s.data.toList.all isD = true) := hide (by rw [← take_all s k (by omega)]; exact unhide HA)
      have hvv : Hid (vk s k = val s.data.toList) := hide (vk_all s k (by omega))
      by_cases h0 : s.size = 0
      · have he : s.toList.isEmpty = true := str_empty h0
        have hf : Hid (readDec s.data.toList = -1) := hide (readDec_no (.inl (by rw [len_eq]; omega)))
        go_wp2
        go_ret
        exact ⟨ret_int (unhide hf).symm, rfl⟩
      · have he : s.toList.isEmpty = false := str_full h0
        by_cases hv : 1000000000 < (vk s k : Int)
        · have hf : Hid (readDec s.data.toList = -1) := hide (readDec_no (.inr (.inr (.inr (.inr (by rw [← unhide hvv]; omega))))))
          go_wp2
          go_ret
          exact ⟨ret_int (unhide hf).symm, rfl⟩
        · have hin : Hid (10 < s.size → s.size = 0) := hide (fun h => by have := unhide HK h; omega)
          have h10 : ¬ 10 < s.size := fun h => h0 (unhide hin h)
          cases hz : noughtAhead s.data.toList with
          | false =>
            have hq : ((bs (Lib.itoa (vk s k : Int))).toList == s.toList) = true := str_same (by rw [Lib.itoa_nonneg, unhide hvv]; exact (dec_val_iff (by rw [len_eq]; omega) (unhide hfull)).2 hz)
            have hf : Hid (readDec s.data.toList = (vk s k : Int)) := hide (by rw [unhide hvv]; exact readDec_yes (by rw [len_eq]; omega) (by rw [len_eq]; omega) (unhide hfull) hz (by rw [← unhide hvv]; omega))
            clear hz
            go_wp2_with fail
            refine (specDecText_any _ _ (by omega) (by omega)).mono ?_
            rintro e w' ⟨rfl, rfl⟩
            go_wp2
            go_ret
            exact ⟨ret_int (unhide hf).symm, rfl⟩
          | true =>
            have hq : ((bs (Lib.itoa (vk s k : Int))).toList == s.toList) = false := str_other (by rw [Lib.itoa_nonneg, unhide hvv]; intro e; rw [(dec_val_iff (by rw [len_eq]; omega) (unhide hfull)).1 e] at hz; cases hz)
            have hf : Hid (readDec s.data.toList = -1) := hide (readDec_no (.inr (.inr (.inr (.inl hz)))))
            clear hz
            go_wp2_with fail
            refine (specDecText_any _ _ (by omega) (by omega)).mono ?_
            rintro e w' ⟨rfl, rfl⟩
            go_wp2
            go_ret
            exact ⟨ret_int (unhide hf).symm, rfl⟩
end Go.Proofs.YtfhnjghjibklcaaDoor
