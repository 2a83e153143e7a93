/-
  A number and a text come back from their bytes, and no other bytes are theirs: plain mathematics.
-/
import Derived.Test.YtaejcfamppmjoaaGreatDoorGetText
import Derived.Test.YtaejcfamppmjoaaGreatDoorPackD
namespace Go.Proofs.YtaejcfamppmjoaaGreatDoor
set_option linter.unusedVariables false

theorem getNum_cases (l : List UInt8) (i : Int) : getNum l i = (0, -1) ∨ ∃ I j : Nat, i = I ∧ stop 5 (l.drop I) = some j ∧ putNum (dv ((l.drop I).take (j + 1)) : Int) = (l.drop I).take (j + 1) ∧ getNum l i = ((dv ((l.drop I).take (j + 1)) : Int), (I : Int) + j + 1) := by
  unfold getNum
  by_cases hi : i < 0
  · rw [if_pos hi]; exact .inl rfl
  · rw [if_neg hi]
    obtain ⟨I, rfl⟩ := Int.eq_ofNat_of_zero_le (a := i) (by omega)
    rw [Int.toNat_natCast]
    cases hs : stop 5 (l.drop I) with
    | none => exact .inl rfl
    | some j =>
      simp only
      by_cases hp : putNum (dv ((l.drop I).take (j + 1)) : Int) = (l.drop I).take (j + 1)
      · rw [if_pos hp]; exact .inr ⟨I, j, rfl, hs, hp, rfl⟩
      · rw [if_neg hp]; exact .inl rfl
/-- what was read is what stands there -/
theorem getNum_back (s : ByteArray) (i : Int) (h : 0 < (getNum s.data.toList i).2) :
    ∃ I T : Nat, i = I ∧ (getNum s.data.toList i).2 = T ∧ I ≤ T ∧ T ≤ s.size ∧ s.extract I T = bs (putNum (getNum s.data.toList i).1) := by
  rcases getNum_cases s.data.toList i with e | ⟨I, j, rfl, hs, hp, e⟩
  · rw [e] at h; simp at h
  · have hlt := stop_lt _ _ _ hs
    rw [List.length_drop, len_eq] at hlt
    rw [e]
    refine ⟨I, I + (j + 1), rfl, by simp; omega, by omega, by omega, ?_⟩
    rw [extract_pre, pre, hp]
theorem getNum_pos (l : List UInt8) (i : Int) (h : 0 ≤ (getNum l i).2) : 0 < (getNum l i).2 := by
  rcases getNum_cases l i with e | ⟨I, j, rfl, hs, hp, e⟩
  · rw [e] at h; simp at h
  · rw [e]; simp; omega
theorem extract_append (s : ByteArray) (a b c : Nat) (h1 : a ≤ b) (h2 : b ≤ c) : (s.extract a c).data.toList = (s.extract a b).data.toList ++ (s.extract b c).data.toList := by
  rw [Lib.extract_data, Lib.extract_data, Lib.extract_data]
  rw [show c - a = (b - a) + (c - b) from by omega, List.take_add, List.drop_drop, show a + (b - a) = b from by omega]
theorem getText_back (s : ByteArray) (k : Int) (h : 0 < (getText s.data.toList k).2) :
    ∃ K E : Nat, k = K ∧ (getText s.data.toList k).2 = E ∧ K ≤ E ∧ E ≤ s.size ∧ s.extract K E = bs (putText (getText s.data.toList k).1) := by
  obtain ⟨a, b, hg⟩ : ∃ a b, getNum s.data.toList k = (a, b) := ⟨_, _, rfl⟩
  have ht := getText_of hg
  rw [ht] at h ⊢
  by_cases hc : b < 0 ∨ 2000 < a ∨ (s.size : Int) - b < a
  · rw [if_pos hc] at h; simp at h
  · rw [if_neg hc] at h ⊢
    have hle := getNum_le s k
    have hpos := getNum_pos s.data.toList k
    have hback := getNum_back s k
    rw [hg] at hle hback hpos
    simp only at hle hback hpos h ⊢
    obtain ⟨ha0, ha4, hbs⟩ := hle (by omega)
    obtain ⟨I, T, rfl, rfl, hIT, hTs, hex⟩ := hback (hpos (by omega))
    obtain ⟨A, rfl⟩ := Int.eq_ofNat_of_zero_le ha0
    simp only [Int.toNat_natCast]
    refine ⟨I, T + A, rfl, by simp, by omega, by omega, ?_⟩
    apply WideShapes.bytes_inj
    rw [extract_append s I T (T + A) hIT (by omega), hex]
    have hl : ((s.data.toList.drop T).take A).length = A := by simp; omega
    rw [putText, hl, if_pos (by omega)]
    rw [Lib.extract_data, show T + A - T = A from by omega]
    simp only [bs]
    rw [putNum, if_pos (by omega), Int.toNat_natCast]
theorem put_form : ∀ N : Nat, ∃ q b, put N = q ++ [b] ∧ q.all hi = true ∧ b.toNat < 128 ∧ dv (put N) = N := by
  intro N
  induction N using Nat.strongRecOn with
  | _ N ih =>
    by_cases h : N < 128
    · refine ⟨[], UInt8.ofNat N, by rw [put_small h]; rfl, rfl, by rw [UInt8.toNat_ofNat']; omega, ?_⟩
      rw [put_small h]; simp only [dv, UInt8.toNat_ofNat']; omega
    · obtain ⟨q, b, h1, h2, h3, h4⟩ := ih (N / 128) (by omega)
      refine ⟨UInt8.ofNat (128 + N % 128) :: q, b, by rw [put_step h, h1]; rfl, ?_, h3, ?_⟩
      · rw [List.all_cons, h2]; simp only [hi, UInt8.toNat_ofNat', Bool.and_true, decide_eq_true_eq]; omega
      · rw [put_step h]; simp only [dv, h4, UInt8.toNat_ofNat']; omega
/-- a number comes back, whatever stands behind its bytes -/
theorem getNum_put (N : Nat) (hN : N ≤ 4000000000) (c : UInt8) (t : List UInt8) : getNum (c :: (put N ++ t)) 1 = ((N : Int), ((1 + (put N).length : Nat) : Int)) := by
  obtain ⟨q, b, h1, h2, h3, h4⟩ := put_form N
  have h5 := put_le5 hN
  have hlen : (put N).length = q.length + 1 := by rw [h1]; simp
  have hl : c :: (put N ++ t) = c :: (q ++ b :: t) := by rw [h1]; simp
  have hp0 : pre (c :: (put N ++ t)) 1 q.length = q := by rw [hl]; simp [pre]
  have hp1 : pre (c :: (put N ++ t)) 1 (q.length + 1) = put N := by rw [hl, h1]; simp [pre, List.take_append, List.take_of_length_le]
  have hget : (c :: (put N ++ t))[1 + q.length]'(by simp; omega) = b := by
    simp only [hl]
    rw [List.getElem_cons]; simp
  have := getNum_stop (l := c :: (put N ++ t)) (I := 1) (j := q.length) (by omega) (by rw [hp0]; exact h2) (by simp; omega) (by rw [hget]; exact h3)
  have e : ((1 : Nat) : Int) = 1 := rfl
  rw [e] at this
  rw [this, hp1, h4]
  have hpn : putNum (N : Int) = put N := by rw [putNum, if_pos (by omega), Int.toNat_natCast]
  rw [if_pos hpn, hlen]
  simp; omega
theorem getText_put (a : List UInt8) (h : a.length ≤ 2000) (c : UInt8) (t : List UInt8) : getText (c :: (putText a ++ t)) 1 = (a, ((1 + (putText a).length : Nat) : Int)) := by
  have hp : putText a = put a.length ++ a := by rw [putText, if_pos h]
  have hg := getNum_put a.length (by omega) c (a ++ t)
  rw [← List.append_assoc, ← hp] at hg
  obtain ⟨s, hs⟩ : ∃ s : ByteArray, s.data.toList = c :: (putText a ++ t) := ⟨bs (c :: (putText a ++ t)), by simp [bs]⟩
  rw [← hs] at hg ⊢
  have ht := getText_of hg
  have hsz : s.size = 1 + (put a.length).length + a.length + t.length := by
    rw [← len_eq, hs, hp]; simp; omega
  rw [ht, if_neg (by omega), Int.toNat_natCast, Int.toNat_natCast, hs, hp]
  refine Prod.ext ?_ ?_
  · rw [show 1 + (put a.length).length = (put a.length).length + 1 from by omega, List.drop_succ_cons, List.append_assoc, List.drop_left, List.take_left]
  · simp; omega
theorem putText_nil {a : List UInt8} : putText a = [] ↔ 2000 < a.length := by
  rw [putText]
  split
  · have := put_pos a.length
    constructor
    · intro e
      have he := congrArg List.length e
      rw [List.length_append, List.length_nil] at he
      omega
    · intro h; omega
  · simp; omega
end Go.Proofs.YtaejcfamppmjoaaGreatDoor
