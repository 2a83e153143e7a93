/-
  Logs, in plain words: with one record more, cut off by a byte, spoilt in the last record's text.
-/
import Derived.Test.YtobpjegfgegkcaaGreatDoorJouM
namespace Go.Proofs.YtobpjegfgegkcaaGreatDoor
open Go.RowKit
set_option linter.unusedVariables false
theorem entry_form (r : Rc) : entry r = word (crc (putRec r)) ++ (put (putRec r).length ++ putRec r) := by
  unfold entry putText
  rw [if_pos (by have := putRec_len (r := r); omega)]
theorem allOk_app {l : List Rc} {r : Rc} (h : allOk l) (ho : recOk r = true) : allOk (l ++ [r]) := fun x hx => by
  rcases List.mem_append.1 hx with h1 | h1
  · exact h x h1
  · simp at h1; subst h1; exact ho
theorem jou_more (l : List Rc) (r : Rc) (h : allOk l) (ho : recOk r = true) (hs : (flat l).length ≤ 1000) : readV (bs (flat l ++ entry r)) = (l ++ [r], ((flat l ++ entry r).length : Int)) := by
  have he := entry_len r
  have hf : flat (l ++ [r]) = flat l ++ entry r := by rw [flat_app]; simp [flat]
  have := readV_rest (l ++ [r]) [] (allOk_app h ho) (by rw [hf, List.append_nil, List.length_append]; omega) (.inl rfl)
  rw [hf, List.append_nil] at this
  exact this
theorem drop_flat (a b : List UInt8) : (bs (a ++ b)).data.toList.drop a.length = b := by
  show (a ++ b).drop a.length = b
  exact List.drop_left
theorem jou_cut (l : List Rc) (r : Rc) (h : allOk l) (ho : recOk r = true) (hs : (flat l).length ≤ 1000) : readV (bs ((flat l ++ entry r).take ((flat l ++ entry r).length - 1))) = (l, ((flat l).length : Int)) := by
  have he := entry_len r
  have hp := putRec_pos ho
  have hpl := putRec_len (r := r)
  have hz : (flat l ++ entry r).take ((flat l ++ entry r).length - 1) = flat l ++ (word (crc (putRec r)) ++ (put (putRec r).length ++ (putRec r).take ((putRec r).length - 1))) := by
    rw [entry_form]
    have h4 : (word (crc (putRec r))).length = 4 := rfl
    simp only [List.length_append]
    rw [List.take_append, List.take_of_length_le (by omega), List.take_append, List.take_of_length_le (by omega), List.take_append, List.take_of_length_le (by omega)]
    congr 4
    omega
  rw [hz]
  refine readV_rest l _ h ?_ (.inr ?_)
  · have h4 : (word (crc (putRec r))).length = 4 := rfl
    have h5 := put_le5 (u := (putRec r).length) (by omega)
    simp only [List.length_append, List.length_take]
    omega
  · have hd := drop_flat (flat l) (word (crc (putRec r)) ++ (put (putRec r).length ++ (putRec r).take ((putRec r).length - 1)))
    obtain ⟨h4, _⟩ := word_at _ _ _ _ (xor_lt32 (crcTo_lt _) (by decide)) hd
    rw [entry_of h4, if_pos]
    refine getText_cut _ _ (putRec r).length ((putRec r).take ((putRec r).length - 1)) (by omega) (by rw [List.length_take]; omega) ?_
    rw [← List.drop_drop, hd]
    rfl
theorem jou_spoilt (l : List Rc) (r : Rc) (i : Nat) (b : UInt8) (h : allOk l) (ho : recOk r = true) (hs : (flat l).length ≤ 1000) (h0 : (flat l ++ entry r).length - (putRec r).length ≤ i) (h1 : i < (flat l ++ entry r).length) (hb : b ≠ (flat l ++ entry r)[i]) :
    readV (bs ((flat l ++ entry r).set i b)) = (l, ((flat l).length : Int)) := by
  have he := entry_len r
  have hp := putRec_pos ho
  have hpl := putRec_len (r := r)
  have h4 : (word (crc (putRec r))).length = 4 := rfl
  have hM : flat l ++ entry r = (flat l ++ (word (crc (putRec r)) ++ put (putRec r).length)) ++ putRec r := by rw [entry_form]; simp only [List.append_assoc]
  obtain ⟨P, hP⟩ : ∃ P, flat l ++ (word (crc (putRec r)) ++ put (putRec r).length) = P := ⟨_, rfl⟩
  rw [hP] at hM
  have hlen : (flat l ++ entry r).length = P.length + (putRec r).length := by rw [hM, List.length_append]
  obtain ⟨m, rfl⟩ : ∃ m, i = P.length + m := ⟨i - P.length, by omega⟩
  have hm : m < (putRec r).length := by omega
  have hset : (flat l ++ entry r).set (P.length + m) b = P ++ (putRec r).set m b := by
    rw [hM, List.set_append_right _ _ (by omega), Nat.add_sub_cancel_left]
  have hbm : b ≠ (putRec r)[m] := by
    intro e
    apply hb
    rw [e]
    have : ∀ (L : List UInt8) (hL : P.length + m < L.length), L = P ++ putRec r → L[P.length + m] = (putRec r)[m] := by
      intro L hL e2
      subst e2
      rw [List.getElem_append_right (by omega)]
      congr 1
      omega
    exact (this _ h1 hM).symm
  have hne := crc_changed (putRec r) m hm b hbm
  rw [hset, ← hP]
  have hassoc : flat l ++ (word (crc (putRec r)) ++ put (putRec r).length) ++ (putRec r).set m b = flat l ++ (word (crc (putRec r)) ++ (put (putRec r).length ++ (putRec r).set m b)) := by simp only [List.append_assoc]
  rw [hassoc]
  refine readV_rest l _ h ?_ (.inr ?_)
  · have h5 := put_le5 (u := (putRec r).length) (by omega)
    simp only [List.length_append, List.length_set]
    omega
  · have hd := drop_flat (flat l) (word (crc (putRec r)) ++ (put (putRec r).length ++ (putRec r).set m b))
    obtain ⟨h6, hv⟩ := word_at _ _ _ _ (xor_lt32 (crcTo_lt _) (by decide)) hd
    have hpt : putText ((putRec r).set m b) = put (putRec r).length ++ (putRec r).set m b := by
      unfold putText
      rw [List.length_set, if_pos (by omega)]
    have ht := getText_at _ ((flat l).length + 4) ((putRec r).set m b) [] (by rw [List.length_set]; omega) (by
      rw [List.append_nil, hpt, ← List.drop_drop, hd]
      rfl)
    rw [entry_of h6, ht]
    simp only
    rw [if_neg (by omega)]
    split
    · rfl
    · rw [if_neg]
      rw [hv]
      exact hne
/-- what Write answers behind what was read -/
theorem wrote_flat (l : List Rc) (r : Rc) (hs : (flat l).length ≤ 1000) : wrote (flat l) r = if recOk r = true then (flat l ++ entry r, true) else (flat l, false) := by
  have he := entry_len r
  unfold wrote
  by_cases ho : recOk r = true
  · have hp := putRec_pos ho
    rw [if_pos ho, if_neg]
    rintro (h | h)
    · rw [h] at hp; simp at hp
    · omega
  · have hp : putRec r = [] := by unfold putRec; rw [if_neg ho]
    rw [if_neg ho, if_pos (.inl hp)]
theorem putRec_nil (r : Rc) : decide (putRec r = []) = !recOk r := by
  cases ho : recOk r with
  | true => have := putRec_pos ho; simp; intro h; rw [h] at this; simp at this
  | false => simp [putRec, ho]
end Go.Proofs.YtobpjegfgegkcaaGreatDoor
