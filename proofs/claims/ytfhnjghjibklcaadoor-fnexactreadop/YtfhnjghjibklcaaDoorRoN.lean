/-
  An operation out of its text, by the model: ReadOp, in plain words.
-/
import Derived.Test.YtfhnjghjibklcaaDoorRoJ
import Derived.Test.YtfhnjghjibklcaaDoorOpS
import Derived.Test.YtfhnjghjibklcaaDoorWordsS
import Derived.Test.YtfhnjghjibklcaaDoorIn
import Derived.Deep.CutBlock
namespace Go.Proofs.YtfhnjghjibklcaaDoor
open Go.RowKit
set_option linter.unusedVariables false
set_option linter.unusedSimpArgs false

/-- what the cases make of the words -/
def rdSw (l : List UInt8) : List (List UInt8) → Opv × Bool
  | [a, b] => if a = kSubmit then (⟨0, b, 0, ⟨0, 0, 0, [], 0⟩, 0, [], 0, 0, []⟩, nameOk b)
    else if a = kServe then (⟨7, b, 0, ⟨0, 0, 0, [], 0⟩, 0, [], 0, 0, []⟩, nameOk b)
    else if a = kFinish then (⟨1, [], readDec b, ⟨0, 0, 0, [], 0⟩, 0, [], 0, 0, []⟩, true)
    else if a = kFree then (⟨3, [], 0, ⟨0, 0, 0, [], 0⟩, readDec b, [], 0, 0, []⟩, true)
    else (⟨-1, [], 0, ⟨0, 0, 0, [], 0⟩, 0, [], 0, 0, []⟩, true)
  | [a, b, c, d] => if a = kAsk then (askO b c d [], readROk c && true) else (⟨-1, [], 0, ⟨0, 0, 0, [], 0⟩, 0, [], 0, 0, []⟩, true)
  | [a, b, c, d, e] => if a = kAsk then (askO b c d e, readROk c && nameOk e) else (⟨-1, [], 0, ⟨0, 0, 0, [], 0⟩, 0, [], 0, 0, []⟩, true)
  | [a] => if l = kTick then (⟨6, [], 0, ⟨0, 0, 0, [], 0⟩, 0, [], 0, 0, []⟩, true) else (⟨-1, [], 0, ⟨0, 0, 0, [], 0⟩, 0, [], 0, 0, []⟩, true)
  | _ => (⟨-1, [], 0, ⟨0, 0, 0, [], 0⟩, 0, [], 0, 0, []⟩, true)
theorem sw_one (a l : List UInt8) (h : True) (ht : ¬ l = kTick) : rdSw l [a] = (⟨-1, [], 0, ⟨0, 0, 0, [], 0⟩, 0, [], 0, 0, []⟩, true) := by rw [rdSw, if_neg ht]
theorem sw_two (a x l : List UInt8) (h : a ≠ kSubmit ∧ a ≠ kServe ∧ a ≠ kFinish ∧ a ≠ kFree) : rdSw l [a, x] = (⟨-1, [], 0, ⟨0, 0, 0, [], 0⟩, 0, [], 0, 0, []⟩, true) := by rw [rdSw, if_neg h.1, if_neg h.2.1, if_neg h.2.2.1, if_neg h.2.2.2]
theorem sw_more (a x y : List UInt8) (r : List (List UInt8)) (l : List UInt8) (h : a ≠ kAsk) (h' : True) : rdSw l (a :: x :: y :: r) = (⟨-1, [], 0, ⟨0, 0, 0, [], 0⟩, 0, [], 0, 0, []⟩, true) := by
  match r with
  | [] => rfl
  | [z] => rw [rdSw, if_neg h]
  | [z, u] => rw [rdSw, if_neg h]
  | z :: u :: v :: r => rfl
theorem sw_other (a : List UInt8) (r : List (List UInt8)) (l : List UInt8) (h1 : ¬ a = kSubmit) (h2 : ¬ a = kServe) (h3 : ¬ a = kFinish) (h4 : ¬ a = kFree) (h5 : ¬ a = kAsk) (ht : ¬ l = kTick) : rdSw l (a :: r) = (⟨-1, [], 0, ⟨0, 0, 0, [], 0⟩, 0, [], 0, 0, []⟩, true) := by
  match r with
  | [] => exact sw_one a l trivial ht
  | [x] => exact sw_two a x l ⟨h1, h2, h3, h4⟩
  | x :: y :: r => exact sw_more a x y r l h5 trivial
/-- what is held against the text -/
def rdFin (l : List UInt8) (r : Opv × Bool) : Opv × Bool :=
  if (!r.2 || (decide (r.1.app < 0) || (decide (r.1.cont < 0) || (decide (r.1.ask.count < 0) || (decide (l = []) || !decide (opL r.1 = l)))))) = true then (zop, false) else (r.1, true)

theorem fin_no {l : List UInt8} {r : Opv × Bool} (h : r.2 = false ∨ r.1.app < 0 ∨ r.1.cont < 0 ∨ r.1.ask.count < 0 ∨ ¬ opL r.1 = l) : rdFin l r = (zop, false) := by
  rw [rdFin, if_pos]
  rcases h with h | h | h | h | h <;> simp [h]
theorem fin_yes {l : List UInt8} {r : Opv × Bool} (h : r.2 = true) (h1 : 0 ≤ r.1.app) (h2 : 0 ≤ r.1.cont) (h3 : 0 ≤ r.1.ask.count) (h4 : l ≠ []) (h5 : opL r.1 = l) : rdFin l r = (r.1, true) := by
  rw [rdFin, if_neg]
  simp only [h, decide_eq_false (show ¬ r.1.app < 0 by omega), decide_eq_false (show ¬ r.1.cont < 0 by omega), decide_eq_false (show ¬ r.1.ask.count < 0 by omega), decide_eq_false h4, decide_eq_true h5]
  simp
theorem fin_none (l : List UInt8) : rdFin l (⟨-1, [], 0, ⟨0, 0, 0, [], 0⟩, 0, [], 0, 0, []⟩, true) = (zop, false) := by
  by_cases h : l = []
  · rw [rdFin, if_pos]; simp [h]
  · exact fin_no (.inr (.inr (.inr (.inr (fun e => h (by rw [← e]; simp [opL, opWords, Lib.join_nil]))))))
theorem two_not_nil (a b : List UInt8) (r : List (List UInt8)) : Lib.join (a :: b :: r) [32] ≠ [] := by
  rw [Lib.join_cons]; simp [Lib.joinTail]
theorem fin_ask {l a b c d : List UInt8} {e : Option (List UInt8)} (h1 : a = kAsk) (hl0 : l ≠ []) (hL : readROk c = true → 0 ≤ readDec b → 0 ≤ readDec d → nodeOk e = true → opL (askO b c d (e.getD [])) = l) :
    rdFin l (askO b c d (e.getD []), readROk c && nodeOk e) = keepOp (⟨2, [], readDec b, ⟨(rdRes c).1, (rdRes c).2, readDec d, e.getD [], 0⟩, 0, [], 0, 0, []⟩, (readROk c && nodeOk e) && (decide (a = kAsk) && (decide (0 ≤ readDec b) && decide (0 ≤ readDec d)))) := by
  cases hk : (readROk c && nodeOk e) with
  | false => rw [fin_no (.inl rfl)]; rfl
  | true =>
    have hk' := hk
    simp only [Bool.and_eq_true] at hk'
    by_cases hb : 0 ≤ readDec b
    · by_cases hd : 0 ≤ readDec d
      · rw [fin_yes rfl hb (by simp [askO]) hd hl0 (hL hk'.1 hb hd hk'.2), keepOp, if_pos (by simp [h1, hb, hd])]
        simp [h1, hb, hd, askO]
      · rw [fin_no (.inr (.inr (.inr (.inl (by simp only [askO]; omega))))), keepOp, if_neg (by simp [h1, hb, hd])]
    · rw [fin_no (.inr (.inl (by simp only [askO]; omega))), keepOp, if_neg (by simp [h1, hb])]
theorem fin_words (l : List UInt8) (ws : List (List UInt8)) (h : Lib.join ws [32] = l) (hw : ws = words l) : rdFin l (rdSw l ws) = keepOp (rdWords ws) := by
  have hone : ∀ a, words l = [a] → l = a := fun a e => by have := join_words l; rw [e, Lib.join_one] at this; exact this.symm
  match ws, h, hw with
  | [], h, hw => exact fin_none l
  | [a], h, hw =>
    have hla := hone a hw.symm
    by_cases ht : l = kTick
    · rw [rdSw, if_pos ht, fin_yes rfl (by simp) (by simp) (by simp) (by rw [ht]; decide) (by rw [ht]; simp [opL, opWords, Lib.join_one, kTick])]
      rw [rdWords, keepOp, if_pos (decide_eq_true (by rw [← hla]; exact ht))]
      simp only [decide_eq_true (show a = kTick by rw [← hla]; exact ht)]
    · rw [sw_one a l trivial ht, fin_none, rdWords, keepOp, if_neg (by simp; rw [← hla]; exact ht)]
  | [a, b], h, hw =>
    have hl0 : l ≠ [] := by rw [← h]; exact two_not_nil a b []
    rw [rdSw, rdWords, rdShort]
    by_cases h1 : a = kSubmit
    · rw [if_pos h1, if_pos h1]
      cases hn : nameOk b
      · rw [fin_no (.inl rfl)]; rfl
      · rw [fin_yes rfl (by simp) (by simp) (by simp) hl0 (by rw [← h, h1]; simp [opL, opWords, kSubmit])]; rfl
    rw [if_neg h1, if_neg h1]
    by_cases h2 : a = kServe
    · have e1 : ¬ a = kFinish := by rw [h2]; decide
      have e2 : ¬ a = kFree := by rw [h2]; decide
      rw [if_pos h2, if_neg e1, if_neg e2, if_pos h2]
      cases hn : nameOk b
      · rw [fin_no (.inl rfl)]; rfl
      · rw [fin_yes rfl (by simp) (by simp) (by simp) hl0 (by rw [← h, h2]; simp [opL, opWords, kServe])]; rfl
    rw [if_neg h2]
    by_cases h3 : a = kFinish
    · rw [if_pos h3, if_pos h3]
      by_cases hb : 0 ≤ readDec b
      · rw [fin_yes rfl hb (by simp) (by simp) hl0 (by rw [← h, h3]; simp [opL, opWords, kFinish, itoa_readDec hb]), keepOp, if_pos (decide_eq_true hb)]
        simp only [decide_eq_true hb]
      · rw [fin_no (.inr (.inl (by simp only; omega))), keepOp, if_neg (by simp only [decide_eq_true_eq]; exact hb)]
    rw [if_neg h3, if_neg h3]
    by_cases h4 : a = kFree
    · rw [if_pos h4, if_pos h4]
      by_cases hb : 0 ≤ readDec b
      · rw [fin_yes rfl (by simp) hb (by simp) hl0 (by rw [← h, h4]; simp [opL, opWords, kFree, itoa_readDec hb]), keepOp, if_pos (decide_eq_true hb)]
        simp only [decide_eq_true hb]
      · rw [fin_no (.inr (.inr (.inl (by simp only; omega)))), keepOp, if_neg (by simp only [decide_eq_true_eq]; exact hb)]
    rw [if_neg h4, if_neg h4, if_neg h2, fin_none]
    rfl
  | [a, b, c], h, hw => exact fin_none l
  | [a, b, c, d], h, hw =>
    have hl0 : l ≠ [] := by rw [← h]; exact two_not_nil a b [c, d]
    rw [rdSw, rdWords, rdAsk_is]
    by_cases h1 : a = kAsk
    · rw [if_pos h1]
      refine fin_ask h1 (e := none) hl0 (fun hc hb hd _ => ?_)
      rw [← h, h1]
      simp [opL, opWords, askO, rdRes, hc, resL_back hc, itoa_readDec hb, itoa_readDec hd, kAsk]
    · rw [if_neg h1, fin_none, keepOp, if_neg (by simp [h1])]
  | [a, b, c, d, e], h, hw =>
    have hl0 : l ≠ [] := by rw [← h]; exact two_not_nil a b [c, d, e]
    rw [rdSw, rdWords, rdAsk_is]
    by_cases h1 : a = kAsk
    · rw [if_pos h1]
      refine fin_ask h1 (e := some e) hl0 (fun hc hb hd he => ?_)
      have he0 : e ≠ [] := fun e0 => by rw [e0] at he; exact absurd he (by decide)
      rw [← h, h1]
      simp [opL, opWords, askO, rdRes, hc, resL_back hc, itoa_readDec hb, itoa_readDec hd, kAsk, he0]
    · rw [if_neg h1, fin_none, keepOp, if_neg (by simp [h1])]
  | a :: b :: c :: d :: e :: f :: r, h, hw => exact fin_none l
end Go.Proofs.YtfhnjghjibklcaaDoor
