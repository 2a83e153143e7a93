/-
  An operation out of its text: in plain words.
-/
import Derived.Test.YtfhnjghjibklcaaDoorOpS
import Derived.Test.YtfhnjghjibklcaaDoorWordsM
import Derived.Test.YtfhnjghjibklcaaDoorReadResS
import Derived.Test.YtfhnjghjibklcaaDoorNameS
import Derived.Test.YtfhnjghjibklcaaDoorDigM
namespace Go.Proofs.YtfhnjghjibklcaaDoor
open Go.RowKit
set_option linter.unusedVariables false

theorem words_join : ∀ (l cur : List UInt8), Lib.join (wordsFrom cur l) [32] = cur ++ l
  | [], cur => by simp [wordsFrom, Lib.join_one]
  | b :: t, cur => by
    rw [wordsFrom]
    split
    · rename_i e
      subst e
      have h := words_join t []
      have hn := (wordsFrom_len t []).1
      cases hw : wordsFrom [] t with
      | nil => rw [hw] at hn; simp at hn
      | cons a r =>
        rw [hw, Lib.join_cons] at h
        rw [Lib.join_cons]
        simp only [Lib.joinTail, List.map_cons, List.flatten_cons] at h ⊢
        simp only [List.nil_append] at h
        rw [← h]
        simp
    · rw [words_join t (cur ++ [b])]; simp
theorem join_words (l : List UInt8) : Lib.join (words l) [32] = l := by rw [words, words_join]; rfl
theorem words_len_le : ∀ (l cur : List UInt8), ∀ x ∈ wordsFrom cur l, x.length ≤ cur.length + l.length
  | [], cur, x, h => by simp [wordsFrom] at h; subst h; simp
  | b :: t, cur, x, h => by
    rw [wordsFrom] at h
    split at h
    · rcases List.mem_cons.1 h with rfl | h
      · simp
      · have := words_len_le t [] x h
        simp at this ⊢
        omega
    · have := words_len_le t (cur ++ [b]) x h
      simp at this ⊢
      omega
theorem words_le (l : List UInt8) : ∀ x ∈ words l, x.length ≤ l.length := fun x h => by
  have := words_len_le l [] x h
  simpa using this
theorem xAt_at' : ∀ (l : List UInt8) (h : xAt l < l.length), l[xAt l] = 120
  | b :: t, h => by
    by_cases e : b = 120
    · simp [xAt, e]
    · have hx : xAt (b :: t) = xAt t + 1 := by rw [xAt, if_neg e]
      have := xAt_at' t (by rw [hx] at h; simpa using h)
      simp only [hx, List.getElem_cons_succ]
      exact this
theorem resL_back {l : List UInt8} (h : readROk l = true) : resL (readM l) (readC l) = l := by
  obtain ⟨q1, q2, q3, q4⟩ := resOk_bd h
  by_cases hx : xAt l < l.length
  · have e1 : readM l = readDec (l.take (xAt l)) := if_pos hx
    have e2 : readC l = readDec (l.drop (xAt l + 1)) := if_pos hx
    rw [e1] at q1 ⊢
    rw [e2] at q3 ⊢
    rw [resL, itoa_readDec q1, itoa_readDec q3]
    have := xAt_at' _ hx
    rw [← this, ← List.drop_eq_getElem_cons hx, List.take_append_drop]
  · have e1 : readM l = -1 := if_neg hx
    omega
/-- the amount that a text says, or none -/
def rdRes (l : List UInt8) : Int × Int := if readROk l = true then (readM l, readC l) else (0, 0)
theorem readRV_pair (l : List UInt8) : readRV l = rv (rdRes l).1 (rdRes l).2 := by
  unfold readRV rdRes
  cases readROk l <;> rfl
theorem rdDec_b (l : List UInt8) : -1 ≤ readDec l ∧ readDec l ≤ 1000000000 := by
  unfold readDec
  split
  · rename_i h
    simp only [readOk, Bool.and_eq_true, decide_eq_true_eq] at h
    omega
  · omega
theorem rdRes_b (l : List UInt8) : (0 ≤ (rdRes l).1 ∧ (rdRes l).1 ≤ 1000000000) ∧ 0 ≤ (rdRes l).2 ∧ (rdRes l).2 ≤ 1000000000 := by
  unfold rdRes
  split
  · rename_i h
    obtain ⟨q1, q2, q3, q4⟩ := resOk_bd h
    exact ⟨⟨q1, q2⟩, q3, q4⟩
  · simp
/-- an event without anything -/
def zop : Opv := ⟨0, [], 0, ⟨0, 0, 0, [], 0⟩, 0, [], 0, 0, []⟩
def kSubmit : List UInt8 := [115, 117, 98, 109, 105, 116]
def kFinish : List UInt8 := [102, 105, 110, 105, 115, 104]
def kFree : List UInt8 := [102, 114, 101, 101]
def kServe : List UInt8 := [115, 101, 114, 118, 101]
def kTick : List UInt8 := [116, 105, 99, 107]
def kAsk : List UInt8 := [97, 115, 107]
/-- of two words -/
def rdShort (a b : List UInt8) : Opv × Bool :=
  if a = kSubmit then (⟨0, b, 0, ⟨0, 0, 0, [], 0⟩, 0, [], 0, 0, []⟩, nameOk b)
  else if a = kFinish then (⟨1, [], readDec b, ⟨0, 0, 0, [], 0⟩, 0, [], 0, 0, []⟩, decide (0 ≤ readDec b))
  else if a = kFree then (⟨3, [], 0, ⟨0, 0, 0, [], 0⟩, readDec b, [], 0, 0, []⟩, decide (0 ≤ readDec b))
  else if a = kServe then (⟨7, b, 0, ⟨0, 0, 0, [], 0⟩, 0, [], 0, 0, []⟩, nameOk b)
  else (zop, false)
/-- an ask; e: its machine, where there are five words -/
def askO (b c d e : List UInt8) : Opv := ⟨2, [], readDec b, ⟨(rdRes c).1, (rdRes c).2, readDec d, e, 0⟩, 0, [], 0, 0, []⟩
def rdAsk (a b c d : List UInt8) (e : Option (List UInt8)) : Opv × Bool :=
  (askO b c d (e.getD []), (readROk c && (match e with | some x => nameOk x | none => true)) && (decide (a = kAsk) && (decide (0 ≤ readDec b) && decide (0 ≤ readDec d))))
def rdWords : List (List UInt8) → Opv × Bool
  | [a] => (⟨6, [], 0, ⟨0, 0, 0, [], 0⟩, 0, [], 0, 0, []⟩, decide (a = kTick))
  | [a, b] => rdShort a b
  | [a, b, c, d] => rdAsk a b c d none
  | [a, b, c, d, e] => rdAsk a b c d (some e)
  | _ => (zop, false)
def keepOp (r : Opv × Bool) : Opv × Bool := if r.2 = true then r else (zop, false)
def rdOp (l : List UInt8) : Opv × Bool := keepOp (rdWords (words l))
end Go.Proofs.YtfhnjghjibklcaaDoor
