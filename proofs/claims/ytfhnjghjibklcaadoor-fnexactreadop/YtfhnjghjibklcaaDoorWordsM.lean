/-
  The parts of a text between blanks, as plain mathematics: no Go.
-/
import Derived.Test.YtfhnjghjibklcaaDoorBase
import Derived.Lib.Split
import Derived.Lib.SplitLaws
import Derived.Lib.Strings
import Derived.WideShapes
namespace Go.Proofs.YtfhnjghjibklcaaDoor
set_option linter.unusedVariables false

/-- the parts, the first of which has begun -/
def wordsFrom : List UInt8 → List UInt8 → List (List UInt8)
  | cur, [] => [cur]
  | cur, b :: t => if b = 32 then cur :: wordsFrom [] t else wordsFrom (cur ++ [b]) t
def words (l : List UInt8) : List (List UInt8) := wordsFrom [] l
def wordsB (l : List UInt8) : List ByteArray := (words l).map bs
theorem wordsFrom_hit : ∀ (a cur r : List UInt8), (32 : UInt8) ∉ a → wordsFrom cur (a ++ 32 :: r) = (cur ++ a) :: wordsFrom [] r
  | [], cur, r, _ => by simp [wordsFrom]
  | b :: a, cur, r, h => by
    have hb : b ≠ 32 := fun e => h (by simp [e])
    have ha : (32 : UInt8) ∉ a := fun e => h (by simp [e])
    simp only [List.cons_append, wordsFrom, if_neg hb]
    rw [wordsFrom_hit a (cur ++ [b]) r ha]; simp
theorem wordsFrom_miss : ∀ (l cur : List UInt8), (32 : UInt8) ∉ l → wordsFrom cur l = [cur ++ l]
  | [], cur, _ => by simp [wordsFrom]
  | b :: a, cur, h => by
    have hb : b ≠ 32 := fun e => h (by simp [e])
    have ha : (32 : UInt8) ∉ a := fun e => h (by simp [e])
    simp only [wordsFrom, if_neg hb]
    rw [wordsFrom_miss a (cur ++ [b]) ha]; simp
theorem wordsFrom_len : ∀ (l cur : List UInt8), 1 ≤ (wordsFrom cur l).length ∧ (wordsFrom cur l).length ≤ l.length + 1
  | [], cur => by simp [wordsFrom]
  | b :: t, cur => by
    simp only [wordsFrom]
    split
    · have := wordsFrom_len t []; simp only [List.length_cons]; omega
    · have := wordsFrom_len t (cur ++ [b]); simp only [List.length_cons]; omega
theorem wordsB_len (l : List UInt8) : 1 ≤ (wordsB l).length ∧ (wordsB l).length ≤ l.length + 1 := by
  rw [wordsB, List.length_map]; exact wordsFrom_len l []
/-- where the first blank stands -/
theorem index_blank : ∀ l : List UInt8, (Lib.index l [32] = -1 ∧ (32 : UInt8) ∉ l) ∨ ∃ i : Nat, Lib.index l [32] = i ∧ (32 : UInt8) ∉ l.take i ∧ l = l.take i ++ 32 :: l.drop (i + 1)
  | [] => .inl ⟨by simp [Lib.index], by simp⟩
  | b :: l => by
    by_cases hb : b = 32
    · subst hb
      refine .inr ⟨0, ?_, by simp, by simp⟩
      simp [Lib.index]
    · have hp : List.isPrefixOf [32] (b :: l) = false := by simp [List.isPrefixOf]; exact fun e => hb e.symm
      rcases index_blank l with ⟨h1, h2⟩ | ⟨i, h1, h2, h3⟩
      · refine .inl ⟨?_, by simp [h2]; exact fun e => hb e.symm⟩
        rw [Lib.index, hp, h1]; rfl
      · refine .inr ⟨i + 1, ?_, ?_, ?_⟩
        · rw [Lib.index, hp, h1]
          have : ¬ ((i : Int) == -1) = true := by simp
          simp only [if_neg this]; simp
        · simp [h2]; exact fun e => hb e.symm
        · simp only [List.take_succ_cons, List.cons_append, List.drop_succ_cons]
          rw [← h3]
def blank : ByteArray := ⟨#[32]⟩
theorem split_words : ∀ (k : Nat) (s : ByteArray), Lib.countB s blank = k → (Lib.splitB blank 0 k s).map (·.data.toList) = words s.data.toList := by
  intro k
  induction k with
  | zero =>
    intro s h
    rcases index_blank s.data.toList with ⟨h1, h2⟩ | ⟨i, h1, _, _⟩
    · rw [Lib.splitB_miss blank 0 0 s h1, words, wordsFrom_miss _ _ h2]; simp
    · rw [Lib.countB_hit s blank i (by decide) h1] at h
      omega
  | succ k ih =>
    intro s h
    rcases index_blank s.data.toList with ⟨h1, h2⟩ | ⟨i, h1, h2, h3⟩
    · rw [Lib.countB_miss s blank h1] at h; omega
    · rw [Lib.countB_hit s blank i (by decide) h1] at h
      rw [Lib.splitB_hit blank 0 k s i h1, List.map_cons, ih _ (by omega), Lib.extract_from_zero, Lib.extract_to_end]
      rw [words, words]
      rw (occs := .pos [3]) [h3]
      rw [wordsFrom_hit _ _ _ h2]
      simp [blank, ByteArray.size]
theorem map_bs {xs : List ByteArray} {ys : List (List UInt8)} (h : xs.map (·.data.toList) = ys) : xs = ys.map bs := by
  subst h
  rw [List.map_map]
  conv => lhs; rw [← List.map_id xs]
  apply List.map_congr_left
  intro x _
  exact WideShapes.bytes_inj (by simp [bs])
theorem splitB_words (s : ByteArray) : Lib.splitB blank 0 (Lib.countB s blank) s = wordsB s.data.toList := map_bs (split_words _ s rfl)
theorem count_words (s : ByteArray) : Lib.countB s blank + 1 = (wordsB s.data.toList).length := by
  rw [← splitB_words, Lib.splitB_all blank (by decide) 0 _ s rfl]
end Go.Proofs.YtfhnjghjibklcaaDoor
