/-
  Queues come back from their text, and a text that was read whole is theirs; where a path begins and ends: in plain words.
-/
import Derived.Test.YtebaejokhpdbkaaGreatDoorPackE
import Derived.Test.YtebaejokhpdbkaaGreatDoorPackC
namespace Go.Proofs.YtebaejokhpdbkaaGreatDoor
open Go.RowKit
set_option linter.unusedVariables false

theorem isD_bytes {c : UInt8} (h : isD c = true) : c ≠ 32 ∧ c ≠ 10 := by
  rw [isD_iff] at h
  refine ⟨fun e => ?_, fun e => ?_⟩ <;> (subst e; revert h; decide)
theorem name_bytes {n : List UInt8} (h : nameOk n = true) : ∀ c ∈ n, c ≠ 32 ∧ c ≠ 10 ∧ c ≠ 45 := fun c hc => by
  simp only [nameOk, Bool.and_eq_true] at h
  have h2 := List.all_eq_true.1 h.2 c hc
  simp only [nameB, inB, Bool.or_eq_true, decide_eq_true_eq] at h2
  refine ⟨fun e => ?_, fun e => ?_, fun e => ?_⟩ <;> (subst e; revert h2; decide)
/-- words with a blank between two -/
def glue : List (List UInt8) → List UInt8
  | [] => []
  | [a] => a
  | a :: b :: r => a ++ 32 :: glue (b :: r)
theorem words_glue : ∀ (l cur : List UInt8), glue (wordsFrom cur l) = cur ++ l
  | [], cur => by simp [wordsFrom, glue]
  | b :: t, cur => by
    rw [wordsFrom]
    split
    · rename_i e
      subst e
      have h := words_glue t []
      have hn := (wordsFrom_len t []).1
      cases hw : wordsFrom [] t with
      | nil => rw [hw] at hn; simp at hn
      | cons a r =>
        rw [hw] at h
        rw [glue, h]
        simp
    · rw [words_glue t (cur ++ [b])]; simp
theorem words_four {a b c d : List UInt8} (ha : (32 : UInt8) ∉ a) (hb : (32 : UInt8) ∉ b) (hc : (32 : UInt8) ∉ c) (hd : (32 : UInt8) ∉ d) : words (a ++ 32 :: (b ++ 32 :: (c ++ 32 :: d))) = [a, b, c, d] := by
  unfold words
  rw [wordsFrom_hit a [] _ ha, wordsFrom_hit b [] _ hb, wordsFrom_hit c [] _ hc, wordsFrom_miss d [] hd]
  simp
theorem nlAt_app : ∀ (a r : List UInt8), (∀ c ∈ a, c ≠ 10) → nlAt (a ++ 10 :: r) = a.length
  | [], r, _ => by simp [nlAt]
  | b :: t, r, h => by rw [List.cons_append, nlAt, if_neg (h b (by simp)), nlAt_app t r (fun c hc => h c (by simp [hc]))]; rfl
/-- a line without its end -/
def lineB (q : Q) : List UInt8 := q.name ++ 32 :: (par q ++ 32 :: (Lib.itoa q.due ++ 32 :: Lib.itoa q.most))
theorem lineL_B (q : Q) : lineL q = lineB q ++ [10] := by simp [lineL, lineB]
theorem okT_take {l : List Q} (h : okT l = true) (k : Nat) : okT (l.take k) = true := by
  cases hk : okT (l.take k) with
  | true => rfl
  | false => rw [okT_take_false hk] at h; exact h
/-- what a queue of a tree has -/
theorem ok_parts {l : List Q} (h : okT l = true) {q : Q} (hq : q ∈ l) : nameOk q.name = true ∧ (q.parent = [] ∨ nameOk q.parent = true) ∧ 0 ≤ q.due ∧ q.due ≤ 1000000000 ∧ 0 ≤ q.most ∧ q.most ≤ 1000000000 := by
  have hk := kid_due (okT_iff.1 h).1
  obtain ⟨a, b, c, d⟩ := hk q hq
  obtain ⟨i, hi, rfl⟩ := List.mem_iff_getElem.1 hq
  have hq2 := (okT_iff.1 h).1 i hi
  simp only [qOk, Bool.and_eq_true, inB, decide_eq_true_eq] at hq2
  refine ⟨a, ?_, b, by omega, by omega, by omega⟩
  rcases d with d | ⟨x, hx, hn⟩
  · exact .inl d
  · exact .inr (hn ▸ (hk x hx).1)
theorem line_reads {l : List Q} (h : okT l = true) {q : Q} (hq : q ∈ l) : lineS (lineB q) = (q, true) ∧ ∀ c ∈ lineB q, c ≠ 10 := by
  obtain ⟨h1, h2, h3, h4, h5, h6⟩ := ok_parts h hq
  have n1 := name_bytes h1
  have p1 : ∀ c ∈ par q, c ≠ 32 ∧ c ≠ 10 := by
    unfold par
    split
    · intro c hc; simp at hc; subst hc; decide
    · rename_i hp
      rcases h2 with e | e
      · exact absurd e hp
      · intro c hc; exact ⟨(name_bytes e c hc).1, (name_bytes e c hc).2.1⟩
  have d1 := fun c hc => isD_bytes (itoa_digits h3 c hc)
  have d2 := fun c hc => isD_bytes (itoa_digits h5 c hc)
  refine ⟨?_, ?_⟩
  · have hw : words (lineB q) = [q.name, par q, Lib.itoa q.due, Lib.itoa q.most] := words_four (fun e => (n1 _ e).1 rfl) (fun e => (p1 _ e).1 rfl) (fun e => (d1 _ e).1 rfl) (fun e => (d2 _ e).1 rfl)
    have hne : par q ≠ [] := by
      unfold par
      split
      · simp
      · assumption
    have hpar : (if par q = [45] then [] else par q) = q.parent := by
      unfold par
      by_cases hp : q.parent = []
      · rw [if_pos hp, if_pos rfl, hp]
      · rw [if_neg hp]
        rw [if_neg]
        intro e
        rcases h2 with e2 | e2
        · exact hp e2
        · exact (name_bytes e2 45 (by rw [e]; simp)).2.2 rfl
    unfold lineS
    rw [hw]
    simp only [qOf, hpar, readDec_itoa h3 h4, readDec_itoa h5 h6, decide_eq_true hne]
  · intro c hc
    simp only [lineB, List.mem_append, List.mem_cons] at hc
    rcases hc with hc | rfl | hc | rfl | hc | rfl | hc
    · exact (n1 c hc).2.1
    · decide
    · exact (p1 c hc).2
    · decide
    · exact (d1 c hc).2
    · decide
    · exact (d2 c hc).2
theorem rd_text_from {x : List Q} (h : okT x = true) (h0 : 0 < x.length) : ∀ (n k : Nat), x.length = k + n → rd (x.take k) (textL (x.drop k)) = (x, 0)
  | 0, k, hk => by
    have e : x.drop k = [] := List.drop_of_length_le (by omega)
    rw [e, List.take_of_length_le (by omega)]
    exact rd_end (fun e => by rw [e] at h0; simp at h0)
  | n + 1, k, hk => by
    have hlt : k < x.length := by omega
    have hq : x[k] ∈ x := List.getElem_mem _
    obtain ⟨r1, r2⟩ := line_reads h hq
    have e : textL (x.drop k) = lineB x[k] ++ 10 :: textL (x.drop (k + 1)) := by
      rw [List.drop_eq_getElem_cons hlt]
      simp only [textL, List.flatMap_cons, lineL_B, List.append_assoc]
      rfl
    have hn := nlAt_app (lineB x[k]) (textL (x.drop (k + 1))) r2
    have ht : (lineB x[k] ++ 10 :: textL (x.drop (k + 1))).take (lineB x[k]).length = lineB x[k] := by simp
    have hd : (lineB x[k] ++ 10 :: textL (x.drop (k + 1))).drop ((lineB x[k]).length + 1) = textL (x.drop (k + 1)) := by
      rw [List.drop_append]; simp
    have hf : fits (x.take k) x[k] = true := by
      have := okT_take_succ (l := x) (k := k) hlt
      rw [okT_take h (k + 1), okT_take h k] at this
      simpa using this.symm
    have hs := rd_step (acc := x.take k) (s := lineB x[k] ++ 10 :: textL (x.drop (k + 1))) (by rw [hn]; simp) (by rw [hn, ht, took, r1]; simpa using hf)
    rw [hn, ht, hd, r1] at hs
    rw [e, hs, ← List.take_succ_eq_append_getElem hlt]
    exact rd_text_from h h0 n (k + 1) (by omega)
theorem rd_text {x : List Q} (h : queuesOk x = true) : rd [] (textL x) = (x, 0) := by
  rw [queuesOk_okT, Bool.and_eq_true, decide_eq_true_eq] at h
  have := rd_text_from h.1 h.2 x.length 0 (by omega)
  simpa using this

theorem nlAt_split : ∀ (s : List UInt8), nlAt s < s.length → s = s.take (nlAt s) ++ 10 :: s.drop (nlAt s + 1)
  | b :: t, h => by
    rw [nlAt] at h ⊢
    split at h
    · rename_i e; rw [if_pos e]; simp [e]
    · rename_i e
      rw [if_neg e]
      have := nlAt_split t (by simpa using h)
      simp only [List.take_succ_cons, List.drop_succ_cons, List.cons_append]
      rw [← this]
theorem took_line {acc : List Q} {s : List UInt8} (h : took acc s = true) : lineL (lineS s).1 = s ++ [10] := by
  have hg := words_glue s []
  simp only [took, Bool.and_eq_true] at h
  obtain ⟨h1, h2⟩ := h
  unfold lineS at *
  split at h1
  · rename_i a b c d hw
    rw [show wordsFrom [] s = words s from rfl, hw] at hg
    simp only [glue, List.nil_append] at hg
    simp only [decide_eq_true_eq] at h1
    simp only [hw] at h2 ⊢
    simp only [fits, Bool.and_eq_true, decide_eq_true_eq, qOf] at h2
    have hdm : 0 ≤ readDec c ∧ readDec c ≤ readDec d ∧ readDec d ≤ 10000 := of_decide_eq_true h2.1.2
    have e1 := itoa_readDec (l := c) (by omega)
    have e2 := itoa_readDec (l := d) (by omega)
    have ep : par (qOf a b c d) = b := by
      unfold par qOf
      by_cases hb : b = [45]
      · simp [hb]
      · simp [hb, h1]
    rw [lineL_B, lineB, ep]
    simp only [qOf, e1, e2]
    rw [hg]
  · simp at h1
theorem readL_back : ∀ (n : Nat) (acc : List Q) (s : List UInt8) (l : List Q), s.length < n → readL n acc s = (l, 0) → textL l = textL acc ++ s
  | 0, _, s, _, h, _ => by omega
  | n + 1, acc, s, l, h, hr => by
    rw [readL] at hr
    split at hr
    · rename_i h1
      simp only [Prod.mk.injEq] at hr
      rw [← hr.1, h1.1]; simp
    · split at hr
      · rename_i h2
        have ih := readL_back n _ _ _ (by simp; omega) hr
        rw [ih]
        have e := nlAt_split s h2.1
        have ht := took_line h2.2
        have e2 : textL (acc ++ [(lineS (s.take (nlAt s))).1]) = textL acc ++ (s.take (nlAt s) ++ [10]) := by
          rw [← ht]; simp [textL]
        rw [e2]
        conv => rhs; rw [e]
        simp
      · simp at hr
theorem rd_back {s : List UInt8} {l : List Q} (h : rd [] s = (l, 0)) : textL l = s := by
  have := readL_back _ _ _ _ (Nat.lt_succ_self _) h
  simpa [textL] using this

theorem noKid_false {nm : List UInt8} : ∀ {l : List Q}, (∃ q ∈ l, q.parent = nm) → noKid nm l = false
  | [], h => by obtain ⟨q, hq, _⟩ := h; cases hq
  | a :: t, h => by
    obtain ⟨q, hq, e⟩ := h
    rw [noKid]
    rcases List.mem_cons.1 hq with rfl | hq
    · simp [e]
    · rw [noKid_false ⟨q, hq, e⟩]; simp
theorem place_name {l : List Q} {nm : List UInt8} : ∀ (n k j : Nat), l.length ≤ k + n → placeFrom nm (l.drop k) k = (j : Int) → ∃ h : j < l.length, l[j].name = nm
  | 0, k, j, hl, h => by rw [placeFrom_end (by omega)] at h; omega
  | n + 1, k, j, hl, h => by
    by_cases hk : k < l.length
    · rw [placeFrom_step hk] at h
      split at h
      · rename_i e
        have : k = j := by omega
        subst this
        exact ⟨hk, e⟩
      · exact place_name n (k + 1) j (by omega) h
    · rw [placeFrom_end (by omega)] at h; omega
/-- a path from a place of a right tree: it ends at the first queue; all but the first of it have kids -/
theorem pathAt_facts {l : List Q} (h : queuesOk l = true) : ∀ (k : Nat) (hk : k < l.length), ∃ r, pathAt l (l.length + 1) k = l[k].name :: r ∧ (l[k].name :: r).getLast? = some (l[0]'(by omega)).name ∧ ∀ x ∈ r, leaf l x = false := by
  intro k
  induction k using Nat.strongRecOn with
  | ind k ih =>
    intro hk
    have hs := path_step h hk (show k < l.length + 1 by omega)
    have ho := ok_at h k hk
    simp only [qOk, Bool.and_eq_true] at ho
    have ho2 := ho.2
    by_cases h0 : k = 0
    · subst h0
      rw [if_pos rfl] at ho2
      simp only [Bool.and_eq_true, decide_eq_true_eq] at ho2
      have hp : place l l[0].parent < 0 := by
        have := parent_ahead h hk
        have h2 := place_range l l[0].parent
        omega
      rw [path_end hp] at hs
      exact ⟨[], hs, by simp, by simp⟩
    · rw [if_neg h0] at ho2
      simp only [inB, decide_eq_true_eq] at ho2
      obtain ⟨j, hj⟩ := Int.eq_ofNat_of_zero_le ho2.1
      rw [hj] at hs ho2
      obtain ⟨hjl, hjn⟩ := place_name (l := l) l.length 0 j (by omega) (by simpa [place] using hj)
      obtain ⟨r, e1, e2, e3⟩ := ih j (by omega) hjl
      rw [e1] at hs
      refine ⟨l[j].name :: r, hs, by rw [List.getLast?_cons_cons]; exact e2, fun x hx => ?_⟩
      rcases List.mem_cons.1 hx with rfl | hx
      · have : noKid l[j].name l = false := noKid_false ⟨l[k], List.getElem_mem _, hjn.symm⟩
        simp [leaf, this]
      · exact e3 x hx
theorem path_facts {l : List Q} {nm : List UInt8} (hne : path l nm ≠ []) : ∃ (h0 : 0 < l.length) (r : List (List UInt8)), path l nm = nm :: r ∧ (nm :: r).getLast? = some l[0].name ∧ ∀ x ∈ r, leaf l x = false := by
  unfold path at *
  by_cases ho : queuesOk l = true
  · rw [if_pos ho] at *
    rcases place_range l nm with hp | ⟨hp1, hp2⟩
    · rw [path_end (by omega)] at hne; exact absurd rfl hne
    · obtain ⟨k, hk⟩ := Int.eq_ofNat_of_zero_le hp1
      rw [hk] at hp2 hne ⊢
      have hkl : k < l.length := by omega
      obtain ⟨_, hn⟩ := place_name (l := l) l.length 0 k (by omega) (by simpa [place] using hk)
      obtain ⟨r, e1, e2, e3⟩ := pathAt_facts ho k hkl
      rw [hn] at e1 e2
      exact ⟨by omega, r, e1, e2, e3⟩
  · rw [if_neg ho] at hne; exact absurd rfl hne
theorem pathAt_len (l : List Q) : ∀ (n : Nat) (p : Int), (pathAt l n p).length ≤ n
  | 0, _ => by simp [pathAt]
  | n + 1, p => by
    rw [pathAt]
    split
    · have := pathAt_len l n (place l l[p.toNat].parent); simp only [List.length_cons]; omega
    · simp
theorem path_len (l : List Q) (nm : List UInt8) : (path l nm).length ≤ l.length + 1 := by
  unfold path
  split
  · exact pathAt_len l _ _
  · simp
/-- what a text is read as: no more than twenty, with short names, and theirs where it is whole -/
theorem rd_facts (t : List UInt8) : (rd [] t).1.length ≤ 20 ∧ (∀ q ∈ (rd [] t).1, q.name.length ≤ 1048576) ∧ ((rd [] t).2 = 0 → qtext (rd [] t).1 = t) := by
  have hok : okT (rd [] t).1 = true := readL_ok _ _ _ rfl
  refine ⟨okT_len hok, fun q hq => ?_, fun h0 => ?_⟩
  · have := okT_names hok q hq
    simp only [nameOk, inB, Bool.and_eq_true, decide_eq_true_eq] at this
    omega
  · have hne : (rd [] t).1 ≠ [] := readL_zero (t.length + 1) [] t (by omega) h0
    have hq : queuesOk (rd [] t).1 = true := by
      rw [queuesOk_okT, hok]
      cases hr : (rd [] t).1 with
      | nil => exact absurd hr hne
      | cons a r => simp
    rw [qtext, if_pos hq]
    exact rd_back (Prod.ext rfl h0)
/-- the text of queues: none where they are no tree, else they come back -/
theorem text_facts (x : List Q) : (queuesOk x = false → qtext x = []) ∧ (queuesOk x = true → rd [] (qtext x) = (x, 0)) :=
  ⟨fun h => by rw [qtext, h]; simp, fun h => by rw [qtext, if_pos h]; exact rd_text h⟩
end Go.Proofs.YtebaejokhpdbkaaGreatDoor
