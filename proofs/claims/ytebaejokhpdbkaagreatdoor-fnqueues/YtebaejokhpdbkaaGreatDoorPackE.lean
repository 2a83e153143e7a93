/-
  Several texts of this claim in one: WordsM, ReadDecS, ReadM, LeafS, DigM (pack.py put them together); each says in its own remark what is proved.
-/
import Derived.Test.YtebaejokhpdbkaaGreatDoorPackA
import Derived.Lib.Split
import Derived.Lib.SplitLaws
import Derived.Lib.Strings
import Derived.WideShapes
import Derived.Test.YtebaejokhpdbkaaGreatDoorDec
import Derived.Test.YtebaejokhpdbkaaGreatDoorPackC
import Derived.Test.YtebaejokhpdbkaaGreatDoorQueuesOkS
import Derived.Lib.ItoaLen
/-
  The parts of a text between blanks, as plain mathematics: no Go.
-/
namespace Go.Proofs.YtebaejokhpdbkaaGreatDoor
set_option linter.unusedVariables false

/-- the parts, the first of which has begun -/
def wordsFrom : List UInt8 → List UInt8 → List (List UInt8)
  | cur, [] => [cur]
  | cur, b :: t => if b = 32 then cur :: wordsFrom [] t else wordsFrom (cur ++ [b]) t
def words (l : List UInt8) : List (List UInt8) := wordsFrom [] l
def wordsB (l : List UInt8) : List ByteArray := (words l).map bs
theorem wordsFrom_hit : ∀ (a cur r : List UInt8), (32 : UInt8) ∉ a → wordsFrom cur (a ++ 32 :: r) = (cur ++ a) :: wordsFrom [] r
  | [], cur, r, _ => by simp [wordsFrom]
  | b :: a, cur, r, h => by
    have hb : b ≠ 32 := fun e => h (by simp [e])
    have ha : (32 : UInt8) ∉ a := fun e => h (by simp [e])
    simp only [List.cons_append, wordsFrom, if_neg hb]
    rw [wordsFrom_hit a (cur ++ [b]) r ha]; simp
theorem wordsFrom_miss : ∀ (l cur : List UInt8), (32 : UInt8) ∉ l → wordsFrom cur l = [cur ++ l]
  | [], cur, _ => by simp [wordsFrom]
  | b :: a, cur, h => by
    have hb : b ≠ 32 := fun e => h (by simp [e])
    have ha : (32 : UInt8) ∉ a := fun e => h (by simp [e])
    simp only [wordsFrom, if_neg hb]
    rw [wordsFrom_miss a (cur ++ [b]) ha]; simp
theorem wordsFrom_len : ∀ (l cur : List UInt8), 1 ≤ (wordsFrom cur l).length ∧ (wordsFrom cur l).length ≤ l.length + 1
  | [], cur => by simp [wordsFrom]
  | b :: t, cur => by
    simp only [wordsFrom]
    split
    · have := wordsFrom_len t []; simp only [List.length_cons]; omega
    · have := wordsFrom_len t (cur ++ [b]); simp only [List.length_cons]; omega
theorem wordsB_len (l : List UInt8) : 1 ≤ (wordsB l).length ∧ (wordsB l).length ≤ l.length + 1 := by
  rw [wordsB, List.length_map]; exact wordsFrom_len l []
/-- where the first blank stands -/
theorem index_blank : ∀ l : List UInt8, (Lib.index l [32] = -1 ∧ (32 : UInt8) ∉ l) ∨ ∃ i : Nat, Lib.index l [32] = i ∧ (32 : UInt8) ∉ l.take i ∧ l = l.take i ++ 32 :: l.drop (i + 1)
  | [] => .inl ⟨by simp [Lib.index], by simp⟩
  | b :: l => by
    by_cases hb : b = 32
    · subst hb
      refine .inr ⟨0, ?_, by simp, by simp⟩
      simp [Lib.index]
    · have hp : List.isPrefixOf [32] (b :: l) = false := by simp [List.isPrefixOf]; exact fun e => hb e.symm
      rcases index_blank l with ⟨h1, h2⟩ | ⟨i, h1, h2, h3⟩
      · refine .inl ⟨?_, by simp [h2]; exact fun e => hb e.symm⟩
        rw [Lib.index, hp, h1]; rfl
      · refine .inr ⟨i + 1, ?_, ?_, ?_⟩
        · rw [Lib.index, hp, h1]
          have : ¬ ((i : Int) == -1) = true := by simp
          simp only [if_neg this]; simp
        · simp [h2]; exact fun e => hb e.symm
        · simp only [List.take_succ_cons, List.cons_append, List.drop_succ_cons]
          rw [← h3]
def blank : ByteArray := ⟨#[32]⟩
theorem split_words : ∀ (k : Nat) (s : ByteArray), Lib.countB s blank = k → (Lib.splitB blank 0 k s).map (·.data.toList) = words s.data.toList := by
  intro k
  induction k with
  | zero =>
    intro s h
    rcases index_blank s.data.toList with ⟨h1, h2⟩ | ⟨i, h1, _, _⟩
    · rw [Lib.splitB_miss blank 0 0 s h1, words, wordsFrom_miss _ _ h2]; simp
    · rw [Lib.countB_hit s blank i (by decide) h1] at h
      omega
  | succ k ih =>
    intro s h
    rcases index_blank s.data.toList with ⟨h1, h2⟩ | ⟨i, h1, h2, h3⟩
    · rw [Lib.countB_miss s blank h1] at h; omega
    · rw [Lib.countB_hit s blank i (by decide) h1] at h
      rw [Lib.splitB_hit blank 0 k s i h1, List.map_cons, ih _ (by omega), Lib.extract_from_zero, Lib.extract_to_end]
      rw [words, words]
      rw (occs := .pos [3]) [h3]
      rw [wordsFrom_hit _ _ _ h2]
      simp [blank, ByteArray.size]
theorem map_bs {xs : List ByteArray} {ys : List (List UInt8)} (h : xs.map (·.data.toList) = ys) : xs = ys.map bs := by
  subst h
  rw [List.map_map]
  conv => lhs; rw [← List.map_id xs]
  apply List.map_congr_left
  intro x _
  exact WideShapes.bytes_inj (by simp [bs])
theorem splitB_words (s : ByteArray) : Lib.splitB blank 0 (Lib.countB s blank) s = wordsB s.data.toList := map_bs (split_words _ s rfl)
theorem count_words (s : ByteArray) : Lib.countB s blank + 1 = (wordsB s.data.toList).length := by
  rw [← splitB_words, Lib.splitB_all blank (by decide) 0 _ s rfl]
end Go.Proofs.YtebaejokhpdbkaaGreatDoor

/-
  What the model's ReadDec answers: the number of 0 .. 1000000000 whose numeral the text is, or -1; a walk over the dump.
-/
namespace Go.Proofs.YtebaejokhpdbkaaGreatDoor
open Go.RowKit

def isD (c : UInt8) : Bool := inB c.toNat 48 57
theorem isD_iff {c : UInt8} : isD c = true ↔ 48 ≤ c.toNat ∧ c.toNat ≤ 57 := by simp only [isD, inB, decide_eq_true_eq]; omega
def val (l : List UInt8) : Nat := l.foldl (fun n c => 10 * n + (c.toNat - 48)) 0
theorem val_nil : val [] = 0 := rfl
theorem val_snoc (l : List UInt8) (c : UInt8) : val (l ++ [c]) = 10 * val l + (c.toNat - 48) := by simp [val]
theorem snoc_cases (l : List UInt8) : l = [] ∨ ∃ l' c, l = l' ++ [c] := by
  by_cases h : l = []
  · exact .inl h
  · exact .inr ⟨l.dropLast, l.getLast h, (List.dropLast_concat_getLast h).symm⟩
theorem val_lt : ∀ (n : Nat) (l : List UInt8), l.length = n → l.all isD = true → val l < 10 ^ n := by
  intro n
  induction n with
  | zero => intro l hl _; rw [List.length_eq_zero_iff.1 hl]; simp [val]
  | succ n ih =>
    intro l hl ha
    rcases snoc_cases l with rfl | ⟨l', c, rfl⟩
    · simp at hl
    · simp only [List.all_append, Bool.and_eq_true, List.length_append, List.length_cons, List.length_nil] at ha hl
      have h1 := ih l' (by omega) ha.1
      have h2 : isD c = true := by simpa using ha.2
      rw [isD_iff] at h2
      rw [val_snoc, Nat.pow_succ]
      omega
theorem val_bound {l : List UInt8} (hl : l.length ≤ 10) (ha : l.all isD = true) : val l < 10000000000 := by
  have h := val_lt _ l rfl ha
  have h2 : 10 ^ l.length ≤ 10 ^ 10 := Nat.pow_le_pow_right (by decide) hl
  omega
theorem digit_back {c : UInt8} (h : isD c = true) : UInt8.ofNat (48 + (c.toNat - 48)) = c := by
  rw [isD_iff] at h
  rw [show 48 + (c.toNat - 48) = c.toNat from by omega]; simp
/-- a nought ahead of other digits -/
def noughtAhead (l : List UInt8) : Bool := l.head? == some 48 && decide (1 < l.length)
theorem head_zero : ∀ u : Nat, (Lib.decDigits u).head? = some 48 → u = 0 := by
  intro u
  induction u using Nat.strongRecOn with
  | _ u ih =>
    intro h
    rw [Lib.decDigits] at h
    by_cases h10 : u < 10
    · rw [dif_pos h10] at h
      simp only [List.head?_cons, Option.some.injEq] at h
      have h' := congrArg UInt8.toNat h
      rw [UInt8.toNat_ofNat'] at h'
      rw [show (48 : UInt8).toNat = 48 from rfl] at h'
      omega
    · rw [dif_neg h10] at h
      have hl := Lib.decDigits_length (u / 10)
      have hp := Lib.nDigits_pos (u / 10)
      cases hd : Lib.decDigits (u / 10) with
      | nil => rw [hd] at hl; simp at hl; omega
      | cons a t =>
        rw [hd] at h
        have := ih (u / 10) (by omega) (by rw [hd]; simpa using h)
        omega
theorem dec_val : ∀ (n : Nat) (l : List UInt8), l.length = n → 1 ≤ n → l.all isD = true → noughtAhead l = false → Lib.decDigits (val l) = l := by
  intro n
  induction n with
  | zero => intro l _ h; omega
  | succ n ih =>
    intro l hl _ ha hz
    rcases snoc_cases l with rfl | ⟨l', c, rfl⟩
    · simp at hl
    · simp only [List.all_append, Bool.and_eq_true, List.length_append, List.length_cons, List.length_nil] at ha hl
      have h2 : isD c = true := by simpa using ha.2
      have h3 := isD_iff.1 h2
      rw [val_snoc]
      cases l' with
      | nil =>
        rw [val_nil, Lib.decDigits, dif_pos (by omega)]
        simp only [List.nil_append, List.cons.injEq, and_true]
        have := digit_back h2
        simpa using this
      | cons a t =>
        have hne : a ≠ 48 := by
          intro e; subst e
          simp [noughtAhead] at hz
        have hz' : noughtAhead (a :: t) = false := by simp [noughtAhead, hne]
        have e := ih (a :: t) (by simpa using hl) (by simp at hl; omega) ha.1 hz'
        have hv : val (a :: t) ≠ 0 := by
          intro h0
          rw [h0] at e
          have e0 : Lib.decDigits 0 = [48] := by rw [Lib.decDigits]; rfl
          rw [e0] at e
          simp at e
          exact hne e.1.symm
        rw [Lib.decDigits, dif_neg (by omega)]
        rw [show (10 * val (a :: t) + (c.toNat - 48)) / 10 = val (a :: t) from by omega, show (10 * val (a :: t) + (c.toNat - 48)) % 10 = c.toNat - 48 from by omega, e, digit_back h2]
theorem dec_val_iff {l : List UInt8} (h1 : 1 ≤ l.length) (ha : l.all isD = true) : Lib.decDigits (val l) = l ↔ noughtAhead l = false := by
  constructor
  · intro e
    cases hz : noughtAhead l with
    | false => rfl
    | true =>
      simp only [noughtAhead, Bool.and_eq_true, beq_iff_eq, decide_eq_true_eq] at hz
      have h0 := head_zero (val l) (by rw [e]; exact hz.1)
      rw [h0] at e
      have e0 : Lib.decDigits 0 = [48] := by rw [Lib.decDigits]; rfl
      rw [e0] at e
      rw [← e] at hz
      simp at hz
  · exact dec_val _ l rfl h1 ha

def readOk (l : List UInt8) : Bool := inB l.length 1 10 && l.all isD && !noughtAhead l && decide (val l ≤ 1000000000)
def readDec (l : List UInt8) : Int := if readOk l = true then (val l : Int) else -1
theorem readDec_yes {l : List UInt8} (h1 : 1 ≤ l.length) (h2 : l.length ≤ 10) (ha : l.all isD = true) (hz : noughtAhead l = false) (hv : val l ≤ 1000000000) : readDec l = val l := by
  rw [readDec, if_pos]; simp [readOk, inB, ha, hz, hv]; omega
theorem readDec_no {l : List UInt8} (h : l.length < 1 ∨ 10 < l.length ∨ l.all isD = false ∨ noughtAhead l = true ∨ 1000000000 < val l) : readDec l = -1 := by
  rw [readDec, if_neg]
  simp only [readOk, inB, Bool.and_eq_true, decide_eq_true_eq, Bool.not_eq_true']
  rintro ⟨⟨⟨a, b⟩, c⟩, d⟩
  rcases h with h | h | h | h | h
  · omega
  · omega
  · rw [b] at h; cases h
  · rw [c] at h; cases h
  · omega

theorem d_snoc (s : ByteArray) (k : Nat) (h : k < s.size) (h1 : (s.data.toList.take k).all isD = true) (h2 : isD s[k] = true) : (s.data.toList.take (k + 1)).all isD = true := all_snoc s k h isD h1 h2
theorem v_snoc (s : ByteArray) (k : Nat) (h : k < s.size) : val (s.data.toList.take (k + 1)) = 10 * val (s.data.toList.take k) + (s[k].toNat - 48) := by rw [take_snoc s k h, val_snoc]




def vk (s : ByteArray) (k : Nat) : Nat := val (s.data.toList.take k)
theorem vk_zero (s : ByteArray) : vk s 0 = 0 := by simp [vk, val]
theorem vk_succ (s : ByteArray) (k : Nat) (h : k < s.size) : vk s (k + 1) = 10 * vk s k + (s[k].toNat - 48) := v_snoc s k h
theorem vk_all (s : ByteArray) (k : Nat) (h : s.size ≤ k) : vk s k = val s.data.toList := by rw [vk, take_all s k h]

set_option maxHeartbeats 1000000 in
theorem specReadDec_any (s : ByteArray) (w : World) (hs : s.size ≤ 1048576) :
    Calls Tryz.prog 56 #[.string s] w fun e w' => e = .returned (.int .i64 (readDec s.data.toList)) ∧ w' = w := by
  go_enter Tryz.func56, Tryz.ntmps56
  go_wp2
  go_loop [3, 4] (fun n i => ∃ k : Nat, k ≤ s.size ∧ (10 < s.size → k = 0) ∧ i = .int .i64 k ∧ n = .int .i64 (vk s k) ∧ (s.data.toList.take k).all isD = true) (fun _ i => s.size - (intOf i).toNat)
  case atStart => exact ⟨0, Nat.zero_le _, fun _ => rfl, rfl, by rw [vk_zero]; rfl, by simp⟩
  case round =>
    obtain ⟨k, hk, hk10, rfl, rfl, hall⟩ := hrel
    have hvb : vk s k < 10000000000 := by
      by_cases h10 : 10 < s.size
      · rw [hk10 h10, vk_zero]; omega
      · exact val_bound (by rw [List.length_take]; have := len_eq s; omega) hall
    have HK := hide hk10
    have HA := hide hall
    clear hall hk10
    by_cases hlt : k < s.size
    · have hb : (s[k].toNat : Int) ≤ 255 := byte_le _
      by_cases h1 : 48 ≤ (s[k].toNat : Int) ∧ (s[k].toNat : Int) ≤ 57
      · have e1 : inB (s[k].toNat : Int) 48 57 = true := inB_true h1.1 h1.2
        obtain ⟨h1a, h1b⟩ := h1
        by_cases h10 : 10 < s.size
        · have hf : Hid (readDec s.data.toList = -1) := hide (readDec_no (by rw [len_eq]; omega))
          go_wp2_with (go_at_call 36; refine (l01In_any _ _ _ _).mono ?_; rintro e w' ⟨rfl, rfl⟩)
          go_ret
          exact ⟨ret_int (unhide hf).symm, rfl⟩
        · go_wp2_with (go_at_call 36; refine (l01In_any _ _ _ _).mono ?_; rintro e w' ⟨rfl, rfl⟩)
          go_round
          case rel => exact ⟨k + 1, by omega, by omega, by go_num, by rw [vk_succ s k hlt]; go_num, d_snoc s k hlt (unhide HA) e1⟩
          case measure => simp [intOf]; omega
      · have e1 : inB (s[k].toNat : Int) 48 57 = false := inB_false h1
        clear h1
        have hf : Hid (readDec s.data.toList = -1) := hide (readDec_no (.inr (.inr (.inl (not_all s k hlt isD e1)))))
        go_wp2_with (go_at_call 36; refine (l01In_any _ _ _ _).mono ?_; rintro e w' ⟨rfl, rfl⟩)
        go_ret
        exact ⟨ret_int (unhide hf).symm, rfl⟩
    · have hfull : Hid (s.data.toList.all isD = true) := hide (by rw [← take_all s k (by omega)]; exact unhide HA)
      have hvv : Hid (vk s k = val s.data.toList) := hide (vk_all s k (by omega))
      by_cases h0 : s.size = 0
      · have he : s.toList.isEmpty = true := str_empty h0
        have hf : Hid (readDec s.data.toList = -1) := hide (readDec_no (.inl (by rw [len_eq]; omega)))
        go_wp2
        go_ret
        exact ⟨ret_int (unhide hf).symm, rfl⟩
      · have he : s.toList.isEmpty = false := str_full h0
        by_cases hv : 1000000000 < (vk s k : Int)
        · have hf : Hid (readDec s.data.toList = -1) := hide (readDec_no (.inr (.inr (.inr (.inr (by rw [← unhide hvv]; omega))))))
          go_wp2
          go_ret
          exact ⟨ret_int (unhide hf).symm, rfl⟩
        · have hin : Hid (10 < s.size → s.size = 0) := hide (fun h => by have := unhide HK h; omega)
          have h10 : ¬ 10 < s.size := fun h => h0 (unhide hin h)
          cases hz : noughtAhead s.data.toList with
          | false =>
            have hq : ((bs (Lib.itoa (vk s k : Int))).toList == s.toList) = true := str_same (by rw [Lib.itoa_nonneg, unhide hvv]; exact (dec_val_iff (by rw [len_eq]; omega) (unhide hfull)).2 hz)
            have hf : Hid (readDec s.data.toList = (vk s k : Int)) := hide (by rw [unhide hvv]; exact readDec_yes (by rw [len_eq]; omega) (by rw [len_eq]; omega) (unhide hfull) hz (by rw [← unhide hvv]; omega))
            clear hz
            go_wp2_with fail
            refine (specDecText_any _ _ (by omega) (by omega)).mono ?_
            rintro e w' ⟨rfl, rfl⟩
            go_wp2
            go_ret
            exact ⟨ret_int (unhide hf).symm, rfl⟩
          | true =>
            have hq : ((bs (Lib.itoa (vk s k : Int))).toList == s.toList) = false := str_other (by rw [Lib.itoa_nonneg, unhide hvv]; intro e; rw [(dec_val_iff (by rw [len_eq]; omega) (unhide hfull)).1 e] at hz; cases hz)
            have hf : Hid (readDec s.data.toList = -1) := hide (readDec_no (.inr (.inr (.inr (.inl hz)))))
            clear hz
            go_wp2_with fail
            refine (specDecText_any _ _ (by omega) (by omega)).mono ?_
            rintro e w' ⟨rfl, rfl⟩
            go_wp2
            go_ret
            exact ⟨ret_int (unhide hf).symm, rfl⟩
end Go.Proofs.YtebaejokhpdbkaaGreatDoor

/-
  Queues read from their text, a line each: in plain words.
-/
namespace Go.Proofs.YtebaejokhpdbkaaGreatDoor
open Go.RowKit
set_option linter.unusedVariables false

def zq : Q := ⟨[], [], 0, 0⟩
/-- the queue of four words -/
def qOf (a b c d : List UInt8) : Q := ⟨a, if b = [45] then [] else b, readDec c, readDec d⟩
/-- the queue of a line, as the model reads it -/
def lineS (s : List UInt8) : Q × Bool := match words s with
  | [a, b, c, d] => (qOf a b c d, decide (b ≠ []))
  | _ => (zq, false)
/-- the queue of a line, as the program reads it -/
def lineI (s : List UInt8) : Q × Bool := match words s with
  | [a, b, c, d] => if b = [45] ∨ nameOk b = true then (qOf a b c d, true) else (zq, false)
  | _ => (zq, false)
/-- a line that tells one more queue of the tree -/
def took (acc : List Q) (s : List UInt8) : Bool := (lineS s).2 && fits acc (lineS s).1
theorem okT_names {l : List Q} (h : okT l = true) : ∀ q ∈ l, nameOk q.name = true := fun q hq => (kid_due (okT_iff.1 h).1 q hq).1
theorem fits_parent {l : List Q} {q : Q} (h : okT l = true) (hf : fits l q = true) : q.parent = [] ∨ nameOk q.parent = true := by
  simp only [fits, Bool.and_eq_true] at hf
  have h2 := hf.2
  by_cases h0 : l.length = 0
  · rw [if_pos h0] at h2
    simp only [decide_eq_true_eq] at h2
    exact .inl h2.1
  · rw [if_neg h0] at h2
    simp only [decide_eq_true_eq] at h2
    obtain ⟨x, hx, hn⟩ := place_has h2.1
    exact .inr (hn ▸ okT_names h x hx)
theorem took_I {acc : List Q} (h : okT acc = true) (s : List UInt8) : ((lineI s).2 && fits acc (lineI s).1) = took acc s ∧ (took acc s = true → (lineI s).1 = (lineS s).1) := by
  unfold took lineI lineS
  split
  · rename_i a b c d _
    by_cases hb : b = [45] ∨ nameOk b = true
    · rw [if_pos hb]
      have : b ≠ [] := by
        rcases hb with e | e
        · rw [e]; simp
        · exact nameOk_ne e
      simp [this]
    · rw [if_neg hb]
      have : fits acc (qOf a b c d) = false ∨ b = [] := by
        refine Classical.byContradiction fun hc => ?_
        have hc1 : fits acc (qOf a b c d) = true := by
          cases hf : fits acc (qOf a b c d) with
          | true => rfl
          | false => exact absurd (.inl hf) hc
        have h45 : ¬ b = [45] := fun e => hb (.inl e)
        rcases fits_parent h hc1 with e | e
        · simp only [qOf, if_neg h45] at e
          exact hc (.inr e)
        · simp only [qOf, if_neg h45] at e
          exact hb (.inr e)
      rcases this with e | e
      · simp [e]
      · simp [e]
  · simp
/-- where the first end of a line stands; the length where there is none -/
def nlAt : List UInt8 → Nat
  | [] => 0
  | b :: t => if b = 10 then 0 else nlAt t + 1
theorem nlAt_le : ∀ l : List UInt8, nlAt l ≤ l.length
  | [] => Nat.le_refl _
  | b :: t => by rw [nlAt]; split <;> simp; exact nlAt_le t
theorem nlAt_hit : ∀ (l : List UInt8) (k : Nat) (h : k < l.length), (∀ j (hj : j < k), l[j]'(by omega) ≠ 10) → l[k] = 10 → nlAt l = k
  | b :: t, 0, _, _, e => by simp at e; simp [nlAt, e]
  | b :: t, k + 1, h, hn, e => by
    have h0 := hn 0 (by omega)
    simp at h0
    rw [nlAt, if_neg h0, nlAt_hit t k (by simpa using h) (fun j hj => by have := hn (j + 1) (by omega); simpa using this) (by simpa using e)]
theorem nlAt_none : ∀ (l : List UInt8), (∀ j (hj : j < l.length), l[j] ≠ 10) → nlAt l = l.length
  | [], _ => rfl
  | b :: t, hn => by
    have h0 := hn 0 (by simp)
    simp at h0
    rw [nlAt, if_neg h0, nlAt_none t (fun j hj => by have := hn (j + 1) (by simpa using hj); simpa using this)]; rfl
/-- the lines of s, behind what has been read -/
def readL : Nat → List Q → List UInt8 → List Q × Nat
  | 0, _, _ => ([], 0)
  | n + 1, acc, s => if s = [] ∧ acc ≠ [] then (acc, 0)
    else if nlAt s < s.length ∧ took acc (s.take (nlAt s)) = true then readL n (acc ++ [(lineS (s.take (nlAt s))).1]) (s.drop (nlAt s + 1))
    else ([], acc.length + 1)
def rd (acc : List Q) (s : List UInt8) : List Q × Nat := readL (s.length + 1) acc s
theorem readL_more : ∀ (n m : Nat) (acc : List Q) (s : List UInt8), s.length < n → s.length < m → readL n acc s = readL m acc s
  | 0, _, _, _, h, _ => by omega
  | _ + 1, 0, _, _, _, h => by omega
  | n + 1, m + 1, acc, s, h1, h2 => by
    rw [readL, readL]
    split
    · rfl
    · split
      · rw [readL_more n m _ _ (by simp; omega) (by simp; omega)]
      · rfl
theorem rd_end {acc : List Q} (h : acc ≠ []) : rd acc [] = (acc, 0) := by rw [rd, readL, if_pos ⟨rfl, h⟩]
theorem rd_bad {acc : List Q} {s : List UInt8} (h : ¬ (s = [] ∧ acc ≠ [])) (h2 : ¬ (nlAt s < s.length ∧ took acc (s.take (nlAt s)) = true)) : rd acc s = ([], acc.length + 1) := by
  rw [rd, readL, if_neg h, if_neg h2]
theorem rd_step {acc : List Q} {s : List UInt8} (h : nlAt s < s.length) (h2 : took acc (s.take (nlAt s)) = true) : rd acc s = rd (acc ++ [(lineS (s.take (nlAt s))).1]) (s.drop (nlAt s + 1)) := by
  have hne : ¬ (s = [] ∧ acc ≠ []) := fun e => by rw [e.1] at h; simp at h
  rw [rd, readL, if_neg hne, if_pos ⟨h, h2⟩, rd, readL_more s.length ((s.drop (nlAt s + 1)).length + 1) _ _ (by simp; omega) (by omega)]
theorem took_ok {acc : List Q} {s : List UInt8} (h : okT acc = true) (h2 : took acc s = true) : okT (acc ++ [(lineS s).1]) = true := by
  rw [okT_snoc, h]
  simp only [took, Bool.and_eq_true] at h2
  exact h2.2
theorem took_len {acc : List Q} {s : List UInt8} (h2 : took acc s = true) : acc.length < 20 := by
  simp only [took, fits, Bool.and_eq_true, decide_eq_true_eq] at h2
  exact h2.2.1.1.1.1
theorem readL_ok : ∀ (n : Nat) (acc : List Q) (s : List UInt8), okT acc = true → okT (readL n acc s).1 = true
  | 0, _, _, _ => rfl
  | n + 1, acc, s, h => by
    rw [readL]
    split
    · exact h
    · split
      · rename_i h2
        exact readL_ok n _ _ (took_ok h h2.2)
      · rfl
theorem readL_zero : ∀ (n : Nat) (acc : List Q) (s : List UInt8), s.length < n → (readL n acc s).2 = 0 → (readL n acc s).1 ≠ []
  | 0, _, s, h => by omega
  | n + 1, acc, s, h => by
    rw [readL]
    split
    · rename_i h1; intro _; exact h1.2
    · split
      · rename_i h2
        exact readL_zero n _ _ (by simp; omega)
      · intro e; simp at e
end Go.Proofs.YtebaejokhpdbkaaGreatDoor

/-
  Whether a queue is nobody's parent: what the model's Leaf answers; a walk over the dump.
-/
namespace Go.Proofs.YtebaejokhpdbkaaGreatDoor
open Go.RowKit
set_option linter.unusedVariables false

def noKid (nm : List UInt8) : List Q → Bool
  | [] => true
  | q :: t => decide (q.parent ≠ nm) && noKid nm t
def leaf (l : List Q) (nm : List UInt8) : Bool := noKid nm l && (queuesOk l && decide (0 ≤ place l nm))
theorem noKid_step {nm : List UInt8} {l : List Q} {k : Nat} (h : k < l.length) : noKid nm (l.drop k) = (decide (l[k].parent ≠ nm) && noKid nm (l.drop (k + 1))) := by
  rw [List.drop_eq_getElem_cons h, noKid]
theorem noKid_end {nm : List UInt8} {l : List Q} {k : Nat} (h : l.length ≤ k) : noKid nm (l.drop k) = true := by
  rw [List.drop_of_length_le h]; rfl

set_option maxRecDepth 100000 in
set_option maxHeartbeats 1000000 in
theorem specLeaf_any (ao : Option Addr) (len cap : Nat) (l : List Q) (nm : List UInt8) (w : World) (h : QRow w ao len l) (hl : len ≤ 1048576) (hn : ∀ q ∈ l, q.name.length ≤ 1048576) :
    Calls Tryz.prog 19 #[.slice ao len cap, .string (bs nm)] w fun e w' => e = .returned (.bool (leaf l nm)) ∧ Below w.heap.size w w' := by
  have HR := hide h
  have HL := hide h.1
  have HN := hide hn
  clear h hn
  go_enter Tryz.func19, Tryz.ntmps19
  go_wp2
  go_loopw [5] (fun i wr => ∃ k : Nat, k ≤ len ∧ i = .int .i64 k ∧ Hid (noKid nm l = noKid nm (l.drop k)) ∧ wr = w) (fun i _ => len - (intOf i).toNat)
  case atStart => exact ⟨0, Nat.zero_le _, rfl, hide (by simp), rfl⟩
  case round =>
    obtain ⟨k, hk, rfl, hp, rfl⟩ := hrel
    by_cases hlt : k < len
    · obtain ⟨b, off, rfl, hq⟩ := (unhide HR).at hlt
      have hkl : k < l.length := by have := unhide HL; omega
      have hst := hide (noKid_step (nm := nm) (l := l) (k := k) hkl)
      have hq0 := (hq hkl).2.1
      clear hq
      obtain ⟨s, hs⟩ : ∃ s, l[k].parent = s := ⟨_, rfl⟩
      rw [hs] at hq0 hst
      have hbe := bs_eq s nm
      clear hs hkl
      by_cases he : s = nm
      · have HE := hide he
        rw [decide_eq_true he] at hbe
        clear he
        go_wp2
        go_ret
        exact ⟨ret_bool (by rw [leaf, unhide hp, unhide hst]; simp [unhide HE]), Below.refl _ _⟩
      · have HE := hide he
        rw [decide_eq_false he] at hbe
        clear he
        go_wp2
        go_roundw
        case rel => exact ⟨k + 1, by omega, by go_num, hide (by rw [unhide hp, unhide hst]; simp [unhide HE]), trivial⟩
        case measure => simp [intOf]; omega
    · have hk2 := hide (show leaf l nm = (queuesOk l && decide (0 ≤ place l nm)) by rw [leaf, unhide hp, noKid_end (by have := unhide HL; omega)]; rfl)
      have CQ := hide (specQueuesOk_any ao len cap l wr (unhide HR) hl (unhide HN))
      obtain ⟨o, ho⟩ : ∃ o, queuesOk l = o := ⟨_, rfl⟩
      obtain ⟨p, hp2⟩ : ∃ p, place l nm = p := ⟨_, rfl⟩
      rw [ho] at CQ hk2
      have CP := hide (fun wx (hb : Below wr.heap.size wr wx) => by have := l03Place_any ao len cap l nm wx ((unhide HR).below hb) hl; rw [hp2] at this; exact this)
      rw [hp2] at hk2
      clear ho hp2 hp
      go_wp2_with fail
      refine (unhide CQ).mono ?_
      rintro e w1 ⟨rfl, hb⟩
      have HB := hide hb
      clear hb CQ
      cases o with
      | false =>
        go_wp2
        go_ret
        exact ⟨ret_bool (by rw [unhide hk2]; rfl), unhide HB⟩
      | true =>
        go_wp2_with fail
        refine (unhide CP _ (unhide HB)).mono ?_
        rintro e w2 ⟨rfl, rfl⟩
        by_cases h0 : 0 ≤ p
        · go_wp2
          go_ret
          exact ⟨ret_bool (by rw [unhide hk2]; simp [h0]), unhide HB⟩
        · go_wp2
          go_ret
          exact ⟨ret_bool (by rw [unhide hk2]; simp), unhide HB⟩
end Go.Proofs.YtebaejokhpdbkaaGreatDoor

/-
  A number and its decimal text: one comes back from the other; in plain words.
-/
namespace Go.Proofs.YtebaejokhpdbkaaGreatDoor
open Go.RowKit
set_option linter.unusedVariables false

theorem digs (u : Nat) : (Lib.decDigits u).all isD = true ∧ val (Lib.decDigits u) = u := by
  induction u using Nat.strongRecOn with
  | _ u ih =>
    rw [Lib.decDigits]
    by_cases h : u < 10
    · rw [dif_pos h]
      have e : (UInt8.ofNat (48 + u)).toNat = 48 + u := by rw [UInt8.toNat_ofNat']; omega
      refine ⟨?_, ?_⟩
      · rw [List.all_cons, List.all_nil, Bool.and_true, isD_iff, e]; omega
      · simp only [val, List.foldl_cons, List.foldl_nil, e]; omega
    · rw [dif_neg h]
      obtain ⟨i1, i2⟩ := ih (u / 10) (by omega)
      have e : (UInt8.ofNat (48 + u % 10)).toNat = 48 + u % 10 := by rw [UInt8.toNat_ofNat']; omega
      refine ⟨?_, ?_⟩
      · rw [List.all_append, i1, List.all_cons, List.all_nil, Bool.and_true, Bool.true_and, isD_iff, e]; omega
      · rw [val_snoc, i2, e]; omega
theorem nDigits_le : ∀ (k u : Nat), u < 10 ^ (k + 1) → Lib.nDigits u ≤ k + 1
  | 0, u, h => by rw [Lib.nDigits_small (by simpa using h)]; exact Nat.le_refl _
  | k + 1, u, h => by
    by_cases h10 : u < 10
    · rw [Lib.nDigits_small h10]; omega
    · rw [Lib.nDigits_big h10]
      have := nDigits_le k (u / 10) (by rw [Nat.pow_succ] at h; omega)
      omega
theorem readDec_itoa {a : Int} (h0 : 0 ≤ a) (h1 : a ≤ 1000000000) : readDec (Lib.itoa a) = a := by
  obtain ⟨u, rfl⟩ := Int.eq_ofNat_of_zero_le h0
  rw [Lib.itoa_nonneg]
  obtain ⟨d1, d2⟩ := digs u
  have hp := Lib.nDigits_pos u
  have hl := Lib.decDigits_length u
  have hz : noughtAhead (Lib.decDigits u) = false := (dec_val_iff (by omega) d1).1 (by rw [d2])
  have h10 : (Lib.decDigits u).length ≤ 10 := by
    rw [hl]
    exact nDigits_le 9 u (by omega)
  rw [readDec_yes (by omega) h10 d1 hz (by rw [d2]; omega), d2]
theorem itoa_readDec {l : List UInt8} (h : 0 ≤ readDec l) : Lib.itoa (readDec l) = l := by
  unfold readDec at *
  by_cases ho : readOk l = true
  · rw [if_pos ho] at *
    simp only [readOk, Bool.and_eq_true, decide_eq_true_eq, Bool.not_eq_true'] at ho
    obtain ⟨⟨⟨h1, h2⟩, h3⟩, h4⟩ := ho
    have h1' : 1 ≤ l.length := by simp only [inB, decide_eq_true_eq] at h1; omega
    rw [Lib.itoa_nonneg, (dec_val_iff h1' h2).2 h3]
  · rw [if_neg ho] at h; omega
/-- a number's text has digits alone -/
theorem itoa_digits {a : Int} (h0 : 0 ≤ a) : ∀ c ∈ Lib.itoa a, isD c = true := by
  obtain ⟨u, rfl⟩ := Int.eq_ofNat_of_zero_le h0
  rw [Lib.itoa_nonneg]
  exact fun c hc => List.all_eq_true.1 (digs u).1 c hc
end Go.Proofs.YtebaejokhpdbkaaGreatDoor
