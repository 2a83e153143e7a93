/-
  Several texts of this claim in one: TxtM, PlaceM, Place, QSum, In, All, NameS, QueuesOkM, PathM, FitsM, LineM (pack.py put them together); each says in its own remark what is proved.
-/
import Derived.Test.YtebaejokhpdbkaaGreatDoorPackA
import Derived.Test.YtebaejokhpdbkaaGreatDoorDecM
import Derived.Lib.ItoaLen
/-
  Texts as lists of bytes.
-/
namespace Go.Proofs.YtebaejokhpdbkaaGreatDoor
set_option linter.unusedVariables false

theorem bs_back (s : ByteArray) : bs s.data.toList = s := by simp [bs]
theorem bs_eq (l m : List UInt8) : ((bs l).toList == (bs m).toList) = decide (l = m) := by
  rw [ByteArray.toList_eq, ByteArray.toList_eq]
  by_cases h : l = m
  · subst h; simp
  · simp [bs, h]
theorem bs_empty (l : List UInt8) : (bs l).toList.isEmpty = decide (l = []) := by
  rw [ByteArray.toList_eq]
  cases l <;> simp [bs]
end Go.Proofs.YtebaejokhpdbkaaGreatDoor

/-
  Where a queue stands, in plain words; texts held against each other.
-/
namespace Go.Proofs.YtebaejokhpdbkaaGreatDoor
open Go.RowKit
set_option linter.unusedVariables false

/-- the place of the first queue of that name, from place k on; -1 where there is none -/
def placeFrom (nm : List UInt8) : List Q → Nat → Int
  | [], _ => -1
  | q :: t, k => if q.name = nm then k else placeFrom nm t (k + 1)
def place (l : List Q) (nm : List UInt8) : Int := placeFrom nm l 0
theorem placeFrom_step {nm : List UInt8} {l : List Q} {k : Nat} (h : k < l.length) : placeFrom nm (l.drop k) k = if l[k].name = nm then (k : Int) else placeFrom nm (l.drop (k + 1)) (k + 1) := by
  rw [List.drop_eq_getElem_cons h, placeFrom]
theorem placeFrom_end {nm : List UInt8} {l : List Q} {k : Nat} (h : l.length ≤ k) : placeFrom nm (l.drop k) k = -1 := by
  rw [List.drop_of_length_le h]; rfl
end Go.Proofs.YtebaejokhpdbkaaGreatDoor

/-
  Where a queue stands: what the model's l03Place answers; a walk over the dump.
-/
namespace Go.Proofs.YtebaejokhpdbkaaGreatDoor
open Go.RowKit
set_option linter.unusedVariables false

set_option maxRecDepth 100000 in
set_option maxHeartbeats 1000000 in
theorem l03Place_any (ao : Option Addr) (len cap : Nat) (l : List Q) (nm : List UInt8) (w : World) (h : QRow w ao len l) (hl : len ≤ 1048576) :
    Calls Tryz.prog 32 #[.slice ao len cap, .string (bs nm)] w fun e w' => e = .returned (.int .i64 (place l nm)) ∧ w = w' := by
  have HR := hide h
  have HL := hide h.1
  clear h
  go_enter Tryz.func32, Tryz.ntmps32
  go_wp2
  go_loopw [5] (fun i wr => ∃ k : Nat, k ≤ len ∧ i = .int .i64 k ∧ Hid (place l nm = placeFrom nm (l.drop k) k) ∧ wr = w) (fun i _ => len - (intOf i).toNat)
  case atStart => exact ⟨0, Nat.zero_le _, rfl, hide (by simp [place]), rfl⟩
  case round =>
    obtain ⟨k, hk, rfl, hp, rfl⟩ := hrel
    by_cases hlt : k < len
    · obtain ⟨b, off, rfl, hq⟩ := (unhide HR).at hlt
      have hkl : k < l.length := by have := unhide HL; omega
      have hst := hide (placeFrom_step (nm := nm) (l := l) (k := k) hkl)
      have hq0 := (hq hkl).1
      clear hq
      obtain ⟨s, hs⟩ : ∃ s, l[k].name = s := ⟨_, rfl⟩
      rw [hs] at hq0 hst
      have hbe := bs_eq s nm
      clear hs hkl
      by_cases he : s = nm
      · have HE := hide he
        rw [decide_eq_true he] at hbe
        clear he
        go_wp2
        go_ret
        exact ⟨ret_int (by rw [unhide hp, unhide hst, if_pos (unhide HE)]), rfl⟩
      · have HE := hide he
        rw [decide_eq_false he] at hbe
        clear he
        go_wp2
        go_roundw
        case rel => exact ⟨k + 1, by omega, by go_num, hide (by rw [unhide hp, unhide hst, if_neg (unhide HE)]), trivial⟩
        case measure => simp [intOf]; omega
    · go_wp2
      go_ret
      exact ⟨ret_int (by rw [unhide hp, placeFrom_end (by have := unhide HL; omega)]), rfl⟩
end Go.Proofs.YtebaejokhpdbkaaGreatDoor

/-
  What is due to the kids of a queue together: what the model's l03Sum answers; a walk over the dump.
-/
namespace Go.Proofs.YtebaejokhpdbkaaGreatDoor
open Go.RowKit
set_option linter.unusedVariables false

/-- what is due together of those of that parent -/
def dueSum (nm : List UInt8) : List Q → Int
  | [] => 0
  | q :: t => (if q.parent = nm then q.due else 0) + dueSum nm t
/-- of the kids of a queue: the first one is nobody's kid -/
def kidsSum (l : List Q) (nm : List UInt8) : Int := dueSum nm (l.drop 1)
theorem dueSum_step {nm : List UInt8} {l : List Q} {k : Nat} (h : k < l.length) : dueSum nm (l.drop k) = (if l[k].parent = nm then l[k].due else 0) + dueSum nm (l.drop (k + 1)) := by
  rw [List.drop_eq_getElem_cons h, dueSum]
theorem dueSum_end {nm : List UInt8} {l : List Q} {k : Nat} (h : l.length ≤ k) : dueSum nm (l.drop k) = 0 := by
  rw [List.drop_of_length_le h]; rfl

set_option maxRecDepth 100000 in
set_option maxHeartbeats 1000000 in
theorem l03Sum_any (ao : Option Addr) (len cap : Nat) (l : List Q) (nm : List UInt8) (w : World) (h : QRow w ao len l) (hl : len ≤ 1048576) (hd : ∀ q ∈ l, 0 ≤ q.due ∧ q.due ≤ 10000) :
    Calls Tryz.prog 37 #[.slice ao len cap, .string (bs nm)] w fun e w' => e = .returned (.int .i64 (kidsSum l nm)) ∧ w = w' := by
  have HR := hide h
  have HL := hide h.1
  have HD := hide hd
  clear h hd
  go_enter Tryz.func37, Tryz.ntmps37
  go_wp2
  go_loopw [5, 6] (fun s i wr => ∃ (k : Nat) (a : Int), 1 ≤ k ∧ k ≤ len + 1 ∧ i = .int .i64 k ∧ s = .int .i64 a ∧ 0 ≤ a ∧ a ≤ 10000 * k ∧ Hid (kidsSum l nm = a + dueSum nm (l.drop k)) ∧ wr = w) (fun _ i _ => len + 1 - (intOf i).toNat)
  case atStart => exact ⟨1, 0, by omega, by omega, rfl, rfl, by omega, by omega, hide (by simp [kidsSum]), rfl⟩
  case round =>
    obtain ⟨k, a, hk1, hk, rfl, rfl, ha0, ha1, hp, rfl⟩ := hrel
    by_cases hlt : k < len
    · obtain ⟨b, off, rfl, hq⟩ := (unhide HR).at hlt
      have hkl : k < l.length := by have := unhide HL; omega
      have hst := hide (dueSum_step (nm := nm) (l := l) (k := k) hkl)
      have hq1 := (hq hkl).2.1
      have hq2 := (hq hkl).2.2.1
      obtain ⟨d0, d1⟩ := unhide HD l[k] (List.getElem_mem _)
      clear hq
      obtain ⟨s, hs⟩ : ∃ s, l[k].parent = s := ⟨_, rfl⟩
      obtain ⟨d, hdd⟩ : ∃ d, l[k].due = d := ⟨_, rfl⟩
      rw [hs] at hq1 hst
      rw [hdd] at hq2 hst d0 d1
      have hbe := bs_eq s nm
      clear hs hdd hkl
      by_cases he : s = nm
      · have HE := hide he
        rw [decide_eq_true he] at hbe
        clear he
        go_wp2
        go_roundw
        case rel => exact ⟨k + 1, a + d, by omega, by omega, by go_num, by go_num, by omega, by omega, hide (by rw [unhide hp, unhide hst, if_pos (unhide HE)]; omega), trivial⟩
        case measure => simp [intOf]; omega
      · have HE := hide he
        rw [decide_eq_false he] at hbe
        clear he
        go_wp2
        go_roundw
        case rel => exact ⟨k + 1, a, by omega, by omega, by go_num, rfl, by omega, by omega, hide (by rw [unhide hp, unhide hst, if_neg (unhide HE)]; omega), trivial⟩
        case measure => simp [intOf]; omega
    · go_wp2
      go_ret
      exact ⟨ret_int (by rw [unhide hp, dueSum_end (by have := unhide HL; omega)]; omega), rfl⟩
end Go.Proofs.YtebaejokhpdbkaaGreatDoor

/-
  What the model's l01In answers: whether a number lies between two.
-/
namespace Go.Proofs.YtebaejokhpdbkaaGreatDoor
open Go.RowKit

set_option maxHeartbeats 400000 in
theorem l01In_any (x a b : Int) (w : World) :
    Calls Tryz.prog 36 #[.int .i64 x, .int .i64 a, .int .i64 b] w fun e w' => e = .returned (.bool (inB x a b)) ∧ w = w' := by
  by_cases h1 : a ≤ x
  · by_cases h2 : x ≤ b
    · go_enter Tryz.func36, Tryz.ntmps36
      go_wp2
      go_ret
      exact ⟨ret_bool (inB_true h1 h2).symm, rfl⟩
    · go_enter Tryz.func36, Tryz.ntmps36
      go_wp2
      go_ret
      exact ⟨ret_bool (inB_false (by omega)).symm, rfl⟩
  · go_enter Tryz.func36, Tryz.ntmps36
    go_wp2
    go_ret
    exact ⟨ret_bool (inB_false (by omega)).symm, rfl⟩
end Go.Proofs.YtebaejokhpdbkaaGreatDoor

/-
  Properties of all bytes of a text.
-/
namespace Go.Proofs.YtebaejokhpdbkaaGreatDoor
open Go.RowKit

theorem all_snoc (s : ByteArray) (k : Nat) (h : k < s.size) (p : UInt8 → Bool) (h1 : (s.data.toList.take k).all p = true) (h2 : p s[k] = true) : (s.data.toList.take (k + 1)).all p = true := by
  rw [take_snoc s k h, List.all_append, h1]; simpa using h2
theorem not_all (s : ByteArray) (k : Nat) (h : k < s.size) (p : UInt8 → Bool) (h2 : p s[k] = false) : s.data.toList.all p = false := by
  rw [List.all_eq_false]
  exact ⟨s[k], by simp [ByteArray.getElem_eq_getElem_data], by simp [h2]⟩
end Go.Proofs.YtebaejokhpdbkaaGreatDoor

/-
  What the model's NameOk answers; a walk over the dump.
-/
namespace Go.Proofs.YtebaejokhpdbkaaGreatDoor
open Go.RowKit

/-- a small letter or a digit -/
def nameB (c : UInt8) : Bool := inB c.toNat 97 122 || inB c.toNat 48 57
def nameOk (l : List UInt8) : Bool := inB l.length 1 10 && l.all nameB


set_option maxHeartbeats 800000 in
theorem specNameOk_any (s : ByteArray) (w : World) (hs : s.size ≤ 1048576) :
    Calls Tryz.prog 35 #[.string s] w fun e w' => e = .returned (.bool (nameOk s.data.toList)) ∧ w' = w := by
  go_enter Tryz.func35, Tryz.ntmps35
  go_wp2
  go_loop [3] (fun i => ∃ k : Nat, k ≤ s.size ∧ i = .int .i64 k ∧ (s.data.toList.take k).all nameB = true) (fun i => s.size - (intOf i).toNat)
  case atStart => exact ⟨0, Nat.zero_le _, rfl, by simp⟩
  case round =>
    obtain ⟨k, hk, rfl, hall⟩ := hrel
    have HA := hide hall
    clear hall
    by_cases hlt : k < s.size
    · have hb : (s[k].toNat : Int) ≤ 255 := byte_le _
      by_cases h1 : 97 ≤ (s[k].toNat : Int) ∧ (s[k].toNat : Int) ≤ 122
      · have e1 : inB (s[k].toNat : Int) 97 122 = true := inB_true h1.1 h1.2
        clear h1
        go_wp2_with (go_at_call 36; refine (l01In_any _ _ _ _).mono ?_; rintro e w' ⟨rfl, rfl⟩)
        go_round
        case rel => exact ⟨k + 1, by omega, by go_num, all_snoc s k hlt _ (unhide HA) (by simp [nameB, e1])⟩
        case measure => simp [intOf]; omega
      · have e1 : inB (s[k].toNat : Int) 97 122 = false := inB_false h1
        clear h1
        by_cases h2 : 48 ≤ (s[k].toNat : Int) ∧ (s[k].toNat : Int) ≤ 57
        · have e2 : inB (s[k].toNat : Int) 48 57 = true := inB_true h2.1 h2.2
          clear h2
          go_wp2_with (go_at_call 36; refine (l01In_any _ _ _ _).mono ?_; rintro e w' ⟨rfl, rfl⟩)
          go_round
          case rel => exact ⟨k + 1, by omega, by go_num, all_snoc s k hlt _ (unhide HA) (by simp [nameB, e1, e2])⟩
          case measure => simp [intOf]; omega
        · have e2 : inB (s[k].toNat : Int) 48 57 = false := inB_false h2
          clear h2
          have hf : Hid (nameOk s.data.toList = false) := hide (by rw [nameOk, not_all s k hlt nameB (by simp [nameB, e1, e2])]; simp)
          go_wp2_with (go_at_call 36; refine (l01In_any _ _ _ _).mono ?_; rintro e w' ⟨rfl, rfl⟩)
          go_ret
          exact ⟨ret_bool (unhide hf).symm, rfl⟩
    · have hf : Hid (nameOk s.data.toList = inB (s.size : Int) 1 10) := hide (by rw [nameOk, ← take_all s k (by omega), unhide HA, take_all s k (by omega), len_eq]; simp)
      go_wp2_with (go_at_call 36; refine (l01In_any _ _ _ _).mono ?_; rintro e w' ⟨rfl, rfl⟩)
      go_ret
      exact ⟨ret_bool (unhide hf).symm, rfl⟩
end Go.Proofs.YtebaejokhpdbkaaGreatDoor

/-
  A tree of queues: what is asked of it, in plain words.
-/
namespace Go.Proofs.YtebaejokhpdbkaaGreatDoor
open Go.RowKit
set_option linter.unusedVariables false

/-- a queue at place k of l is as it must be -/
def qOk (l : List Q) (k : Nat) (q : Q) : Bool :=
  nameOk q.name && decide (place l q.name = k) && inB q.most 0 10000 && inB q.due 0 q.most
    && (if k = 0 then decide (q.parent = []) && decide (q.due = 10000) else inB (place l q.parent) 0 ((k : Int) - 1))
def okFrom (l : List Q) : List Q → Nat → Bool
  | [], _ => true
  | q :: t, k => qOk l k q && okFrom l t (k + 1)
def sumsOk (l : List Q) : List Q → Bool
  | [] => true
  | q :: t => decide (kidsSum l q.name ≤ 10000) && sumsOk l t
def queuesOk (l : List Q) : Bool := okFrom l l 0 && sumsOk l l && inB l.length 1 20
theorem okFrom_step {l : List Q} {k : Nat} (h : k < l.length) : okFrom l (l.drop k) k = (qOk l k l[k] && okFrom l (l.drop (k + 1)) (k + 1)) := by
  rw [List.drop_eq_getElem_cons h, okFrom]
theorem okFrom_end {l : List Q} {k : Nat} (h : l.length ≤ k) : okFrom l (l.drop k) k = true := by
  rw [List.drop_of_length_le h]; rfl
theorem sumsOk_step {l : List Q} {k : Nat} (h : k < l.length) : sumsOk l (l.drop k) = (decide (kidsSum l l[k].name ≤ 10000) && sumsOk l (l.drop (k + 1))) := by
  rw [List.drop_eq_getElem_cons h, sumsOk]
theorem sumsOk_end {l : List Q} {k : Nat} (h : l.length ≤ k) : sumsOk l (l.drop k) = true := by
  rw [List.drop_of_length_le h]; rfl
theorem okFrom_due {l : List Q} : ∀ (m : List Q) (k : Nat), okFrom l m k = true → ∀ q ∈ m, 0 ≤ q.due ∧ q.due ≤ 10000
  | [], _, _, q, h => by simp at h
  | x :: t, k, h, q, hq => by
    rw [okFrom, Bool.and_eq_true] at h
    rcases List.mem_cons.1 hq with rfl | hq
    · have := h.1
      simp only [qOk, inB, Bool.and_eq_true, decide_eq_true_eq] at this
      omega
    · exact okFrom_due t (k + 1) h.2 q hq
theorem ok_no1 {l : List Q} (h : okFrom l l 0 = false) : queuesOk l = false := by simp [queuesOk, h]
theorem ok_no2 {l : List Q} (h : sumsOk l l = false) : queuesOk l = false := by simp [queuesOk, h]
theorem ok_yes {l : List Q} (h1 : okFrom l l 0 = true) (h2 : sumsOk l l = true) : queuesOk l = inB l.length 1 20 := by simp [queuesOk, h1, h2]
end Go.Proofs.YtebaejokhpdbkaaGreatDoor

/-
  The queue, its parent, and so on up to the first one: in plain words.
-/
namespace Go.Proofs.YtebaejokhpdbkaaGreatDoor
open Go.RowKit
set_option linter.unusedVariables false

theorem placeFrom_range (nm : List UInt8) : ∀ (l : List Q) (k : Nat), placeFrom nm l k = -1 ∨ ((k : Int) ≤ placeFrom nm l k ∧ placeFrom nm l k < k + l.length)
  | [], _ => .inl rfl
  | q :: t, k => by
    rw [placeFrom]
    split
    · right; simp; omega
    · rcases placeFrom_range nm t (k + 1) with h | h
      · exact .inl h
      · right; simp; omega
theorem place_range (l : List Q) (nm : List UInt8) : place l nm = -1 ∨ (0 ≤ place l nm ∧ place l nm < l.length) := by
  rcases placeFrom_range nm l 0 with h | h
  · exact .inl h
  · right; unfold place; simp at h; omega
theorem placeFrom_none {nm : List UInt8} : ∀ {l : List Q} {k : Nat}, (∀ q ∈ l, q.name ≠ nm) → placeFrom nm l k = -1
  | [], _, _ => rfl
  | q :: t, k, h => by
    rw [placeFrom, if_neg (h q (by simp))]
    exact placeFrom_none (fun x hx => h x (by simp [hx]))
theorem okFrom_at {l : List Q} : ∀ (m : List Q) (k : Nat), okFrom l m k = true → ∀ i (h : i < m.length), qOk l (k + i) m[i] = true
  | [], _, _, i, h => by simp at h
  | x :: t, k, ho, i, h => by
    rw [okFrom, Bool.and_eq_true] at ho
    cases i with
    | zero => simpa using ho.1
    | succ j =>
      have := okFrom_at t (k + 1) ho.2 j (by simpa using h)
      rw [show k + 1 + j = k + (j + 1) by omega] at this
      simpa using this
theorem ok_at {l : List Q} (h : queuesOk l = true) (i : Nat) (hi : i < l.length) : qOk l i l[i] = true := by
  have h1 : okFrom l l 0 = true := by simp only [queuesOk, Bool.and_eq_true] at h; exact h.1.1
  have := okFrom_at l 0 h1 i hi
  simpa using this
theorem ok_named {l : List Q} (h : queuesOk l = true) : ∀ q ∈ l, q.name ≠ [] := fun q hq e => by
  obtain ⟨i, hi, rfl⟩ := List.mem_iff_getElem.1 hq
  have := ok_at h i hi
  simp [qOk, nameOk, e, inB] at this
/-- whoever's parent stands ahead of it -/
theorem parent_ahead {l : List Q} (h : queuesOk l = true) {i : Nat} (hi : i < l.length) : place l l[i].parent < i := by
  have h1 := ok_at h i hi
  simp only [qOk, Bool.and_eq_true] at h1
  have h2 := h1.2
  by_cases h0 : i = 0
  · rw [if_pos h0] at h2
    simp only [Bool.and_eq_true, decide_eq_true_eq] at h2
    rw [h2.1]
    have : place l [] = -1 := placeFrom_none (ok_named h)
    omega
  · rw [if_neg h0] at h2
    simp only [inB, decide_eq_true_eq] at h2
    omega
/-- from place p on, up to the first one, in at most n steps -/
def pathAt (l : List Q) : Nat → Int → List (List UInt8)
  | 0, _ => []
  | n + 1, p => if h : 0 ≤ p ∧ p.toNat < l.length then l[p.toNat].name :: pathAt l n (place l l[p.toNat].parent) else []
def path (l : List Q) (nm : List UInt8) : List (List UInt8) := if queuesOk l then pathAt l (l.length + 1) (place l nm) else []
theorem pathAt_more {l : List Q} (h : queuesOk l = true) : ∀ (n m : Nat) (p : Int), p < n → p < m → pathAt l n p = pathAt l m p
  | 0, 0, _, _, _ => rfl
  | 0, m + 1, p, h1, h2 => by rw [pathAt, pathAt, dif_neg (by omega)]
  | n + 1, 0, p, h1, h2 => by rw [pathAt, pathAt, dif_neg (by omega)]
  | n + 1, m + 1, p, h1, h2 => by
    rw [pathAt, pathAt]
    split
    · rename_i hp
      have := parent_ahead h hp.2
      rw [pathAt_more h n m _ (by omega) (by omega)]
    · rfl
theorem path_step {l : List Q} (h : queuesOk l = true) {k n : Nat} (hk : k < l.length) (hn : k < n) : pathAt l n k = l[k].name :: pathAt l n (place l l[k].parent) := by
  cases n with
  | zero => omega
  | succ n =>
    have hp := parent_ahead h hk
    rw [pathAt, dif_pos (by simp; exact hk)]
    simp only [Int.toNat_natCast]
    rw [pathAt_more h n (n + 1) _ (by omega) (by omega)]
theorem path_end {l : List Q} {n : Nat} {p : Int} (hp : p < 0) : pathAt l n p = [] := by
  cases n with
  | zero => rfl
  | succ n => rw [pathAt, dif_neg (by omega)]
end Go.Proofs.YtebaejokhpdbkaaGreatDoor

/-
  A tree of queues, one queue at a time: what is asked of one more behind a tree, in plain words.
-/
namespace Go.Proofs.YtebaejokhpdbkaaGreatDoor
open Go.RowKit
set_option linter.unusedVariables false

/-- a tree of queues, or nothing, is one with this one behind it -/
def fits (l : List Q) (q : Q) : Bool :=
  decide (l.length < 20) && nameOk q.name && decide (place l q.name < 0) && decide (0 ≤ q.due ∧ q.due ≤ q.most ∧ q.most ≤ 10000)
    && (if l.length = 0 then decide (q.parent = [] ∧ q.due = 10000 ∧ q.most = 10000) else decide (0 ≤ place l q.parent ∧ dueSum q.parent l + q.due ≤ 10000))
/-- a tree of queues, or nothing -/
def okT (l : List Q) : Bool := okFrom l l 0 && sumsOk l l && decide (l.length ≤ 20)
theorem placeFrom_snoc (nm : List UInt8) (q : Q) : ∀ (l : List Q) (k : Nat), placeFrom nm (l ++ [q]) k = if placeFrom nm l k < 0 then (if q.name = nm then ((k + l.length : Nat) : Int) else -1) else placeFrom nm l k
  | [], k => by simp [placeFrom]
  | x :: t, k => by
    rw [List.cons_append, placeFrom, placeFrom]
    by_cases h : x.name = nm
    · rw [if_pos h, if_pos h, if_neg (by omega)]
    · rw [if_neg h, if_neg h, placeFrom_snoc nm q t (k + 1)]
      simp only [List.length_cons, show k + 1 + t.length = k + (t.length + 1) by omega]
theorem place_snoc (l : List Q) (q : Q) (nm : List UInt8) : place (l ++ [q]) nm = if place l nm < 0 then (if q.name = nm then (l.length : Int) else -1) else place l nm := by
  unfold place
  rw [placeFrom_snoc, Nat.zero_add]
theorem placeFrom_mem {nm : List UInt8} : ∀ {l : List Q} {k : Nat}, (∃ q ∈ l, q.name = nm) → 0 ≤ placeFrom nm l k
  | [], _, h => by obtain ⟨q, hq, _⟩ := h; simp at hq
  | x :: t, k, h => by
    rw [placeFrom]
    by_cases e : x.name = nm
    · rw [if_pos e]; omega
    · rw [if_neg e]
      obtain ⟨q, hq, hn⟩ := h
      rcases List.mem_cons.1 hq with rfl | hq
      · exact absurd hn e
      · exact placeFrom_mem ⟨q, hq, hn⟩
theorem place_mem {l : List Q} {nm : List UInt8} (h : ∃ q ∈ l, q.name = nm) : 0 ≤ place l nm := placeFrom_mem h
theorem place_has {l : List Q} {nm : List UInt8} (h : 0 ≤ place l nm) : ∃ q ∈ l, q.name = nm := by
  refine Classical.byContradiction fun hc => ?_
  have : place l nm = -1 := placeFrom_none (fun q hq e => hc ⟨q, hq, e⟩)
  omega
theorem place_not {l : List Q} {nm : List UInt8} (h : place l nm < 0) : ∀ q ∈ l, q.name ≠ nm := fun q hq e => by
  have := place_mem (l := l) (nm := nm) ⟨q, hq, e⟩
  omega
theorem dueSum_append (nm : List UInt8) (q : Q) : ∀ l : List Q, dueSum nm (l ++ [q]) = dueSum nm l + (if q.parent = nm then q.due else 0)
  | [] => by simp [dueSum]
  | x :: t => by rw [List.cons_append, dueSum, dueSum, dueSum_append nm q t]; omega
theorem kidsSum_snoc (l : List Q) (q : Q) (nm : List UInt8) (h : 0 < l.length) : kidsSum (l ++ [q]) nm = kidsSum l nm + (if q.parent = nm then q.due else 0) := by
  cases l with
  | nil => simp at h
  | cons x t => exact dueSum_append nm q t
theorem dueSum_zero {nm : List UInt8} : ∀ {l : List Q}, (∀ q ∈ l, q.parent ≠ nm) → dueSum nm l = 0
  | [], _ => rfl
  | x :: t, h => by rw [dueSum, if_neg (h x (by simp)), dueSum_zero (fun q hq => h q (by simp [hq]))]; omega
theorem okFrom_iff {l : List Q} : ∀ (m : List Q) (k : Nat), okFrom l m k = true ↔ ∀ i (h : i < m.length), qOk l (k + i) m[i] = true
  | [], k => by simp [okFrom]
  | x :: t, k => by
    constructor
    · exact okFrom_at (x :: t) k
    · intro h
      rw [okFrom, Bool.and_eq_true]
      refine ⟨by have := h 0 (by simp); rw [Nat.add_zero] at this; exact this, (okFrom_iff t (k + 1)).2 fun i hi => ?_⟩
      have := h (i + 1) (by simpa using hi)
      rw [show k + 1 + i = k + (i + 1) by omega]
      simpa using this
theorem sumsOk_iff {l : List Q} : ∀ (m : List Q), sumsOk l m = true ↔ ∀ q ∈ m, kidsSum l q.name ≤ 10000
  | [] => by simp [sumsOk]
  | x :: t => by rw [sumsOk, Bool.and_eq_true, sumsOk_iff t]; simp
theorem okT_iff {l : List Q} : okT l = true ↔ (∀ i (h : i < l.length), qOk l i l[i] = true) ∧ (∀ q ∈ l, kidsSum l q.name ≤ 10000) ∧ l.length ≤ 20 := by
  rw [okT, Bool.and_eq_true, Bool.and_eq_true, okFrom_iff l 0, sumsOk_iff l, and_assoc]
  simp
theorem queuesOk_okT (l : List Q) : queuesOk l = (okT l && decide (0 < l.length)) := by
  rw [queuesOk, okT]
  cases okFrom l l 0 <;> cases sumsOk l l <;> simp [inB]
  rw [Bool.eq_iff_iff]; simp; omega
theorem qOk_snoc {l : List Q} {q : Q} {i : Nat} (hi : i < l.length) : qOk (l ++ [q]) i l[i] = qOk l i l[i] := by
  have h1 : 0 ≤ place l l[i].name := place_mem ⟨l[i], List.getElem_mem _, rfl⟩
  have h2 : place (l ++ [q]) l[i].name = place l l[i].name := by rw [place_snoc, if_neg (by omega)]
  have h3 : inB (place (l ++ [q]) l[i].parent) 0 ((i : Int) - 1) = inB (place l l[i].parent) 0 ((i : Int) - 1) := by
    rw [place_snoc]
    by_cases h : place l l[i].parent < 0
    · rw [if_pos h]
      simp only [inB]
      rw [decide_eq_false (p := 0 ≤ place l l[i].parent ∧ _) (by omega)]
      refine decide_eq_false ?_
      split <;> omega
    · rw [if_neg h]
  simp only [qOk, h2, h3]
theorem kid_due {l : List Q} (h : ∀ i (h : i < l.length), qOk l i l[i] = true) : ∀ q ∈ l, nameOk q.name = true ∧ 0 ≤ q.due ∧ q.due ≤ 10000 ∧ (q.parent = [] ∨ ∃ x ∈ l, x.name = q.parent) := fun q hq => by
  obtain ⟨i, hi, rfl⟩ := List.mem_iff_getElem.1 hq
  have := h i hi
  simp only [qOk, Bool.and_eq_true, decide_eq_true_eq, inB] at this
  obtain ⟨⟨⟨⟨a1, a2⟩, a3⟩, a4⟩, a5⟩ := this
  refine ⟨a1, a4.1, by omega, ?_⟩
  by_cases e : i = 0
  · rw [if_pos e] at a5
    simp only [Bool.and_eq_true, decide_eq_true_eq] at a5
    exact .inl a5.1
  · rw [if_neg e] at a5
    simp only [decide_eq_true_eq] at a5
    exact .inr (place_has a5.1)
theorem nameOk_ne {n : List UInt8} (h : nameOk n = true) : n ≠ [] := fun e => by simp [nameOk, e, inB] at h
theorem okT_snoc (l : List Q) (q : Q) : okT (l ++ [q]) = (okT l && fits l q) := by
  rw [Bool.eq_iff_iff, Bool.and_eq_true, okT_iff, okT_iff]
  have hA : (∀ i (h : i < (l ++ [q]).length), qOk (l ++ [q]) i (l ++ [q])[i] = true) ↔ (∀ i (h : i < l.length), qOk l i l[i] = true) ∧ qOk (l ++ [q]) l.length q = true := by
    constructor
    · intro h
      refine ⟨fun i hi => ?_, ?_⟩
      · have := h i (by simp; omega)
        rw [List.getElem_append_left hi, qOk_snoc hi] at this
        exact this
      · have := h l.length (by simp)
        simpa using this
    · rintro ⟨h1, h2⟩ i hi
      by_cases e : i < l.length
      · rw [List.getElem_append_left e, qOk_snoc e]; exact h1 i e
      · have : i = l.length := by simp at hi; omega
        subst this
        simpa using h2
  rw [hA]
  have hP : qOk (l ++ [q]) l.length q = true ↔ nameOk q.name = true ∧ place l q.name < 0 ∧ (0 ≤ q.due ∧ q.due ≤ q.most ∧ q.most ≤ 10000) ∧ (if l.length = 0 then q.parent = [] ∧ q.due = 10000 else 0 ≤ place l q.parent) := by
    simp only [qOk, Bool.and_eq_true, decide_eq_true_eq, inB]
    have e1 : place (l ++ [q]) q.name = (l.length : Int) ↔ place l q.name < 0 := by
      rw [place_snoc]
      have := place_range l q.name
      by_cases h : place l q.name < 0
      · simp [h]
      · rw [if_neg h]; constructor <;> intro _ <;> omega
    rw [e1]
    by_cases h0 : l.length = 0
    · rw [if_pos h0, if_pos h0]
      simp only [Bool.and_eq_true, decide_eq_true_eq]
      constructor
      · rintro ⟨⟨⟨⟨a, b⟩, c⟩, d⟩, e⟩; exact ⟨a, b, by omega, e⟩
      · rintro ⟨a, b, c, e⟩; exact ⟨⟨⟨⟨a, b⟩, by omega⟩, by omega⟩, e⟩
    · rw [if_neg h0, if_neg h0]
      simp only [decide_eq_true_eq]
      have e2 : (0 ≤ place (l ++ [q]) q.parent ∧ place (l ++ [q]) q.parent ≤ (l.length : Int) - 1) ↔ 0 ≤ place l q.parent := by
        rw [place_snoc]
        have := place_range l q.parent
        by_cases h : place l q.parent < 0
        · rw [if_pos h]; constructor
          · intro h'; split at h' <;> omega
          · intro h'; omega
        · rw [if_neg h]; constructor <;> intro _ <;> omega
      rw [e2]
      constructor
      · rintro ⟨⟨⟨⟨a, b⟩, c⟩, d⟩, e⟩; exact ⟨a, b, by omega, e⟩
      · rintro ⟨a, b, c, e⟩; exact ⟨⟨⟨⟨a, b⟩, by omega⟩, by omega⟩, e⟩
  have hF : fits l q = true ↔ l.length < 20 ∧ nameOk q.name = true ∧ place l q.name < 0 ∧ (0 ≤ q.due ∧ q.due ≤ q.most ∧ q.most ≤ 10000) ∧ (if l.length = 0 then q.parent = [] ∧ q.due = 10000 ∧ q.most = 10000 else 0 ≤ place l q.parent ∧ dueSum q.parent l + q.due ≤ 10000) := by
    by_cases h0 : l.length = 0 <;> simp only [fits, h0, if_true, if_false, Bool.and_eq_true, decide_eq_true_eq, and_assoc]
  rw [hP, hF]
  by_cases h0 : l.length = 0
  · have hl : l = [] := List.eq_nil_of_length_eq_zero h0
    subst hl
    simp only [List.length_nil, if_true, List.nil_append, List.length_cons, List.mem_singleton, forall_eq]
    have hk : kidsSum [q] q.name = 0 := rfl
    rw [hk]
    constructor
    · rintro ⟨⟨_, a, b, c, d, e⟩, _⟩
      exact ⟨⟨fun i hi => by simp at hi, fun x hx => by simp at hx, by omega⟩, by omega, a, b, c, d, e, by omega⟩
    · rintro ⟨_, _, a, b, c, d, e, f⟩
      exact ⟨⟨fun i hi => by simp at hi, a, b, c, d, e⟩, by omega, by omega⟩
  · rw [if_neg h0, if_neg h0]
    have hlp : 0 < l.length := by omega
    constructor
    · rintro ⟨⟨h1, a, b, c, d⟩, h2, h3⟩
      have hk := kid_due h1
      have h4 : ∀ x ∈ l, kidsSum l x.name + (if q.parent = x.name then q.due else 0) ≤ 10000 := fun x hx => by
        have := h2 x (by simp [hx])
        rwa [kidsSum_snoc l q x.name hlp] at this
      refine ⟨⟨h1, fun x hx => ?_, by simp at h3; omega⟩, by simp at h3; omega, a, b, c, d, ?_⟩
      · have := h4 x hx
        split at this <;> omega
      · obtain ⟨x, hx, hn⟩ := place_has d
        have := h4 x hx
        rw [hn, if_pos rfl] at this
        have hd : dueSum q.parent l = kidsSum l q.parent := by
          cases l with
          | nil => simp at hlp
          | cons y t =>
            show dueSum q.parent (y :: t) = dueSum q.parent t
            rw [dueSum, if_neg, Int.zero_add]
            intro e
            have hy := h1 0 (by simp)
            simp only [qOk, List.getElem_cons_zero, if_true, Bool.and_eq_true, decide_eq_true_eq] at hy
            exact nameOk_ne (hk x hx).1 (by rw [hn, ← e, hy.2.1])
        omega
    · rintro ⟨⟨h1, h2, h3⟩, h4, a, b, c, d, e⟩
      have hk := kid_due h1
      have hd : kidsSum l q.parent ≤ dueSum q.parent l := by
        cases l with
        | nil => simp at hlp
        | cons y t =>
          show dueSum q.parent t ≤ dueSum q.parent (y :: t)
          rw [dueSum]
          have := (hk y (by simp)).2.1
          split <;> omega
      refine ⟨⟨h1, a, b, c, d⟩, fun x hx => ?_, by simp; omega⟩
      rw [kidsSum_snoc l q x.name hlp]
      rcases List.mem_append.1 hx with hx | hx
      · have := h2 x hx
        split
        · rename_i hq
          rw [hq] at hd e
          omega
        · omega
      · have : x = q := by simpa using hx
        subst this
        have hz : kidsSum l x.name = 0 := by
          cases l with
          | nil => simp at hlp
          | cons y t =>
            refine dueSum_zero (l := t) fun z hz hp => ?_
            rcases (hk z (by simp [hz])).2.2.2 with hn | ⟨u, hu, hn⟩
            · exact nameOk_ne a (by rw [← hp, hn])
            · exact place_not b u hu (by rw [hn, hp])
        have : x.parent ≠ x.name := fun hp => by rw [hp] at d; omega
        rw [if_neg this, hz]
        omega
theorem okT_nil : okT [] = true := rfl
theorem okT_take_succ {l : List Q} {k : Nat} (h : k < l.length) : okT (l.take (k + 1)) = (okT (l.take k) && fits (l.take k) l[k]) := by
  rw [List.take_succ_eq_append_getElem h, okT_snoc]
/-- where a beginning is none, the whole is none -/
theorem okT_take_false {l : List Q} {k : Nat} (h : okT (l.take k) = false) : okT l = false := by
  by_cases hk : k < l.length
  · have : ∀ n, k ≤ n → n ≤ l.length → okT (l.take n) = false := by
      intro n hn
      induction n with
      | zero => intro _; have : k = 0 := by omega
                subst this; exact h
      | succ m ih =>
        intro hm
        by_cases e : k = m + 1
        · subst e; exact h
        · rw [okT_take_succ (by omega), ih (by omega) (by omega)]; rfl
    have := this l.length (by omega) (Nat.le_refl _)
    rwa [List.take_length] at this
  · rwa [List.take_of_length_le (by omega)] at h
theorem okT_due {l : List Q} (h : okT l = true) : ∀ q ∈ l, 0 ≤ q.due ∧ q.due ≤ 10000 := fun q hq => by
  have := kid_due (okT_iff.1 h).1 q hq
  exact ⟨this.2.1, this.2.2.1⟩
theorem okT_len {l : List Q} (h : okT l = true) : l.length ≤ 20 := (okT_iff.1 h).2.2
end Go.Proofs.YtebaejokhpdbkaaGreatDoor

/-
  The text of queues, a line each: in plain words.
-/
namespace Go.Proofs.YtebaejokhpdbkaaGreatDoor
open Go.RowKit
set_option linter.unusedVariables false

/-- what stands for the parent -/
def par (q : Q) : List UInt8 := if q.parent = [] then [45] else q.parent
def lineL (q : Q) : List UInt8 := q.name ++ 32 :: (par q ++ 32 :: (Lib.itoa q.due ++ 32 :: (Lib.itoa q.most ++ [10])))
def textL (l : List Q) : List UInt8 := l.flatMap lineL
def qtext (l : List Q) : List UInt8 := if queuesOk l then textL l else []
theorem textL_step {l : List Q} {k : Nat} (h : k < l.length) : textL (l.take (k + 1)) = textL (l.take k) ++ lineL l[k] := by
  rw [List.take_succ_eq_append_getElem h, textL, List.flatMap_append]
  simp [textL]
theorem bs_app (a b : List UInt8) : bs a ++ bs b = bs (a ++ b) := by
  apply WideShapes.bytes_inj
  simp [bs]
theorem sp_eq : (⟨#[32]⟩ : ByteArray) = bs [32] := rfl
theorem nl_eq : (⟨#[10]⟩ : ByteArray) = bs [10] := rfl
theorem line_eq (q : Q) : bs q.name ++ (⟨#[32]⟩ : ByteArray) ++ bs (par q) ++ (⟨#[32]⟩ : ByteArray) ++ bs (Lib.itoa q.due) ++ (⟨#[32]⟩ : ByteArray) ++ bs (Lib.itoa q.most) ++ (⟨#[10]⟩ : ByteArray) = bs (lineL q) := by
  rw [sp_eq, nl_eq]
  simp only [bs_app, lineL]
  congr 1
  simp
theorem text_eq (o : List UInt8) (q : Q) : bs o ++ bs q.name ++ (⟨#[32]⟩ : ByteArray) ++ bs (par q) ++ (⟨#[32]⟩ : ByteArray) ++ bs (Lib.itoa q.due) ++ (⟨#[32]⟩ : ByteArray) ++ bs (Lib.itoa q.most) ++ (⟨#[10]⟩ : ByteArray) = bs (o ++ lineL q) := by
  rw [sp_eq, nl_eq]
  simp only [bs_app, lineL]
  congr 1
  simp
theorem ok_fields {l : List Q} (h : queuesOk l = true) : ∀ q ∈ l, q.name.length ≤ 10 ∧ (par q).length ≤ 10 ∧ 0 ≤ q.due ∧ q.due ≤ 10000 ∧ 0 ≤ q.most ∧ q.most ≤ 10000 := fun q hq => by
  rw [queuesOk_okT, Bool.and_eq_true] at h
  have hk := kid_due (okT_iff.1 h.1).1
  obtain ⟨a, b, c, d⟩ := hk q hq
  have hnm : ∀ n, nameOk n = true → n.length ≤ 10 := fun n hn => by
    simp only [nameOk, inB, Bool.and_eq_true, decide_eq_true_eq] at hn
    omega
  obtain ⟨i, hi, rfl⟩ := List.mem_iff_getElem.1 hq
  have hq2 := (okT_iff.1 h.1).1 i hi
  simp only [qOk, Bool.and_eq_true, inB, decide_eq_true_eq] at hq2
  refine ⟨hnm _ a, ?_, b, c, by omega, by omega⟩
  unfold par
  split
  · simp
  · rcases d with d | ⟨x, hx, hn⟩
    · contradiction
    · rw [← hn]; exact hnm _ (hk x hx).1
theorem itoa_len {n : Int} (h0 : 0 ≤ n) (h1 : n ≤ 10000) : (Lib.itoa n).length ≤ 21 := Lib.itoa_length_le n (by omega) (by omega)
theorem lineL_len {q : Q} (h : q.name.length ≤ 10 ∧ (par q).length ≤ 10 ∧ 0 ≤ q.due ∧ q.due ≤ 10000 ∧ 0 ≤ q.most ∧ q.most ≤ 10000) : (lineL q).length ≤ 66 := by
  have h1 := itoa_len h.2.2.1 h.2.2.2.1
  have h2 := itoa_len h.2.2.2.2.1 h.2.2.2.2.2
  simp only [lineL, List.length_append, List.length_cons, List.length_nil]
  omega
theorem textL_len {l : List Q} (h : queuesOk l = true) : ∀ k, k ≤ l.length → (textL (l.take k)).length ≤ 66 * k
  | 0, _ => by simp [textL]
  | k + 1, hk => by
    rw [textL_step (by omega), List.length_append]
    have := textL_len h k (by omega)
    have := lineL_len (ok_fields h l[k] (List.getElem_mem _))
    omega
theorem ok_len {l : List Q} (h : queuesOk l = true) : l.length ≤ 20 := by
  rw [queuesOk_okT, Bool.and_eq_true] at h
  exact okT_len h.1
end Go.Proofs.YtebaejokhpdbkaaGreatDoor
