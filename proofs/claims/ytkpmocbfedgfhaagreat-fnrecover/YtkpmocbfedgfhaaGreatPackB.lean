/-
  Several texts of this claim in one: ResI, In, Res, All, NameS, Digit, Name, PlaceM, Place, QSum, QueuesOkM, OkA, CountI, OkB, QueuesOkS, LeafS, PathM (pack.py put them together); each says in its own remark what is proved.
-/
import Derived.Test.YtkpmocbfedgfhaaGreatPackA
import Derived.Test.YtkpmocbfedgfhaaGreatStAll
import Derived.Shelf.Abstract
import Derived.Deep.RegionWith
/-
  Amounts in the program: numberOk, the methods ok and orNothing, two at once; walks over the dump.
-/
namespace Go.Proofs.YtkpmocbfedgfhaaGreat
open Go.RowKit
set_option linter.unusedVariables false
/-- two amounts at once -/
abbrev pv (a b c d : Int) : Value := .agg #[.int .i64 a, .int .i64 b, .int .i64 c, .int .i64 d]

set_option maxHeartbeats 400000 in
theorem numberOk_any (n : Int) (w : World) :
    Calls Tryz.prog 63 #[.int .i64 n] w fun e w' => e = .returned (.bool (inB n 0 1000000000)) ∧ w = w' := by
  by_cases h1 : 0 ≤ n
  · by_cases h2 : n ≤ 1000000000
    · go_enter Tryz.func63, Tryz.ntmps63
      go_wp2
      go_ret
      exact ⟨ret_bool (inB_true h1 h2).symm, rfl⟩
    · go_enter Tryz.func63, Tryz.ntmps63
      go_wp2
      go_ret
      exact ⟨ret_bool (inB_false (by omega)).symm, rfl⟩
  · go_enter Tryz.func63, Tryz.ntmps63
    go_wp2
    go_ret
    exact ⟨ret_bool (inB_false (by omega)).symm, rfl⟩

set_option maxRecDepth 100000 in
set_option maxHeartbeats 400000 in
theorem ok_any (a b : Int) (w : World) :
    Calls Tryz.prog 114 #[rv a b] w fun e w' => e = .returned (.bool (resOk a b)) ∧ w' = w.alloc (.cells #[.int .i64 a, .int .i64 b] 59) := by
  cases h1 : inB a 0 1000000000
  · go_enter Tryz.func114, Tryz.ntmps114
    go_wp2_with (go_at_call 63; refine (numberOk_any _ _).mono ?_; rintro e w' ⟨rfl, rfl⟩)
    go_ret
    exact ⟨ret_bool (by simp [resOk, h1]), rfl⟩
  · go_enter Tryz.func114, Tryz.ntmps114
    go_wp2_with (go_at_call 63; refine (numberOk_any _ _).mono ?_; rintro e w' ⟨rfl, rfl⟩)
    go_ret
    exact ⟨ret_bool (by simp [resOk, h1]), rfl⟩
theorem ok_bel (a b : Int) (w : World) :
    Calls Tryz.prog 114 #[rv a b] w fun e w' => e = .returned (.bool (resOk a b)) ∧ Below w.heap.size w w' :=
  (ok_any a b w).mono fun e w' h => ⟨h.1, by rw [h.2]; exact below_al (Below.refl _ _) _⟩
end Go.Proofs.YtkpmocbfedgfhaaGreat

/-
  What the model's l01In answers: whether a number lies between two.
-/
namespace Go.Proofs.YtkpmocbfedgfhaaGreat
open Go.RowKit
set_option maxHeartbeats 400000 in
theorem l01In_any (x a b : Int) (w : World) :
    Calls Tryz.prog 26 #[.int .i64 x, .int .i64 a, .int .i64 b] w fun e w' => e = .returned (.bool (inB x a b)) ∧ w = w' := by
  by_cases h1 : a ≤ x
  · by_cases h2 : x ≤ b
    · go_enter Tryz.func26, Tryz.ntmps26
      go_wp2
      go_ret
      exact ⟨ret_bool (inB_true h1 h2).symm, rfl⟩
    · go_enter Tryz.func26, Tryz.ntmps26
      go_wp2
      go_ret
      exact ⟨ret_bool (inB_false (by omega)).symm, rfl⟩
  · go_enter Tryz.func26, Tryz.ntmps26
    go_wp2
    go_ret
    exact ⟨ret_bool (inB_false (by omega)).symm, rfl⟩
end Go.Proofs.YtkpmocbfedgfhaaGreat

/-
  What the model's ResOk answers; a walk over the dump.
-/
namespace Go.Proofs.YtkpmocbfedgfhaaGreat
open Go.RowKit
set_option linter.unusedVariables false
set_option maxRecDepth 100000 in
set_option maxHeartbeats 400000 in
theorem specResOk_any (a b : Int) (w : World) :
    Calls Tryz.prog 130 #[rv a b] w fun e w' => e = .returned (.bool (resOk a b)) ∧ w' = w.alloc (.cells #[.int .i64 a, .int .i64 b] 59) := by
  cases h1 : inB a 0 1000000000
  · go_enter Tryz.func130, Tryz.ntmps130
    go_wp2_with (go_at_call 26; refine (l01In_any _ _ _ _).mono ?_; rintro e w' ⟨rfl, rfl⟩)
    go_ret
    exact ⟨ret_bool (by simp [resOk, h1]), rfl⟩
  · go_enter Tryz.func130, Tryz.ntmps130
    go_wp2_with (go_at_call 26; refine (l01In_any _ _ _ _).mono ?_; rintro e w' ⟨rfl, rfl⟩)
    go_ret
    exact ⟨ret_bool (by simp [resOk, h1]), rfl⟩
end Go.Proofs.YtkpmocbfedgfhaaGreat

/-
  Properties of all bytes of a text.
-/
namespace Go.Proofs.YtkpmocbfedgfhaaGreat
open Go.RowKit
theorem all_snoc (s : ByteArray) (k : Nat) (h : k < s.size) (p : UInt8 → Bool) (h1 : (s.data.toList.take k).all p = true) (h2 : p s[k] = true) : (s.data.toList.take (k + 1)).all p = true := by
  rw [take_snoc s k h, List.all_append, h1]; simpa using h2
theorem not_all (s : ByteArray) (k : Nat) (h : k < s.size) (p : UInt8 → Bool) (h2 : p s[k] = false) : s.data.toList.all p = false := by
  rw [List.all_eq_false]
  exact ⟨s[k], by simp [ByteArray.getElem_eq_getElem_data], by simp [h2]⟩
end Go.Proofs.YtkpmocbfedgfhaaGreat

/-
  What the model's NameOk answers; a walk over the dump.
-/
namespace Go.Proofs.YtkpmocbfedgfhaaGreat
open Go.RowKit
/-- a small letter or a digit -/
def nameB (c : UInt8) : Bool := inB c.toNat 97 122 || inB c.toNat 48 57
def nameOk (l : List UInt8) : Bool := inB l.length 1 10 && l.all nameB


set_option maxHeartbeats 800000 in
theorem specNameOk_any (s : ByteArray) (w : World) (hs : s.size ≤ 1048576) :
    Calls Tryz.prog 24 #[.string s] w fun e w' => e = .returned (.bool (nameOk s.data.toList)) ∧ w' = w := by
  go_enter Tryz.func24, Tryz.ntmps24
  go_wp2
  go_loop [3] (fun i => ∃ k : Nat, k ≤ s.size ∧ i = .int .i64 k ∧ (s.data.toList.take k).all nameB = true) (fun i => s.size - (intOf i).toNat)
  case atStart => exact ⟨0, Nat.zero_le _, rfl, by simp⟩
  case round =>
    obtain ⟨k, hk, rfl, hall⟩ := hrel
    have HA := hide hall
    clear hall
    by_cases hlt : k < s.size
    · have hb : (s[k].toNat : Int) ≤ 255 := byte_le _
      by_cases h1 : 97 ≤ (s[k].toNat : Int) ∧ (s[k].toNat : Int) ≤ 122
      · have e1 : inB (s[k].toNat : Int) 97 122 = true := inB_true h1.1 h1.2
        clear h1
        go_wp2_with (go_at_call 26; refine (l01In_any _ _ _ _).mono ?_; rintro e w' ⟨rfl, rfl⟩)
        go_round
        case rel => exact ⟨k + 1, by omega, by go_num, all_snoc s k hlt _ (unhide HA) (by simp [nameB, e1])⟩
        case measure => simp [intOf]; omega
      · have e1 : inB (s[k].toNat : Int) 97 122 = false := inB_false h1
        clear h1
        by_cases h2 : 48 ≤ (s[k].toNat : Int) ∧ (s[k].toNat : Int) ≤ 57
        · have e2 : inB (s[k].toNat : Int) 48 57 = true := inB_true h2.1 h2.2
          clear h2
          go_wp2_with (go_at_call 26; refine (l01In_any _ _ _ _).mono ?_; rintro e w' ⟨rfl, rfl⟩)
          go_round
          case rel => exact ⟨k + 1, by omega, by go_num, all_snoc s k hlt _ (unhide HA) (by simp [nameB, e1, e2])⟩
          case measure => simp [intOf]; omega
        · have e2 : inB (s[k].toNat : Int) 48 57 = false := inB_false h2
          clear h2
          have hf : Hid (nameOk s.data.toList = false) := hide (by rw [nameOk, not_all s k hlt nameB (by simp [nameB, e1, e2])]; simp)
          go_wp2_with (go_at_call 26; refine (l01In_any _ _ _ _).mono ?_; rintro e w' ⟨rfl, rfl⟩)
          go_ret
          exact ⟨ret_bool (unhide hf).symm, rfl⟩
    · have hf : Hid (nameOk s.data.toList = inB (s.size : Int) 1 10) := hide (by rw [nameOk, ← take_all s k (by omega), unhide HA, take_all s k (by omega), len_eq]; simp)
      go_wp2_with (go_at_call 26; refine (l01In_any _ _ _ _).mono ?_; rintro e w' ⟨rfl, rfl⟩)
      go_ret
      exact ⟨ret_bool (unhide hf).symm, rfl⟩
end Go.Proofs.YtkpmocbfedgfhaaGreat

/-
  What the program's isDigit answers; a walk over the dump.
-/
namespace Go.Proofs.YtkpmocbfedgfhaaGreat
open Go.RowKit
set_option maxHeartbeats 400000 in
theorem isDigit_any (x : Int) (w : World) :
    Calls Tryz.prog 108 #[.int .u8 x] w fun e w' => e = .returned (.bool (inB x 48 57)) ∧ w' = w := by
  by_cases h1 : 48 ≤ x
  · by_cases h2 : x ≤ 57
    · go_enter Tryz.func108, Tryz.ntmps108
      go_wp2
      go_ret
      exact ⟨ret_bool (inB_true h1 h2).symm, rfl⟩
    · go_enter Tryz.func108, Tryz.ntmps108
      go_wp2
      go_ret
      exact ⟨ret_bool (inB_false (by omega)).symm, rfl⟩
  · go_enter Tryz.func108, Tryz.ntmps108
    go_wp2
    go_ret
    exact ⟨ret_bool (inB_false (by omega)).symm, rfl⟩
end Go.Proofs.YtkpmocbfedgfhaaGreat

/-
  What the program's NameOk answers: as the model's; a walk over the dump.
-/
namespace Go.Proofs.YtkpmocbfedgfhaaGreat
open Go.RowKit
set_option maxHeartbeats 800000 in
theorem implNameOk_any (s : ByteArray) (w : World) (hs : s.size ≤ 1048576) :
    Calls Tryz.prog 67 #[.string s] w fun e w' => e = .returned (.bool (nameOk s.data.toList)) ∧ w' = w := by
  by_cases h0 : 1 ≤ s.size
  · by_cases h1 : s.size ≤ 10
    · have hin : Hid (inB (s.data.toList.length : Int) 1 10 = true) := hide (by rw [len_eq]; exact inB_true (by omega) (by omega))
      go_enter Tryz.func67, Tryz.ntmps67
      go_wp2
      go_loop [14] (fun i => ∃ k : Nat, k ≤ s.size ∧ i = .int .i64 k ∧ (s.data.toList.take k).all nameB = true) (fun i => s.size - (intOf i).toNat)
      case atStart => exact ⟨0, Nat.zero_le _, rfl, by simp⟩
      case round =>
        obtain ⟨k, hk, rfl, hall⟩ := hrel
        have HA := hide hall
        clear hall
        by_cases hlt : k < s.size
        · have hb : (s[k].toNat : Int) ≤ 255 := byte_le _
          by_cases h3 : 48 ≤ (s[k].toNat : Int) ∧ (s[k].toNat : Int) ≤ 57
          · have e1 : inB (s[k].toNat : Int) 48 57 = true := inB_true h3.1 h3.2
            clear h3
            go_wp2_with (go_at_call 108; refine (isDigit_any _ _).mono ?_; rintro e w' ⟨rfl, rfl⟩)
            go_round
            case rel => exact ⟨k + 1, by omega, by go_num, all_snoc s k hlt _ (unhide HA) (by simp [nameB, e1])⟩
            case measure => simp [intOf]; omega
          · have e1 : inB (s[k].toNat : Int) 48 57 = false := inB_false h3
            clear h3
            by_cases h4 : 97 ≤ (s[k].toNat : Int)
            · by_cases h5 : (s[k].toNat : Int) ≤ 122
              · have HN : Hid (nameB s[k] = true) := hide (by simp [nameB, e1, inB_true h4 h5])
                go_wp2_with (go_at_call 108; refine (isDigit_any _ _).mono ?_; rintro e w' ⟨rfl, rfl⟩)
                go_round
                case rel => exact ⟨k + 1, by omega, by go_num, all_snoc s k hlt _ (unhide HA) (unhide HN)⟩
                case measure => simp [intOf]; omega
              · have hf : Hid (nameOk s.data.toList = false) := hide (by rw [nameOk, not_all s k hlt nameB (by simp [nameB, e1, inB_false (x := (s[k].toNat : Int)) (a := 97) (b := 122) (by omega)])]; simp)
                go_wp2_with (go_at_call 108; refine (isDigit_any _ _).mono ?_; rintro e w' ⟨rfl, rfl⟩)
                go_ret
                exact ⟨ret_bool (unhide hf).symm, rfl⟩
            · have hf : Hid (nameOk s.data.toList = false) := hide (by rw [nameOk, not_all s k hlt nameB (by simp [nameB, e1, inB_false (x := (s[k].toNat : Int)) (a := 97) (b := 122) (by omega)])]; simp)
              go_wp2_with (go_at_call 108; refine (isDigit_any _ _).mono ?_; rintro e w' ⟨rfl, rfl⟩)
              go_ret
              exact ⟨ret_bool (unhide hf).symm, rfl⟩
        · have hf : Hid (nameOk s.data.toList = true) := hide (by rw [nameOk, unhide hin, ← take_all s k (by omega), unhide HA]; rfl)
          go_wp2
          go_ret
          exact ⟨ret_bool (unhide hf).symm, rfl⟩
    · have hf : Hid (nameOk s.data.toList = false) := hide (by rw [nameOk, len_eq, inB_false (by omega)]; simp)
      go_enter Tryz.func67, Tryz.ntmps67
      go_wp2
      go_ret
      exact ⟨ret_bool (unhide hf).symm, rfl⟩
  · have hf : Hid (nameOk s.data.toList = false) := hide (by rw [nameOk, len_eq, inB_false (by omega)]; simp)
    go_enter Tryz.func67, Tryz.ntmps67
    go_wp2
    go_ret
    exact ⟨ret_bool (unhide hf).symm, rfl⟩
end Go.Proofs.YtkpmocbfedgfhaaGreat

/-
  Where a queue stands, in plain words; texts held against each other.
-/
namespace Go.Proofs.YtkpmocbfedgfhaaGreat
open Go.RowKit
set_option linter.unusedVariables false
/-- the place of the first queue of that name, from place k on; -1 where there is none -/
def placeFrom (nm : List UInt8) : List Q → Nat → Int
  | [], _ => -1
  | q :: t, k => if q.name = nm then k else placeFrom nm t (k + 1)
def place (l : List Q) (nm : List UInt8) : Int := placeFrom nm l 0
theorem placeFrom_step {nm : List UInt8} {l : List Q} {k : Nat} (h : k < l.length) : placeFrom nm (l.drop k) k = if l[k].name = nm then (k : Int) else placeFrom nm (l.drop (k + 1)) (k + 1) := by
  rw [List.drop_eq_getElem_cons h, placeFrom]
theorem placeFrom_end {nm : List UInt8} {l : List Q} {k : Nat} (h : l.length ≤ k) : placeFrom nm (l.drop k) k = -1 := by
  rw [List.drop_of_length_le h]; rfl
end Go.Proofs.YtkpmocbfedgfhaaGreat

/-
  Where a queue stands: what the model's l03Place answers; a walk over the dump.
-/
namespace Go.Proofs.YtkpmocbfedgfhaaGreat
open Go.RowKit
set_option linter.unusedVariables false
set_option maxRecDepth 100000 in
set_option maxHeartbeats 1000000 in
theorem l03Place_any (ao : Option Addr) (len cap : Nat) (l : List Q) (nm : List UInt8) (w : World) (h : QRow w ao len l) (hl : len ≤ 1048576) :
    Calls Tryz.prog 25 #[.slice ao len cap, .string (bs nm)] w fun e w' => e = .returned (.int .i64 (place l nm)) ∧ w = w' := by
  have HR := hide h
  have HL := hide h.1
  clear h
  go_enter Tryz.func25, Tryz.ntmps25
  go_wp2
  go_loopw [5] (fun i wr => ∃ k : Nat, k ≤ len ∧ i = .int .i64 k ∧ Hid (place l nm = placeFrom nm (l.drop k) k) ∧ wr = w) (fun i _ => len - (intOf i).toNat)
  case atStart => exact ⟨0, Nat.zero_le _, rfl, hide (by simp [place]), rfl⟩
  case round =>
    obtain ⟨k, hk, rfl, hp, rfl⟩ := hrel
    by_cases hlt : k < len
    · obtain ⟨b, off, rfl, hq⟩ := (unhide HR).at hlt
      have hkl : k < l.length := by have := unhide HL; omega
      have hst := hide (placeFrom_step (nm := nm) (l := l) (k := k) hkl)
      have hq0 := (hq hkl).1
      clear hq
      obtain ⟨s, hs⟩ : ∃ s, l[k].name = s := ⟨_, rfl⟩
      rw [hs] at hq0 hst
      have hbe := bs_eq s nm
      clear hs hkl
      by_cases he : s = nm
      · have HE := hide he
        rw [decide_eq_true he] at hbe
        clear he
        go_wp2
        go_ret
        exact ⟨ret_int (by rw [unhide hp, unhide hst, if_pos (unhide HE)]), rfl⟩
      · have HE := hide he
        rw [decide_eq_false he] at hbe
        clear he
        go_wp2
        go_roundw
        case rel => exact ⟨k + 1, by omega, by go_num, hide (by rw [unhide hp, unhide hst, if_neg (unhide HE)]), trivial⟩
        case measure => simp [intOf]; omega
    · go_wp2
      go_ret
      exact ⟨ret_int (by rw [unhide hp, placeFrom_end (by have := unhide HL; omega)]), rfl⟩
end Go.Proofs.YtkpmocbfedgfhaaGreat

/-
  What is due to the kids of a queue together: what the model's l03Sum answers; a walk over the dump.
-/
namespace Go.Proofs.YtkpmocbfedgfhaaGreat
open Go.RowKit
set_option linter.unusedVariables false
/-- what is due together of those of that parent -/
def dueSum (nm : List UInt8) : List Q → Int
  | [] => 0
  | q :: t => (if q.parent = nm then q.due else 0) + dueSum nm t
/-- of the kids of a queue: the first one is nobody's kid -/
def kidsSum (l : List Q) (nm : List UInt8) : Int := dueSum nm (l.drop 1)
theorem dueSum_step {nm : List UInt8} {l : List Q} {k : Nat} (h : k < l.length) : dueSum nm (l.drop k) = (if l[k].parent = nm then l[k].due else 0) + dueSum nm (l.drop (k + 1)) := by
  rw [List.drop_eq_getElem_cons h, dueSum]
theorem dueSum_end {nm : List UInt8} {l : List Q} {k : Nat} (h : l.length ≤ k) : dueSum nm (l.drop k) = 0 := by
  rw [List.drop_of_length_le h]; rfl

set_option maxRecDepth 100000 in
set_option maxHeartbeats 1000000 in
theorem l03Sum_any (ao : Option Addr) (len cap : Nat) (l : List Q) (nm : List UInt8) (w : World) (h : QRow w ao len l) (hl : len ≤ 1048576) (hd : ∀ q ∈ l, 0 ≤ q.due ∧ q.due ≤ 10000) :
    Calls Tryz.prog 27 #[.slice ao len cap, .string (bs nm)] w fun e w' => e = .returned (.int .i64 (kidsSum l nm)) ∧ w = w' := by
  have HR := hide h
  have HL := hide h.1
  have HD := hide hd
  clear h hd
  go_enter Tryz.func27, Tryz.ntmps27
  go_wp2
  go_loopw [5, 6] (fun s i wr => ∃ (k : Nat) (a : Int), 1 ≤ k ∧ k ≤ len + 1 ∧ i = .int .i64 k ∧ s = .int .i64 a ∧ 0 ≤ a ∧ a ≤ 10000 * k ∧ Hid (kidsSum l nm = a + dueSum nm (l.drop k)) ∧ wr = w) (fun _ i _ => len + 1 - (intOf i).toNat)
  case atStart => exact ⟨1, 0, by omega, by omega, rfl, rfl, by omega, by omega, hide (by simp [kidsSum]), rfl⟩
  case round =>
    obtain ⟨k, a, hk1, hk, rfl, rfl, ha0, ha1, hp, rfl⟩ := hrel
    by_cases hlt : k < len
    · obtain ⟨b, off, rfl, hq⟩ := (unhide HR).at hlt
      have hkl : k < l.length := by have := unhide HL; omega
      have hst := hide (dueSum_step (nm := nm) (l := l) (k := k) hkl)
      have hq1 := (hq hkl).2.1
      have hq2 := (hq hkl).2.2.1
      obtain ⟨d0, d1⟩ := unhide HD l[k] (List.getElem_mem _)
      clear hq
      obtain ⟨s, hs⟩ : ∃ s, l[k].parent = s := ⟨_, rfl⟩
      obtain ⟨d, hdd⟩ : ∃ d, l[k].due = d := ⟨_, rfl⟩
      rw [hs] at hq1 hst
      rw [hdd] at hq2 hst d0 d1
      have hbe := bs_eq s nm
      clear hs hdd hkl
      by_cases he : s = nm
      · have HE := hide he
        rw [decide_eq_true he] at hbe
        clear he
        go_wp2
        go_roundw
        case rel => exact ⟨k + 1, a + d, by omega, by omega, by go_num, by go_num, by omega, by omega, hide (by rw [unhide hp, unhide hst, if_pos (unhide HE)]; omega), trivial⟩
        case measure => simp [intOf]; omega
      · have HE := hide he
        rw [decide_eq_false he] at hbe
        clear he
        go_wp2
        go_roundw
        case rel => exact ⟨k + 1, a, by omega, by omega, by go_num, rfl, by omega, by omega, hide (by rw [unhide hp, unhide hst, if_neg (unhide HE)]; omega), trivial⟩
        case measure => simp [intOf]; omega
    · go_wp2
      go_ret
      exact ⟨ret_int (by rw [unhide hp, dueSum_end (by have := unhide HL; omega)]; omega), rfl⟩
end Go.Proofs.YtkpmocbfedgfhaaGreat

/-
  A tree of queues: what is asked of it, in plain words.
-/
namespace Go.Proofs.YtkpmocbfedgfhaaGreat
open Go.RowKit
set_option linter.unusedVariables false
/-- a queue at place k of l is as it must be -/
def qOk (l : List Q) (k : Nat) (q : Q) : Bool :=
  nameOk q.name && decide (place l q.name = k) && inB q.most 0 10000 && inB q.due 0 q.most
    && (if k = 0 then decide (q.parent = []) && decide (q.due = 10000) else inB (place l q.parent) 0 ((k : Int) - 1))
def okFrom (l : List Q) : List Q → Nat → Bool
  | [], _ => true
  | q :: t, k => qOk l k q && okFrom l t (k + 1)
def sumsOk (l : List Q) : List Q → Bool
  | [] => true
  | q :: t => decide (kidsSum l q.name ≤ 10000) && sumsOk l t
def queuesOk (l : List Q) : Bool := okFrom l l 0 && sumsOk l l && inB l.length 1 20
theorem okFrom_step {l : List Q} {k : Nat} (h : k < l.length) : okFrom l (l.drop k) k = (qOk l k l[k] && okFrom l (l.drop (k + 1)) (k + 1)) := by
  rw [List.drop_eq_getElem_cons h, okFrom]
theorem okFrom_end {l : List Q} {k : Nat} (h : l.length ≤ k) : okFrom l (l.drop k) k = true := by
  rw [List.drop_of_length_le h]; rfl
theorem sumsOk_step {l : List Q} {k : Nat} (h : k < l.length) : sumsOk l (l.drop k) = (decide (kidsSum l l[k].name ≤ 10000) && sumsOk l (l.drop (k + 1))) := by
  rw [List.drop_eq_getElem_cons h, sumsOk]
theorem sumsOk_end {l : List Q} {k : Nat} (h : l.length ≤ k) : sumsOk l (l.drop k) = true := by
  rw [List.drop_of_length_le h]; rfl
theorem okFrom_due {l : List Q} : ∀ (m : List Q) (k : Nat), okFrom l m k = true → ∀ q ∈ m, 0 ≤ q.due ∧ q.due ≤ 10000
  | [], _, _, q, h => by simp at h
  | x :: t, k, h, q, hq => by
    rw [okFrom, Bool.and_eq_true] at h
    rcases List.mem_cons.1 hq with rfl | hq
    · have := h.1
      simp only [qOk, inB, Bool.and_eq_true, decide_eq_true_eq] at this
      omega
    · exact okFrom_due t (k + 1) h.2 q hq
theorem ok_no1 {l : List Q} (h : okFrom l l 0 = false) : queuesOk l = false := by simp [queuesOk, h]
theorem ok_no2 {l : List Q} (h : sumsOk l l = false) : queuesOk l = false := by simp [queuesOk, h]
theorem ok_yes {l : List Q} (h1 : okFrom l l 0 = true) (h2 : sumsOk l l = true) : queuesOk l = inB l.length 1 20 := by simp [queuesOk, h1, h2]
end Go.Proofs.YtkpmocbfedgfhaaGreat

/-
  An amount that is something, an ask that is right: by the program and by the model; walks over the dump.
-/
namespace Go.Proofs.YtkpmocbfedgfhaaGreat
open Go.RowKit
set_option linter.unusedVariables false
def someR (a b : Int) : Bool := resOk a b && !(decide (a = 0) && decide (b = 0))

set_option maxRecDepth 100000 in
set_option maxHeartbeats 1000000 in
theorem something_any (a b : Int) (w : World) :
    Calls Tryz.prog 72 #[rv a b] w fun e w' => e = .returned (.bool (someR a b)) ∧ Below w.heap.size w w' := by
  have HB0 := hide (below_al (Below.refl _ w) (.cells #[.int .i64 a, .int .i64 b] 59))
  have P0 := hide (blk_new w #[.int .i64 a, .int .i64 b] 59)
  obtain ⟨r, hr⟩ : ∃ r, resOk a b = r := ⟨_, rfl⟩
  have C := hide (fun wx => by have := ok_bel a b wx; rw [hr] at this; exact this)
  have HS := hide (show someR a b = (r && !(decide (a = 0) && decide (b = 0))) by rw [someR, hr])
  obtain ⟨o, ho⟩ : ∃ o, someR a b = o := ⟨_, rfl⟩
  rw [ho] at HS ⊢
  clear hr ho
  go_enter Tryz.func72, Tryz.ntmps72
  go_wp2_with fail
  refine (unhide C _).mono ?_
  rintro e w1 ⟨rfl, hb⟩
  have HB1 := hide (below_on (unhide HB0) hb)
  have P1 := (unhide P0).below hb
  have p0 := P1.at 0
  have p1 := P1.at 1
  simp at p0 p1
  clear hb P1 P0 HB0 C
  cases r with
  | false =>
    go_wp2
    go_ret
    exact ⟨ret_bool (by rw [unhide HS]; simp), unhide HB1⟩
  | true =>
    by_cases ha : a = 0
    · by_cases hbz : b = 0
      · subst ha hbz
        go_wp2
        go_ret
        exact ⟨ret_bool (by rw [unhide HS]; simp), unhide HB1⟩
      · subst ha
        go_wp2
        go_ret
        exact ⟨ret_bool (by rw [unhide HS]; simp [hbz]), unhide HB1⟩
    · go_wp2
      go_ret
      exact ⟨ret_bool (by rw [unhide HS]; simp [ha]), unhide HB1⟩
theorem specOk_bel (a b : Int) (w : World) :
    Calls Tryz.prog 130 #[rv a b] w fun e w' => e = .returned (.bool (resOk a b)) ∧ Below w.heap.size w w' :=
  (specResOk_any a b w).mono fun e w' h => ⟨h.1, by rw [h.2]; exact below_al (Below.refl _ _) _⟩

set_option maxRecDepth 100000 in
set_option maxHeartbeats 1000000 in
theorem l04Some_any (a b : Int) (w : World) :
    Calls Tryz.prog 90 #[rv a b] w fun e w' => e = .returned (.bool (someR a b)) ∧ Below w.heap.size w w' := by
  have HB0 := hide (below_al (Below.refl _ w) (.cells #[.int .i64 a, .int .i64 b] 59))
  have P0 := hide (blk_new w #[.int .i64 a, .int .i64 b] 59)
  obtain ⟨r, hr⟩ : ∃ r, resOk a b = r := ⟨_, rfl⟩
  have C := hide (fun wx => by have := specOk_bel a b wx; rw [hr] at this; exact this)
  have HS := hide (show someR a b = (r && !(decide (a = 0) && decide (b = 0))) by rw [someR, hr])
  obtain ⟨o, ho⟩ : ∃ o, someR a b = o := ⟨_, rfl⟩
  rw [ho] at HS ⊢
  clear hr ho
  go_enter Tryz.func90, Tryz.ntmps90
  go_wp2_with fail
  refine (unhide C _).mono ?_
  rintro e w1 ⟨rfl, hb⟩
  have HB1 := hide (below_on (unhide HB0) hb)
  have P1 := (unhide P0).below hb
  have p0 := P1.at 0
  have p1 := P1.at 1
  simp at p0 p1
  clear hb P1 P0 HB0 C
  cases r with
  | false =>
    go_wp2
    go_ret
    exact ⟨ret_bool (by rw [unhide HS]; simp), unhide HB1⟩
  | true =>
    by_cases ha : a = 0
    · by_cases hbz : b = 0
      · subst ha hbz
        go_wp2
        go_ret
        exact ⟨ret_bool (by rw [unhide HS]; simp), unhide HB1⟩
      · subst ha
        go_wp2
        go_ret
        exact ⟨ret_bool (by rw [unhide HS]; simp [hbz]), unhide HB1⟩
    · go_wp2
      go_ret
      exact ⟨ret_bool (by rw [unhide HS]; simp [ha]), unhide HB1⟩

def askOk (q : Ask) : Bool := someR q.mem q.cpu && (inB q.count 1 1000 && ((decide (q.node = []) || nameOk q.node) && inB q.missed 0 1000))

set_option maxRecDepth 100000 in
set_option maxHeartbeats 2000000 in
theorem askOk_any (q : Ask) (w : World) (hn : q.node.length ≤ 1048576) :
    Calls Tryz.prog 107 #[askv q] w fun e w' => e = .returned (.bool (askOk q)) ∧ Below w.heap.size w w' := by
  obtain ⟨x0, x1, ct, nd, ms⟩ := q
  simp only at hn
  have HB0 := hide (below_al (Below.refl _ w) (.cells #[.int .i64 x0, .int .i64 x1, .int .i64 ct, .string (bs nd), .int .i64 ms] 121))
  have P0 := hide (blk_new w #[.int .i64 x0, .int .i64 x1, .int .i64 ct, .string (bs nd), .int .i64 ms] 121)
  obtain ⟨sm, hsm⟩ : ∃ r, someR x0 x1 = r := ⟨_, rfl⟩
  obtain ⟨nk, hnk⟩ : ∃ r, nameOk nd = r := ⟨_, rfl⟩
  have C := hide (fun wx => by have := something_any x0 x1 wx; rw [hsm] at this; exact this)
  have CN := hide (fun wx => by have := implNameOk_any (bs nd) wx (by rw [bs_size]; exact hn); rw [show nameOk (bs nd).data.toList = nk by rw [← hnk]; simp [bs]] at this; exact this)
  have HS := hide (show askOk ⟨x0, x1, ct, nd, ms⟩ = (sm && (inB ct 1 1000 && ((decide (nd = []) || nk) && inB ms 0 1000))) by rw [askOk]; simp only [hsm, hnk])
  obtain ⟨o, ho⟩ : ∃ o, askOk ⟨x0, x1, ct, nd, ms⟩ = o := ⟨_, rfl⟩
  have hbz := bs_empty nd
  rw [ho] at HS ⊢
  clear hsm hnk ho hn
  go_enter Tryz.func107, Tryz.ntmps107
  go_wp2_with fail
  refine (unhide C _).mono ?_
  rintro e w1 ⟨rfl, hb⟩
  have HB1 := hide (below_on (unhide HB0) hb)
  have P1 := (unhide P0).below hb
  have p2 := P1.at 2
  have p3 := P1.at 3
  have p4 := P1.at 4
  simp at p2 p3 p4
  clear hb P1 P0 HB0 C
  cases sm with
  | false =>
    go_wp2
    go_ret
    exact ⟨ret_bool (by rw [unhide HS]; simp), unhide HB1⟩
  | true =>
  by_cases h1 : 1 ≤ ct
  case neg =>
    go_wp2
    go_ret
    exact ⟨ret_bool (by rw [unhide HS, inB_false (by omega)]; simp), unhide HB1⟩
  by_cases h2 : ct ≤ 1000
  case neg =>
    go_wp2
    go_ret
    exact ⟨ret_bool (by rw [unhide HS, inB_false (by omega)]; simp), unhide HB1⟩
  by_cases hz : nd = []
  · rw [decide_eq_true hz] at hbz HS
    clear hz
    by_cases m1 : 0 ≤ ms
    case neg =>
      go_wp2
      go_ret
      exact ⟨ret_bool (by rw [unhide HS, inB_true h1 h2, inB_false (by omega)]; simp), unhide HB1⟩
    by_cases m2 : ms ≤ 1000
    case neg =>
      go_wp2
      go_ret
      exact ⟨ret_bool (by rw [unhide HS, inB_true h1 h2, inB_false (x := ms) (by omega)]; simp; omega), unhide HB1⟩
    go_wp2
    go_ret
    exact ⟨ret_bool (by rw [unhide HS, inB_true h1 h2, inB_true m1 m2]; simp), unhide HB1⟩
  · rw [decide_eq_false hz] at hbz HS
    clear hz
    go_wp2_with fail
    refine (unhide CN _).mono ?_
    rintro e w2 ⟨rfl, rfl⟩
    clear CN
    cases nk with
    | false =>
      go_wp2
      go_ret
      exact ⟨ret_bool (by rw [unhide HS]; simp), unhide HB1⟩
    | true =>
    by_cases m1 : 0 ≤ ms
    case neg =>
      go_wp2
      go_ret
      exact ⟨ret_bool (by rw [unhide HS, inB_true h1 h2, inB_false (by omega)]; simp), unhide HB1⟩
    by_cases m2 : ms ≤ 1000
    case neg =>
      go_wp2
      go_ret
      exact ⟨ret_bool (by rw [unhide HS, inB_true h1 h2, inB_false (by omega)]; simp; omega), unhide HB1⟩
    go_wp2
    go_ret
    exact ⟨ret_bool (by rw [unhide HS, inB_true h1 h2, inB_true m1 m2]; simp), unhide HB1⟩

set_option maxRecDepth 100000 in
set_option maxHeartbeats 2000000 in
theorem l04Ask_any (q : Ask) (w : World) (hn : q.node.length ≤ 1048576) :
    Calls Tryz.prog 127 #[askv q] w fun e w' => e = .returned (.bool (askOk q)) ∧ Below w.heap.size w w' := by
  obtain ⟨x0, x1, ct, nd, ms⟩ := q
  simp only at hn
  have HB0 := hide (below_al (Below.refl _ w) (.cells #[.int .i64 x0, .int .i64 x1, .int .i64 ct, .string (bs nd), .int .i64 ms] 121))
  have P0 := hide (blk_new w #[.int .i64 x0, .int .i64 x1, .int .i64 ct, .string (bs nd), .int .i64 ms] 121)
  obtain ⟨sm, hsm⟩ : ∃ r, someR x0 x1 = r := ⟨_, rfl⟩
  obtain ⟨nk, hnk⟩ : ∃ r, nameOk nd = r := ⟨_, rfl⟩
  obtain ⟨ic, hic⟩ : ∃ r, inB ct 1 1000 = r := ⟨_, rfl⟩
  obtain ⟨im, him⟩ : ∃ r, inB ms 0 1000 = r := ⟨_, rfl⟩
  have C := hide (fun wx => by have := l04Some_any x0 x1 wx; rw [hsm] at this; exact this)
  have CN := hide (fun wx => by have := specNameOk_any (bs nd) wx (by rw [bs_size]; exact hn); rw [show nameOk (bs nd).data.toList = nk by rw [← hnk]; simp [bs]] at this; exact this)
  have CC := hide (fun wx => by have := l01In_any ct 1 1000 wx; rw [hic] at this; exact this)
  have CD := hide (fun wx => by have := l01In_any ms 0 1000 wx; rw [him] at this; exact this)
  have HS := hide (show askOk ⟨x0, x1, ct, nd, ms⟩ = (sm && (ic && ((decide (nd = []) || nk) && im))) by rw [askOk]; simp only [hsm, hnk, hic, him])
  obtain ⟨o, ho⟩ : ∃ o, askOk ⟨x0, x1, ct, nd, ms⟩ = o := ⟨_, rfl⟩
  have hbz := bs_empty nd
  rw [ho] at HS ⊢
  clear hsm hnk ho hn hic him
  go_enter Tryz.func127, Tryz.ntmps127
  go_wp2_with fail
  refine (unhide C _).mono ?_
  rintro e w1 ⟨rfl, hb⟩
  have HB1 := hide (below_on (unhide HB0) hb)
  have P1 := (unhide P0).below hb
  have p2 := P1.at 2
  have p3 := P1.at 3
  have p4 := P1.at 4
  simp at p2 p3 p4
  clear hb P1 P0 HB0 C
  cases sm with
  | false =>
    go_wp2
    go_ret
    exact ⟨ret_bool (by rw [unhide HS]; simp), unhide HB1⟩
  | true =>
  go_wp2_with fail
  refine (unhide CC _).mono ?_
  rintro e w2 ⟨rfl, rfl⟩
  clear CC
  cases ic with
  | false =>
    go_wp2
    go_ret
    exact ⟨ret_bool (by rw [unhide HS]; simp), unhide HB1⟩
  | true =>
  by_cases hz : nd = []
  · rw [decide_eq_true hz] at hbz HS
    clear hz CN
    go_wp2_with fail
    refine (unhide CD _).mono ?_
    rintro e w3 ⟨rfl, rfl⟩
    clear CD
    go_wp2
    go_ret
    exact ⟨ret_bool (by rw [unhide HS]; simp), unhide HB1⟩
  · rw [decide_eq_false hz] at hbz HS
    clear hz
    go_wp2_with fail
    refine (unhide CN _).mono ?_
    rintro e w3 ⟨rfl, rfl⟩
    clear CN
    cases nk with
    | false =>
      go_wp2
      go_ret
      exact ⟨ret_bool (by rw [unhide HS]; simp), unhide HB1⟩
    | true =>
    go_wp2_with fail
    refine (unhide CD _).mono ?_
    rintro e w4 ⟨rfl, rfl⟩
    clear CD
    go_wp2
    go_ret
    exact ⟨ret_bool (by rw [unhide HS]; simp), unhide HB1⟩
end Go.Proofs.YtkpmocbfedgfhaaGreat

/-
  Whether a number counts, by the program; a walk over the dump.
-/
namespace Go.Proofs.YtkpmocbfedgfhaaGreat
open Go.RowKit
set_option linter.unusedVariables false
set_option maxHeartbeats 400000 in
theorem countOk_any (n : Int) (w : World) :
    Calls Tryz.prog 64 #[.int .i64 n] w fun e w' => e = .returned (.bool (inB n 1 1000000000)) ∧ w = w' := by
  by_cases h1 : 1 ≤ n
  · by_cases h2 : n ≤ 1000000000
    · go_enter Tryz.func64, Tryz.ntmps64
      go_wp2
      go_ret
      exact ⟨ret_bool (inB_true h1 h2).symm, rfl⟩
    · go_enter Tryz.func64, Tryz.ntmps64
      go_wp2
      go_ret
      exact ⟨ret_bool (inB_false (by omega)).symm, rfl⟩
  · go_enter Tryz.func64, Tryz.ntmps64
    go_wp2
    go_ret
    exact ⟨ret_bool (inB_false (by omega)).symm, rfl⟩
end Go.Proofs.YtkpmocbfedgfhaaGreat

/-
  Asks that are right, an application's; the numbers of a state: by the program; walks over the dump.
-/
namespace Go.Proofs.YtkpmocbfedgfhaaGreat
open Go.RowKit
set_option linter.unusedVariables false
def idxK (p : Ask → Bool) : List Ask → Nat → Int
  | [], _ => -1
  | q :: t, k => if p q = true then (k : Int) else idxK p t (k + 1)
theorem idxK_step {p : Ask → Bool} {l : List Ask} {k : Nat} (h : k < l.length) : idxK p (l.drop k) k = if p l[k] = true then (k : Int) else idxK p (l.drop (k + 1)) (k + 1) := by
  rw [List.drop_eq_getElem_cons h, idxK]
theorem idxK_end {p : Ask → Bool} {l : List Ask} {k : Nat} (h : l.length ≤ k) : idxK p (l.drop k) k = -1 := by
  rw [List.drop_of_length_le h]; rfl
theorem idxK_has (p : Ask → Bool) : ∀ (l : List Ask) (k : Nat), decide (0 ≤ idxK p l k) = l.any p
  | [], _ => by simp [idxK]
  | q :: t, k => by
    rw [idxK, List.any_cons]
    by_cases h : p q = true
    · rw [if_pos h, h]; simp
    · rw [if_neg h, idxK_has p t (k + 1)]; simp [h]

set_option maxRecDepth 100000 in
set_option maxHeartbeats 2000000 in
theorem indexFuncK_any (g : Nat) (lb : Array Value) (eg : ∀ args w, (callFunc g args).run Tryz.prog w = .ok (.enter g args) w) (p : Ask → Bool) (ao : Option Addr) (len cap : Nat) (l : List Ask) (w : World) (h : AskRow w ao len l) (hl : len ≤ 1048576)
    (hp : ∀ wx (q : Ask), q ∈ l → Below w.heap.size w wx → Calls Tryz.prog g (#[askv q] ++ lb) wx fun e w' => e = .returned (.bool (p q)) ∧ Below wx.heap.size wx w') :
    Calls Tryz.prog 141 #[.slice ao len cap, .func (.func g) #[] lb] w fun e w' => e = .returned (.int .i64 (idxK p l 0)) ∧ Below w.heap.size w w' := by
  have HR := hide h
  have HL := hide h.1
  have HP := hide hp
  clear h hp
  go_enter Tryz.func141, Tryz.ntmps141
  go_wp2
  go_loopw [5, 8] (fun _ i wr => ∃ k : Nat, k ≤ len ∧ i = .int .i64 k ∧ Hid (idxK p l 0 = idxK p (l.drop k) k) ∧ Hid (Below w.heap.size w wr)) (fun _ i _ => len - (intOf i).toNat)
  case atStart => exact ⟨0, Nat.zero_le _, rfl, hide (by simp), hide (Below.refl _ _)⟩
  case round =>
    obtain ⟨k, hk, rfl, hq, HB⟩ := hrel
    by_cases hlt : k < len
    · obtain ⟨b, off, rfl, hx⟩ := ((unhide HR).below (unhide HB)).at hlt
      have hkl : k < l.length := by have := unhide HL; omega
      have hst := hide (idxK_step (p := p) (l := l) (k := k) hkl)
      obtain ⟨c0, c1, c2, c3, c4⟩ := hx hkl
      clear hx
      have HC := hide (unhide HP wr l[k] (List.getElem_mem _) (unhide HB))
      obtain ⟨⟨y0, y1, y2, nd, y4⟩, hs⟩ : ∃ s, l[k] = s := ⟨_, rfl⟩
      rw [hs] at c0 c1 c2 c3 c4 hst HC
      simp only at c0 c1 c2 c3 c4
      clear hs hkl HP
      cases hpq : p ⟨y0, y1, y2, nd, y4⟩ with
      | true =>
        rw [hpq] at HC
        have HQ := hide hpq
        clear hpq
        go_wp2_with (go_at_fn g; refine (unhide HC).mono ?_; rintro e w' ⟨rfl, hb⟩)
        go_ret
        exact ⟨ret_int (by rw [unhide hq, unhide hst, if_pos (unhide HQ)]), below_on (unhide HB) hb⟩
      | false =>
        rw [hpq] at HC
        have HQ := hide hpq
        clear hpq
        go_wp2_with (go_at_fn g; refine (unhide HC).mono ?_; rintro e w' ⟨rfl, hb⟩)
        go_roundw
        case rel => exact ⟨k + 1, by omega, by go_num, hide (by rw [unhide hq, unhide hst, if_neg (by rw [unhide HQ]; simp)]), hide (below_on (unhide HB) hb)⟩
        case measure => simp [intOf]; omega
    · go_wp2
      go_ret
      exact ⟨ret_int (by rw [unhide hq, idxK_end (by have := unhide HL; omega)]), unhide HB⟩

set_option maxRecDepth 100000 in
set_option maxHeartbeats 1000000 in
theorem containsFuncK_any (g : Nat) (lb : Array Value) (eg : ∀ args w, (callFunc g args).run Tryz.prog w = .ok (.enter g args) w) (p : Ask → Bool) (ao : Option Addr) (len cap : Nat) (l : List Ask) (w : World) (h : AskRow w ao len l) (hl : len ≤ 1048576)
    (hp : ∀ wx (q : Ask), q ∈ l → Below w.heap.size w wx → Calls Tryz.prog g (#[askv q] ++ lb) wx fun e w' => e = .returned (.bool (p q)) ∧ Below wx.heap.size wx w') :
    Calls Tryz.prog 105 #[.slice ao len cap, .func (.func g) #[] lb] w fun e w' => e = .returned (.bool (l.any p)) ∧ Below w.heap.size w w' := by
  have C := hide (indexFuncK_any g lb eg p ao len cap l w h hl hp)
  have HS := hide (idxK_has p l 0)
  obtain ⟨i, hi⟩ : ∃ i, idxK p l 0 = i := ⟨_, rfl⟩
  obtain ⟨b, hb⟩ : ∃ b, l.any p = b := ⟨_, rfl⟩
  rw [hi] at C HS
  rw [hb] at HS ⊢
  clear h hp hi hb
  go_enter Tryz.func105, Tryz.ntmps105
  go_wp2_with fail
  refine (unhide C).mono ?_
  rintro e w1 ⟨rfl, hb⟩
  have HB := hide hb
  clear hb
  by_cases h0 : 0 ≤ i
  · go_wp2
    go_ret
    exact ⟨ret_bool (by first | exact unhide HS | (rw [← unhide HS]; simp [h0])), unhide HB⟩
  · go_wp2
    go_ret
    exact ⟨ret_bool (by first | exact unhide HS | (rw [← unhide HS]; simp [h0])), unhide HB⟩

set_option maxRecDepth 100000 in
set_option maxHeartbeats 1000000 in
theorem askNot_any (q : Ask) (w : World) (hn : q.node.length ≤ 1048576) :
    Calls Tryz.prog 106 #[askv q] w fun e w' => e = .returned (.bool (!askOk q)) ∧ Below w.heap.size w w' := by
  have C := hide (askOk_any q (w.alloc (.cells #[.int .i64 q.mem, .int .i64 q.cpu, .int .i64 q.count, .string (bs q.node), .int .i64 q.missed] 121)) hn)
  obtain ⟨o, ho⟩ : ∃ o, askOk q = o := ⟨_, rfl⟩
  rw [ho] at C ⊢
  obtain ⟨y0, y1, y2, nd, y4⟩ := q
  clear ho
  go_enter Tryz.func106, Tryz.ntmps106
  go_wp2_with fail
  refine (unhide C).mono ?_
  rintro e w1 ⟨rfl, hb⟩
  have HB := hide (below_on (below_al (Below.refl _ w) _) hb)
  clear hb C
  cases o
  · go_wp2
    go_ret
    exact ⟨rfl, unhide HB⟩
  · go_wp2
    go_ret
    exact ⟨rfl, unhide HB⟩

def asksOk (l : List Ask) : Bool := decide (l.length ≤ 10) && l.all askOk
set_option maxRecDepth 100000 in
set_option maxHeartbeats 1000000 in
theorem asksOk_any (id : Int) (qu : List UInt8) (ao : Option Addr) (len cap : Nat) (l : List Ask) (w : World) (h : AskRow w ao len l) (hl : len ≤ 1048576) (hn : ∀ q ∈ l, q.node.length ≤ 1048576) :
    Calls Tryz.prog 66 #[applv id qu ao len cap] w fun e w' => e = .returned (.bool (asksOk l)) ∧ Below w.heap.size w w' := by
  have hb0 := below_al (Below.refl _ w) (.cells #[.int .i64 id, .string (bs qu), .slice ao len cap] 44)
  have C := hide (containsFuncK_any 106 #[] (enters_of Tryz.func106 (by kernel_rfl) rfl) (fun q => !askOk q) ao len cap l _ (h.below hb0) hl (fun wx q hq _ => askNot_any q wx (hn q hq)))
  have HS := hide (show asksOk l = (decide (len ≤ 10) && !(l.any fun q => !askOk q)) by rw [asksOk, ← h.1]; congr 1; rw [List.not_any_eq_all_not]; simp)
  obtain ⟨o, ho⟩ : ∃ o, asksOk l = o := ⟨_, rfl⟩
  obtain ⟨b, hb⟩ : ∃ o, (l.any fun q => !askOk q) = o := ⟨_, rfl⟩
  rw [ho] at HS ⊢
  rw [hb] at HS C
  have HB0 := hide hb0
  clear ho hb h hn hb0
  by_cases h10 : len ≤ 10
  · have hi : (len : Int) ≤ 10 := by omega
    rw [decide_eq_true h10] at HS
    clear h10
    go_enter Tryz.func66, Tryz.ntmps66
    go_wp2_with fail
    refine (unhide C).mono ?_
    rintro e w1 ⟨rfl, hb⟩
    have HB := hide (below_on (unhide HB0) hb)
    clear hb C HB0
    go_wp2
    go_ret
    exact ⟨ret_bool (by rw [unhide HS]; simp), unhide HB⟩
  · have hi : ¬ (len : Int) ≤ 10 := by omega
    rw [decide_eq_false h10] at HS
    clear h10 C
    go_enter Tryz.func66, Tryz.ntmps66
    go_wp2
    go_ret
    exact ⟨ret_bool (by rw [unhide HS]; simp), unhide HB0⟩

def numsOk (s : St) : Bool := inB s.clock 0 1000000000 && (inB s.epoch 1 1000000000 && (inB s.next 1 1000000000 && inB s.serial 1 1000000000))
set_option maxRecDepth 100000 in
set_option maxHeartbeats 1000000 in
theorem numbersOk_any (x : Sls) (s : St) (w : World) :
    Calls Tryz.prog 33 #[sv x s] w fun e w' => e = .returned (.bool (numsOk s)) ∧ Below w.heap.size w w' := by
  obtain ⟨qa, ql, qc, aa, al, ac, ma, ml, mc, ca, cl, cc⟩ := x
  obtain ⟨qs, clock, epoch, next, serial, apps, ms, cs⟩ := s
  have HB0 := hide (below_al (Below.refl _ w) (.cells (svc ⟨qa, ql, qc, aa, al, ac, ma, ml, mc, ca, cl, cc⟩ ⟨qs, clock, epoch, next, serial, apps, ms, cs⟩) 31))
  simp only [numsOk]
  obtain ⟨b0, h0⟩ : ∃ b, inB clock 0 1000000000 = b := ⟨_, rfl⟩
  obtain ⟨b1, h1⟩ : ∃ b, inB epoch 1 1000000000 = b := ⟨_, rfl⟩
  obtain ⟨b2, h2⟩ : ∃ b, inB next 1 1000000000 = b := ⟨_, rfl⟩
  obtain ⟨b3, h3⟩ : ∃ b, inB serial 1 1000000000 = b := ⟨_, rfl⟩
  have C0 := hide (fun wx => by have := numberOk_any clock wx; rw [h0] at this; exact this)
  have C1 := hide (fun wx => by have := countOk_any epoch wx; rw [h1] at this; exact this)
  have C2 := hide (fun wx => by have := countOk_any next wx; rw [h2] at this; exact this)
  have C3 := hide (fun wx => by have := countOk_any serial wx; rw [h3] at this; exact this)
  rw [h0, h1, h2, h3]
  clear h0 h1 h2 h3
  go_enter Tryz.func33, Tryz.ntmps33
  go_wp2_with fail
  refine (unhide C0 _).mono ?_
  rintro e w1 ⟨rfl, rfl⟩
  cases b0 with
  | false =>
    go_wp2
    go_ret
    exact ⟨rfl, unhide HB0⟩
  | true =>
  go_wp2_with fail
  refine (unhide C1 _).mono ?_
  rintro e w1 ⟨rfl, rfl⟩
  cases b1 with
  | false =>
    go_wp2
    go_ret
    exact ⟨rfl, unhide HB0⟩
  | true =>
  go_wp2_with fail
  refine (unhide C2 _).mono ?_
  rintro e w1 ⟨rfl, rfl⟩
  cases b2 with
  | false =>
    go_wp2
    go_ret
    exact ⟨rfl, unhide HB0⟩
  | true =>
  go_wp2_with fail
  refine (unhide C3 _).mono ?_
  rintro e w1 ⟨rfl, rfl⟩
  go_wp2
  go_ret
  exact ⟨ret_bool (by simp), unhide HB0⟩
end Go.Proofs.YtkpmocbfedgfhaaGreat

/-
  Whether queues are a tree: what the model's QueuesOk answers; a walk over the dump.
-/
namespace Go.Proofs.YtkpmocbfedgfhaaGreat
open Go.RowKit
set_option linter.unusedVariables false
set_option maxRecDepth 100000 in
set_option maxHeartbeats 4000000 in
theorem specQueuesOk_any (ao : Option Addr) (len cap : Nat) (l : List Q) (w : World) (h : QRow w ao len l) (hl : len ≤ 1048576) (hn : ∀ q ∈ l, q.name.length ≤ 1048576) :
    Calls Tryz.prog 9 #[.slice ao len cap] w fun e w' => e = .returned (.bool (queuesOk l)) ∧ Below w.heap.size w w' := by
  have HR := hide h
  have HL := hide h.1
  have HN := hide hn
  clear h hn
  go_enter Tryz.func9, Tryz.ntmps9
  go_wp2
  go_loopw [3] (fun i wr => ∃ k : Nat, k ≤ len ∧ i = .int .i64 k ∧ Hid (okFrom l l 0 = okFrom l (l.drop k) k) ∧ Hid (Below w.heap.size w wr)) (fun i _ => len - (intOf i).toNat)
  case atStart => exact ⟨0, Nat.zero_le _, rfl, hide (by simp), hide (Below.refl _ _)⟩
  case round =>
    obtain ⟨k, hk, rfl, hp, HB⟩ := hrel
    by_cases hlt : k < len
    · have HR2 := hide ((unhide HR).below (unhide HB))
      obtain ⟨b, off, rfl, hq⟩ := (unhide HR2).at hlt
      have hkl : k < l.length := by have := unhide HL; omega
      have hst := hide (okFrom_step (l := l) (k := k) hkl)
      obtain ⟨c0, c1, c2, c3⟩ := hq hkl
      have hz := unhide HN l[k] (List.getElem_mem _)
      clear hq
      obtain ⟨⟨nm, pa, du, mo⟩, hs⟩ : ∃ s, l[k] = s := ⟨_, rfl⟩
      rw [hs] at c0 c1 c2 c3 hst hz
      simp only at c0 c1 c2 c3 hz
      clear hs hkl
      obtain ⟨b1, g1⟩ : ∃ b, nameOk nm = b := ⟨_, rfl⟩
      obtain ⟨p1, g2⟩ : ∃ p, place l nm = p := ⟨_, rfl⟩
      obtain ⟨p2, g3⟩ : ∃ p, place l pa = p := ⟨_, rfl⟩
      have CN := hide (fun wx => by have := specNameOk_any (bs nm) wx (by rw [bs_size]; exact hz); rw [show (bs nm).data.toList = nm by simp [bs], g1] at this; exact this)
      have RR := (unhide HR2).below (below_al (Below.refl _ wr) (.cells #[.string (bs nm), .string (bs pa), .int .i64 du, .int .i64 mo] 63))
      have CP1 := hide (by have := l03Place_any (some ⟨b, off, none⟩) len cap l nm _ RR hl; rw [g2] at this; exact this)
      have CP2 := hide (by have := l03Place_any (some ⟨b, off, none⟩) len cap l pa _ RR hl; rw [g3] at this; exact this)
      have HB2 := hide (below_al (unhide HB) (.cells #[.string (bs nm), .string (bs pa), .int .i64 du, .int .i64 mo] 63))
      have G1 := hide g1
      have G2 := hide g2
      have G3 := hide g3
      clear g1 g2 g3 RR HR2 hz
      cases b1 with
      | false =>
        go_wp2_with (first | (go_at_call 24; refine (unhide CN _).mono ?_; rintro e w' ⟨rfl, rfl⟩) | (go_at_call_of 25 nm; refine (unhide CP1).mono ?_; rintro e w' ⟨rfl, rfl⟩) | (go_at_call_of 25 pa; refine (unhide CP2).mono ?_; rintro e w' ⟨rfl, rfl⟩) | (go_at_call 26; refine (l01In_any _ _ _ _).mono ?_; rintro e w' ⟨rfl, rfl⟩))
        go_ret
        exact ⟨ret_bool (ok_no1 (by rw [unhide hp, unhide hst]; simp [qOk, unhide G1])).symm, unhide HB2⟩
      | true =>
        by_cases e2 : p1 = k
        · subst e2
          cases h3 : inB mo 0 10000
          · skip
            go_wp2_with (first | (go_at_call 24; refine (unhide CN _).mono ?_; rintro e w' ⟨rfl, rfl⟩) | (go_at_call_of 25 nm; refine (unhide CP1).mono ?_; rintro e w' ⟨rfl, rfl⟩) | (go_at_call_of 25 pa; refine (unhide CP2).mono ?_; rintro e w' ⟨rfl, rfl⟩) | (go_at_call 26; refine (l01In_any _ _ _ _).mono ?_; rintro e w' ⟨rfl, rfl⟩))
            go_ret
            exact ⟨ret_bool (ok_no1 (by rw [unhide hp, unhide hst]; simp [qOk, unhide G1, unhide G2, h3])).symm, unhide HB2⟩
          · cases h4 : inB du 0 mo
            · skip
              go_wp2_with (first | (go_at_call 24; refine (unhide CN _).mono ?_; rintro e w' ⟨rfl, rfl⟩) | (go_at_call_of 25 nm; refine (unhide CP1).mono ?_; rintro e w' ⟨rfl, rfl⟩) | (go_at_call_of 25 pa; refine (unhide CP2).mono ?_; rintro e w' ⟨rfl, rfl⟩) | (go_at_call 26; refine (l01In_any _ _ _ _).mono ?_; rintro e w' ⟨rfl, rfl⟩))
              go_ret
              exact ⟨ret_bool (ok_no1 (by rw [unhide hp, unhide hst]; simp [qOk, unhide G1, unhide G2, h3, h4])).symm, unhide HB2⟩
            · by_cases hk0 : k = 0
              · have k1 : ((k : Int) == 0) = true := by simp [hk0]
                have k2 : ¬ (0 : Int) < k := by omega
                have k3 : ¬ 0 < k := by omega
                have HK0 := hide hk0
                clear hk0
                have hbe := bs_empty pa
                by_cases e5 : pa = []
                · have E5 := hide e5
                  rw [decide_eq_true e5] at hbe
                  clear e5
                  by_cases e6 : du = 10000
                  · subst e6
                    go_wp2_with (first | (go_at_call 24; refine (unhide CN _).mono ?_; rintro e w' ⟨rfl, rfl⟩) | (go_at_call_of 25 nm; refine (unhide CP1).mono ?_; rintro e w' ⟨rfl, rfl⟩) | (go_at_call_of 25 pa; refine (unhide CP2).mono ?_; rintro e w' ⟨rfl, rfl⟩) | (go_at_call 26; refine (l01In_any _ _ _ _).mono ?_; rintro e w' ⟨rfl, rfl⟩))
                    go_roundw
                    case rel => exact ⟨k + 1, by omega, by go_num, hide (by rw [unhide hp, unhide hst]; simp [qOk, unhide G1, unhide G2, h3, h4, unhide HK0, unhide E5]), HB2⟩
                    case measure => simp [intOf]; omega
                  · have E6 := hide e6
                    have hd : (du == 10000) = false := by simp [e6]
                    clear e6
                    go_wp2_with (first | (go_at_call 24; refine (unhide CN _).mono ?_; rintro e w' ⟨rfl, rfl⟩) | (go_at_call_of 25 nm; refine (unhide CP1).mono ?_; rintro e w' ⟨rfl, rfl⟩) | (go_at_call_of 25 pa; refine (unhide CP2).mono ?_; rintro e w' ⟨rfl, rfl⟩) | (go_at_call 26; refine (l01In_any _ _ _ _).mono ?_; rintro e w' ⟨rfl, rfl⟩))
                    go_ret
                    exact ⟨ret_bool (ok_no1 (by rw [unhide hp, unhide hst]; simp [qOk, unhide G1, unhide G2, h3, h4, unhide HK0, unhide E5, unhide E6])).symm, unhide HB2⟩
                · have E5 := hide e5
                  rw [decide_eq_false e5] at hbe
                  clear e5
                  go_wp2_with (first | (go_at_call 24; refine (unhide CN _).mono ?_; rintro e w' ⟨rfl, rfl⟩) | (go_at_call_of 25 nm; refine (unhide CP1).mono ?_; rintro e w' ⟨rfl, rfl⟩) | (go_at_call_of 25 pa; refine (unhide CP2).mono ?_; rintro e w' ⟨rfl, rfl⟩) | (go_at_call 26; refine (l01In_any _ _ _ _).mono ?_; rintro e w' ⟨rfl, rfl⟩))
                  go_ret
                  exact ⟨ret_bool (ok_no1 (by rw [unhide hp, unhide hst]; simp [qOk, unhide G1, unhide G2, h3, h4, unhide HK0, unhide E5])).symm, unhide HB2⟩
              · have k1 : ((k : Int) == 0) = false := by simp [hk0]
                have k2 : (0 : Int) < k := by omega
                have k3 : 0 < k := by omega
                have HK0 := hide hk0
                clear hk0
                cases h7 : inB p2 0 ((k : Int) - 1)
                · skip
                  go_wp2_with (first | (go_at_call 24; refine (unhide CN _).mono ?_; rintro e w' ⟨rfl, rfl⟩) | (go_at_call_of 25 nm; refine (unhide CP1).mono ?_; rintro e w' ⟨rfl, rfl⟩) | (go_at_call_of 25 pa; refine (unhide CP2).mono ?_; rintro e w' ⟨rfl, rfl⟩) | (go_at_call 26; refine (l01In_any _ _ _ _).mono ?_; rintro e w' ⟨rfl, rfl⟩))
                  go_ret
                  exact ⟨ret_bool (ok_no1 (by rw [unhide hp, unhide hst]; simp [qOk, unhide G1, unhide G2, unhide G3, h3, h4, h7, unhide HK0])).symm, unhide HB2⟩
                · skip
                  go_wp2_with (first | (go_at_call 24; refine (unhide CN _).mono ?_; rintro e w' ⟨rfl, rfl⟩) | (go_at_call_of 25 nm; refine (unhide CP1).mono ?_; rintro e w' ⟨rfl, rfl⟩) | (go_at_call_of 25 pa; refine (unhide CP2).mono ?_; rintro e w' ⟨rfl, rfl⟩) | (go_at_call 26; refine (l01In_any _ _ _ _).mono ?_; rintro e w' ⟨rfl, rfl⟩))
                  go_roundw
                  case rel => exact ⟨k + 1, by omega, by go_num, hide (by rw [unhide hp, unhide hst]; simp [qOk, unhide G1, unhide G2, unhide G3, h3, h4, h7, unhide HK0]), HB2⟩
                  case measure => simp [intOf]; omega
        · have h2 : (p1 == (k : Int)) = false := by simp [e2]
          have E2 := hide e2
          clear e2
          go_wp2_with (first | (go_at_call 24; refine (unhide CN _).mono ?_; rintro e w' ⟨rfl, rfl⟩) | (go_at_call_of 25 nm; refine (unhide CP1).mono ?_; rintro e w' ⟨rfl, rfl⟩) | (go_at_call_of 25 pa; refine (unhide CP2).mono ?_; rintro e w' ⟨rfl, rfl⟩) | (go_at_call 26; refine (l01In_any _ _ _ _).mono ?_; rintro e w' ⟨rfl, rfl⟩))
          go_ret
          exact ⟨ret_bool (ok_no1 (by rw [unhide hp, unhide hst]; simp [qOk, unhide G1, unhide G2, unhide E2])).symm, unhide HB2⟩
    · have ho := hide (show okFrom l l 0 = true by rw [unhide hp]; exact okFrom_end (by have := unhide HL; omega))
      have HD := hide (okFrom_due l 0 (unhide ho))
      have HR2 := hide ((unhide HR).below (unhide HB))
      clear hp
      go_wp2
      go_loopw [5] (fun i wx => ∃ m : Nat, m ≤ len ∧ i = .int .i64 m ∧ Hid (sumsOk l l = sumsOk l (l.drop m)) ∧ wx = wr) (fun i _ => len - (intOf i).toNat)
      case atStart => exact ⟨0, Nat.zero_le _, rfl, hide (by simp), rfl⟩
      case round =>
        obtain ⟨m, hm, rfl, hp, rfl⟩ := hrel
        by_cases hlm : m < len
        · obtain ⟨b, off, rfl, hq⟩ := (unhide HR2).at hlm
          have hml : m < l.length := by have := unhide HL; omega
          have hst := hide (sumsOk_step (l := l) (k := m) hml)
          have c0 := (hq hml).1
          clear hq
          obtain ⟨nm, hs⟩ : ∃ s, l[m].name = s := ⟨_, rfl⟩
          rw [hs] at c0 hst
          obtain ⟨t, ht⟩ : ∃ t, kidsSum l nm = t := ⟨_, rfl⟩
          have CS := hide (by have := l03Sum_any (some ⟨b, off, none⟩) len cap l nm _ (unhide HR2) hl (unhide HD); rw [ht] at this; exact this)
          have HTT := hide ht
          clear hs hml ht
          by_cases hgt : 10000 < t
          · go_wp2_with (go_at_call 27; refine (unhide CS).mono ?_; rintro e w' ⟨rfl, rfl⟩)
            go_ret
            exact ⟨ret_bool (ok_no2 (by rw [unhide hp, unhide hst, unhide HTT]; simp; omega)).symm, unhide HB⟩
          · go_wp2_with (go_at_call 27; refine (unhide CS).mono ?_; rintro e w' ⟨rfl, rfl⟩)
            go_roundw
            case rel => exact ⟨m + 1, by omega, by go_num, hide (by rw [unhide hp, unhide hst, unhide HTT]; simp; omega), trivial⟩
            case measure => simp [intOf]; omega
        · have hfin := hide (ok_yes (unhide ho) (show sumsOk l l = true by rw [unhide hp]; exact sumsOk_end (by have := unhide HL; omega)))
          have HLL := unhide HL
          have hfin2 := hide (show inB (len : Int) 1 20 = queuesOk l by rw [unhide hfin, HLL])
          clear HLL
          go_wp2_with (go_at_call 26; refine (l01In_any _ _ _ _).mono ?_; rintro e w' ⟨rfl, rfl⟩)
          go_ret
          exact ⟨ret_bool (unhide hfin2), unhide HB⟩
end Go.Proofs.YtkpmocbfedgfhaaGreat

/-
  Whether a queue is nobody's parent: what the model's Leaf answers; a walk over the dump.
-/
namespace Go.Proofs.YtkpmocbfedgfhaaGreat
open Go.RowKit
set_option linter.unusedVariables false
def noKid (nm : List UInt8) : List Q → Bool
  | [] => true
  | q :: t => decide (q.parent ≠ nm) && noKid nm t
def leaf (l : List Q) (nm : List UInt8) : Bool := noKid nm l && (queuesOk l && decide (0 ≤ place l nm))
theorem noKid_step {nm : List UInt8} {l : List Q} {k : Nat} (h : k < l.length) : noKid nm (l.drop k) = (decide (l[k].parent ≠ nm) && noKid nm (l.drop (k + 1))) := by
  rw [List.drop_eq_getElem_cons h, noKid]
theorem noKid_end {nm : List UInt8} {l : List Q} {k : Nat} (h : l.length ≤ k) : noKid nm (l.drop k) = true := by
  rw [List.drop_of_length_le h]; rfl

set_option maxRecDepth 100000 in
set_option maxHeartbeats 1000000 in
theorem specLeaf_any (ao : Option Addr) (len cap : Nat) (l : List Q) (nm : List UInt8) (w : World) (h : QRow w ao len l) (hl : len ≤ 1048576) (hn : ∀ q ∈ l, q.name.length ≤ 1048576) :
    Calls Tryz.prog 55 #[.slice ao len cap, .string (bs nm)] w fun e w' => e = .returned (.bool (leaf l nm)) ∧ Below w.heap.size w w' := by
  have HR := hide h
  have HL := hide h.1
  have HN := hide hn
  clear h hn
  go_enter Tryz.func55, Tryz.ntmps55
  go_wp2
  go_loopw [5] (fun i wr => ∃ k : Nat, k ≤ len ∧ i = .int .i64 k ∧ Hid (noKid nm l = noKid nm (l.drop k)) ∧ wr = w) (fun i _ => len - (intOf i).toNat)
  case atStart => exact ⟨0, Nat.zero_le _, rfl, hide (by simp), rfl⟩
  case round =>
    obtain ⟨k, hk, rfl, hp, rfl⟩ := hrel
    by_cases hlt : k < len
    · obtain ⟨b, off, rfl, hq⟩ := (unhide HR).at hlt
      have hkl : k < l.length := by have := unhide HL; omega
      have hst := hide (noKid_step (nm := nm) (l := l) (k := k) hkl)
      have hq0 := (hq hkl).2.1
      clear hq
      obtain ⟨s, hs⟩ : ∃ s, l[k].parent = s := ⟨_, rfl⟩
      rw [hs] at hq0 hst
      have hbe := bs_eq s nm
      clear hs hkl
      by_cases he : s = nm
      · have HE := hide he
        rw [decide_eq_true he] at hbe
        clear he
        go_wp2
        go_ret
        exact ⟨ret_bool (by rw [leaf, unhide hp, unhide hst]; simp [unhide HE]), Below.refl _ _⟩
      · have HE := hide he
        rw [decide_eq_false he] at hbe
        clear he
        go_wp2
        go_roundw
        case rel => exact ⟨k + 1, by omega, by go_num, hide (by rw [unhide hp, unhide hst]; simp [unhide HE]), trivial⟩
        case measure => simp [intOf]; omega
    · have hk2 := hide (show leaf l nm = (queuesOk l && decide (0 ≤ place l nm)) by rw [leaf, unhide hp, noKid_end (by have := unhide HL; omega)]; rfl)
      have CQ := hide (specQueuesOk_any ao len cap l wr (unhide HR) hl (unhide HN))
      obtain ⟨o, ho⟩ : ∃ o, queuesOk l = o := ⟨_, rfl⟩
      obtain ⟨p, hp2⟩ : ∃ p, place l nm = p := ⟨_, rfl⟩
      rw [ho] at CQ hk2
      have CP := hide (fun wx (hb : Below wr.heap.size wr wx) => by have := l03Place_any ao len cap l nm wx ((unhide HR).below hb) hl; rw [hp2] at this; exact this)
      rw [hp2] at hk2
      clear ho hp2 hp
      go_wp2_with fail
      refine (unhide CQ).mono ?_
      rintro e w1 ⟨rfl, hb⟩
      have HB := hide hb
      clear hb CQ
      cases o with
      | false =>
        go_wp2
        go_ret
        exact ⟨ret_bool (by rw [unhide hk2]; rfl), unhide HB⟩
      | true =>
        go_wp2_with fail
        refine (unhide CP _ (unhide HB)).mono ?_
        rintro e w2 ⟨rfl, rfl⟩
        by_cases h0 : 0 ≤ p
        · go_wp2
          go_ret
          exact ⟨ret_bool (by rw [unhide hk2]; simp [h0]), unhide HB⟩
        · go_wp2
          go_ret
          exact ⟨ret_bool (by rw [unhide hk2]; simp), unhide HB⟩
end Go.Proofs.YtkpmocbfedgfhaaGreat

/-
  The queue, its parent, and so on up to the first one: in plain words.
-/
namespace Go.Proofs.YtkpmocbfedgfhaaGreat
open Go.RowKit
set_option linter.unusedVariables false
theorem placeFrom_range (nm : List UInt8) : ∀ (l : List Q) (k : Nat), placeFrom nm l k = -1 ∨ ((k : Int) ≤ placeFrom nm l k ∧ placeFrom nm l k < k + l.length)
  | [], _ => .inl rfl
  | q :: t, k => by
    rw [placeFrom]
    split
    · right; simp; omega
    · rcases placeFrom_range nm t (k + 1) with h | h
      · exact .inl h
      · right; simp; omega
theorem place_range (l : List Q) (nm : List UInt8) : place l nm = -1 ∨ (0 ≤ place l nm ∧ place l nm < l.length) := by
  rcases placeFrom_range nm l 0 with h | h
  · exact .inl h
  · right; unfold place; simp at h; omega
theorem placeFrom_none {nm : List UInt8} : ∀ {l : List Q} {k : Nat}, (∀ q ∈ l, q.name ≠ nm) → placeFrom nm l k = -1
  | [], _, _ => rfl
  | q :: t, k, h => by
    rw [placeFrom, if_neg (h q (by simp))]
    exact placeFrom_none (fun x hx => h x (by simp [hx]))
theorem okFrom_at {l : List Q} : ∀ (m : List Q) (k : Nat), okFrom l m k = true → ∀ i (h : i < m.length), qOk l (k + i) m[i] = true
  | [], _, _, i, h => by simp at h
  | x :: t, k, ho, i, h => by
    rw [okFrom, Bool.and_eq_true] at ho
    cases i with
    | zero => simpa using ho.1
    | succ j =>
      have := okFrom_at t (k + 1) ho.2 j (by simpa using h)
      rw [show k + 1 + j = k + (j + 1) by omega] at this
      simpa using this
end Go.Proofs.YtkpmocbfedgfhaaGreat
