/-
  Several texts of this claim in one: All, NameS, Digit, Name, CountI, RecV (pack.py put them together); each says in its own remark what is proved.
-/
import Derived.Test.YtobpjegfgegkcaaGreatDoorPackA
import Derived.ProofKit
import Derived.OpenShut
import Derived.ChangeSame
import Derived.Deep.Slices
/-
  Properties of all bytes of a text.
-/
namespace Go.Proofs.YtobpjegfgegkcaaGreatDoor
open Go.RowKit
theorem all_snoc (s : ByteArray) (k : Nat) (h : k < s.size) (p : UInt8 → Bool) (h1 : (s.data.toList.take k).all p = true) (h2 : p s[k] = true) : (s.data.toList.take (k + 1)).all p = true := by
  rw [take_snoc s k h, List.all_append, h1]; simpa using h2
theorem not_all (s : ByteArray) (k : Nat) (h : k < s.size) (p : UInt8 → Bool) (h2 : p s[k] = false) : s.data.toList.all p = false := by
  rw [List.all_eq_false]
  exact ⟨s[k], by simp [ByteArray.getElem_eq_getElem_data], by simp [h2]⟩
end Go.Proofs.YtobpjegfgegkcaaGreatDoor

/-
  What the model's NameOk answers; a walk over the dump.
-/
namespace Go.Proofs.YtobpjegfgegkcaaGreatDoor
open Go.RowKit
/-- a small letter or a digit -/
def nameB (c : UInt8) : Bool := inB c.toNat 97 122 || inB c.toNat 48 57
def nameOk (l : List UInt8) : Bool := inB l.length 1 10 && l.all nameB


set_option maxHeartbeats 800000 in
theorem specNameOk_any (s : ByteArray) (w : World) (hs : s.size ≤ 1048576) :
    Calls Tryz.prog 57 #[.string s] w fun e w' => e = .returned (.bool (nameOk s.data.toList)) ∧ w' = w := by
  go_enter Tryz.func57, Tryz.ntmps57
  go_wp2
  go_loop [3] (fun i => ∃ k : Nat, k ≤ s.size ∧ i = .int .i64 k ∧ (s.data.toList.take k).all nameB = true) (fun i => s.size - (intOf i).toNat)
  case atStart => exact ⟨0, Nat.zero_le _, rfl, by simp⟩
  case round =>
    obtain ⟨k, hk, rfl, hall⟩ := hrel
    have HA := hide hall
    clear hall
    by_cases hlt : k < s.size
    · have hb : (s[k].toNat : Int) ≤ 255 := byte_le _
      by_cases h1 : 97 ≤ (s[k].toNat : Int) ∧ (s[k].toNat : Int) ≤ 122
      · have e1 : inB (s[k].toNat : Int) 97 122 = true := inB_true h1.1 h1.2
        clear h1
        go_wp2_with (go_at_call 56; refine (l01In_any _ _ _ _).mono ?_; rintro e w' ⟨rfl, rfl⟩)
        go_round
        case rel => exact ⟨k + 1, by omega, by go_num, all_snoc s k hlt _ (unhide HA) (by simp [nameB, e1])⟩
        case measure => simp [intOf]; omega
      · have e1 : inB (s[k].toNat : Int) 97 122 = false := inB_false h1
        clear h1
        by_cases h2 : 48 ≤ (s[k].toNat : Int) ∧ (s[k].toNat : Int) ≤ 57
        · have e2 : inB (s[k].toNat : Int) 48 57 = true := inB_true h2.1 h2.2
          clear h2
          go_wp2_with (go_at_call 56; refine (l01In_any _ _ _ _).mono ?_; rintro e w' ⟨rfl, rfl⟩)
          go_round
          case rel => exact ⟨k + 1, by omega, by go_num, all_snoc s k hlt _ (unhide HA) (by simp [nameB, e1, e2])⟩
          case measure => simp [intOf]; omega
        · have e2 : inB (s[k].toNat : Int) 48 57 = false := inB_false h2
          clear h2
          have hf : Hid (nameOk s.data.toList = false) := hide (by rw [nameOk, not_all s k hlt nameB (by simp [nameB, e1, e2])]; simp)
          go_wp2_with (go_at_call 56; refine (l01In_any _ _ _ _).mono ?_; rintro e w' ⟨rfl, rfl⟩)
          go_ret
          exact ⟨ret_bool (unhide hf).symm, rfl⟩
    · have hf : Hid (nameOk s.data.toList = inB (s.size : Int) 1 10) := hide (by rw [nameOk, ← take_all s k (by omega), unhide HA, take_all s k (by omega), len_eq]; simp)
      go_wp2_with (go_at_call 56; refine (l01In_any _ _ _ _).mono ?_; rintro e w' ⟨rfl, rfl⟩)
      go_ret
      exact ⟨ret_bool (unhide hf).symm, rfl⟩
end Go.Proofs.YtobpjegfgegkcaaGreatDoor

/-
  What the program's isDigit answers; a walk over the dump.
-/
namespace Go.Proofs.YtobpjegfgegkcaaGreatDoor
open Go.RowKit
set_option maxHeartbeats 400000 in
theorem isDigit_any (x : Int) (w : World) :
    Calls Tryz.prog 64 #[.int .u8 x] w fun e w' => e = .returned (.bool (inB x 48 57)) ∧ w' = w := by
  by_cases h1 : 48 ≤ x
  · by_cases h2 : x ≤ 57
    · go_enter Tryz.func64, Tryz.ntmps64
      go_wp2
      go_ret
      exact ⟨ret_bool (inB_true h1 h2).symm, rfl⟩
    · go_enter Tryz.func64, Tryz.ntmps64
      go_wp2
      go_ret
      exact ⟨ret_bool (inB_false (by omega)).symm, rfl⟩
  · go_enter Tryz.func64, Tryz.ntmps64
    go_wp2
    go_ret
    exact ⟨ret_bool (inB_false (by omega)).symm, rfl⟩
end Go.Proofs.YtobpjegfgegkcaaGreatDoor

/-
  What the program's NameOk answers: as the model's; a walk over the dump.
-/
namespace Go.Proofs.YtobpjegfgegkcaaGreatDoor
open Go.RowKit
set_option maxHeartbeats 800000 in
theorem implNameOk_any (s : ByteArray) (w : World) (hs : s.size ≤ 1048576) :
    Calls Tryz.prog 51 #[.string s] w fun e w' => e = .returned (.bool (nameOk s.data.toList)) ∧ w' = w := by
  by_cases h0 : 1 ≤ s.size
  · by_cases h1 : s.size ≤ 10
    · have hin : Hid (inB (s.data.toList.length : Int) 1 10 = true) := hide (by rw [len_eq]; exact inB_true (by omega) (by omega))
      go_enter Tryz.func51, Tryz.ntmps51
      go_wp2
      go_loop [14] (fun i => ∃ k : Nat, k ≤ s.size ∧ i = .int .i64 k ∧ (s.data.toList.take k).all nameB = true) (fun i => s.size - (intOf i).toNat)
      case atStart => exact ⟨0, Nat.zero_le _, rfl, by simp⟩
      case round =>
        obtain ⟨k, hk, rfl, hall⟩ := hrel
        have HA := hide hall
        clear hall
        by_cases hlt : k < s.size
        · have hb : (s[k].toNat : Int) ≤ 255 := byte_le _
          by_cases h3 : 48 ≤ (s[k].toNat : Int) ∧ (s[k].toNat : Int) ≤ 57
          · have e1 : inB (s[k].toNat : Int) 48 57 = true := inB_true h3.1 h3.2
            clear h3
            go_wp2_with (go_at_call 64; refine (isDigit_any _ _).mono ?_; rintro e w' ⟨rfl, rfl⟩)
            go_round
            case rel => exact ⟨k + 1, by omega, by go_num, all_snoc s k hlt _ (unhide HA) (by simp [nameB, e1])⟩
            case measure => simp [intOf]; omega
          · have e1 : inB (s[k].toNat : Int) 48 57 = false := inB_false h3
            clear h3
            by_cases h4 : 97 ≤ (s[k].toNat : Int)
            · by_cases h5 : (s[k].toNat : Int) ≤ 122
              · have HN : Hid (nameB s[k] = true) := hide (by simp [nameB, e1, inB_true h4 h5])
                go_wp2_with (go_at_call 64; refine (isDigit_any _ _).mono ?_; rintro e w' ⟨rfl, rfl⟩)
                go_round
                case rel => exact ⟨k + 1, by omega, by go_num, all_snoc s k hlt _ (unhide HA) (unhide HN)⟩
                case measure => simp [intOf]; omega
              · have hf : Hid (nameOk s.data.toList = false) := hide (by rw [nameOk, not_all s k hlt nameB (by simp [nameB, e1, inB_false (x := (s[k].toNat : Int)) (a := 97) (b := 122) (by omega)])]; simp)
                go_wp2_with (go_at_call 64; refine (isDigit_any _ _).mono ?_; rintro e w' ⟨rfl, rfl⟩)
                go_ret
                exact ⟨ret_bool (unhide hf).symm, rfl⟩
            · have hf : Hid (nameOk s.data.toList = false) := hide (by rw [nameOk, not_all s k hlt nameB (by simp [nameB, e1, inB_false (x := (s[k].toNat : Int)) (a := 97) (b := 122) (by omega)])]; simp)
              go_wp2_with (go_at_call 64; refine (isDigit_any _ _).mono ?_; rintro e w' ⟨rfl, rfl⟩)
              go_ret
              exact ⟨ret_bool (unhide hf).symm, rfl⟩
        · have hf : Hid (nameOk s.data.toList = true) := hide (by rw [nameOk, unhide hin, ← take_all s k (by omega), unhide HA]; rfl)
          go_wp2
          go_ret
          exact ⟨ret_bool (unhide hf).symm, rfl⟩
    · have hf : Hid (nameOk s.data.toList = false) := hide (by rw [nameOk, len_eq, inB_false (by omega)]; simp)
      go_enter Tryz.func51, Tryz.ntmps51
      go_wp2
      go_ret
      exact ⟨ret_bool (unhide hf).symm, rfl⟩
  · have hf : Hid (nameOk s.data.toList = false) := hide (by rw [nameOk, len_eq, inB_false (by omega)]; simp)
    go_enter Tryz.func51, Tryz.ntmps51
    go_wp2
    go_ret
    exact ⟨ret_bool (unhide hf).symm, rfl⟩
end Go.Proofs.YtobpjegfgegkcaaGreatDoor

/-
  Whether a number counts, by the program; a walk over the dump.
-/
namespace Go.Proofs.YtobpjegfgegkcaaGreatDoor
open Go.RowKit
set_option linter.unusedVariables false
set_option maxHeartbeats 400000 in
theorem countOk_any (n : Int) (w : World) :
    Calls Tryz.prog 50 #[.int .i64 n] w fun e w' => e = .returned (.bool (inB n 1 1000000000)) ∧ w = w' := by
  by_cases h1 : 1 ≤ n
  · by_cases h2 : n ≤ 1000000000
    · go_enter Tryz.func50, Tryz.ntmps50
      go_wp2
      go_ret
      exact ⟨ret_bool (inB_true h1 h2).symm, rfl⟩
    · go_enter Tryz.func50, Tryz.ntmps50
      go_wp2
      go_ret
      exact ⟨ret_bool (inB_false (by omega)).symm, rfl⟩
  · go_enter Tryz.func50, Tryz.ntmps50
    go_wp2
    go_ret
    exact ⟨ret_bool (inB_false (by omega)).symm, rfl⟩
end Go.Proofs.YtobpjegfgegkcaaGreatDoor

/-
  Records: values; which are right, by both sides; walks over the dump.
-/
namespace Go.Proofs.YtobpjegfgegkcaaGreatDoor
open Go.ChangeShapes Go.WideShapes Go.ChangeAt Go.RowKit Go.Deep
set_option linter.unusedVariables false
structure Rc where
  kind : Int
  app : Int
  queue : List UInt8
abbrev rcv (r : Rc) : Value := .agg #[.int .i64 r.kind, .int .i64 r.app, .string (bs r.queue)]
def recOk (r : Rc) : Bool :=
  if r.kind = 0 then inB r.app 1 1000000000 && nameOk r.queue
  else if r.kind = 1 then inB r.app 1 1000000000 && decide (r.queue = [])
  else if r.kind = 2 then decide (r.app = 0) && decide (r.queue = [])
  else false
theorem recOk_bd {r : Rc} (h : recOk r = true) : 0 ≤ r.kind ∧ r.kind ≤ 2 ∧ 0 ≤ r.app ∧ r.app ≤ 1000000000 ∧ r.queue.length ≤ 10 := by
  obtain ⟨k, a, q⟩ := r
  unfold recOk at h
  simp only at h ⊢
  split at h
  · simp only [inB, nameOk, Bool.and_eq_true, decide_eq_true_eq] at h; omega
  split at h
  · simp only [inB, Bool.and_eq_true, decide_eq_true_eq] at h; obtain ⟨h1, rfl⟩ := h; simp; omega
  split at h
  · simp only [Bool.and_eq_true, decide_eq_true_eq] at h; obtain ⟨h1, rfl⟩ := h; simp; omega
  · exact absurd h (by simp)

set_option maxRecDepth 100000 in
set_option maxHeartbeats 4000000 in
theorem specRecOk_any (r : Rc) (w : World) (hq : r.queue.length ≤ 1048576) :
    Calls Tryz.prog 39 #[rcv r] w fun e w' => e = .returned (.bool (recOk r)) ∧ Below w.heap.size w w' := by
  obtain ⟨k, a, q⟩ := r
  simp only at hq
  have hbe := bs_empty q
  obtain ⟨i1, hi1⟩ : ∃ b, inB a 1 1000000000 = b := ⟨_, rfl⟩
  obtain ⟨n1, hn1⟩ : ∃ b, nameOk q = b := ⟨_, rfl⟩
  have C1 := hide (fun wx => by have := l01In_any a 1 1000000000 wx; rw [hi1] at this; exact this)
  have C2 := hide (fun wx => by have := specNameOk_any (bs q) wx (by rw [bs_size]; exact hq); rw [show nameOk (bs q).data.toList = n1 from hn1] at this; exact this)
  have K0 := hide (blk_new w #[.int .i64 k, .int .i64 a, .string (bs q)] 25)
  have HB0 := hide (below_al (Below.refl _ w) (.cells #[.int .i64 k, .int .i64 a, .string (bs q)] 25))
  by_cases h0 : k = 0
  · subst h0
    have HR : recOk ⟨0, a, q⟩ = (i1 && n1) := by simp [recOk, hi1, hn1]
    rw [HR]
    clear hi1 hn1 HR
    cases i1
    · go_enter Tryz.func39, Tryz.ntmps39
      go_wp2_with fail
      refine (unhide C1 _).mono ?_
      rintro e w1 ⟨rfl, rfl⟩
      go_wp2
      go_ret
      exact ⟨rfl, unhide HB0⟩
    · go_enter Tryz.func39, Tryz.ntmps39
      go_wp2_with fail
      refine (unhide C1 _).mono ?_
      rintro e w1 ⟨rfl, rfl⟩
      go_wp2_with fail
      refine (unhide C2 _).mono ?_
      rintro e w2 ⟨rfl, rfl⟩
      go_wp2
      go_ret
      exact ⟨by simp, unhide HB0⟩
  by_cases h1 : k = 1
  · subst h1
    obtain ⟨z, hz⟩ : ∃ b, decide (q = []) = b := ⟨_, rfl⟩
    rw [hz] at hbe
    have HR : recOk ⟨1, a, q⟩ = (i1 && z) := by simp only [recOk, hi1, hz]; rfl
    rw [HR]
    clear hi1 hn1 HR hz
    cases i1 <;> cases z
    all_goals
      go_enter Tryz.func39, Tryz.ntmps39
      go_wp2_with fail
      refine (unhide C1 _).mono ?_
      rintro e w1 ⟨rfl, rfl⟩
      go_wp2
      go_ret
      exact ⟨rfl, unhide HB0⟩
  by_cases h2 : k = 2
  · subst h2
    obtain ⟨z, hz⟩ : ∃ b, decide (q = []) = b := ⟨_, rfl⟩
    rw [hz] at hbe
    by_cases ha : a = 0
    · subst ha
      have HR : recOk ⟨2, 0, q⟩ = z := by simp only [recOk, hz]; rfl
      rw [HR]
      clear hi1 hn1 HR hz
      cases z
      all_goals
        go_enter Tryz.func39, Tryz.ntmps39
        go_wp2
        go_ret
        exact ⟨rfl, unhide HB0⟩
    · have HR : recOk ⟨2, a, q⟩ = false := by simp [recOk, ha]
      rw [HR]
      clear hi1 hn1 HR hz
      go_enter Tryz.func39, Tryz.ntmps39
      go_wp2
      go_ret
      exact ⟨rfl, unhide HB0⟩
  have HR : recOk ⟨k, a, q⟩ = false := by simp [recOk, h0, h1, h2]
  rw [HR]
  clear hi1 hn1 HR
  go_enter Tryz.func39, Tryz.ntmps39
  go_wp2
  go_ret
  exact ⟨rfl, unhide HB0⟩

set_option maxRecDepth 100000 in
set_option maxHeartbeats 4000000 in
theorem implRecOk_any (r : Rc) (w : World) (hq : r.queue.length ≤ 1048576) :
    Calls Tryz.prog 28 #[rcv r] w fun e w' => e = .returned (.bool (recOk r)) ∧ Below w.heap.size w w' := by
  obtain ⟨k, a, q⟩ := r
  simp only at hq
  have hbe := bs_empty q
  obtain ⟨i1, hi1⟩ : ∃ b, inB a 1 1000000000 = b := ⟨_, rfl⟩
  obtain ⟨n1, hn1⟩ : ∃ b, nameOk q = b := ⟨_, rfl⟩
  have C1 := hide (fun wx => by have := countOk_any a wx; rw [hi1] at this; exact this)
  have C2 := hide (fun wx => by have := implNameOk_any (bs q) wx (by rw [bs_size]; exact hq); rw [show nameOk (bs q).data.toList = n1 from hn1] at this; exact this)
  have K0 := hide (blk_new w #[.int .i64 k, .int .i64 a, .string (bs q)] 25)
  have HB0 := hide (below_al (Below.refl _ w) (.cells #[.int .i64 k, .int .i64 a, .string (bs q)] 25))
  by_cases h0 : k = 0
  · subst h0
    have HR : recOk ⟨0, a, q⟩ = (i1 && n1) := by simp [recOk, hi1, hn1]
    rw [HR]
    clear hi1 hn1 HR
    cases i1
    · go_enter Tryz.func28, Tryz.ntmps28
      go_wp2_with fail
      refine (unhide C1 _).mono ?_
      rintro e w1 ⟨rfl, rfl⟩
      go_wp2
      go_ret
      exact ⟨rfl, unhide HB0⟩
    · go_enter Tryz.func28, Tryz.ntmps28
      go_wp2_with fail
      refine (unhide C1 _).mono ?_
      rintro e w1 ⟨rfl, rfl⟩
      go_wp2_with fail
      refine (unhide C2 _).mono ?_
      rintro e w2 ⟨rfl, rfl⟩
      go_wp2
      go_ret
      exact ⟨by simp, unhide HB0⟩
  by_cases h1 : k = 1
  · subst h1
    obtain ⟨z, hz⟩ : ∃ b, decide (q = []) = b := ⟨_, rfl⟩
    rw [hz] at hbe
    have HR : recOk ⟨1, a, q⟩ = (i1 && z) := by simp only [recOk, hi1, hz]; rfl
    rw [HR]
    clear hi1 hn1 HR hz
    cases i1 <;> cases z
    all_goals
      go_enter Tryz.func28, Tryz.ntmps28
      go_wp2_with fail
      refine (unhide C1 _).mono ?_
      rintro e w1 ⟨rfl, rfl⟩
      go_wp2
      go_ret
      exact ⟨rfl, unhide HB0⟩
  by_cases h2 : k = 2
  · subst h2
    obtain ⟨z, hz⟩ : ∃ b, decide (q = []) = b := ⟨_, rfl⟩
    rw [hz] at hbe
    by_cases ha : a = 0
    · subst ha
      have HR : recOk ⟨2, 0, q⟩ = z := by simp only [recOk, hz]; rfl
      rw [HR]
      clear hi1 hn1 HR hz
      cases z
      all_goals
        go_enter Tryz.func28, Tryz.ntmps28
        go_wp2
        go_ret
        exact ⟨rfl, unhide HB0⟩
    · have HR : recOk ⟨2, a, q⟩ = false := by simp [recOk, ha]
      rw [HR]
      clear hi1 hn1 HR hz
      go_enter Tryz.func28, Tryz.ntmps28
      go_wp2
      go_ret
      exact ⟨rfl, unhide HB0⟩
  have HR : recOk ⟨k, a, q⟩ = false := by simp [recOk, h0, h1, h2]
  rw [HR]
  clear hi1 hn1 HR
  go_enter Tryz.func28, Tryz.ntmps28
  go_wp2
  go_ret
  exact ⟨rfl, unhide HB0⟩

end Go.Proofs.YtobpjegfgegkcaaGreatDoor
