/-
  What is due to the kids of a queue together: what the model's l03Sum answers; a walk over the dump.
-/
import Derived.Test.YtbapainfiepadaaPlace
namespace Go.Proofs.Ytbapainfiepadaa
open Go.RowKit
set_option linter.unusedVariables false

/-- what is due together of those of that parent -/
def dueSum (nm : List UInt8) : List Q → Int
  | [] => 0
  | q :: t => (if q.parent = nm then q.due else 0) + dueSum nm t
/-- of the kids of a queue: the first one is nobody's kid -/
def kidsSum (l : List Q) (nm : List UInt8) : Int := dueSum nm (l.drop 1)
theorem dueSum_step {nm : List UInt8} {l : List Q} {k : Nat} (h : k < l.length) : dueSum nm (l.drop k) = (if l[k].parent = nm then l[k].due else 0) + dueSum nm (l.drop (k + 1)) := by
  rw [List.drop_eq_getElem_cons h, dueSum]
theorem dueSum_end {nm : List UInt8} {l : List Q} {k : Nat} (h : l.length ≤ k) : dueSum nm (l.drop k) = 0 := by
  rw [List.drop_of_length_le h]; rfl

set_option maxRecDepth 100000 in
set_option maxHeartbeats 1000000 in
theorem l03Sum_any (ao : Option Addr) (len cap : Nat) (l : List Q) (nm : List UInt8) (w : World) (h : QRow w ao len l) (hl : len ≤ 1048576) (hd : ∀ q ∈ l, 0 ≤ q.due ∧ q.due ≤ 10000) :
    Calls Try.prog 41 #[.slice ao len cap, .string (bs nm)] w fun e w' => e = .returned (.int .i64 (kidsSum l nm)) ∧ w = w' := by
  have HR := hide h
  have HL := hide h.1
  have HD := hide hd
  clear h hd
  go_enter Try.func41, Try.ntmps41
  go_wp2
  go_loopw [5, 6] (fun s i wr => ∃ (k : Nat) (a : Int), 1 ≤ k ∧ k ≤ len + 1 ∧ i = .int .i64 k ∧ s = .int .i64 a ∧ 0 ≤ a ∧ a ≤ 10000 * k ∧ Hid (kidsSum l nm = a + dueSum nm (l.drop k)) ∧ wr = w) (fun _ i _ => len + 1 - (intOf i).toNat)
  case atStart => exact ⟨1, 0, by omega, by omega, rfl, rfl, by omega, by omega, hide (by simp [kidsSum]), rfl⟩
  case round =>
    obtain ⟨k, a, hk1, hk, rfl, rfl, ha0, ha1, hp, rfl⟩ := hrel
    by_cases hlt : k < len
    · obtain ⟨b, off, rfl, hq⟩ := (unhide HR).at hlt
      have hkl : k < l.length := by have := unhide HL; omega
      have hst := hide (dueSum_step (nm := nm) (l := l) (k := k) hkl)
      have hq1 := (hq hkl).2.1
      have hq2 := (hq hkl).2.2.1
      obtain ⟨d0, d1⟩ := unhide HD l[k] (List.getElem_mem _)
      clear hq
      obtain ⟨s, hs⟩ : ∃ s, l[k].parent = s := ⟨_, rfl⟩
      obtain ⟨d, hdd⟩ : ∃ d, l[k].due = d := ⟨_, rfl⟩
      rw [hs] at hq1 hst
      rw [hdd] at hq2 hst d0 d1
      have hbe := bs_eq s nm
      clear hs hdd hkl
      by_cases he : s = nm
      · have HE := hide he
        rw [decide_eq_true he] at hbe
        clear he
        go_wp2
        go_roundw
        case rel => exact ⟨k + 1, a + d, by omega, by omega, by go_num, by go_num, by omega, by omega, hide (by rw [unhide hp, unhide hst, if_pos (unhide HE)]; omega), trivial⟩
        case measure => simp [intOf]; omega
      · have HE := hide he
        rw [decide_eq_false he] at hbe
        clear he
        go_wp2
        go_roundw
        case rel => exact ⟨k + 1, a, by omega, by omega, by go_num, rfl, by omega, by omega, hide (by rw [unhide hp, unhide hst, if_neg (unhide HE)]; omega), trivial⟩
        case measure => simp [intOf]; omega
    · go_wp2
      go_ret
      exact ⟨ret_int (by rw [unhide hp, dueSum_end (by have := unhide HL; omega)]; omega), rfl⟩
end Go.Proofs.Ytbapainfiepadaa
