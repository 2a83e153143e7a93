/-
  What the laws' own helpers do to slices of texts: compare, mark, and look for the marks; walks over the dump.
-/
import Derived.Test.YtbapainfiepadaaStrS
import Derived.Test.YtbapainfiepadaaMarkT
import Derived.Laws.IdiomStrings
import Derived.BigQuiet
import Derived.Deep.QuietTactic
import Derived.Deep.RegionWith
namespace Go.Proofs.Ytbapainfiepadaa
open Go.RowKit
set_option linter.unusedVariables false

set_option maxRecDepth 100000 in
set_option maxHeartbeats 1000000 in
theorem eqS_any (g1 c1 g2 c2 : Nat) (xs ys : List ByteArray) (w : World) (h1 : SS w g1 c1 xs) (h2 : SS w g2 c2 ys) (hl : xs.length ≤ 9000000000) (hl2 : ys.length ≤ 9000000000) (heq : xs = ys) :
    Calls Try.prog 29 #[.slice (some ⟨g1, 0, none⟩) xs.length c1, .slice (some ⟨g2, 0, none⟩) ys.length c2] w fun e w' => e = .returned (.bool true) ∧ ∃ n, w' = w.drewN n := by
  subst heq
  have hne : ((xs.length : Int) != (xs.length : Int)) = false := by simp
  go_enter Try.func29, Try.ntmps29
  go_wp2
  go_loopw [5] (fun i wr => ∃ k n : Nat, k ≤ xs.length ∧ i = .int .i64 k ∧ wr = w.drewN n) (fun i _ => xs.length - (intOf i).toNat)
  case atStart => exact ⟨0, 0, Nat.zero_le _, rfl, rfl⟩
  case round =>
    obtain ⟨k, n, hk, rfl, rfl⟩ := hrel
    by_cases hlt : k < xs.length
    · have a1 : w.cell? ⟨g1, k, none⟩ = some (.string xs[k]) := h1.cell k hlt
      have a2 : w.cell? ⟨g2, k, none⟩ = some (.string xs[k]) := h2.cell k hlt
      have hlt2 : (k : Int) < (xs.length : Int) := by omega
      go_wp2_with fail
      go_quiet (fail)
      go_wp2
      go_roundw
      case rel => exact ⟨k + 1, _, by omega, by go_num, rfl⟩
      case measure => simp [intOf]; omega
    · go_wp2
      go_ret
      exact ⟨rfl, n, rfl⟩
set_option maxRecDepth 100000 in
set_option maxHeartbeats 1000000 in
theorem markS_any (g cap k : Nat) (xs : List ByteArray) (w : World) (h : SS w g cap xs) (hk : 0 < k) (hl : k + xs.length ≤ 9000000000) :
    Calls Try.prog 31 #[.slice (some ⟨g, 0, none⟩) xs.length cap, .int .i64 (k : Int)] w fun e w' => e = .returned (.int .i64 ((k + xs.length : Nat) : Int)) ∧ SS w' g cap (marks k xs.length) ∧ w.grownBy w' (some g) := by
  go_enter Try.func31, Try.ntmps31
  go_wp2
  go_loopw [1, 5] (fun m i wr => ∃ j : Nat, j ≤ xs.length ∧ i = .int .i64 j ∧ m = .int .i64 ((k : Int) + (j : Int)) ∧ SS wr g cap (marked k xs j) ∧ w.grownBy wr (some g)) (fun _ i _ => xs.length - (intOf i).toNat)
  case atStart => exact ⟨0, Nat.zero_le _, rfl, by go_num, by rw [marked_zero]; exact h, grownBy_refl w _⟩
  case round =>
    obtain ⟨j, hj, rfl, rfl, hs, hg⟩ := hrel
    have HS := hide hs
    have HG := hide hg
    clear hs hg
    by_cases hlt : j < xs.length
    · have hlt2 : (j : Int) < (xs.length : Int) := by omega
      have hmk : Hid (mk ((k : Int) + (j : Int)).toNat = mk (k + j)) := hide (congrArg mk (by omega))
      go_wp2_with fail
      refine (markText_int _ _ (by omega) (by omega)).mono ?_
      rintro e w1 ⟨rfl, hb1⟩
      rw [unhide hmk]
      have hs1 : SS w1 g cap (marked k xs j) := (unhide HS).below hb1 (unhide HS).lt
      have hc : w1.cell? ⟨g, j, none⟩ = some (.string ((marked k xs j)[j]'(by rw [marked_len]; exact hlt))) := hs1.cell j _
      have hf : w1.frozen? ⟨g, j, none⟩ = false := hs1.frozen j
      have hs2 := hs1.set j (by rw [marked_len]; exact hlt) (mk (k + j))
      rw [marked_set k xs j hlt] at hs2
      have HS2 := hide hs2
      have HG2 := hide (grownBy_set (grownBy_below (unhide HG) hb1) j (.string (mk (k + j))))
      clear hs1 hs2 hb1
      go_wp2
      go_roundw
      case rel => exact ⟨j + 1, by omega, by go_num, by go_num, unhide HS2, unhide HG2⟩
      case measure => simp [intOf]; omega
    · have he : j = xs.length := by omega
      subst he
      have hs2 : Hid (SS wr g cap (marks k xs.length)) := hide (by rw [← marked_all]; exact unhide HS)
      go_wp2
      go_ret
      exact ⟨ret_int (by simp), unhide hs2, unhide HG⟩

set_option maxRecDepth 100000 in
set_option maxHeartbeats 1000000 in
theorem heldS_any (g cap k n : Nat) (w : World) (h : SS w g cap (marks k n)) (hk : 0 < k) (hl : k + n ≤ 9000000000) :
    Calls Try.prog 32 #[.slice (some ⟨g, 0, none⟩) n cap, .int .i64 (k : Int)] w fun e w' => e = .returned (.int .i64 ((k + n : Nat) : Int)) ∧ Below w.heap.size w w' := by
  go_enter Try.func32, Try.ntmps32
  go_wp2
  go_loopw [1, 5] (fun m i wr => ∃ j : Nat, j ≤ n ∧ i = .int .i64 j ∧ m = .int .i64 ((k : Int) + (j : Int)) ∧ Below w.heap.size w wr) (fun _ i _ => n - (intOf i).toNat)
  case atStart => exact ⟨0, Nat.zero_le _, rfl, by go_num, Below.refl _ _⟩
  case round =>
    obtain ⟨j, hj, rfl, rfl, hb⟩ := hrel
    have HB := hide hb
    have hs := h.below hb h.lt
    by_cases hlt : j < n
    · have hlt2 : (j : Int) < (n : Int) := by omega
      have hm : j < (marks k n).length := by rw [marks_len]; exact hlt
      have hat : (marks k n)[j] = mk (k + j) := by
        have := marks_at n k j hlt
        rw [List.getElem?_eq_getElem hm] at this
        exact Option.some.inj this
      have hc : wr.cell? ⟨g, j, none⟩ = some (.string (mk (k + j))) := by rw [hs.cell j hm, hat]
      have hgl : g < wr.heap.size := hs.lt
      have hmk : Hid (mk ((k : Int) + (j : Int)).toNat = mk (k + j)) := hide (congrArg mk (by omega))
      have hp1 : 0 < (k : Int) + (j : Int) := by omega
      have hp2 : (k : Int) + (j : Int) ≤ 9223372036854775807 := by omega
      clear hat hs hb
      go_wp2_with fail
      go_region_with (go_at_call 51; refine (markText_int _ _ hp1 hp2).mono ?_; rintro e w1 ⟨rfl, hb1⟩; rw [unhide hmk]; have hc1 := (hb1.cell (p := ⟨g, j, none⟩) hgl).trans hc)
      all_goals
        have HB1 := hide (Below.trans (unhide HB).drew (Below.mono hb1 (unhide HB).size))
        clear hb1
        go_wp2
        go_roundw
        case rel => exact ⟨j + 1, by omega, by go_num, by go_num, unhide HB1⟩
        case measure => simp [intOf]; omega
    · have he : j = n := by omega
      subst he
      clear hs hb
      go_wp2
      go_ret
      exact ⟨ret_int (by simp), unhide HB⟩
end Go.Proofs.Ytbapainfiepadaa
