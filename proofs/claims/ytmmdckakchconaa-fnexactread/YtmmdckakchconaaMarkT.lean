/-
  The laws' own markText, and marks in a row.
-/
import Derived.Test.YtmmdckakchconaaStrS
import Derived.Test.YtmmdckakchconaaDecM
import Derived.Laws.IdiomStrings
import Derived.BigQuiet
import Derived.Deep.QuietTactic
import Derived.Deep.RegionWith
namespace Go.Proofs.Ytmmdckakchconaa
open Go.RowKit
set_option linter.unusedVariables false
/-- the sign of a digit -/
def dch (d : Nat) : UInt8 := UInt8.ofNat (48 + d)
/-- the mark of the number N -/
def mk (N : Nat) : ByteArray := bs (109 :: dgs N)

set_option maxRecDepth 100000 in
set_option maxHeartbeats 1000000 in
theorem markText_any (N : Nat) (w : World) (h0 : 0 < N) (hN : (N : Int) ≤ 9223372036854775807) :
    Calls Try.prog 25 #[.int .i64 (N : Int)] w fun e w' => e = .returned (.string (mk N)) ∧ Below w.heap.size w w' := by
  have hlen2 : (dgs N).length ≤ 20 := by rw [dgs_pos (by omega), Lib.decDigits_length]; exact Lib.nDigits_le20 N (by omega)
  have hcv : ∀ (wr : World) (x : Nat), x < 10 → (convert 65 9 (.slice (some ⟨wr.heap.size, 0, none⟩) 1 1)).run Try.prog (wr.alloc (.cells #[.int .u8 (48 + (x : Int))] 5)) = .ok (.string ⟨#[dch x]⟩) (wr.alloc (.cells #[.int .u8 (48 + (x : Int))] 5)) := by
    intro wr x hx
    refine run_convert_bytes_back _ 65 9 5 ⟨wr.heap.size, 0, none⟩ 1 [dch x] Try.underlying65 Try.underlying5 Try.underlying9 (fun j hj => ?_)
    match j, hj with
    | 0, _ => simp [Addr.add, dch]; omega
  go_enter Try.func25, Try.ntmps25
  go_wp2
  go_loopw [0, 3] (fun m o wr => ∃ (u : Nat) (l : List UInt8), u ≤ N ∧ m = .int .i64 (u : Int) ∧ o = .string (bs l) ∧ dgs u ++ l = dgs N ∧ Below w.heap.size w wr) (fun m _ _ => (intOf m).toNat)
  case atStart => exact ⟨N, [], Nat.le_refl _, rfl, rfl, by simp, Below.refl _ _⟩
  case round =>
    obtain ⟨u, l, hu, rfl, rfl, hcat, hbel⟩ := hrel
    have hl : l.length ≤ 20 := by have := congrArg List.length hcat; simp only [List.length_append] at this; omega
    have hl2 : (bs l).size ≤ 20 := by rw [bs_size]; exact hl
    have hsz := hbel.size
    have HC := hide hcat
    have HB := hide hbel
    clear hcat hl hbel
    by_cases hu0 : u = 0
    · subst hu0
      clear hcv
      go_wp2
      go_ret
      exact ⟨ret_str (by rw [cons_bs, mk]; exact congrArg bs (congrArg (fun t => 109 :: t) (unhide HC))), unhide HB⟩
    · have hcw := hcv wr (u % 10) (by omega)
      rw [show ((u % 10 : Nat) : Int) = (u : Int) % 10 from by omega] at hcw
      clear hcv
      have hcs : (ByteArray.mk #[dch (u % 10)]).size = 1 := rfl
      go_wp2
      go_roundw
      case rel => exact ⟨u / 10, dch (u % 10) :: l, by omega, by go_num, str_eq (cons_bs _ _), by rw [← unhide HC, dgs_step hu0, dch]; simp, (unhide HB).alloc hsz _⟩
      case measure => simp [intOf]; omega

theorem markText_int (x : Int) (w : World) (h0 : 0 < x) (hN : x ≤ 9223372036854775807) :
    Calls Try.prog 25 #[.int .i64 x] w fun e w' => e = .returned (.string (mk x.toNat)) ∧ Below w.heap.size w w' := by
  obtain ⟨N, rfl⟩ := Int.eq_ofNat_of_zero_le (a := x) (by omega)
  rw [Int.toNat_natCast]
  exact markText_any N w (by omega) hN
end Go.Proofs.Ytmmdckakchconaa
