/-
  The laws' own toMachineS: rows of Machine values made anew; walks over the dump (mkrow.py wrote this).
-/
import Derived.Test.YtplegginhmlfjaaMacV
import Derived.Test.YtplegginhmlfjaaToMac1
namespace Go.Proofs.Ytplegginhmlfjaa
open Go.RowKit
set_option linter.unusedVariables false

theorem macInfo : (Try.prog.info? 90).map (fun i => (i.zero, i.size, i.bytes)) = some (some (macv ⟨[], 0, 0, 0⟩), 4, 40) := by kernel_rfl
theorem make_macs (n : Nat) (hn : n ≤ 1048576) (w : World) :
    (Instr.makeSlice 32 (.int .i64 (n : Int)) (.int .i64 (n : Int))).run Try.prog w = .ok (.slice (some ⟨w.heap.size, 0, none⟩) n n) (w.alloc (.cells (madeCells (macv ⟨[], 0, 0, 0⟩).cells (n * 4)) 90)) := by
  obtain ⟨i, hi, hz⟩ := Option.map_eq_some_iff.1 macInfo
  simp only [Prod.mk.injEq] at hz
  obtain ⟨hz, hs, hb⟩ := hz
  have hr := run_make (P := Try.prog) w 32 90 i _ Try.underlying32 hi hz .i64 .i64 n n (by omega) (Int.le_refl _) (by rw [hb]; omega) (by omega)
  simp only [Int.toNat_natCast, hs] at hr
  exact hr

set_option maxRecDepth 100000 in
set_option maxHeartbeats 1000000 in
theorem toMachineS_any (ao : Option Addr) (len cap : Nat) (l : List Mac) (w : World) (h : MacRow w ao len l) (hl : len ≤ 1048576) :
    Calls Try.prog 39 #[.slice ao len cap] w fun e w' => e = .returned (.slice (some ⟨w.heap.size, 0, none⟩) len len) ∧ MacBlk w' 90 w.heap.size len len l ∧ Below w.heap.size w w' := by
  have HR := hide h
  have HL := hide h.1
  have hmk := make_macs len hl w
  obtain ⟨zs, hzs⟩ : ∃ z, z = (macv ⟨[], 0, 0, 0⟩).cells := ⟨_, rfl⟩
  rw [← hzs] at hmk
  clear h hzs
  go_enter Try.func39, Try.ntmps39
  go_wp2
  clear hmk
  go_loopw [4] (fun i wr => ∃ k : Nat, k ≤ len ∧ i = .int .i64 k ∧ Hid (MacBlk wr 90 w.heap.size len k l) ∧ Hid (Below w.heap.size w wr)) (fun i _ => len - (intOf i).toNat)
  case atStart => exact ⟨0, Nat.zero_le _, rfl, hide (macblk_made w _ _ _ _), hide (below_al (Below.refl _ _) _)⟩
  case round =>
    obtain ⟨k, hk, rfl, HQ, HB⟩ := hrel
    by_cases hlt : k < len
    · obtain ⟨b, off, rfl, hq⟩ := ((unhide HR).below (unhide HB)).at hlt
      have hkl : k < l.length := by have := unhide HL; omega
      obtain ⟨c0, c1, c2, c3⟩ := hq hkl
      obtain ⟨q, hs⟩ : ∃ q, l[k] = q := ⟨_, rfl⟩
      rw [hs] at c0 c1 c2 c3
      have hst : ∀ wx, MacBlk wx 90 w.heap.size len k l → MacBlk (putMac wx w.heap.size (k * 4) q) 90 w.heap.size len (k + 1) l := fun wx hx => by have := hx.step hlt hkl; rw [hs] at this; exact this
      have HST := hide hst
      clear hst hq hs hkl
      go_wp2_with fail
      refine (toMachine_any q _).mono ?_
      rintro e w1 ⟨rfl, hb⟩
      have HQ1 := hide ((unhide HQ).below hb)
      have HB1 := hide (below_on (unhide HB) hb)
      clear hb c0 c1 c2 c3
      obtain ⟨v0, d0⟩ := (unhide HQ1).cell (j := k * 4) (by omega)
      obtain ⟨v1, d1⟩ := (unhide HQ1).cell (j := k * 4 + 1) (by omega)
      obtain ⟨v2, d2⟩ := (unhide HQ1).cell (j := k * 4 + 2) (by omega)
      obtain ⟨v3, d3⟩ := (unhide HQ1).cell (j := k * 4 + 3) (by omega)
      have f0 := (unhide HQ1).frozen (k * 4)
      have f1 := (unhide HQ1).frozen (k * 4 + 1)
      have f2 := (unhide HQ1).frozen (k * 4 + 2)
      have f3 := (unhide HQ1).frozen (k * 4 + 3)
      go_wp2
      go_roundw
      case rel => exact ⟨k + 1, by omega, by go_num, hide (unhide HST _ (unhide HQ1)), hide (below_sc (below_sc (below_sc (below_sc (unhide HB1) _ _ _ (by omega)) _ _ _ (by omega)) _ _ _ (by omega)) _ _ _ (by omega))⟩
      case measure => simp [intOf]; omega
    · have hkk : k = len := by omega
      subst hkk
      go_wp2
      go_ret
      exact ⟨rfl, unhide HQ, unhide HB⟩
end Go.Proofs.Ytplegginhmlfjaa
