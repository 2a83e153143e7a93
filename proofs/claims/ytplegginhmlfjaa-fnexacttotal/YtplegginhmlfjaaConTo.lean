/-
  The laws' own toContS: rows of Cont values made anew; walks over the dump (mkrow.py wrote this).
-/
import Derived.Test.YtplegginhmlfjaaConV
import Derived.Test.YtplegginhmlfjaaToCon1
namespace Go.Proofs.Ytplegginhmlfjaa
open Go.RowKit
set_option linter.unusedVariables false

theorem conInfo : (Try.prog.info? 59).map (fun i => (i.zero, i.size, i.bytes)) = some (some (conv ⟨0, 0, [], 0, 0⟩), 5, 48) := by kernel_rfl
theorem make_cons (n : Nat) (hn : n ≤ 1048576) (w : World) :
    (Instr.makeSlice 33 (.int .i64 (n : Int)) (.int .i64 (n : Int))).run Try.prog w = .ok (.slice (some ⟨w.heap.size, 0, none⟩) n n) (w.alloc (.cells (madeCells (conv ⟨0, 0, [], 0, 0⟩).cells (n * 5)) 59)) := by
  obtain ⟨i, hi, hz⟩ := Option.map_eq_some_iff.1 conInfo
  simp only [Prod.mk.injEq] at hz
  obtain ⟨hz, hs, hb⟩ := hz
  have hr := run_make (P := Try.prog) w 33 59 i _ Try.underlying33 hi hz .i64 .i64 n n (by omega) (Int.le_refl _) (by rw [hb]; omega) (by omega)
  simp only [Int.toNat_natCast, hs] at hr
  exact hr

set_option maxRecDepth 100000 in
set_option maxHeartbeats 1000000 in
theorem toContS_any (ao : Option Addr) (len cap : Nat) (l : List Con) (w : World) (h : ConRow w ao len l) (hl : len ≤ 1048576) :
    Calls Try.prog 40 #[.slice ao len cap] w fun e w' => e = .returned (.slice (some ⟨w.heap.size, 0, none⟩) len len) ∧ ConBlk w' 59 w.heap.size len len l ∧ Below w.heap.size w w' := by
  have HR := hide h
  have HL := hide h.1
  have hmk := make_cons len hl w
  obtain ⟨zs, hzs⟩ : ∃ z, z = (conv ⟨0, 0, [], 0, 0⟩).cells := ⟨_, rfl⟩
  rw [← hzs] at hmk
  clear h hzs
  go_enter Try.func40, Try.ntmps40
  go_wp2
  clear hmk
  go_loopw [4] (fun i wr => ∃ k : Nat, k ≤ len ∧ i = .int .i64 k ∧ Hid (ConBlk wr 59 w.heap.size len k l) ∧ Hid (Below w.heap.size w wr)) (fun i _ => len - (intOf i).toNat)
  case atStart => exact ⟨0, Nat.zero_le _, rfl, hide (conblk_made w _ _ _ _), hide (below_al (Below.refl _ _) _)⟩
  case round =>
    obtain ⟨k, hk, rfl, HQ, HB⟩ := hrel
    by_cases hlt : k < len
    · obtain ⟨b, off, rfl, hq⟩ := ((unhide HR).below (unhide HB)).at hlt
      have hkl : k < l.length := by have := unhide HL; omega
      obtain ⟨c0, c1, c2, c3, c4⟩ := hq hkl
      obtain ⟨q, hs⟩ : ∃ q, l[k] = q := ⟨_, rfl⟩
      rw [hs] at c0 c1 c2 c3 c4
      have hst : ∀ wx, ConBlk wx 59 w.heap.size len k l → ConBlk (putCon wx w.heap.size (k * 5) q) 59 w.heap.size len (k + 1) l := fun wx hx => by have := hx.step hlt hkl; rw [hs] at this; exact this
      have HST := hide hst
      clear hst hq hs hkl
      go_wp2_with fail
      refine (toCont_any q _).mono ?_
      rintro e w1 ⟨rfl, hb⟩
      have HQ1 := hide ((unhide HQ).below hb)
      have HB1 := hide (below_on (unhide HB) hb)
      clear hb c0 c1 c2 c3 c4
      obtain ⟨v0, d0⟩ := (unhide HQ1).cell (j := k * 5) (by omega)
      obtain ⟨v1, d1⟩ := (unhide HQ1).cell (j := k * 5 + 1) (by omega)
      obtain ⟨v2, d2⟩ := (unhide HQ1).cell (j := k * 5 + 2) (by omega)
      obtain ⟨v3, d3⟩ := (unhide HQ1).cell (j := k * 5 + 3) (by omega)
      obtain ⟨v4, d4⟩ := (unhide HQ1).cell (j := k * 5 + 4) (by omega)
      have f0 := (unhide HQ1).frozen (k * 5)
      have f1 := (unhide HQ1).frozen (k * 5 + 1)
      have f2 := (unhide HQ1).frozen (k * 5 + 2)
      have f3 := (unhide HQ1).frozen (k * 5 + 3)
      have f4 := (unhide HQ1).frozen (k * 5 + 4)
      go_wp2
      go_roundw
      case rel => exact ⟨k + 1, by omega, by go_num, hide (unhide HST _ (unhide HQ1)), hide (below_sc (below_sc (below_sc (below_sc (below_sc (unhide HB1) _ _ _ (by omega)) _ _ _ (by omega)) _ _ _ (by omega)) _ _ _ (by omega)) _ _ _ (by omega))⟩
      case measure => simp [intOf]; omega
    · have hkk : k = len := by omega
      subst hkk
      go_wp2
      go_ret
      exact ⟨rfl, unhide HQ, unhide HB⟩
end Go.Proofs.Ytplegginhmlfjaa
