/-
  The laws' own toQueue and toQueueS: rows of queues made anew; walks over the dump.
-/
import Derived.Test.YtfpdhlpbcgobiaaDoorQBlk
namespace Go.Proofs.YtfpdhlpbcgobiaaDoor
open Go.RowKit
set_option linter.unusedVariables false

set_option maxRecDepth 100000 in
set_option maxHeartbeats 1000000 in
theorem toQueue_any (q : Q) (w : World) :
    Calls Tryd.prog 35 #[qv q] w fun e w' => e = .returned (qv q) ∧ Below w.heap.size w w' := by
  obtain ⟨nm, pa, du, mo⟩ := q
  go_enter Tryd.func35, Tryd.ntmps35
  go_wp2
  refine bodyPost_ret (v := qv ⟨nm, pa, du, mo⟩) (by simp [results, Tryd.results35, go_sem]) rfl ⟨rfl, ?_⟩
  repeat (first | exact Below.refl _ _ | refine below_al ?_ _ | refine Below.drew ?_ | refine below_sc ?_ _ _ _ (by omega))

theorem queueInfo : (Tryd.prog.info? 74).map (fun i => (i.zero, i.size, i.bytes)) = some (some (qv ⟨[], [], 0, 0⟩), 4, 48) := by kernel_rfl
theorem make_queues (n : Nat) (hn : n ≤ 1048576) (w : World) :
    (Instr.makeSlice 43 (.int .i64 (n : Int)) (.int .i64 (n : Int))).run Tryd.prog w = .ok (.slice (some ⟨w.heap.size, 0, none⟩) n n) (w.alloc (.cells (madeCells (qv ⟨[], [], 0, 0⟩).cells (n * 4)) 74)) := by
  obtain ⟨i, hi, hz⟩ := Option.map_eq_some_iff.1 queueInfo
  simp only [Prod.mk.injEq] at hz
  obtain ⟨hz, hs, hb⟩ := hz
  have hr := run_make (P := Tryd.prog) w 43 74 i _ Tryd.underlying43 hi hz .i64 .i64 n n (by omega) (Int.le_refl _) (by rw [hb]; omega) (by omega)
  simp only [Int.toNat_natCast, hs] at hr
  exact hr

set_option maxRecDepth 100000 in
set_option maxHeartbeats 1000000 in
theorem toQueueS_any (ao : Option Addr) (len cap : Nat) (l : List Q) (w : World) (h : QRow w ao len l) (hl : len ≤ 1048576) :
    Calls Tryd.prog 13 #[.slice ao len cap] w fun e w' => e = .returned (.slice (some ⟨w.heap.size, 0, none⟩) len len) ∧ QBlk w' 74 w.heap.size len len l ∧ Below w.heap.size w w' := by
  have HR := hide h
  have HL := hide h.1
  have hmk := make_queues len hl w
  obtain ⟨zs, hzs⟩ : ∃ z, z = (qv ⟨[], [], 0, 0⟩).cells := ⟨_, rfl⟩
  rw [← hzs] at hmk
  clear h hzs
  go_enter Tryd.func13, Tryd.ntmps13
  go_wp2
  clear hmk
  go_loopw [4] (fun i wr => ∃ k : Nat, k ≤ len ∧ i = .int .i64 k ∧ Hid (QBlk wr 74 w.heap.size len k l) ∧ Hid (Below w.heap.size w wr)) (fun i _ => len - (intOf i).toNat)
  case atStart => exact ⟨0, Nat.zero_le _, rfl, hide (qblk_made w _ _ _ _), hide (below_al (Below.refl _ _) _)⟩
  case round =>
    obtain ⟨k, hk, rfl, HQ, HB⟩ := hrel
    by_cases hlt : k < len
    · obtain ⟨b, off, rfl, hq⟩ := ((unhide HR).below (unhide HB)).at hlt
      have hkl : k < l.length := by have := unhide HL; omega
      obtain ⟨c0, c1, c2, c3⟩ := hq hkl
      obtain ⟨q, hs⟩ : ∃ q, l[k] = q := ⟨_, rfl⟩
      rw [hs] at c0 c1 c2 c3
      have hst : ∀ wx, QBlk wx 74 w.heap.size len k l → QBlk (putQ wx w.heap.size (k * 4) q) 74 w.heap.size len (k + 1) l := fun wx hx => by have := hx.step hlt hkl; rw [hs] at this; exact this
      have HST := hide hst
      clear hst hq hs hkl
      go_wp2_with fail
      refine (toQueue_any q _).mono ?_
      rintro e w1 ⟨rfl, hb⟩
      have HQ1 := hide ((unhide HQ).below hb)
      have HB1 := hide (below_on (unhide HB) hb)
      clear hb c0 c1 c2 c3
      obtain ⟨v0, d0⟩ := (unhide HQ1).cell (j := k * 4) (by omega)
      obtain ⟨v1, d1⟩ := (unhide HQ1).cell (j := k * 4 + 1) (by omega)
      obtain ⟨v2, d2⟩ := (unhide HQ1).cell (j := k * 4 + 2) (by omega)
      obtain ⟨v3, d3⟩ := (unhide HQ1).cell (j := k * 4 + 3) (by omega)
      have f0 := (unhide HQ1).frozen (k * 4)
      have f1 := (unhide HQ1).frozen (k * 4 + 1)
      have f2 := (unhide HQ1).frozen (k * 4 + 2)
      have f3 := (unhide HQ1).frozen (k * 4 + 3)
      go_wp2
      go_roundw
      case rel => exact ⟨k + 1, by omega, by go_num, hide (unhide HST _ (unhide HQ1)), hide (below_sc (below_sc (below_sc (below_sc (unhide HB1) _ _ _ (by omega)) _ _ _ (by omega)) _ _ _ (by omega)) _ _ _ (by omega))⟩
      case measure => simp [intOf]; omega
    · have hkk : k = len := by omega
      subst hkk
      go_wp2
      go_ret
      exact ⟨rfl, unhide HQ, unhide HB⟩
end Go.Proofs.YtfpdhlpbcgobiaaDoor
