/-
  Whether queues are a tree: what the program's QueuesOk answers; a walk over the dump.
-/
import Derived.Test.YtebaejokhpdbkaaGreatDoorFitsI
namespace Go.Proofs.YtebaejokhpdbkaaGreatDoor
open Go.RowKit
set_option linter.unusedVariables false

theorem QRow.take {w : World} {ao : Option Addr} {len : Nat} {l : List Q} (h : QRow w ao len l) {k : Nat} (hk : k ≤ len) : QRow w ao k (l.take k) := by
  obtain ⟨h1, h2⟩ := h
  refine ⟨by simp; omega, ?_⟩
  rcases h2 with h2 | ⟨b, off, h3, h4⟩
  · exact .inl (by omega)
  · refine .inr ⟨b, off, h3, fun i hi => ?_⟩
    have : i < l.length := by simp at hi; omega
    rw [List.getElem_take]
    exact h4 i this
set_option maxRecDepth 100000 in
theorem cut_q (b off len cap k : Nat) (hk : k ≤ cap) (wx : World) : (Instr.slice 24 (.slice (some ⟨b, off, none⟩) len cap) none (some (.int .i64 (k : Int))) none).run Tryz.prog wx = .ok (.slice (some ⟨b, off, none⟩) k cap) wx := by
  rw [run_slice_h (P := Tryz.prog) (w := wx) 24 (some ⟨b, off, none⟩) len cap Tryz.underlying24 .i64 (k : Int) (by omega) (by omega)]
  rw [show (sizeOf (Tryz.prog.elem 24)).run Tryz.prog wx = .ok 4 wx from by kernel_rfl]
  simp [Result.andThen, sliced, Addr.add]

set_option maxRecDepth 100000 in
set_option maxHeartbeats 4000000 in
theorem implQueuesOk_any (ao : Option Addr) (len cap : Nat) (l : List Q) (w : World) (h : QRow w ao len l) (hl : len ≤ 1048576) (hn : ∀ q ∈ l, q.name.length ≤ 1048576) (hc : len ≤ cap) :
    Calls Tryz.prog 16 #[.slice ao len cap] w fun e w' => e = .returned (.bool (queuesOk l)) ∧ Below w.heap.size w w' := by
  have HR := hide h
  have HL := hide h.1
  have HN := hide hn
  have HQ := hide (queuesOk_okT l)
  clear h hn
  go_enter Tryz.func16, Tryz.ntmps16
  go_wp2
  go_loopw [3, 4, 7] (fun _ _ i wr => ∃ k : Nat, k ≤ len ∧ i = .int .i64 k ∧ Hid (okT (l.take k) = true) ∧ Hid (Below w.heap.size w wr)) (fun _ _ i _ => len - (intOf i).toNat)
  case atStart => exact ⟨0, Nat.zero_le _, rfl, hide (by rw [List.take_zero]; rfl), hide (Below.refl _ _)⟩
  case round =>
    obtain ⟨k, hk, rfl, HK, HB⟩ := hrel
    by_cases hlt : k < len
    · have HR2 := hide ((unhide HR).below (unhide HB))
      obtain ⟨b, off, rfl, hq⟩ := (unhide HR2).at hlt
      have hkl : k < l.length := by have := unhide HL; omega
      have hst := hide (okT_take_succ (l := l) (k := k) hkl)
      have hbad := hide (@okT_take_false l (k + 1))
      obtain ⟨c0, c1, c2, c3⟩ := hq hkl
      have hz := unhide HN l[k] (List.getElem_mem _)
      clear hq
      obtain ⟨⟨nm, pa, du, mo⟩, hs⟩ : ∃ s, l[k] = s := ⟨_, rfl⟩
      rw [hs] at c0 c1 c2 c3 hst hz
      simp only at c0 c1 c2 c3
      have HA := hide (QBox.new wr ⟨nm, pa, du, mo⟩)
      have hb1 := below_al (unhide HB) (qobj ⟨nm, pa, du, mo⟩)
      have CF := hide (fun wx (hb : Below w.heap.size w wx) => fits_any (some ⟨b, off, none⟩) k cap (l.take k) ⟨nm, pa, du, mo⟩ wx (((unhide HR).below hb).take hk) (by omega) hz (okT_due (unhide HK)))
      obtain ⟨f, hf⟩ : ∃ f, fits (l.take k) ⟨nm, pa, du, mo⟩ = f := ⟨_, rfl⟩
      rw [hf] at CF hst
      have hcut := cut_q b off len cap k (by omega)
      have HB1 := hide hb1
      have k0 := (unhide HA).c0
      have k1 := (unhide HA).c1
      have k2 := (unhide HA).c2
      have k3 := (unhide HA).c3
      simp only at k0 k1 k2 k3
      have hkc : (k : Int) ≤ cap := by omega
      clear hs hkl hz hf HR2 hb1
      cases f with
      | false =>
        go_wp2_with fail
        go_region_with (go_at_call 34; refine (unhide CF _ ?_).mono ?_; (exact (unhide HB1).drew); rintro e w2 ⟨rfl, hb⟩)
        all_goals
          have HB2 := hide (below_on (unhide HB1).drew hb)
          clear hb
          go_wp2
          go_ret
          exact ⟨ret_bool (by rw [unhide HQ, unhide hbad (by rw [unhide hst]; simp)]; rfl), unhide HB2⟩
      | true =>
        go_wp2_with fail
        go_region_with (go_at_call 34; refine (unhide CF _ ?_).mono ?_; (exact (unhide HB1).drew); rintro e w2 ⟨rfl, hb⟩)
        all_goals
          have HB2 := hide (below_on (unhide HB1).drew hb)
          clear hb
          go_wp2
          go_roundw
          case rel => exact ⟨k + 1, by omega, by go_num, hide (by rw [unhide hst, unhide HK]; rfl), HB2⟩
          case measure => simp [intOf]; omega
    · have hfin := hide (show queuesOk l = decide (0 < len) by
        have e : k = l.length := by have := unhide HL; omega
        have ho := unhide HK
        rw [e, List.take_length] at ho
        rw [unhide HQ, ho, unhide HL]; rfl)
      by_cases h0 : 0 < len
      · go_wp2
        go_ret
        exact ⟨ret_bool (by rw [unhide hfin]; simp [h0]), unhide HB⟩
      · go_wp2
        go_ret
        exact ⟨ret_bool (by rw [unhide hfin]; simp [h0]), unhide HB⟩
end Go.Proofs.YtebaejokhpdbkaaGreatDoor
