/-
  The laws' own toApp and toAppS: rows made anew; walks over the dump.
-/
import Derived.Test.YtplegginhmlfjaaAppV
import Derived.Test.YtplegginhmlfjaaAskTo
namespace Go.Proofs.Ytplegginhmlfjaa
open Go.RowKit
set_option linter.unusedVariables false

theorem AskBlk.other {w : World} {t : TypeId} {g n k : Nat} {l : List Ask} (h : AskBlk w t g n k l) (b j : Nat) (v : Value) (hn : g ≠ b) : AskBlk (w.setCell ⟨b, j, none⟩ v) t g n k l := by
  obtain ⟨arr, h1, h2⟩ := h
  exact ⟨arr, (heap_setCell_other w ⟨b, j, none⟩ g v hn).trans h1, h2⟩

set_option maxRecDepth 100000 in
set_option maxHeartbeats 1000000 in
theorem toApp_any (id : Int) (qu : List UInt8) (ao : Option Addr) (len cap : Nat) (l : List Ask) (w : World) (h : AskRow w ao len l) (hl : len ≤ 1048576) :
    Calls Try.prog 80 #[applv id qu ao len cap] w fun e w' => ∃ g, e = .returned (applv id qu (some ⟨g, 0, none⟩) len len) ∧ w.heap.size < g ∧ AskBlk w' 116 g len len l ∧ Below w.heap.size w w' := by
  have HR := hide h
  clear h
  have HB0 := hide (below_al (below_al (below_al (Below.refl _ w) (.cells #[.int .i64 id, .string (bs qu), .slice ao len cap] 100)) (.cells #[.int .i64 0, .string (bs []), .slice none 0 0] 112)) (.cells #[.int .i64 id, .string (bs qu), .slice none 0 0] 112))
  have K1 := hide ((blk_new (w.alloc (.cells #[.int .i64 id, .string (bs qu), .slice ao len cap] 100)) #[.int .i64 0, .string (bs []), .slice none 0 0] 112).al (.cells #[.int .i64 id, .string (bs qu), .slice none 0 0] 112))
  have K2 := hide (blk_new ((w.alloc (.cells #[.int .i64 id, .string (bs qu), .slice ao len cap] 100)).alloc (.cells #[.int .i64 0, .string (bs []), .slice none 0 0] 112)) #[.int .i64 id, .string (bs qu), .slice none 0 0] 112)
  go_enter Try.func80, Try.ntmps80
  go_wp2_with fail
  refine (toAskS_any ao len cap l _ ((unhide HR).below (unhide HB0)) hl).mono ?_
  rintro e w1 ⟨rfl, hq, hb⟩
  have b1 := (unhide K1).below hb
  have b2 := (unhide K2).below hb
  simp only [al_size] at b1 b2 hq
  have HB1 := hide (below_on (unhide HB0) hb)
  have HQ := hide hq
  clear hb K1 K2 HB0 HR hq
  have r0 := b1.at 0; have r1 := b1.at 1; have r2 := b1.at 2
  have o0 := b2.at 0; have o1 := b2.at 1; have o2 := b2.at 2
  have rf0 := b1.f 0; have rf1 := b1.f 1; have rf2 := b1.f 2
  have of2 := b2.f 2
  simp at r0 r1 r2 o0 o1 o2
  clear b1 b2
  go_wp2
  refine bodyPost_ret (v := applv id qu (some ⟨w.heap.size + 1 + 1 + 1, 0, none⟩) len len) (by simp [results, Try.results80, go_sem, *]) rfl ⟨_, rfl, by omega, ?_, ?_⟩
  · repeat (first | exact unhide HQ | refine AskBlk.other ?_ _ _ _ (by omega))
  · repeat (first | exact unhide HB1 | refine below_sc ?_ _ _ _ (by omega))

theorem applInfo : (Try.prog.info? 112).map (fun i => (i.zero, i.size, i.bytes)) = some (some (applv 0 [] none 0 0), 3, 48) := by kernel_rfl
theorem make_appls (n : Nat) (hn : n ≤ 1048576) (w : World) :
    (Instr.makeSlice 31 (.int .i64 (n : Int)) (.int .i64 (n : Int))).run Try.prog w = .ok (.slice (some ⟨w.heap.size, 0, none⟩) n n) (w.alloc (.cells (madeCells (applv 0 [] none 0 0).cells (n * 3)) 112)) := by
  obtain ⟨i, hi, hz⟩ := Option.map_eq_some_iff.1 applInfo
  simp only [Prod.mk.injEq] at hz
  obtain ⟨hz, hs, hb⟩ := hz
  have hr := run_make (P := Try.prog) w 31 112 i _ Try.underlying31 hi hz .i64 .i64 n n (by omega) (Int.le_refl _) (by rw [hb]; omega) (by omega)
  simp only [Int.toNat_natCast, hs] at hr
  exact hr

set_option maxRecDepth 100000 in
set_option maxHeartbeats 1000000 in
theorem toAppS_any (ao : Option Addr) (len cap : Nat) (l : List Appl) (w : World) (h : ApplRow w ao len l) (hl : len ≤ 1048576) (hk : ∀ q ∈ l, q.asks.length ≤ 1048576) :
    Calls Try.prog 38 #[.slice ao len cap] w fun e w' => e = .returned (.slice (some ⟨w.heap.size, 0, none⟩) len len) ∧ ApplBlk w' 112 w.heap.size len len l ∧ Below w.heap.size w w' := by
  have HR := hide h
  have HL := hide h.1
  have HK := hide hk
  have hmk := make_appls len hl w
  obtain ⟨zs, hzs⟩ : ∃ z, z = (applv 0 [] none 0 0).cells := ⟨_, rfl⟩
  rw [← hzs] at hmk
  clear h hzs hk
  go_enter Try.func38, Try.ntmps38
  go_wp2
  clear hmk
  go_loopw [4] (fun i wr => ∃ k : Nat, k ≤ len ∧ i = .int .i64 k ∧ Hid (ApplBlk wr 112 w.heap.size len k l) ∧ Hid (Below w.heap.size w wr)) (fun i _ => len - (intOf i).toNat)
  case atStart => exact ⟨0, Nat.zero_le _, rfl, hide (applblk_made w _ _ _ _), hide (below_al (Below.refl _ _) _)⟩
  case round =>
    obtain ⟨k, hk, rfl, HQ, HB⟩ := hrel
    by_cases hlt : k < len
    · obtain ⟨b, off, rfl, hq⟩ := ((unhide HR).below (unhide HB)).at hlt
      have hkl : k < l.length := by have := unhide HL; omega
      have hkn := unhide HK l[k] (List.getElem_mem _)
      obtain ⟨xo, xl, xc, c0, c1, c2, hrow, hxc⟩ := hq hkl
      have hst : ∀ wx, ApplBlk wx 112 w.heap.size len k l → ∀ AO LEN CAP, AskOwn wx w.heap.size AO LEN CAP l[k].asks → ApplBlk (putAppl wx w.heap.size (k * 3) l[k].id l[k].queue AO LEN CAP) 112 w.heap.size len (k + 1) l := fun wx hx AO LEN CAP ho => hx.step hlt hkl AO LEN CAP ho
      obtain ⟨q, hs⟩ : ∃ q, l[k] = q := ⟨_, rfl⟩
      rw [hs] at c0 c1 hst hrow hkn
      obtain ⟨id, qu, asks⟩ := q
      simp only at c0 c1 hst hrow hkn
      have HXL := hide hrow.1
      have hxl : xl ≤ 1048576 := by have := hrow.1; omega
      have HST := hide hst
      have HROW := hide hrow
      have hsz := (unhide HQ).lt
      clear hst hq hs hkl hrow hxc hkn
      go_wp2_with fail
      refine (toApp_any id qu xo xl xc asks _ (unhide HROW) hxl).mono ?_
      rintro e w1 ⟨g, rfl, hg, hab, hb⟩
      have HQ1 := hide ((unhide HQ).below hb)
      have HB1 := hide (below_on (unhide HB) hb)
      have HO := hide (show AskOwn w1 w.heap.size (some ⟨g, 0, none⟩) xl xl asks from ⟨hab.row (unhide HXL), Nat.le_refl _, fun b off e => by simp at e; omega⟩)
      clear hb c0 c1 c2 hab
      obtain ⟨v0, d0⟩ := (unhide HQ1).cell (j := k * 3) (by omega)
      obtain ⟨v1, d1⟩ := (unhide HQ1).cell (j := k * 3 + 1) (by omega)
      obtain ⟨v2, d2⟩ := (unhide HQ1).cell (j := k * 3 + 2) (by omega)
      have f0 := (unhide HQ1).frozen (k * 3)
      have f1 := (unhide HQ1).frozen (k * 3 + 1)
      have f2 := (unhide HQ1).frozen (k * 3 + 2)
      go_wp2
      go_roundw
      case rel => exact ⟨k + 1, by omega, by go_num, hide (unhide HST _ (unhide HQ1) _ _ _ (unhide HO)), hide (below_sc (below_sc (below_sc (unhide HB1) _ _ _ (by omega)) _ _ _ (by omega)) _ _ _ (by omega))⟩
      case measure => simp [intOf]; omega
    · have hkk : k = len := by omega
      subst hkk
      go_wp2
      go_ret
      exact ⟨rfl, unhide HQ, unhide HB⟩
end Go.Proofs.Ytplegginhmlfjaa
