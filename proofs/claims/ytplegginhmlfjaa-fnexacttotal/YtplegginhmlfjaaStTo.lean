/-
  The laws' own toState: a state made anew; a walk over the dump.
-/
import Derived.Test.YtplegginhmlfjaaStV
import Derived.Test.YtplegginhmlfjaaToQ
import Derived.Test.YtplegginhmlfjaaAppTo
import Derived.Test.YtplegginhmlfjaaMacTo
import Derived.Test.YtplegginhmlfjaaConTo
import Derived.Test.YtplegginhmlfjaaStSz
import Derived.Deep.CutBlock
import Derived.Deep.CutRange
namespace Go.Proofs.Ytplegginhmlfjaa
open Go.RowKit
set_option linter.unusedVariables false

set_option maxRecDepth 100000 in
set_option maxHeartbeats 8000000 in
theorem toState_any (x : Sls) (s : St) (w : World) (h : SRow w x s) (hf : FitSt s) :
    Calls Try.prog 10 #[sv x s] w fun e w' => ∃ g1 g2 g3 g4, e = .returned (sv (own4 g1 g2 g3 g4 x.ql x.al x.ml x.cl) s) ∧ SOwn4 w' g1 g2 g3 g4 x.ql x.al x.ml x.cl s ∧ (w.heap.size < g1 ∧ g1 < g2 ∧ g2 < g3 ∧ g3 < g4) ∧ Below w.heap.size w w' := by
  have hql : x.ql ≤ 1048576 := by have := h.1.1; have := hf.1.1; omega
  have hal : x.al ≤ 1048576 := by have := h.2.1.1; have := hf.2.1.1; omega
  have hml : x.ml ≤ 1048576 := by have := h.2.2.1.1; have := hf.2.2.1.1; omega
  have hcl : x.cl ≤ 1048576 := by have := h.2.2.2.1; have := hf.2.2.2.1; omega
  have hask : ∀ q ∈ s.apps, q.asks.length ≤ 1048576 := fun q hq => (hf.2.1.2 q hq).2.1
  obtain ⟨qa, ql, qc, aa, al, ac, ma, ml, mc, ca, cl, cc⟩ := x
  obtain ⟨qs, clock, epoch, next, serial, apps, ms, cs⟩ := s
  obtain ⟨hq, ha, hm, hc⟩ := h
  simp only at hql hal hml hcl hq ha hm hc hask
  have HQ := hide hq
  have HA := hide ha
  have HM := hide hm
  have HC := hide hc
  have HK := hide hask
  clear hq ha hm hc hf hask
  have HB0 := hide (below_al (below_al (below_al (Below.refl _ w) (.cells #[.slice qa ql qc, .int .i64 clock, .int .i64 epoch, .int .i64 next, .int .i64 serial, .slice aa al ac, .slice ma ml mc, .slice ca cl cc] 27)) (.cells #[.slice none 0 0, .int .i64 0, .int .i64 0, .int .i64 0, .int .i64 0, .slice none 0 0, .slice none 0 0, .slice none 0 0] 35)) (.cells #[.slice none 0 0, .int .i64 0, .int .i64 0, .int .i64 0, .int .i64 0, .slice none 0 0, .slice none 0 0, .slice none 0 0] 35))
  have P0 := hide (((blk_new w #[.slice qa ql qc, .int .i64 clock, .int .i64 epoch, .int .i64 next, .int .i64 serial, .slice aa al ac, .slice ma ml mc, .slice ca cl cc] 27).al (.cells #[.slice none 0 0, .int .i64 0, .int .i64 0, .int .i64 0, .int .i64 0, .slice none 0 0, .slice none 0 0, .slice none 0 0] 35)).al (.cells #[.slice none 0 0, .int .i64 0, .int .i64 0, .int .i64 0, .int .i64 0, .slice none 0 0, .slice none 0 0, .slice none 0 0] 35))
  have R0 := hide ((blk_new (w.alloc (.cells #[.slice qa ql qc, .int .i64 clock, .int .i64 epoch, .int .i64 next, .int .i64 serial, .slice aa al ac, .slice ma ml mc, .slice ca cl cc] 27)) #[.slice none 0 0, .int .i64 0, .int .i64 0, .int .i64 0, .int .i64 0, .slice none 0 0, .slice none 0 0, .slice none 0 0] 35).al (.cells #[.slice none 0 0, .int .i64 0, .int .i64 0, .int .i64 0, .int .i64 0, .slice none 0 0, .slice none 0 0, .slice none 0 0] 35))
  have O0 := hide (blk_new ((w.alloc (.cells #[.slice qa ql qc, .int .i64 clock, .int .i64 epoch, .int .i64 next, .int .i64 serial, .slice aa al ac, .slice ma ml mc, .slice ca cl cc] 27)).alloc (.cells #[.slice none 0 0, .int .i64 0, .int .i64 0, .int .i64 0, .int .i64 0, .slice none 0 0, .slice none 0 0, .slice none 0 0] 35)) #[.slice none 0 0, .int .i64 0, .int .i64 0, .int .i64 0, .int .i64 0, .slice none 0 0, .slice none 0 0, .slice none 0 0] 35)
  have s3 : (((w.alloc (.cells #[.slice qa ql qc, .int .i64 clock, .int .i64 epoch, .int .i64 next, .int .i64 serial, .slice aa al ac, .slice ma ml mc, .slice ca cl cc] 27)).alloc (.cells #[.slice none 0 0, .int .i64 0, .int .i64 0, .int .i64 0, .int .i64 0, .slice none 0 0, .slice none 0 0, .slice none 0 0] 35)).alloc (.cells #[.slice none 0 0, .int .i64 0, .int .i64 0, .int .i64 0, .int .i64 0, .slice none 0 0, .slice none 0 0, .slice none 0 0] 35)).heap.size = w.heap.size + 1 + 1 + 1 := by simp only [al_size]
  have S3 := hide s3
  clear s3
  go_enter Try.func10, Try.ntmps10
  go_wp2_with fail
  refine (toQueueS_any qa ql qc qs _ ((unhide HQ).below (unhide HB0)) hql).mono ?_
  rintro e w1 ⟨rfl, hq, hb⟩
  have P1 := hide ((unhide P0).below hb)
  have R1 := (unhide R0).below hb
  have O1 := (unhide O0).below hb
  rw [unhide S3] at hq
  simp only [al_size] at R1 O1
  have HB1 := hide (below_on (unhide HB0) hb)
  have Q1 := hide hq
  have z1 := hq.lt
  have R1 := hide R1
  have O1 := hide O1
  clear hb P0 R0 O0 HB0 HQ hq
  have p1 := (unhide P1).at 1; have p2 := (unhide P1).at 2; have p3 := (unhide P1).at 3; have p4 := (unhide P1).at 4; have p5 := (unhide P1).at 5
  have o0 := (unhide O1).at 0; have o1 := (unhide O1).at 1; have o2 := (unhide O1).at 2; have o3 := (unhide O1).at 3; have o4 := (unhide O1).at 4
  have of0 := (unhide O1).f 0; have of1 := (unhide O1).f 1; have of2 := (unhide O1).f 2; have of3 := (unhide O1).f 3; have of4 := (unhide O1).f 4
  simp at p1 p2 p3 p4 p5 o0 o1 o2 o3 o4
  go_wp2_with fail
  refine (toAppS_any aa al ac apps _ ((unhide HA).below ?_) hal (unhide HK)).mono ?_
  · repeat (first | exact unhide HB1 | refine below_sc ?_ _ _ _ (by omega))
  clear p1 p2 p3 p4 p5 o0 o1 o2 o3 o4 of0 of1 of2 of3 of4
  rintro e w2 ⟨rfl, hq, hb⟩
  simp only [set_size] at hq
  have HB2 := hide (below_on (below_sc (below_sc (below_sc (below_sc (below_sc (unhide HB1) _ _ _ (show w.heap.size ≤ w.heap.size + 1 + 1 by omega)) _ _ _ (show w.heap.size ≤ w.heap.size + 1 + 1 by omega)) _ _ _ (show w.heap.size ≤ w.heap.size + 1 + 1 by omega)) _ _ _ (show w.heap.size ≤ w.heap.size + 1 + 1 by omega)) _ _ _ (show w.heap.size ≤ w.heap.size + 1 + 1 by omega)) hb)
  have P2 := hide ((((((unhide P1).other _ _ _ (show w.heap.size ≠ w.heap.size + 1 + 1 by omega)).other _ _ _ (show w.heap.size ≠ w.heap.size + 1 + 1 by omega)).other _ _ _ (show w.heap.size ≠ w.heap.size + 1 + 1 by omega)).other _ _ _ (show w.heap.size ≠ w.heap.size + 1 + 1 by omega)).other _ _ _ (show w.heap.size ≠ w.heap.size + 1 + 1 by omega) |>.below hb)
  have R2 := hide ((((((unhide R1).other _ _ _ (show w.heap.size + 1 ≠ w.heap.size + 1 + 1 by omega)).other _ _ _ (show w.heap.size + 1 ≠ w.heap.size + 1 + 1 by omega)).other _ _ _ (show w.heap.size + 1 ≠ w.heap.size + 1 + 1 by omega)).other _ _ _ (show w.heap.size + 1 ≠ w.heap.size + 1 + 1 by omega)).other _ _ _ (show w.heap.size + 1 ≠ w.heap.size + 1 + 1 by omega) |>.below hb)
  have O2 := hide (show Blk w2 (w.heap.size + 1 + 1) #[.slice (some ⟨w.heap.size + 1 + 1 + 1, 0, none⟩) ql ql, .int .i64 clock, .int .i64 epoch, .int .i64 next, .int .i64 serial, .slice none 0 0, .slice none 0 0, .slice none 0 0] 35 from ((((((unhide O1).set 0 _).set 1 _).set 2 _).set 3 _).set 4 _).below hb)
  have Q2 := hide (((((((unhide Q1).other _ _ _ (show w.heap.size + 1 + 1 + 1 ≠ w.heap.size + 1 + 1 by omega)).other _ _ _ (show w.heap.size + 1 + 1 + 1 ≠ w.heap.size + 1 + 1 by omega)).other _ _ _ (show w.heap.size + 1 + 1 + 1 ≠ w.heap.size + 1 + 1 by omega)).other _ _ _ (show w.heap.size + 1 + 1 + 1 ≠ w.heap.size + 1 + 1 by omega)).other _ _ _ (show w.heap.size + 1 + 1 + 1 ≠ w.heap.size + 1 + 1 by omega)).below hb)
  have A2 := hide hq
  have z2 := hq.lt
  have g2z : w.heap.size + 1 + 1 + 1 < w1.heap.size := z1
  obtain ⟨g2, hg2⟩ : ∃ g, w1.heap.size = g := ⟨_, rfl⟩
  simp only [set_size]
  rw [hg2] at A2 z2 g2z
  rw [hg2]
  clear hb P1 R1 O1 HB1 HA hq z1 hg2 Q1
  have p6 := (unhide P2).at 6
  have o5 := (unhide O2).at 5
  have of5 := (unhide O2).f 5
  simp at p6 o5
  go_wp2_with fail
  refine (toMachineS_any ma ml mc ms _ ((unhide HM).below (below_sc (unhide HB2) _ _ _ (show w.heap.size ≤ w.heap.size + 1 + 1 by omega))) hml).mono ?_
  clear p6 o5 of5
  rintro e w3 ⟨rfl, hq, hb⟩
  simp only [set_size] at hq
  have HB3 := hide (below_on (below_sc (unhide HB2) _ _ _ (show w.heap.size ≤ w.heap.size + 1 + 1 by omega)) hb)
  have P3 := hide (((unhide P2).other _ _ _ (show w.heap.size ≠ w.heap.size + 1 + 1 by omega)).below hb)
  have R3 := hide (((unhide R2).other _ _ _ (show w.heap.size + 1 ≠ w.heap.size + 1 + 1 by omega)).below hb)
  have O3 := hide (show Blk w3 (w.heap.size + 1 + 1) #[.slice (some ⟨w.heap.size + 1 + 1 + 1, 0, none⟩) ql ql, .int .i64 clock, .int .i64 epoch, .int .i64 next, .int .i64 serial, .slice (some ⟨g2, 0, none⟩) al al, .slice none 0 0, .slice none 0 0] 35 from ((unhide O2).set 5 _).below hb)
  have Q3 := hide (((unhide Q2).other _ _ _ (show w.heap.size + 1 + 1 + 1 ≠ w.heap.size + 1 + 1 by omega)).below hb)
  have A3 := hide (((unhide A2).other _ _ _ (show w.heap.size + 1 + 1 < g2 by omega)).below hb)
  have M3 := hide hq
  have z3 := hq.lt
  have g3z : g2 < w2.heap.size := z2
  obtain ⟨g3, hg3⟩ : ∃ g, w2.heap.size = g := ⟨_, rfl⟩
  simp only [set_size]
  rw [hg3] at M3 z3 g3z
  rw [hg3]
  clear hb P2 R2 O2 HB2 HM hq z2 hg3 Q2 A2
  have p7 := (unhide P3).at 7
  have o6 := (unhide O3).at 6
  have of6 := (unhide O3).f 6
  simp at p7 o6
  go_wp2_with fail
  refine (toContS_any ca cl cc cs _ ((unhide HC).below (below_sc (unhide HB3) _ _ _ (show w.heap.size ≤ w.heap.size + 1 + 1 by omega))) hcl).mono ?_
  clear p7 o6 of6
  rintro e w4 ⟨rfl, hq, hb⟩
  simp only [set_size] at hq
  have HB4 := hide (below_on (below_sc (unhide HB3) _ _ _ (show w.heap.size ≤ w.heap.size + 1 + 1 by omega)) hb)
  have R4 := hide (((unhide R3).other _ _ _ (show w.heap.size + 1 ≠ w.heap.size + 1 + 1 by omega)).below hb)
  have O4 := hide (show Blk w4 (w.heap.size + 1 + 1) #[.slice (some ⟨w.heap.size + 1 + 1 + 1, 0, none⟩) ql ql, .int .i64 clock, .int .i64 epoch, .int .i64 next, .int .i64 serial, .slice (some ⟨g2, 0, none⟩) al al, .slice (some ⟨g3, 0, none⟩) ml ml, .slice none 0 0] 35 from ((unhide O3).set 6 _).below hb)
  have Q4 := hide (((unhide Q3).other _ _ _ (show w.heap.size + 1 + 1 + 1 ≠ w.heap.size + 1 + 1 by omega)).below hb)
  have A4 := hide (((unhide A3).other _ _ _ (show w.heap.size + 1 + 1 < g2 by omega)).below hb)
  have M4 := hide (((unhide M3).other _ _ _ (show g3 ≠ w.heap.size + 1 + 1 by omega)).below hb)
  have g4z : g3 < w3.heap.size := z3
  obtain ⟨g4, hg4⟩ : ∃ g, w3.heap.size = g := ⟨_, rfl⟩
  simp only [set_size]
  rw [hg4] at hq g4z
  rw [hg4]
  have SO := hide (show SOwn4 w4 (w.heap.size + 1 + 1 + 1) g2 g3 g4 ql al ml cl ⟨qs, clock, epoch, next, serial, apps, ms, cs⟩ from ⟨unhide Q4, unhide A4, unhide M4, hq⟩)
  clear hb P3 R3 O3 HB3 HC hq z3 hg4 Q3 A3 M3 Q4 A4 M4
  have o7 := (unhide O4).at 7
  have of7 := (unhide O4).f 7
  simp at o7
  go_upto_region 10 with fail
  have HB5 := hide (below_sc (unhide HB4) (w.heap.size + 1 + 1) 7 (.slice (some ⟨g4, 0, none⟩) cl cl) (by omega))
  have SO5 := hide ((unhide SO).other (w.heap.size + 1 + 1) 7 (.slice (some ⟨g4, 0, none⟩) cl cl) (by omega) (by omega) (by omega) (by omega))
  have R5 := hide ((unhide R4).other (w.heap.size + 1 + 1) 7 (.slice (some ⟨g4, 0, none⟩) cl cl) (show w.heap.size + 1 ≠ w.heap.size + 1 + 1 by omega))
  have O5 := hide (show Blk (w4.setCell ⟨w.heap.size + 1 + 1, 7, none⟩ (.slice (some ⟨g4, 0, none⟩) cl cl)) (w.heap.size + 1 + 1) #[.slice (some ⟨w.heap.size + 1 + 1 + 1, 0, none⟩) ql ql, .int .i64 clock, .int .i64 epoch, .int .i64 next, .int .i64 serial, .slice (some ⟨g2, 0, none⟩) al al, .slice (some ⟨g3, 0, none⟩) ml ml, .slice (some ⟨g4, 0, none⟩) cl cl] 35 from (unhide O4).set 7 _)
  generalize w4.setCell ⟨w.heap.size + 1 + 1, 7, none⟩ (.slice (some ⟨g4, 0, none⟩) cl cl) = w5 at HB5 SO5 R5 O5 ⊢
  clear o7 of7 HB4 SO R4 O4 HK S3
  have o0 := (unhide O5).at 0; have o1 := (unhide O5).at 1; have o2 := (unhide O5).at 2; have o3 := (unhide O5).at 3; have o4 := (unhide O5).at 4; have o5 := (unhide O5).at 5; have o6 := (unhide O5).at 6; have o7 := (unhide O5).at 7
  have r0 := (unhide R5).at 0; have r1 := (unhide R5).at 1; have r2 := (unhide R5).at 2; have r3 := (unhide R5).at 3; have r4 := (unhide R5).at 4; have r5 := (unhide R5).at 5; have r6 := (unhide R5).at 6; have r7 := (unhide R5).at 7
  have rf0 := (unhide R5).f 0; have rf1 := (unhide R5).f 1; have rf2 := (unhide R5).f 2; have rf3 := (unhide R5).f 3; have rf4 := (unhide R5).f 4; have rf5 := (unhide R5).f 5; have rf6 := (unhide R5).f 6; have rf7 := (unhide R5).f 7
  simp at o0 o1 o2 o3 o4 o5 o6 o7 r0 r1 r2 r3 r4 r5 r6 r7
  clear O5
  go_wp2
  have HB6 := hide (below_sc (below_sc (below_sc (below_sc (below_sc (below_sc (below_sc (below_sc (unhide HB5) _ 0 (.slice (some ⟨w.heap.size + 1 + 1 + 1, 0, none⟩) ql ql) (show w.heap.size ≤ w.heap.size + 1 by omega)) _ 1 (.int .i64 clock) (show w.heap.size ≤ w.heap.size + 1 by omega)) _ 2 (.int .i64 epoch) (show w.heap.size ≤ w.heap.size + 1 by omega)) _ 3 (.int .i64 next) (show w.heap.size ≤ w.heap.size + 1 by omega)) _ 4 (.int .i64 serial) (show w.heap.size ≤ w.heap.size + 1 by omega)) _ 5 (.slice (some ⟨g2, 0, none⟩) al al) (show w.heap.size ≤ w.heap.size + 1 by omega)) _ 6 (.slice (some ⟨g3, 0, none⟩) ml ml) (show w.heap.size ≤ w.heap.size + 1 by omega)) _ 7 (.slice (some ⟨g4, 0, none⟩) cl cl) (show w.heap.size ≤ w.heap.size + 1 by omega))
  have SO6 := hide (SOwn4.other (SOwn4.other (SOwn4.other (SOwn4.other (SOwn4.other (SOwn4.other (SOwn4.other (SOwn4.other (unhide SO5) (w.heap.size + 1) 0 (.slice (some ⟨w.heap.size + 1 + 1 + 1, 0, none⟩) ql ql) (by omega) (by omega) (by omega) (by omega)) (w.heap.size + 1) 1 (.int .i64 clock) (by omega) (by omega) (by omega) (by omega)) (w.heap.size + 1) 2 (.int .i64 epoch) (by omega) (by omega) (by omega) (by omega)) (w.heap.size + 1) 3 (.int .i64 next) (by omega) (by omega) (by omega) (by omega)) (w.heap.size + 1) 4 (.int .i64 serial) (by omega) (by omega) (by omega) (by omega)) (w.heap.size + 1) 5 (.slice (some ⟨g2, 0, none⟩) al al) (by omega) (by omega) (by omega) (by omega)) (w.heap.size + 1) 6 (.slice (some ⟨g3, 0, none⟩) ml ml) (by omega) (by omega) (by omega) (by omega)) (w.heap.size + 1) 7 (.slice (some ⟨g4, 0, none⟩) cl cl) (by omega) (by omega) (by omega) (by omega))
  have R6 := hide (show Blk ((((((((w5.setCell ⟨w.heap.size + 1, 0, none⟩ (.slice (some ⟨w.heap.size + 1 + 1 + 1, 0, none⟩) ql ql)).setCell ⟨w.heap.size + 1, 1, none⟩ (.int .i64 clock)).setCell ⟨w.heap.size + 1, 2, none⟩ (.int .i64 epoch)).setCell ⟨w.heap.size + 1, 3, none⟩ (.int .i64 next)).setCell ⟨w.heap.size + 1, 4, none⟩ (.int .i64 serial)).setCell ⟨w.heap.size + 1, 5, none⟩ (.slice (some ⟨g2, 0, none⟩) al al)).setCell ⟨w.heap.size + 1, 6, none⟩ (.slice (some ⟨g3, 0, none⟩) ml ml)).setCell ⟨w.heap.size + 1, 7, none⟩ (.slice (some ⟨g4, 0, none⟩) cl cl)) (w.heap.size + 1) #[.slice (some ⟨w.heap.size + 1 + 1 + 1, 0, none⟩) ql ql, .int .i64 clock, .int .i64 epoch, .int .i64 next, .int .i64 serial, .slice (some ⟨g2, 0, none⟩) al al, .slice (some ⟨g3, 0, none⟩) ml ml, .slice (some ⟨g4, 0, none⟩) cl cl] 35 from (Blk.set (Blk.set (Blk.set (Blk.set (Blk.set (Blk.set (Blk.set (Blk.set (unhide R5) 0 (.slice (some ⟨w.heap.size + 1 + 1 + 1, 0, none⟩) ql ql)) 1 (.int .i64 clock)) 2 (.int .i64 epoch)) 3 (.int .i64 next)) 4 (.int .i64 serial)) 5 (.slice (some ⟨g2, 0, none⟩) al al)) 6 (.slice (some ⟨g3, 0, none⟩) ml ml)) 7 (.slice (some ⟨g4, 0, none⟩) cl cl)))
  generalize ((((((((w5.setCell ⟨w.heap.size + 1, 0, none⟩ (.slice (some ⟨w.heap.size + 1 + 1 + 1, 0, none⟩) ql ql)).setCell ⟨w.heap.size + 1, 1, none⟩ (.int .i64 clock)).setCell ⟨w.heap.size + 1, 2, none⟩ (.int .i64 epoch)).setCell ⟨w.heap.size + 1, 3, none⟩ (.int .i64 next)).setCell ⟨w.heap.size + 1, 4, none⟩ (.int .i64 serial)).setCell ⟨w.heap.size + 1, 5, none⟩ (.slice (some ⟨g2, 0, none⟩) al al)).setCell ⟨w.heap.size + 1, 6, none⟩ (.slice (some ⟨g3, 0, none⟩) ml ml)).setCell ⟨w.heap.size + 1, 7, none⟩ (.slice (some ⟨g4, 0, none⟩) cl cl)) = w6 at HB6 SO6 R6 ⊢
  clear o0 o1 o2 o3 o4 o5 o6 o7 r0 r1 r2 r3 r4 r5 r6 r7 rf0 rf1 rf2 rf3 rf4 rf5 rf6 rf7 HB5 SO5 R5
  have r0 := (unhide R6).at 0; have r1 := (unhide R6).at 1; have r2 := (unhide R6).at 2; have r3 := (unhide R6).at 3; have r4 := (unhide R6).at 4; have r5 := (unhide R6).at 5; have r6 := (unhide R6).at 6; have r7 := (unhide R6).at 7
  simp at r0 r1 r2 r3 r4 r5 r6 r7
  refine bodyPost_ret (v := sv (own4 (w.heap.size + 1 + 1 + 1) g2 g3 g4 ql al ml cl) ⟨qs, clock, epoch, next, serial, apps, ms, cs⟩) (by simp [results, Try.results10, go_sem, r0, r1, r2, r3, r4, r5, r6, r7]) rfl ⟨_, _, _, _, rfl, unhide SO6, ⟨?_, g2z, g3z, g4z⟩, unhide HB6⟩
  omega
end Go.Proofs.Ytplegginhmlfjaa
