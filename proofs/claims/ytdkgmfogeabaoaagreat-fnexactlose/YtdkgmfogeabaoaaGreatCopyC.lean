/-
  A container copied: what the program's copyOfCont answers; a walk over the dump.
-/
import Derived.Test.YtdkgmfogeabaoaaGreatStAll
import Derived.Test.YtdkgmfogeabaoaaGreatPackE
import Derived.Deep.CutBlock
import Derived.Deep.CutRange
namespace Go.Proofs.YtdkgmfogeabaoaaGreat
open Go.RowKit
set_option linter.unusedVariables false

set_option maxRecDepth 100000 in
set_option maxHeartbeats 2000000 in
theorem copyOfCont_any (q : Con) (w : World) (hn : q.node.length ≤ 1048576) :
    Calls Tryz.prog 73 #[conv q] w fun e w' => e = .returned (conv q) ∧ Below w.heap.size w w' := by
  obtain ⟨id, ap, nd, me, cp⟩ := q
  simp only at hn
  have hs : (bs nd).size ≤ 281474976710656 := by rw [bs_size]; omega
  have HB0 := hide (below_al (below_al (Below.refl _ w) (.cells #[.int .i64 id, .int .i64 ap, .string (bs nd), .int .i64 me, .int .i64 cp] 61)) (.cells #[.int .i64 0, .int .i64 0, .string ByteArray.empty, .int .i64 0, .int .i64 0] 61))
  have P0 := hide ((blk_new w #[.int .i64 id, .int .i64 ap, .string (bs nd), .int .i64 me, .int .i64 cp] 61).al (.cells #[.int .i64 0, .int .i64 0, .string ByteArray.empty, .int .i64 0, .int .i64 0] 61))
  have P1 := hide (show Blk _ (w.heap.size + 1) #[.int .i64 0, .int .i64 0, .string ByteArray.empty, .int .i64 0, .int .i64 0] 61 by have := blk_new (w.alloc (.cells #[.int .i64 id, .int .i64 ap, .string (bs nd), .int .i64 me, .int .i64 cp] 61)) #[.int .i64 0, .int .i64 0, .string ByteArray.empty, .int .i64 0, .int .i64 0] 61; rwa [al_size] at this)
  clear hn
  go_enter Tryz.func73, Tryz.ntmps73
  go_wp2_with fail
  refine (clone_any (bs nd) _ hs).mono ?_
  rintro e w1 ⟨rfl, hb⟩
  have HB1 := hide (below_on (unhide HB0) hb)
  have Q0 := hide ((unhide P0).below hb)
  have Q1 := hide ((unhide P1).below hb)
  clear hb HB0 P0 P1
  have d2 := (unhide Q0).at 2
  have f2 := (unhide Q0).f 2
  simp at d2
  go_upto_region 2 with fail
  have HB2 := hide (below_sc (unhide HB1) w.heap.size 2 (.string (bs nd)) (Nat.le_refl _))
  have R0 := hide (show Blk (w1.setCell ⟨w.heap.size, 2, none⟩ (.string (bs nd))) w.heap.size #[.int .i64 id, .int .i64 ap, .string (bs nd), .int .i64 me, .int .i64 cp] 61 from (unhide Q0).set 2 (.string (bs nd)))
  have R1 := hide ((unhide Q1).other w.heap.size 2 (.string (bs nd)) (by omega))
  generalize w1.setCell ⟨w.heap.size, 2, none⟩ (.string (bs nd)) = w2 at HB2 R0 R1 ⊢
  clear d2 f2 HB1 Q0 Q1
  have a0 := (unhide R0).at 0; have a1 := (unhide R0).at 1; have a2 := (unhide R0).at 2; have a3 := (unhide R0).at 3; have a4 := (unhide R0).at 4
  have c0 := (unhide R1).at 0; have c1 := (unhide R1).at 1; have c2 := (unhide R1).at 2; have c3 := (unhide R1).at 3; have c4 := (unhide R1).at 4
  have f0 := (unhide R1).f 0; have f1 := (unhide R1).f 1; have f2 := (unhide R1).f 2; have f3 := (unhide R1).f 3; have f4 := (unhide R1).f 4
  simp at a0 a1 a2 a3 a4 c0 c1 c2 c3 c4
  go_wp2
  have HB9 := hide (below_sc (below_sc (below_sc (below_sc (below_sc (unhide HB2) (w.heap.size + 1) 0 (.int .i64 id) (by omega)) (w.heap.size + 1) 1 (.int .i64 ap) (by omega)) (w.heap.size + 1) 2 (.string (bs nd)) (by omega)) (w.heap.size + 1) 3 (.int .i64 me) (by omega)) (w.heap.size + 1) 4 (.int .i64 cp) (by omega))
  have R9 := hide (show Blk (((((w2.setCell ⟨w.heap.size + 1, 0, none⟩ (.int .i64 id)).setCell ⟨w.heap.size + 1, 1, none⟩ (.int .i64 ap)).setCell ⟨w.heap.size + 1, 2, none⟩ (.string (bs nd))).setCell ⟨w.heap.size + 1, 3, none⟩ (.int .i64 me)).setCell ⟨w.heap.size + 1, 4, none⟩ (.int .i64 cp)) (w.heap.size + 1) #[.int .i64 id, .int .i64 ap, .string (bs nd), .int .i64 me, .int .i64 cp] 61 from (((((unhide R1).set 0 (.int .i64 id)).set 1 (.int .i64 ap)).set 2 (.string (bs nd))).set 3 (.int .i64 me)).set 4 (.int .i64 cp))
  generalize (((((w2.setCell ⟨w.heap.size + 1, 0, none⟩ (.int .i64 id)).setCell ⟨w.heap.size + 1, 1, none⟩ (.int .i64 ap)).setCell ⟨w.heap.size + 1, 2, none⟩ (.string (bs nd))).setCell ⟨w.heap.size + 1, 3, none⟩ (.int .i64 me)).setCell ⟨w.heap.size + 1, 4, none⟩ (.int .i64 cp)) = W9 at HB9 R9 ⊢
  have z0 := (unhide R9).at 0; have z1 := (unhide R9).at 1; have z2 := (unhide R9).at 2; have z3 := (unhide R9).at 3; have z4 := (unhide R9).at 4
  simp at z0 z1 z2 z3 z4
  refine bodyPost_ret (v := .agg #[.int .i64 id, .int .i64 ap, .string (bs nd), .int .i64 me, .int .i64 cp]) (by simp [results, Tryz.results73, go_sem, z0, z1, z2, z3, z4]) rfl ⟨rfl, unhide HB9⟩
end Go.Proofs.YtdkgmfogeabaoaaGreat
