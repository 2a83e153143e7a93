/-
  The laws' markState over a state that toState made, with a bound on the number that it answers; a walk over the dump.
-/
import Derived.Test.YtdkgmfogeabaoaaGreatMarkX
namespace Go.Proofs.YtdkgmfogeabaoaaGreat
open Go.RowKit
set_option linter.unusedVariables false

set_option maxRecDepth 100000 in
set_option maxHeartbeats 2000000 in
theorem markState_le (B E g1 g2 g3 g4 ql al ml cl : Nat) (s : St) (w : World) (hq : Cel w 99 g1 (ql * 4)) (ha : AWh w B E g2 al) (hm : Cel w 103 g3 (ml * 4)) (hc : Cel w 61 g4 (cl * 5))
    (b1 : B ≤ g1 ∧ g1 < g2 ∧ g2 < g3 ∧ g3 < g4 ∧ g4 < E) (hE : E ≤ w.heap.size) (hql : ql ≤ 1048576) (hal : al ≤ 1048576) (hml : ml ≤ 1048576) (hcl : cl ≤ 1048576) :
    Calls Tryz.prog 14 #[sv (own4 g1 g2 g3 g4 ql al ml cl) s, .int .i64 1] w fun e w' => ∃ k, e = .returned (.int .i64 k) ∧ (0 < k ∧ k ≤ 20000000000000) ∧ Mkd B E w w' := by
  have hb0 := below_al (Below.refl _ w) (.cells (svc (own4 g1 g2 g3 g4 ql al ml cl) s) 35)
  have P0 := hide (blk_new w (svc (own4 g1 g2 g3 g4 ql al ml cl) s) 35)
  have CQ := hide (hq.below hb0)
  have CA := hide (ha.below hb0)
  have CM := hide (hm.below hb0)
  have CC := hide (hc.below hb0)
  have HG0 := hide (show Mkd B E w _ from .of_below hb0)
  obtain ⟨qs, clock, epoch, next, serial, apps, ms, cs⟩ := s
  clear hq ha hm hc hb0
  go_enter Tryz.func14, Tryz.ntmps14
  go_wp2_with fail
  refine (markQueueS_from g1 ql ql 1 _ (unhide CQ) (Nat.le_refl _) hql (by omega) (by omega)).mono ?_
  rintro e w1 ⟨rfl, hm1⟩
  have P1 := hide (hm1.blk (unhide P0) (.inr (by omega)))
  have CA1 := hide ((unhide CA).mkd hm1 (by omega))
  have CM1 := hide (hm1.cel _ _ _ (unhide CM))
  have CC1 := hide (hm1.cel _ _ _ (unhide CC))
  have HG1 := hide ((unhide HG0).trans (hm1.mono b1.1 (by omega)))
  have p5 := (unhide P1).at 5
  simp at p5
  clear hm1 P0 CQ CA CM CC HG0
  go_wp2_with fail
  refine (markAppS_from B E g2 al (1 + 4 * (ql : Int)) _ (unhide CA1) (by omega) (by omega) hal (by omega) (by omega)).mono ?_
  rintro e w2 ⟨k2, rfl, hk2, hk2', hm2⟩
  have P2 := hide (hm2.blk (unhide P1) (.inr (by omega)))
  have CM2 := hide (hm2.cel _ _ _ (unhide CM1))
  have CC2 := hide (hm2.cel _ _ _ (unhide CC1))
  have HG2 := hide ((unhide HG1).trans hm2)
  have p6 := (unhide P2).at 6
  simp at p6
  have hk2a : 0 < k2 := by omega
  have hk2b : k2 ≤ 10000000000000 := by omega
  clear hm2 P1 CA1 CM1 CC1 HG1 p5 hk2 hk2'
  go_wp2_with fail
  refine (markMachineS_from g3 ml ml k2 _ (unhide CM2) (Nat.le_refl _) hml (by omega) (by omega)).mono ?_
  rintro e w3 ⟨rfl, hm3⟩
  have P3 := hide (hm3.blk (unhide P2) (.inr (by omega)))
  have CC3 := hide (hm3.cel _ _ _ (unhide CC2))
  have HG3 := hide ((unhide HG2).trans (hm3.mono (by omega) (by omega)))
  have p7 := (unhide P3).at 7
  simp at p7
  clear hm3 P2 CM2 CC2 HG2 p6
  go_wp2_with fail
  refine (markContS_from g4 cl cl (k2 + 4 * (ml : Int)) _ (unhide CC3) (Nat.le_refl _) hcl (by omega) (by omega)).mono ?_
  rintro e w4 ⟨rfl, hm4⟩
  have HG4 := hide ((unhide HG3).trans (hm4.mono (by omega) (by omega)))
  clear hm4 P3 CC3 HG3 p7
  go_wp2
  go_ret
  exact ⟨_, rfl, by omega, unhide HG4⟩
end Go.Proofs.YtdkgmfogeabaoaaGreat
