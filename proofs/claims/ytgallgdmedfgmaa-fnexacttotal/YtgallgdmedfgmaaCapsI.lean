/-
  What all machines can together, by the program: Total; a walk over the dump.
-/
import Derived.Test.YtgallgdmedfgmaaCapI
namespace Go.Proofs.Ytgallgdmedfgmaa
open Go.RowKit
set_option linter.unusedVariables false

set_option maxRecDepth 100000 in
set_option maxHeartbeats 2000000 in
theorem implTotal_any (x : Sls) (s : St) (w : World) (h : MacRow w x.ma x.ml s.ms) (hl : x.ml ≤ 1048576) :
    Calls Try.prog 27 #[sv x s] w fun e w' => e = .returned (rv (sumR (capsOf s.ms)).1 (sumR (capsOf s.ms)).2.1) ∧ Below w.heap.size w w' := by
  have HR := hide h
  clear h
  obtain ⟨⟨sx, sy, so⟩, hs⟩ : ∃ y, sumR (capsOf s.ms) = y := ⟨_, rfl⟩
  have CC := hide (fun wx (hb : Below w.heap.size w wx) => by have := caps_any x s wx ((unhide HR).below hb) hl; rw [hs] at this; exact this)
  rw [hs]
  clear hs
  obtain ⟨qa, ql, qc, aa, al, ac, ma, ml, mc, ca, cl, cc⟩ := x
  obtain ⟨qs, clock, epoch, next, serial, apps, ms, cs⟩ := s
  go_enter Try.func27, Try.ntmps27
  go_wp2_with fail
  refine (unhide CC _ (capW_below w _)).mono ?_
  rintro e w1 ⟨rfl, hb⟩
  have V1 := (capW_var w _).below hb
  have HB1 := hide (below_on (capW_below w _) hb)
  have V2 := V1.al (.cells #[.int .i64 sx, .int .i64 sy] 28)
  have t0 := V2.c0
  have t1 := V2.c1
  have f0 := V2.f 0
  have f1 := V2.f 1
  have u0 := V1.c0
  have u1 := V1.c1
  have e0 := V1.f 0
  have e1 := V1.f 1
  have VG := V2.set sx sy
  have k6 := VG.c0
  have k7 := VG.c1
  clear hb V1 V2 VG CC
  go_wp2
  refine bodyPost_ret (v := rv sx sy) (by simp [results, Try.results27, go_sem, k6, k7]) rfl ⟨rfl, ?_⟩
  repeat (first | exact unhide HB1 | refine below_al ?_ _ | refine below_sc ?_ _ _ _ (by omega))
end Go.Proofs.Ytgallgdmedfgmaa
