/-
  What all machines can together, and what is on one of them, by the model: Total, UsedOn; walks over the dump.
-/
import Derived.Test.YtgallgdmedfgmaaSumS4
import Derived.Test.YtgallgdmedfgmaaStAll
import Derived.Test.YtgallgdmedfgmaaCaps
import Derived.Test.YtgallgdmedfgmaaCapS
namespace Go.Proofs.Ytgallgdmedfgmaa
open Go.RowKit
set_option linter.unusedVariables false

set_option maxRecDepth 100000 in
set_option maxHeartbeats 2000000 in
theorem specTotal_any (x : Sls) (s : St) (w : World) (h : MacRow w x.ma x.ml s.ms) (hl : x.ml ≤ 1048576) :
    Calls Try.prog 26 #[sv x s] w fun e w' => e = .returned (rv (sumR (capsOf s.ms)).1 (sumR (capsOf s.ms)).2.1) ∧ Below w.heap.size w w' := by
  have hlc : (capsOf s.ms).length ≤ 1048576 := by have := h.1; simp [capsOf]; omega
  have HR := hide h
  clear h
  obtain ⟨⟨sx, sy, so⟩, hs⟩ : ∃ y, sumR (capsOf s.ms) = y := ⟨_, rfl⟩
  have CC := hide (fun wx (hb : Below w.heap.size w wx) => l04Caps_any x s wx ((unhide HR).below hb) hl)
  have CS := hide (fun ao cap wx (h : RRow wx ao (capsOf s.ms).length (capsOf s.ms)) => by have := l04Sum_any ao _ cap (capsOf s.ms) wx h hlc; rw [hs] at this; exact this)
  rw [hs]
  clear hs
  obtain ⟨qa, ql, qc, aa, al, ac, ma, ml, mc, ca, cl, cc⟩ := x
  obtain ⟨qs, clock, epoch, next, serial, apps, ms, cs⟩ := s
  simp only at CC CS hlc
  go_enter Try.func26, Try.ntmps26
  go_wp2_with fail
  refine (unhide CC _ (capW_below w _)).mono ?_
  rintro e w1 ⟨v, rfl, ho, hb⟩
  obtain ⟨ao, cp, rfl, hrow, _⟩ := ho.row
  have V1 := (capW_var w _).below hb
  have HV1 := hide V1
  have HB1 := hide (below_on (capW_below w _) hb)
  have HROW := hide hrow
  obtain ⟨n, hn⟩ : ∃ n, (capsOf ms).length = n := ⟨_, rfl⟩
  rw [hn] at CS HROW ⊢
  clear hb V1 CC ho hrow hn hlc
  go_wp2_with fail
  refine (unhide CS _ _ _ (unhide HROW)).mono ?_
  rintro e w2 ⟨rfl, hb⟩
  have V1 := (unhide HV1).below hb
  have HB2 := hide (below_on (unhide HB1) hb)
  have V2 := V1.al (.cells #[.int .i64 sx, .int .i64 sy] 28)
  have t0 := V2.c0
  have t1 := V2.c1
  have f0 := V2.f 0
  have f1 := V2.f 1
  have VG := V2.set sx sy
  have k6 := VG.c0
  have k7 := VG.c1
  clear hb V1 V2 VG CS HV1 HB1 HROW
  go_wp2
  refine bodyPost_ret (v := rv sx sy) (by simp [results, Try.results26, go_sem, k6, k7]) rfl ⟨rfl, ?_⟩
  repeat (first | exact unhide HB2 | refine below_al ?_ _ | refine below_sc ?_ _ _ _ (by omega))
end Go.Proofs.Ytgallgdmedfgmaa
