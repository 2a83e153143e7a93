/-
  What is on a machine together, by the model: UsedOn; walks over the dump.
-/
import Derived.Test.YtgallgdmedfgmaaSumS4
import Derived.Test.YtgallgdmedfgmaaCaps
import Derived.Test.YtgallgdmedfgmaaPlaceM
import Derived.Test.YtgallgdmedfgmaaOnS
namespace Go.Proofs.Ytgallgdmedfgmaa
open Go.RowKit
set_option linter.unusedVariables false

set_option maxRecDepth 100000 in
set_option maxHeartbeats 2000000 in
theorem specUsedOn_any (x : Sls) (s : St) (nd : List UInt8) (w : World) (h : ConRow w x.ca x.cl s.cs) (hl : x.cl ≤ 1048576) :
    Calls Try.prog 35 #[sv x s, .string (bs nd)] w fun e w' => e = .returned (rv (sumR (usedL (fun q => decide (q.node = nd)) s.cs)).1 (sumR (usedL (fun q => decide (q.node = nd)) s.cs)).2.1) ∧ Below w.heap.size w w' := by
  have hlc : (usedL (fun q => decide (q.node = nd)) s.cs).length ≤ 1048576 := by have := h.1; have : (usedL (fun q : Con => decide (q.node = nd)) s.cs).length ≤ s.cs.length := (by simp only [usedL, List.length_map]; exact List.length_filter_le _ _); omega
  have HR := hide h
  clear h
  obtain ⟨⟨sx, sy, so⟩, hs⟩ : ∃ y, sumR (usedL (fun q => decide (q.node = nd)) s.cs) = y := ⟨_, rfl⟩
  have CC := hide (fun wx (hb : Below w.heap.size w wx) => l04On_any x s nd wx ((unhide HR).below hb) hl)
  have CS := hide (fun ao cap wx (h : RRow wx ao (usedL (fun q => decide (q.node = nd)) s.cs).length (usedL (fun q => decide (q.node = nd)) s.cs)) => by have := l04Sum_any ao _ cap (usedL (fun q => decide (q.node = nd)) s.cs) wx h hlc; rw [hs] at this; exact this)
  rw [hs]
  clear hs
  obtain ⟨qa, ql, qc, aa, al, ac, ma, ml, mc, ca, cl, cc⟩ := x
  obtain ⟨qs, clock, epoch, next, serial, apps, ms, cs⟩ := s
  simp only at CC CS hlc
  go_enter Try.func35, Try.ntmps35
  go_wp2_with fail
  refine (unhide CC _ (capW_below w _)).mono ?_
  rintro e w1 ⟨v, rfl, ho, hb⟩
  obtain ⟨ao, cp, rfl, hrow, _⟩ := ho.row
  have V1 := (capW_var w _).below hb
  have HV1 := hide V1
  have HB1 := hide (below_on (capW_below w _) hb)
  have HROW := hide hrow
  obtain ⟨n, hn⟩ : ∃ n, (usedL (fun q => decide (q.node = nd)) cs).length = n := ⟨_, rfl⟩
  rw [hn] at CS HROW ⊢
  clear hb V1 CC ho hrow hn hlc
  go_wp2_with fail
  refine (unhide CS _ _ _ (unhide HROW)).mono ?_
  rintro e w2 ⟨rfl, hb⟩
  have V1 := (unhide HV1).below hb
  have HB2 := hide (below_on (unhide HB1) hb)
  have V2 := V1.al (.cells #[.int .i64 sx, .int .i64 sy] 28)
  have t0 := V2.c0
  have t1 := V2.c1
  have f0 := V2.f 0
  have f1 := V2.f 1
  have VG := V2.set sx sy
  have k6 := VG.c0
  have k7 := VG.c1
  clear hb V1 V2 VG CS HV1 HB1 HROW
  go_wp2
  refine bodyPost_ret (v := rv sx sy) (by simp [results, Try.results35, go_sem, k6, k7]) rfl ⟨rfl, ?_⟩
  repeat (first | exact unhide HB2 | refine below_al ?_ _ | refine below_sc ?_ _ _ _ (by omega))
end Go.Proofs.Ytgallgdmedfgmaa
