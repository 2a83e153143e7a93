/-
  The laws' own eqState, at states that hold the same; a walk over the dump.
-/
import Derived.Test.YtplegginhmlfjaaStSz
import Derived.Test.YtplegginhmlfjaaEqQ
import Derived.Test.YtplegginhmlfjaaAppEq
import Derived.Test.YtplegginhmlfjaaMacEq
import Derived.Test.YtplegginhmlfjaaConEq
namespace Go.Proofs.Ytplegginhmlfjaa
open Go.RowKit
set_option linter.unusedVariables false

/-- the two states that are compared stand in two variables; nothing of w has turned -/
def EqHeld (w : World) (x y : Sls) (s : St) (wx : World) : Prop := Blk wx w.heap.size (svc x s) 35 ∧ Blk wx (w.heap.size + 1) (svc y s) 35 ∧ Below w.heap.size w wx
theorem EqHeld.call {w wx wy : World} {x y : Sls} {s : St} (h : EqHeld w x y s wx) (hb : Below wx.heap.size wx wy) : EqHeld w x y s wy := ⟨h.1.below hb, h.2.1.below hb, below_on h.2.2 hb⟩
theorem EqHeld.drew {w wx : World} {x y : Sls} {s : St} (h : EqHeld w x y s wx) : EqHeld w x y s wx.drew := h.call (Below.refl _ _).drew
theorem EqHeld.new (w : World) (x y : Sls) (s : St) : EqHeld w x y s ((w.alloc (.cells (svc x s) 35)).alloc (.cells (svc y s) 35)) :=
  ⟨(blk_new _ _ _).al _, by have := blk_new (w.alloc (.cells (svc x s) 35)) (svc y s) 35; rwa [al_size] at this, below_al (below_al (Below.refl _ _) _) _⟩
theorem EqHeld.read (w : World) (x y : Sls) (s : St) : ∀ wx, EqHeld w x y s wx → (wx.cell? ⟨w.heap.size, 0, none⟩ = some (.slice x.qa x.ql x.qc) ∧ wx.cell? ⟨w.heap.size, 1, none⟩ = some (.int .i64 s.clock) ∧ wx.cell? ⟨w.heap.size, 2, none⟩ = some (.int .i64 s.epoch) ∧ wx.cell? ⟨w.heap.size, 3, none⟩ = some (.int .i64 s.next) ∧ wx.cell? ⟨w.heap.size, 4, none⟩ = some (.int .i64 s.serial) ∧ wx.cell? ⟨w.heap.size, 5, none⟩ = some (.slice x.aa x.al x.ac) ∧ wx.cell? ⟨w.heap.size, 6, none⟩ = some (.slice x.ma x.ml x.mc) ∧ wx.cell? ⟨w.heap.size, 7, none⟩ = some (.slice x.ca x.cl x.cc))
    ∧ wx.cell? ⟨w.heap.size + 1, 0, none⟩ = some (.slice y.qa y.ql y.qc) ∧ wx.cell? ⟨w.heap.size + 1, 1, none⟩ = some (.int .i64 s.clock) ∧ wx.cell? ⟨w.heap.size + 1, 2, none⟩ = some (.int .i64 s.epoch) ∧ wx.cell? ⟨w.heap.size + 1, 3, none⟩ = some (.int .i64 s.next) ∧ wx.cell? ⟨w.heap.size + 1, 4, none⟩ = some (.int .i64 s.serial) ∧ wx.cell? ⟨w.heap.size + 1, 5, none⟩ = some (.slice y.aa y.al y.ac) ∧ wx.cell? ⟨w.heap.size + 1, 6, none⟩ = some (.slice y.ma y.ml y.mc) ∧ wx.cell? ⟨w.heap.size + 1, 7, none⟩ = some (.slice y.ca y.cl y.cc) :=
  fun wx h => ⟨⟨h.1.at 0, h.1.at 1, h.1.at 2, h.1.at 3, h.1.at 4, h.1.at 5, h.1.at 6, h.1.at 7⟩, h.2.1.at 0, h.2.1.at 1, h.2.1.at 2, h.2.1.at 3, h.2.1.at 4, h.2.1.at 5, h.2.1.at 6, h.2.1.at 7⟩

set_option maxRecDepth 100000 in
set_option maxHeartbeats 4000000 in
theorem eqState_same (x y : Sls) (s : St) (w : World) (h : SRow w x s) (h' : SRow w y s) (hf : FitSt s) :
    Calls Try.prog 12 #[sv x s, sv y s] w fun e w' => e = .returned (.bool true) ∧ Below w.heap.size w w' := by
  have E0 := hide (EqHeld.new w x y s)
  have RD := hide (EqHeld.read w x y s)
  obtain ⟨k1, k2, k3, k4⟩ := h.len
  obtain ⟨l1, l2, l3, l4⟩ := h'.len
  obtain ⟨qa, ql, qc, aa, al, ac, ma, ml, mc, ca, cl, cc⟩ := x
  obtain ⟨ra, rl, rc, ba, bl, bc, na, nl, nc, da, dl, dc⟩ := y
  simp only at k1 k2 k3 k4 l1 l2 l3 l4
  obtain rfl : ql = rl := k1.trans l1.symm
  obtain rfl : al = bl := k2.trans l2.symm
  obtain rfl : ml = nl := k3.trans l3.symm
  obtain rfl : cl = dl := k4.trans l4.symm
  obtain ⟨hq, ha, hm, hc⟩ := h
  obtain ⟨hq', ha', hm', hc'⟩ := h'
  simp only at hq ha hm hc hq' ha' hm' hc'
  have CQ := hide (fun wx (hb : Below w.heap.size w wx) => eqQueueS_same qa ra ql qc rc s.qs wx (hq.below hb) (hq'.below hb) (by have := hf.1.1; omega))
  have CA := hide (fun wx (hb : Below w.heap.size w wx) => eqAppS_same aa ba al ac bc s.apps wx (ha.below hb) (ha'.below hb) (by have := hf.2.1.1; omega) (fun q hq => (hf.2.1.2 q hq).2.1))
  have CM := hide (fun wx (hb : Below w.heap.size w wx) => eqMachineS_same ma na ml mc nc s.ms wx (hm.below hb) (hm'.below hb) (by have := hf.2.2.1.1; omega))
  have CC := hide (fun wx (hb : Below w.heap.size w wx) => eqContS_same ca da cl cc dc s.cs wx (hc.below hb) (hc'.below hb) (by have := hf.2.2.2.1; omega))
  obtain ⟨qs, clock, epoch, next, serial, apps, ms, cs⟩ := s
  clear hq ha hm hc hq' ha' hm' hc' hf k1 k2 k3 k4 l1 l2 l3 l4
  go_enter Try.func12, Try.ntmps12
  go_wp2_with fail
  have E1 := hide (unhide E0).drew
  refine (unhide CQ _ ?_).mono ?_
  · first | exact (unhide E0).2.2 | exact (unhide E1).2.2 | exact (unhide E1).drew.2.2
  rintro e w1 ⟨rfl, hb⟩
  have E2 := hide (show EqHeld w _ _ _ w1 by first | exact (unhide E0).call hb | exact (unhide E1).call hb | exact (unhide E1).drew.call hb)
  clear hb E0 E1 CQ
  obtain ⟨⟨a0, a1, a2, a3, a4, a5, a6, a7⟩, b0, b1, b2, b3, b4, b5, b6, b7⟩ := unhide RD _ (unhide E2)
  try simp only at a0 a1 a2 a3 a4 a5 a6 a7 b0 b1 b2 b3 b4 b5 b6 b7
  go_wp2_with fail
  refine (unhide CA _ (unhide E2).2.2).mono ?_
  rintro e w2 ⟨rfl, hb⟩
  have E3 := hide ((unhide E2).call hb)
  clear hb E2 CA a0 a1 a2 a3 a4 a5 a6 a7 b0 b1 b2 b3 b4 b5 b6 b7
  obtain ⟨⟨a0, a1, a2, a3, a4, a5, a6, a7⟩, b0, b1, b2, b3, b4, b5, b6, b7⟩ := unhide RD _ (unhide E3)
  try simp only at a0 a1 a2 a3 a4 a5 a6 a7 b0 b1 b2 b3 b4 b5 b6 b7
  go_wp2_with fail
  refine (unhide CM _ (unhide E3).2.2).mono ?_
  rintro e w3 ⟨rfl, hb⟩
  have E4 := hide ((unhide E3).call hb)
  clear hb E3 CM a0 a1 a2 a3 a4 a5 a6 a7 b0 b1 b2 b3 b4 b5 b6 b7
  obtain ⟨⟨a0, a1, a2, a3, a4, a5, a6, a7⟩, b0, b1, b2, b3, b4, b5, b6, b7⟩ := unhide RD _ (unhide E4)
  try simp only at a0 a1 a2 a3 a4 a5 a6 a7 b0 b1 b2 b3 b4 b5 b6 b7
  go_wp2_with fail
  refine (unhide CC _ (unhide E4).2.2).mono ?_
  rintro e w4 ⟨rfl, hb⟩
  have E5 := hide ((unhide E4).call hb)
  clear hb E4 CC a0 a1 a2 a3 a4 a5 a6 a7 b0 b1 b2 b3 b4 b5 b6 b7
  go_wp2
  go_ret
  exact ⟨rfl, (unhide E5).2.2⟩
end Go.Proofs.Ytplegginhmlfjaa
