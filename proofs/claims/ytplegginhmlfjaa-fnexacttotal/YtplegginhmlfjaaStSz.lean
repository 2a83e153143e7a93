/-
  The laws' own szState: how much is handed in; walks over the dump.
-/
import Derived.Test.YtplegginhmlfjaaStV
import Derived.Test.YtplegginhmlfjaaSzQ2
import Derived.Test.YtplegginhmlfjaaAppSz
import Derived.Test.YtplegginhmlfjaaMacSz
import Derived.Test.YtplegginhmlfjaaConSz
namespace Go.Proofs.Ytplegginhmlfjaa
open Go.RowKit
set_option linter.unusedVariables false

/-- not too much -/
def FitSt (s : St) : Prop := FitQ s.qs ∧ FitAppl s.apps ∧ FitMac s.ms ∧ FitCon s.cs
/-- what a reading allows -/
def StBig (x : Sls) (s : St) : Prop := (x.ql ≤ 9223372036854775807 ∧ ∀ q ∈ s.qs, q.name.length ≤ 9223372036854775807 ∧ q.parent.length ≤ 9223372036854775807) ∧ (x.al ≤ 9223372036854775807 ∧ ∀ q ∈ s.apps, ApplBig q) ∧ (x.ml ≤ 9223372036854775807 ∧ ∀ q ∈ s.ms, q.name.length ≤ 9223372036854775807) ∧ (x.cl ≤ 9223372036854775807 ∧ ∀ q ∈ s.cs, q.node.length ≤ 9223372036854775807)

set_option maxRecDepth 100000 in
set_option maxHeartbeats 2000000 in
theorem szState_any (x : Sls) (s : St) (w : World) (h : SRow w x s) (hn : StBig x s) :
    Calls Try.prog 8 #[sv x s, .int .i64 1048576] w fun e w' => ∃ r : Int, e = .returned (.int .i64 r) ∧ (r = -1 ∨ (0 ≤ r ∧ FitSt s)) ∧ Below w.heap.size w w' := by
  obtain ⟨qa, ql, qc, aa, al, ac, ma, ml, mc, ca, cl, cc⟩ := x
  obtain ⟨qs, clock, epoch, next, serial, apps, ms, cs⟩ := s
  obtain ⟨hq, ha, hm, hc⟩ := h
  obtain ⟨nq, na, nm, nc⟩ := hn
  simp only at hq ha hm hc nq na nm nc
  have HB0 := hide (below_al (Below.refl _ w) (.cells #[.slice qa ql qc, .int .i64 clock, .int .i64 epoch, .int .i64 next, .int .i64 serial, .slice aa al ac, .slice ma ml mc, .slice ca cl cc] 27))
  have P0 := hide (blk_new w #[.slice qa ql qc, .int .i64 clock, .int .i64 epoch, .int .i64 next, .int .i64 serial, .slice aa al ac, .slice ma ml mc, .slice ca cl cc] 27)
  have CQ := hide (szQueueS_any qa ql qc qs _ (hq.below (unhide HB0)) nq.1 nq.2)
  have CA := hide (fun a0 wx (hb : Below w.heap.size w wx) h0 h1 => szAppS_any aa al ac apps a0 wx (ha.below hb) na.1 na.2 h0 h1)
  have CM := hide (fun a0 wx (hb : Below w.heap.size w wx) h0 h1 => szMachineS_any ma ml mc ms a0 wx (hm.below hb) nm.1 nm.2 h0 h1)
  have CC := hide (fun a0 wx (hb : Below w.heap.size w wx) h0 h1 => szContS_any ca cl cc cs a0 wx (hc.below hb) nc.1 nc.2 h0 h1)
  clear hq ha hm hc nq na nm nc
  go_enter Try.func8, Try.ntmps8
  go_wp2_with fail
  refine (unhide CQ).mono ?_
  rintro e w1 ⟨r, rfl, hr, hb⟩
  have HB1 := hide (below_on (unhide HB0) hb)
  have P1 := hide ((unhide P0).below hb)
  clear hb CQ P0 HB0
  rcases hr with rfl | ⟨r0, r1, hf⟩
  · go_wp2
    go_ret
    exact ⟨-1, rfl, .inl rfl, unhide HB1⟩
  have F1 := hide hf
  have p5 := (unhide P1).at 5
  simp at p5
  clear hf
  go_wp2_with fail
  refine (unhide CA _ _ (unhide HB1) r0 r1).mono ?_
  rintro e w2 ⟨u, rfl, hr, hb⟩
  have HB2 := hide (below_on (unhide HB1) hb)
  have P2 := hide ((unhide P1).below hb)
  clear hb CA P1 HB1 p5
  rcases hr with rfl | ⟨u0, u1, hf⟩
  · go_wp2
    go_ret
    exact ⟨-1, rfl, .inl rfl, unhide HB2⟩
  have F2 := hide hf
  have p6 := (unhide P2).at 6
  simp at p6
  clear hf
  go_wp2_with fail
  refine (unhide CM _ _ (unhide HB2) u0 (by omega)).mono ?_
  rintro e w3 ⟨v, rfl, hr, hb⟩
  have HB3 := hide (below_on (unhide HB2) hb)
  have P3 := hide ((unhide P2).below hb)
  clear hb CM P2 HB2 p6
  rcases hr with rfl | ⟨v0, v1, hf⟩
  · go_wp2
    go_ret
    exact ⟨-1, rfl, .inl rfl, unhide HB3⟩
  have F3 := hide hf
  have p7 := (unhide P3).at 7
  simp at p7
  clear hf
  go_wp2_with fail
  refine (unhide CC _ _ (unhide HB3) v0 (by omega)).mono ?_
  rintro e w4 ⟨t, rfl, hr, hb⟩
  have HB4 := hide (below_on (unhide HB3) hb)
  clear hb CC P3 HB3 p7
  rcases hr with rfl | ⟨t0, t1, hf⟩
  · go_wp2
    go_ret
    exact ⟨-1, rfl, .inl rfl, unhide HB4⟩
  have F4 := hide hf
  clear hf
  go_wp2
  go_ret
  exact ⟨_, rfl, .inr ⟨t0, unhide F1, unhide F2, unhide F3, unhide F4⟩, unhide HB4⟩
end Go.Proofs.Ytplegginhmlfjaa
