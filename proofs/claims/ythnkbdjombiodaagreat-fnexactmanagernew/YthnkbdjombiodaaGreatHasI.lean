/-
  Whether the map of applications has a container's: what the program's ofApp and has answer; walks over the dump.
-/
import Derived.Test.YthnkbdjombiodaaGreatAKey
import Derived.Test.YthnkbdjombiodaaGreatPackD
namespace Go.Proofs.YthnkbdjombiodaaGreat
open Go.RowKit Go.Maps
set_option linter.unusedVariables false

def hasB (hs : List AV) (keep : AV → Bool) (q : Con) : Bool := optB (findA q.app hs) keep
set_option maxHeartbeats 1000000 in
theorem ofApp_any (q : Con) (w : World) :
    Calls Tryz.prog 105 #[conv q] w fun e w' => e = .returned (.agg #[.string (bs []), .int .i64 q.app]) ∧ Below w.heap.size w w' := by
  obtain ⟨id, ap, nd, me, cp⟩ := q
  go_enter Tryz.func105, Tryz.ntmps105
  go_wp2
  refine bodyPost_ret (v := .agg #[.string (bs []), .int .i64 ap]) (by simp [results, Tryz.results105, go_sem]; rfl) rfl ⟨rfl, ?_⟩
  repeat (first | exact Below.refl _ _ | refine below_al ?_ _ | refine Below.drew ?_ | refine below_sc ?_ _ _ _ (by omega))
theorem ownsMap_below {w w' : World} {k : TypeId} {R : Value → Option (DataW Unit × List MemPlace)} {b n : Nat} {D : DataW Unit} (h : w.ownsMap Tryz.prog k R b n D) (hb : Below w.heap.size w w') : w'.ownsMap Tryz.prog k R b n D := h.kept (grownBy_below (grownBy_refl w none) hb) (by simp)

set_option maxRecDepth 100000 in
set_option maxHeartbeats 2000000 in
theorem has_any (bm n : Nat) (D : DataW Unit) (hs : List AV) (keep : AV → Bool) (q : Con) (w : World) (hown : w.ownsMap Tryz.prog 111 appElem bm n D) (hk : KnownA hs (fun _ v => keep v) D) (hwf : (Lit.int .i64 q.app).wf = true) :
    Calls Tryz.prog 83 #[.map (some bm), conv q] w fun e w' => e = .returned (.bool (hasB hs keep q)) ∧ Below w.heap.size w w' := by
  obtain ⟨kl, hkey⟩ := keyKey (nm := []) (k := q.app) (by decide) hwf
  have HL := hide (fun wx (hb : Below w.heap.size w wx) => lookA (ownsMap_below hown hb) hk hkey)
  obtain ⟨o, ho⟩ : ∃ o, hasB hs keep q = o := ⟨_, rfl⟩
  have HO := hide (show optB (findA q.app hs) keep = o from ho)
  rw [ho]
  clear ho hkey hown hk hwf
  have CO := hide (fun wx => ofApp_any q wx)
  obtain ⟨id, ap, nd, me, cp⟩ := q
  simp only at HL HO
  have HB0 := hide (below_al (Below.refl _ w) (.cells #[.int .i64 id, .int .i64 ap, .string (bs nd), .int .i64 me, .int .i64 cp] 73))
  go_enter Tryz.func83, Tryz.ntmps83
  go_wp2_with fail
  refine (unhide CO _).mono ?_
  rintro e w1 ⟨rfl, hb⟩
  have HB1 := hide (below_on (unhide HB0) hb)
  obtain ⟨v, hlk, _, _⟩ := unhide HL _ (unhide HB1)
  rw [show optB (findA ap hs) (fun v => keep v) = o from unhide HO] at hlk
  obtain ⟨v1, v2, v3, v4, v5⟩ := v
  clear hb HB0 HL HO
  go_wp2
  go_ret
  refine ⟨rfl, ?_⟩
  repeat (first | exact unhide HB1 | refine below_al ?_ _ | refine Below.drew ?_ | refine below_sc ?_ _ _ _ (by omega))
end Go.Proofs.YthnkbdjombiodaaGreat
