/-
  The application of a number, by the model: AppOf; a walk over the dump.
-/
import Derived.Test.YtgallgdmedfgmaaAppOfB
import Derived.Test.YtgallgdmedfgmaaMarkSt
namespace Go.Proofs.Ytgallgdmedfgmaa
open Go.RowKit Go.Maps
set_option linter.unusedVariables false

theorem blk_grown {w w' : World} {g : Nat} {arr : Array Value} {t : TypeId} {r : Option Nat} (h : Blk w g arr t) (hg : w.grownBy w' r) (hn : some g ≠ r) : Blk w' g arr t := (hg.block g h.lt hn).trans h

set_option maxRecDepth 100000 in
set_option maxHeartbeats 4000000 in
theorem specAppOf_any (B E g1 g2 g3 g4 ql al ml cl : Nat) (s : St) (id : Int) (w : World) (h : SRow w (own4 g1 g2 g3 g4 ql al ml cl) s) (ha : AWh w B E g2 al) (hf : FitSt s) :
    Calls Try.prog 18 #[sv (own4 g1 g2 g3 g4 ql al ml cl) s, .int .i64 id] w fun e w' => ∃ v, e = .returned (.tuple #[.agg #[.int .i64 (appOfV s id).1.id, .string (bs (appOfV s id).1.queue), v], .bool (appOfV s id).2]) ∧ Hid (AOwn w.heap.size w' v (appOfV s id).1.asks ∧ Below w.heap.size w w') := by
  obtain ⟨i0, hi, hz0, hz1, hz2⟩ := info_parts Try.infoA
  have hal : al ≤ 1048576 := by have h1 : al = s.apps.length := h.len.2.1; have := hf.2.1.1; omega
  have CA := hide (fun wx (hb : Below w.heap.size w wx) => l04App_any (own4 g1 g2 g3 g4 ql al ml cl) s id wx (h.2.1.below hb) hal)
  have HFP := hide (apAt_find id s.apps)
  have HR := hide h.2.1
  have HL := hide h.len.2.1
  have HA := hide ha
  have HFA := hide hf.2.1
  have HAV := hide (show appOfV s id = match findAp id s.apps with | none => (⟨0, [], []⟩, false) | some a => (a, true) from rfl)
  obtain ⟨⟨⟨ai, aq, aas⟩, fo⟩, hap⟩ : ∃ r, appOfV s id = r := ⟨_, rfl⟩
  rw [hap] at HAV ⊢
  clear h hf ha hap
  obtain ⟨qs, clock, epoch, next, serial, apps, ms, cs⟩ := s
  simp only at CA HFP HR HL HA HFA HAV ⊢
  have HB0 := hide (appW_below w (svc (own4 g1 g2 g3 g4 ql al ml cl) ⟨qs, clock, epoch, next, serial, apps, ms, cs⟩))
  have V0 := hide (appW_var w (svc (own4 g1 g2 g3 g4 ql al ml cl) ⟨qs, clock, epoch, next, serial, apps, ms, cs⟩))
  have P0 := hide (appW_box w (svc (own4 g1 g2 g3 g4 ql al ml cl) ⟨qs, clock, epoch, next, serial, apps, ms, cs⟩))
  go_enter Try.func18, Try.ntmps18
  go_wp2_with fail
  refine (unhide CA _ (unhide HB0)).mono ?_
  rintro e w1 ⟨rfl, hb⟩
  have HB1 := hide (below_on (unhide HB0) hb)
  have V1 := hide ((unhide V0).below hb)
  have P1 := hide ((unhide P0).below hb)
  have hs1 : w.heap.size + 1 + 1 ≤ w1.heap.size := by have := hb.size; rw [appW_size] at this; exact this
  clear hb CA HB0 V0 P0
  have t0 := (unhide V1).at 0
  have t1 := (unhide V1).at 1
  have t2 := (unhide V1).at 2
  have tf0 := (unhide V1).f 0
  have tf1 := (unhide V1).f 1
  have tf2 := (unhide V1).f 2
  simp at t0 t1 t2
  rcases unhide HFP with ⟨hf1, hf2⟩ | ⟨j, hj, hf1, hf2⟩
  · rw [hf2]
    rw [hf1] at HAV
    have hz := unhide HAV
    simp only [Prod.mk.injEq, Appl.mk.injEq] at hz
    obtain ⟨⟨rfl, rfl, rfl⟩, rfl⟩ := hz
    clear hf1 hf2 HFP
    go_wp2
    have X1 := (((unhide V1).set 0 (.int .i64 0)).set 1 (.string { data := #[] })).set 2 (.slice none 0 0)
    have x0 := X1.at 0
    have x1 := X1.at 1
    have x2 := X1.at 2
    simp at x0 x1 x2
    refine bodyPost_ret (v := .tuple #[.agg #[.int .i64 0, .string { data := #[] }, .slice none 0 0], .bool false]) (by simp [results, Try.results18, go_sem, x0, x1, x2]) rfl ⟨_, rfl, hide ⟨aown_nil _ _, ?_⟩⟩
    exact below_sc (below_sc (below_sc (unhide HB1) _ _ _ (by omega)) _ _ _ (by omega)) _ _ _ (by omega)
  · rw [hf2]
    rw [hf1] at HAV
    have hz := unhide HAV
    simp only [Prod.mk.injEq] at hz
    obtain ⟨hza, rfl⟩ := hz
    have hjl : j < al := by have := unhide HL; omega
    obtain ⟨bb, off, e, hq⟩ := ((unhide HR).below (unhide HB1)).at hjl
    simp only [Option.some.injEq, Addr.mk.injEq, and_true] at e
    obtain ⟨rfl, rfl⟩ := e
    obtain ⟨xo, yl, xl, c0, c1, c2, hrow, _⟩ := hq hj
    obtain ⟨b, zl, d2, _⟩ := ((unhide HA).below (unhide HB1)).2 j hjl
    simp only [Nat.zero_add] at c0 c1 c2
    rw [c2] at d2
    simp only [Option.some.injEq, Value.slice.injEq] at d2
    obtain ⟨rfl, rfl, rfl⟩ := d2
    have hfa := (unhide HFA).2 _ (List.getElem_mem hj)
    rw [← hza] at c0 c1 hrow hfa
    simp only at c0 c1 hrow
    have hlen : xl ≤ 1048576 := by have h1 := hrow.1; have h2 := hfa.2.1; simp only at h2; omega
    have hnew : ∀ i u, (acells aas)[i]? = some u → ((w1.alloc (.cells #[.int .i64 ai, .string (bs aq), .slice (some ⟨b, 0, none⟩) xl xl] 53)).alloc (.cells #[] 30)).cell? ((⟨b, 0, none⟩ : Addr).add i) = some u := fun i u hi => by
      have := acells_row (hrow.below (below_al (below_al (Below.refl _ w1) (.cells #[.int .i64 ai, .string (bs aq), .slice (some ⟨b, 0, none⟩) xl xl] 53)) (.cells #[] 30))) i u hi
      rw [Lib.add_plain]
      exact this
    have hll : (acells aas).length = xl * 5 := by rw [acells_len, hrow.1]
    have hone := acells_one aas
    have hown : ((w1.alloc (.cells #[.int .i64 ai, .string (bs aq), .slice (some ⟨b, 0, none⟩) xl xl] 53)).alloc (.cells #[] 30)).ownsRow (w1.heap.size + 1) 30 5 (.slice (some ⟨w1.heap.size + 1, 0, none⟩) 0 0) 0 [] := by
      have := aown_empty (w1.alloc (.cells #[.int .i64 ai, .string (bs aq), .slice (some ⟨b, 0, none⟩) xl xl] 53))
      rwa [al_size] at this
    have HNW := hide hnew
    have HLN := hide hrow.1
    have HA1 := hide ((blk_new w1 #[.int .i64 ai, .string (bs aq), .slice (some ⟨b, 0, none⟩) xl xl] 53).al (.cells #[] 30))
    have HV1 := hide (((unhide V1).al (.cells #[.int .i64 ai, .string (bs aq), .slice (some ⟨b, 0, none⟩) xl xl] 53)).al (.cells #[] 30))
    have HB2 := hide (below_al (below_al (unhide HB1) (.cells #[.int .i64 ai, .string (bs aq), .slice (some ⟨b, 0, none⟩) xl xl] 53)) (.cells #[] 30))
    have p5 := (unhide P1).at 5
    simp at p5
    have j0 : (0 : Int) ≤ j := by omega
    have j1 : (j : Int) < al := by omega
    clear hf1 hf2 HFP hq hrow hfa hza hnew V1 HB1 t0 t1 t2 tf0 tf1 tf2 HAV P1 hj HR HL HA HFA
    go_wp2_with (at_builtin; refine wpList_append_own _ rfl _ _ 51 rfl (w1.heap.size + 1) 30 i0 (.agg #[.int .i64 0, .int .i64 0, .int .i64 0, .string ByteArray.empty, .int .i64 0]) 5 48 Try.underlying51 hi hz0 hz1 hz2 rfl (by decide) _ _ _ rfl hown ⟨b, 0, none⟩ xl xl (acells aas) rfl hll (unhide HNW) hone ?c3 ?c4 ?c5 ?_)
    case c3 => unfold maxLen; omega
    case c4 => omega
    case c5 => simp
    intro v' w3 hown' hgrow _
    have ho : AOwn (w1.heap.size + 1) w3 v' aas := by
      unfold AOwn
      rw [← unhide HLN]
      simpa using hown'
    have HO := hide ho
    have HA2 := hide (blk_grown (unhide HA1) hgrow (by simp [Value.ownBlock]))
    have HV2 := hide (blk_grown (unhide HV1) hgrow (by simp [Value.ownBlock]; omega))
    have HB3 := hide (show Below w.heap.size w w3 from (unhide HB2).grown hgrow (by simp; omega) (fun k e => by simp [Value.ownBlock] at e; omega))
    obtain ⟨yo, yc, rfl, _⟩ := ho.row
    obtain ⟨n, hnn⟩ : ∃ n, aas.length = n := ⟨_, rfl⟩
    rw [hnn] at HO ⊢
    clear hown' hgrow hown hone hll ho hnn HLN HNW HA1 HV1 HB2 p5 c0 c1 c2
    have t0 := (unhide HV2).at 0
    have t1 := (unhide HV2).at 1
    have t2 := (unhide HV2).at 2
    have tf0 := (unhide HV2).f 0
    have tf1 := (unhide HV2).f 1
    have tf2 := (unhide HV2).f 2
    have a0 := (unhide HA2).at 0
    have a1 := (unhide HA2).at 1
    have a2 := (unhide HA2).at 2
    have af2 := (unhide HA2).f 2
    simp at t0 t1 t2 a0 a1 a2
    go_wp2
    have X1 := ((((unhide HV2).other w1.heap.size 2 (.slice yo n yc) (by omega)).set 0 (.int .i64 ai)).set 1 (.string (bs aq))).set 2 (.slice yo n yc)
    have x0 := X1.at 0
    have x1 := X1.at 1
    have x2 := X1.at 2
    simp at x0 x1 x2
    refine bodyPost_ret (v := .tuple #[.agg #[.int .i64 ai, .string (bs aq), .slice yo n yc], .bool true]) (by simp [results, Try.results18, go_sem, x0, x1, x2]) rfl ⟨_, rfl, hide ⟨?_, ?_⟩⟩
    · exact (((((unhide HO).other3 w1.heap.size 2 (.slice yo n yc) (by omega)).other3 (w.heap.size + 1) 0 (.int .i64 ai) (by omega)).other3 (w.heap.size + 1) 1 (.string (bs aq)) (by omega)).other3 (w.heap.size + 1) 2 (.slice yo n yc) (by omega)).base (by omega)
    · exact below_sc (below_sc (below_sc (below_sc (unhide HB3) _ _ _ (by omega)) _ _ _ (by omega)) _ _ _ (by omega)) _ _ _ (by omega)
end Go.Proofs.Ytgallgdmedfgmaa
