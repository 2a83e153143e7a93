/-
  Several texts of this claim in one: AppOfU, FreeOnI, UpM1 (pack.py put them together); each says in its own remark what is proved.
-/
import Derived.Test.YtcplnodfcchdhaaGreatPackAE
import Derived.Test.YtcplnodfcchdhaaGreatPackZ
import Derived.Test.YtcplnodfcchdhaaGreatPackAB
import Derived.Test.YtcplnodfcchdhaaGreatPackT
import Derived.Test.YtcplnodfcchdhaaGreatPackX
import Derived.Test.YtcplnodfcchdhaaGreatPackU
import Derived.Test.YtcplnodfcchdhaaGreatPackY
import Derived.Deep.RegionHeld3
import Derived.Deep.CutRange
import Derived.Test.YtcplnodfcchdhaaGreatPackP
/-
  The application of a number, by the model, of a state whose lists may be nil: AppOf; a walk over the dump.
-/
namespace Go.Proofs.YtcplnodfcchdhaaGreat
open Go.RowKit Go.Maps
set_option linter.unusedVariables false

theorem blk_grownU {w w' : World} {g : Nat} {arr : Array Value} {t : TypeId} {r : Option Nat} (h : Blk w g arr t) (hg : w.grownBy w' r) (hn : some g ≠ r) : Blk w' g arr t := (hg.block g h.lt hn).trans h

set_option maxRecDepth 100000 in
set_option maxHeartbeats 4000000 in
theorem specAppOf_dr (x : Sls) (s : St) (hs0 : List AV) (id : Int) (w : World) (h : SRow w x s) (hav : AVRow w x.aa x.al hs0) (hhd : Heads w hs0 s.apps) (hss : SSome x hs0) (hf : FitSt s) :
    Calls Tryz.prog 12 #[sv x s, .int .i64 id] w fun e w' => ∃ v, e = .returned (.tuple #[.agg #[.int .i64 (appOfV s id).1.id, .string (bs (appOfV s id).1.queue), v], .bool (appOfV s id).2]) ∧ Hid (AOwn w.heap.size w' v (appOfV s id).1.asks ∧ Below w.heap.size w w') := by
  obtain ⟨i0, hi, hz0, hz1, hz2⟩ := info_parts Tryz.infoA
  have hal : x.al ≤ 1048576 := by have h1 : x.al = s.apps.length := h.len.2.1; have := hf.2.1.1; omega
  have CA := hide (fun wx (hb : Below w.heap.size w wx) => l04App_any x s id wx (h.2.1.below hb) hal)
  have HFP := hide (apAt_find id s.apps)
  have HR := hide hav
  have HL := hide h.len.2.1
  have HA := hide hhd
  have HSS := hide hss.k
  have HFA := hide hf.2.1
  have HAV := hide (show appOfV s id = match findAp id s.apps with | none => (⟨0, [], []⟩, false) | some a => (a, true) from rfl)
  obtain ⟨⟨⟨vi, vq, aas⟩, fo⟩, hap⟩ : ∃ r, appOfV s id = r := ⟨_, rfl⟩
  rw [hap] at HAV ⊢
  clear h hf hav hhd hss hap
  obtain ⟨qs, clock, epoch, next, serial, apps, ms, cs⟩ := s
  obtain ⟨qa, ql, qc, aa, al, ac, ma, ml, mc, ca, cl, cc⟩ := x
  simp only at CA HFP HR HL HA HFA HAV hal ⊢
  have HB0 := hide (appW_below w (svc ⟨qa, ql, qc, aa, al, ac, ma, ml, mc, ca, cl, cc⟩ ⟨qs, clock, epoch, next, serial, apps, ms, cs⟩))
  have V0 := hide (appW_var w (svc ⟨qa, ql, qc, aa, al, ac, ma, ml, mc, ca, cl, cc⟩ ⟨qs, clock, epoch, next, serial, apps, ms, cs⟩))
  have P0 := hide (appW_box w (svc ⟨qa, ql, qc, aa, al, ac, ma, ml, mc, ca, cl, cc⟩ ⟨qs, clock, epoch, next, serial, apps, ms, cs⟩))
  go_enter Tryz.func12, Tryz.ntmps12
  go_wp2_with fail
  refine (unhide CA _ (unhide HB0)).mono ?_
  rintro e w1 ⟨rfl, hb⟩
  have HB1 := hide (below_on (unhide HB0) hb)
  have V1 := hide ((unhide V0).below hb)
  have P1 := hide ((unhide P0).below hb)
  have hs1 : w.heap.size + 1 + 1 ≤ w1.heap.size := by have := hb.size; rw [appW_size] at this; exact this
  clear hb CA HB0 V0 P0
  have t0 := (unhide V1).at 0
  have t1 := (unhide V1).at 1
  have t2 := (unhide V1).at 2
  have tf0 := (unhide V1).f 0
  have tf1 := (unhide V1).f 1
  have tf2 := (unhide V1).f 2
  simp at t0 t1 t2
  rcases unhide HFP with ⟨hf1, hf2⟩ | ⟨j, hj, hf1, hf2⟩
  · rw [hf2]
    rw [hf1] at HAV
    have hz := unhide HAV
    simp only [Prod.mk.injEq, Appl.mk.injEq] at hz
    obtain ⟨⟨rfl, rfl, rfl⟩, rfl⟩ := hz
    clear hf1 hf2 HFP
    go_wp2
    have X1 := (((unhide V1).set 0 (.int .i64 0)).set 1 (.string { data := #[] })).set 2 (.slice none 0 0)
    have x0 := X1.at 0
    have x1 := X1.at 1
    have x2 := X1.at 2
    simp at x0 x1 x2
    refine bodyPost_ret (v := .tuple #[.agg #[.int .i64 0, .string { data := #[] }, .slice none 0 0], .bool false]) (by simp [results, Tryz.results12, go_sem, x0, x1, x2]) rfl ⟨_, rfl, hide ⟨aown_nil _ _, ?_⟩⟩
    exact below_sc (below_sc (below_sc (unhide HB1) _ _ _ (by omega)) _ _ _ (by omega)) _ _ _ (by omega)
  · rw [hf2]
    rw [hf1] at HAV
    have hz := unhide HAV
    simp only [Prod.mk.injEq] at hz
    obtain ⟨hza, rfl⟩ := hz
    have hjl : j < al := by have := unhide HL; omega
    have hjs : j < hs0.length := by have := (unhide HA).1; omega
    obtain ⟨bb, off, rfl, hq⟩ := ((unhide HR).below (unhide HB1)).at hjl
    obtain ⟨c0, c1, c2⟩ := hq hjs
    have haad := unhide HSS _ (List.getElem_mem hjs)
    obtain ⟨e0, e1, e2, -⟩ := (unhide HA).2 j hjs hj
    obtain ⟨⟨vi, vq, va, vl, vc⟩, hv⟩ : ∃ v, hs0[j] = v := ⟨_, rfl⟩
    rw [hv] at c0 c1 c2 e0 e1 e2 haad
    simp only at c0 c1 c2 e0 e1 e2 haad
    have hrow := e2.below (unhide HB1)
    have HAD := hide haad
    have hfa := (unhide HFA).2 _ (List.getElem_mem hj)
    rw [← hza] at e0 e1 hrow hfa
    simp only at e0 e1 hrow
    subst e0 e1
    clear haad hv e2 hjs
    have hlen : vl ≤ 1048576 := by have h1 := hrow.1; have h2 := hfa.2.1; simp only at h2; omega
    have hb1 := below_al (below_al (Below.refl _ w1) (.cells #[.int .i64 vi, .string (bs vq), .slice va vl vc] 41)) (.cells #[] 96)
    have hnew : ∀ ad, va = some ad → ∀ j u, (acells aas)[j]? = some u → ((w1.alloc (.cells #[.int .i64 vi, .string (bs vq), .slice va vl vc] 41)).alloc (.cells #[] 96)).cell? (ad.add j) = some u := fun ad he j u hj => by
      have hr := hrow.below hb1
      rcases hr.2 with e | ⟨b, off, e, _⟩
      · have hl := acells_len aas
        have h2 := (List.getElem?_eq_some_iff.1 hj).1
        have h3 := hr.1
        rw [hl] at h2
        omega
      · subst e
        obtain rfl := Option.some.inj he
        have := acells_row hr j u hj
        rw [Lib.add_plain]
        exact this
    have hll : (acells aas).length = vl * 5 := by rw [acells_len, hrow.1]
    have hone := acells_one aas
    have hown : ((w1.alloc (.cells #[.int .i64 vi, .string (bs vq), .slice va vl vc] 41)).alloc (.cells #[] 96)).ownsRow (w1.heap.size + 1) 96 5 (.slice (some ⟨w1.heap.size + 1, 0, none⟩) 0 0) 0 [] := by
      have := aown_empty (w1.alloc (.cells #[.int .i64 vi, .string (bs vq), .slice va vl vc] 41))
      rwa [al_size] at this
    have HNW := hide hnew
    have HLN := hide hrow.1
    have HA1 := hide ((blk_new w1 #[.int .i64 vi, .string (bs vq), .slice va vl vc] 41).al (.cells #[] 96))
    have HV1 := hide (((unhide V1).al (.cells #[.int .i64 vi, .string (bs vq), .slice va vl vc] 41)).al (.cells #[] 96))
    have HB2 := hide (below_al (below_al (unhide HB1) (.cells #[.int .i64 vi, .string (bs vq), .slice va vl vc] 41)) (.cells #[] 96))
    have p5 := (unhide P1).at 5
    simp at p5
    have j0 : (0 : Int) ≤ j := by omega
    have j1 : (j : Int) < al := by omega
    clear hf1 hf2 HFP hq hrow hb1 hfa hza hnew HSS V1 HB1 t0 t1 t2 tf0 tf1 tf2 HAV P1 hj HR HL HA HFA
    go_wp2_with (at_builtin; refine wpList_append_opt _ rfl _ _ 39 rfl (w1.heap.size + 1) 96 i0 (.agg #[.int .i64 0, .int .i64 0, .int .i64 0, .string ByteArray.empty, .int .i64 0]) 5 48 Tryz.underlying39 hi hz0 hz1 hz2 rfl (by decide) _ _ _ rfl hown va vl vc (acells aas) rfl (unhide HAD) hll (unhide HNW) hone ?c3 ?c4 ?c5 ?_)
    case c3 => unfold maxLen; omega
    case c4 => omega
    case c5 => simp
    intro v' w3 hown' hgrow _
    have ho : AOwn (w1.heap.size + 1) w3 v' aas := by
      unfold AOwn
      rw [← unhide HLN]
      simpa using hown'
    have HO := hide ho
    have HA2 := hide (blk_grownU (unhide HA1) hgrow (by simp [Value.ownBlock]))
    have HV2 := hide (blk_grownU (unhide HV1) hgrow (by simp [Value.ownBlock]; omega))
    have HB3 := hide (show Below w.heap.size w w3 from (unhide HB2).grown hgrow (by simp; omega) (fun k e => by simp [Value.ownBlock] at e; omega))
    obtain ⟨yo, yc, rfl, _⟩ := ho.row
    obtain ⟨n, hnn⟩ : ∃ n, aas.length = n := ⟨_, rfl⟩
    rw [hnn] at HO ⊢
    clear hown' hgrow hown hone hll ho hnn HLN HNW HA1 HV1 HB2 p5 c0 c1 c2
    have t0 := (unhide HV2).at 0
    have t1 := (unhide HV2).at 1
    have t2 := (unhide HV2).at 2
    have tf0 := (unhide HV2).f 0
    have tf1 := (unhide HV2).f 1
    have tf2 := (unhide HV2).f 2
    have a0 := (unhide HA2).at 0
    have a1 := (unhide HA2).at 1
    have a2 := (unhide HA2).at 2
    have af2 := (unhide HA2).f 2
    simp at t0 t1 t2 a0 a1 a2
    go_wp2
    have X1 := ((((unhide HV2).other w1.heap.size 2 (.slice yo n yc) (by omega)).set 0 (.int .i64 vi)).set 1 (.string (bs vq))).set 2 (.slice yo n yc)
    have x0 := X1.at 0
    have x1 := X1.at 1
    have x2 := X1.at 2
    simp at x0 x1 x2
    refine bodyPost_ret (v := .tuple #[.agg #[.int .i64 vi, .string (bs vq), .slice yo n yc], .bool true]) (by simp [results, Tryz.results12, go_sem, x0, x1, x2]) rfl ⟨_, rfl, hide ⟨?_, ?_⟩⟩
    · exact (((((unhide HO).other3 w1.heap.size 2 (.slice yo n yc) (by omega)).other3 (w.heap.size + 1) 0 (.int .i64 vi) (by omega)).other3 (w.heap.size + 1) 1 (.string (bs vq)) (by omega)).other3 (w.heap.size + 1) 2 (.slice yo n yc) (by omega)).base (by omega)
    · exact below_sc (below_sc (below_sc (below_sc (unhide HB3) _ _ _ (by omega)) _ _ _ (by omega)) _ _ _ (by omega)) _ _ _ (by omega)
end Go.Proofs.YtcplnodfcchdhaaGreat

/-
  What is free on a machine, by the program: FreeOn; a walk over the dump.
-/
namespace Go.Proofs.YtcplnodfcchdhaaGreat
open Go.RowKit Go.Maps
set_option linter.unusedVariables false
set_option maxRecDepth 100000 in
set_option maxHeartbeats 4000000 in
theorem implFreeOn_any (x : Sls) (s : St) (nm : List UInt8) (w : World) (h : SRow w x s) (hf : FitSt s) (hnm : nm.length ≤ 1048576) :
    Calls Tryz.prog 6 #[sv x s, .string (bs nm)] w fun e w' => e = .returned (rv (freeOnV s nm).1 (freeOnV s nm).2) ∧ Below w.heap.size w w' := by
  have hml : x.ml ≤ 1048576 := by have := h.len.2.2.1; have := hf.2.2.1.1; omega
  have hcl : x.cl ≤ 1048576 := by have := h.len.2.2.2; have := hf.2.2.2.1; omega
  have CM := hide (fun wx (hb : Below w.heap.size w wx) => machines_ex x s wx (h.2.2.1.below hb) hml (fun m hm => hf.2.2.1.2 m hm))
  have CU := hide (fun wx (hb : Below w.heap.size w wx) => implUsedOn_any x s nm wx (h.2.2.2.below hb) hcl)
  obtain ⟨kl, hkey⟩ := keyKey (nm := nm) (k := 0) (by omega) (by decide)
  have HKEY := hide hkey
  have HFV := hide (show freeOnV s nm = match findM nm s.ms with | none => (0, 0) | some m => lessV m.mem m.cpu (usedOnV s nm).1 (usedOnV s nm).2 from rfl)
  obtain ⟨⟨ux, uy⟩, hu⟩ : ∃ u, usedOnV s nm = u := ⟨_, rfl⟩
  obtain ⟨⟨fx, fy⟩, hfr⟩ : ∃ u, freeOnV s nm = u := ⟨_, rfl⟩
  rw [hu] at CU HFV
  rw [hfr] at HFV ⊢
  clear h hf hu hfr hkey
  obtain ⟨qa, ql, qc, aa, al, ac, ma, ml, mc, ca, cl, cc⟩ := x
  obtain ⟨qs, clock, epoch, next, serial, apps, ms, cs⟩ := s
  simp only at HFV
  have HB0 := hide (capW_below w (svc ⟨qa, ql, qc, aa, al, ac, ma, ml, mc, ca, cl, cc⟩ ⟨qs, clock, epoch, next, serial, apps, ms, cs⟩))
  have V0 := hide (capW_var w (svc ⟨qa, ql, qc, aa, al, ac, ma, ml, mc, ca, cl, cc⟩ ⟨qs, clock, epoch, next, serial, apps, ms, cs⟩))
  have P0 := hide ((boxW_blk w (svc ⟨qa, ql, qc, aa, al, ac, ma, ml, mc, ca, cl, cc⟩ ⟨qs, clock, epoch, next, serial, apps, ms, cs⟩)).al (.cells #[.int .i64 0, .int .i64 0] 33))
  go_enter Tryz.func6, Tryz.ntmps6
  go_wp2_with fail
  refine (unhide CM _ (unhide HB0)).mono ?_
  rintro e w1 ⟨bm, rfl, ⟨hbm, D, hown, hk⟩, hb⟩
  have hlk := lookM hown hk (unhide HKEY)
  have HB1 := hide (below_on (unhide HB0) hb)
  have V1 := hide ((unhide V0).below hb)
  have P1 := hide ((unhide P0).below hb)

  clear hb HB0 V0 P0 CM hown hk hbm
  cases hfm : findM nm ms with
  | none =>
    rw [hfm] at hlk HFV
    simp only at HFV
    have hz := unhide HFV
    simp only [Prod.mk.injEq] at hz
    obtain ⟨rfl, rfl⟩ := hz
    rw [show (none : Option Mac).getD ⟨[], 0, 0, 0⟩ = ⟨[], 0, 0, 0⟩ from rfl, show (none : Option Mac).isSome = false from rfl] at hlk
    have V2 := (unhide V1).al (macobj ⟨[], 0, 0, 0⟩)
    have t0 := V2.c0
    have t1 := V2.c1
    have f0 := V2.f 0
    have f1 := V2.f 1
    have k4 := V2.s0 (.int .i64 0)
    have k5 := V2.s1 (.int .i64 0) (.int .i64 0)
    clear V2
    go_wp2
    refine bodyPost_ret (v := rv 0 0) (by simp [results, Tryz.results6, go_sem, k4, k5]) rfl ⟨rfl, ?_⟩
    repeat (first | exact unhide HB1 | refine below_al ?_ _ | refine below_sc ?_ _ _ _ (by omega))
  | some m =>
    rw [hfm] at hlk HFV
    rw [show (some m).getD ⟨[], 0, 0, 0⟩ = m from rfl, show (some m).isSome = true from rfl] at hlk
    obtain ⟨mn, me, mp, se⟩ := m
    simp only at HFV
    have HRV := hide (show bothV (-1) me mp ux uy = rv fx fy by rw [less_both, ← unhide HFV])
    have CB := hide (fun wx => by have := implSub_any me mp ux uy wx; rw [unhide HRV] at this; exact this)
    obtain ⟨ok, hok⟩ : ∃ o, bothOk (-1) me mp ux uy = o := ⟨_, rfl⟩
    rw [hok] at CB
    clear hok HRV HFV hfm
    obtain ⟨L, R, VR, h0⟩ : ∃ L : List (Nat × Array Value × TypeId), (∀ wx, Held w (w1.heap.size + 1) L wx → wx.cell? ⟨w1.heap.size, 1, none⟩ = some (.int .i64 me) ∧ wx.cell? ⟨w1.heap.size, 2, none⟩ = some (.int .i64 mp) ∧ wx.cell? ⟨w.heap.size, 0, none⟩ = some (.slice qa ql qc) ∧ wx.cell? ⟨w.heap.size, 1, none⟩ = some (.int .i64 clock) ∧ wx.cell? ⟨w.heap.size, 2, none⟩ = some (.int .i64 epoch) ∧ wx.cell? ⟨w.heap.size, 3, none⟩ = some (.int .i64 next) ∧ wx.cell? ⟨w.heap.size, 4, none⟩ = some (.int .i64 serial) ∧ wx.cell? ⟨w.heap.size, 5, none⟩ = some (.slice aa al ac) ∧ wx.cell? ⟨w.heap.size, 6, none⟩ = some (.slice ma ml mc) ∧ wx.cell? ⟨w.heap.size, 7, none⟩ = some (.slice ca cl cc))
        ∧ (∀ wx, Held w (w1.heap.size + 1) L wx → Var wx 33 (w.heap.size + 1) 0 0) ∧ Held w (w1.heap.size + 1) L (w1.alloc (macobj ⟨mn, me, mp, se⟩)) := by
      have l1 := (unhide V1).lt
      have l2 := (unhide P1).lt
      refine ⟨[(w.heap.size, svc ⟨qa, ql, qc, aa, al, ac, ma, ml, mc, ca, cl, cc⟩ ⟨qs, clock, epoch, next, serial, apps, ms, cs⟩, 29), (w.heap.size + 1, #[.int .i64 0, .int .i64 0], 33), (w1.heap.size, #[.string (bs mn), .int .i64 me, .int .i64 mp, .int .i64 se], 56)], fun wx h => ?_, fun wx h => ?_, ?_⟩
      · have a := h.blk (p := (w.heap.size, svc ⟨qa, ql, qc, aa, al, ac, ma, ml, mc, ca, cl, cc⟩ ⟨qs, clock, epoch, next, serial, apps, ms, cs⟩, 29)) (by simp)
        have b := h.blk (p := (w1.heap.size, #[.string (bs mn), .int .i64 me, .int .i64 mp, .int .i64 se], 56)) (by simp)
        exact ⟨b.at 1, b.at 2, a.at 0, a.at 1, a.at 2, a.at 3, a.at 4, a.at 5, a.at 6, a.at 7⟩
      · exact (h.blk (p := (w.heap.size + 1, #[.int .i64 0, .int .i64 0], 33)) (by simp)).var
      · refine ⟨fun p hp => ?_, by rw [al_size]; omega, by omega, below_al (unhide HB1) _⟩
        simp only [List.mem_cons, List.not_mem_nil, or_false] at hp
        rcases hp with rfl | rfl | rfl
        · exact ⟨by simp only; omega, (unhide P1).al _⟩
        · exact ⟨by simp only; omega, (unhide V1).blk.al _⟩
        · exact ⟨by simp only; omega, blk_new _ _ _⟩
    have A0 := hide h0
    have HS := hide (held_holds w (w1.heap.size + 1) L)
    clear h0
    go_wp2_with fail
    go_cut [7, 8] from 20 to 28 (fun v7 v8 wx => ∃ g, v7 = .pointer (some ⟨g, 0, none⟩) ∧ v8 = .bool ok ∧ Held w (w1.heap.size + 1) L wx ∧ Var wx 33 g fx fy ∧ w1.heap.size + 1 ≤ g)
    case first =>
      go_region_held3 (fun wx => Held w (w1.heap.size + 1) L wx)
        (first | (with_reducible assumption) | exact unhide SA | exact (unhide HS).drew (unhide A0) | exact (unhide HS).al (unhide SA) _ | exact (unhide HS).al (by assumption) _ | exact (unhide HS).al ((unhide HS).drew (unhide A0)) _ | exact (unhide HS).call (by assumption) (by assumption) | exact (unhide HS).set2 (unhide SA) _ _ _ (by first | omega | (simp <;> omega)) | exact (unhide HS).set2 (by assumption) _ _ _ (by first | omega | (simp <;> omega)))
        (first
        | (go_at_call 7; refine (unhide CU _ ?_).mono ?_; (exact (unhide HS).below (by assumption)); rintro e wt ⟨rfl, hb⟩; have SA := hide ((unhide HS).call (by assumption) hb); have sz := (unhide HS).size (unhide SA)
           first
             | (have V5 := (var_new _ 33 0 0).below hb; (try simp at V5); have c50 := V5.c0; have c51 := V5.c1; have f50 := V5.f 0; have f51 := V5.f 1; have V5 := hide V5)
             | (have V5 := (var_new _ 33 0 0).drew.below hb; (try simp at V5); have c50 := V5.c0; have c51 := V5.c1; have f50 := V5.f 0; have f51 := V5.f 1; have V5 := hide V5)
             | skip)
        | (go_at_call 36; refine (unhide CB _).mono ?_; rintro e wt ⟨rfl, hb⟩; have SA := hide ((unhide HS).call (by assumption) hb); have sz := (unhide HS).size (unhide SA)
           first
             | (have V5 := (var_new _ 33 0 0).below hb; (try simp at V5); have c50 := V5.c0; have c51 := V5.c1; have f50 := V5.f 0; have f51 := V5.f 1; have V5 := hide V5)
             | (have V5 := (var_new _ 33 0 0).drew.below hb; (try simp at V5); have c50 := V5.c0; have c51 := V5.c1; have f50 := V5.f 0; have f51 := V5.f 1; have V5 := hide V5)
             | (have V5 := hide ((unhide V5).below hb); have c50 := (unhide V5).c0; have c51 := (unhide V5).c1; have f50 := (unhide V5).f 0; have f51 := (unhide V5).f 1)
             | skip))
      all_goals
        go_wp2_with fail
        go_meet
        exact ⟨_, rfl, rfl, by first | assumption | exact unhide SA | exact (unhide HS).al (unhide SA) _, by first | exact var_new _ _ _ _ | exact (unhide V5).set _ _, by first | omega | (simp <;> omega)⟩
    case rest =>
      obtain ⟨g, rfl, rfl, hA, hV, hg⟩ := hcut
      have HB2 := hide ((unhide HS).below hA)
      have v0 := hV.c0
      have v1 := hV.c1
      have V2 := VR _ hA
      have t0 := V2.c0
      have t1 := V2.c1
      have f0 := V2.f 0
      have f1 := V2.f 1
      have k4 := V2.s0 (.int .i64 fx)
      have k5 := V2.s1 (.int .i64 fx) (.int .i64 fy)
      clear hA hV A0 CB CU R VR V2 V1 P1 HB1
      go_wp2
      refine bodyPost_ret (v := rv fx fy) (by simp [results, Tryz.results6, go_sem, k4, k5]) rfl ⟨rfl, ?_⟩
      repeat (first | exact unhide HB2 | refine below_al ?_ _ | refine below_sc ?_ _ _ _ (by omega))
end Go.Proofs.YtcplnodfcchdhaaGreat

/-
  A queue, its parent, and so on, each looked for ahead of its kid: in plain words, without shares.
-/
namespace Go.Proofs.YtcplnodfcchdhaaGreat
open Go.RowKit
set_option linter.unusedVariables false
def upsFrom : Nat → List Q → List UInt8 → List Q
  | 0, _, _ => []
  | n + 1, l, nm => if h : 0 ≤ place l nm ∧ (place l nm).toNat < l.length then l[(place l nm).toNat] :: upsFrom n (l.take (place l nm).toNat) l[(place l nm).toNat].parent else []
def ups (l : List Q) (nm : List UInt8) : List Q := upsFrom (l.length + 1) l nm
theorem upsFrom_more : ∀ (n m : Nat) (l : List Q) (nm : List UInt8), l.length < n → l.length < m → upsFrom n l nm = upsFrom m l nm
  | 0, _, _, _, h, _ => by omega
  | _ + 1, 0, _, _, _, h => by omega
  | n + 1, m + 1, l, nm, h1, h2 => by
    rw [upsFrom, upsFrom]
    split
    · rename_i h
      rw [upsFrom_more n m _ _ (by simp; omega) (by simp; omega)]
    · rfl
theorem ups_none {l : List Q} {nm : List UInt8} (h : place l nm < 0) : ups l nm = [] := by
  rw [ups, upsFrom, dif_neg (by omega)]
theorem ups_step {l : List Q} {nm : List UInt8} {k : Nat} (hk : k < l.length) (h : place l nm = k) : ups l nm = l[k] :: ups (l.take k) l[k].parent := by
  rw [ups, upsFrom]
  simp only [h, Int.toNat_natCast]
  rw [dif_pos (by simp; omega), ups, upsFrom_more l.length ((l.take k).length + 1) _ _ (by simp; omega) (by simp)]
theorem ups_len : ∀ (n : Nat) (l : List Q) (nm : List UInt8), (upsFrom n l nm).length ≤ l.length
  | 0, l, nm => by simp [upsFrom]
  | n + 1, l, nm => by
    rw [upsFrom]
    split
    · rename_i h
      have := ups_len n (l.take (place l nm).toNat) l[(place l nm).toNat].parent
      simp at this ⊢
      omega
    · simp
theorem placeFrom_take (nm : List UInt8) : ∀ (l : List Q) (k j : Nat), placeFrom nm (l.take j) k = if placeFrom nm l k < ((k + j : Nat) : Int) then placeFrom nm l k else -1
  | [], k, j => by simp [placeFrom]; omega
  | x :: t, k, 0 => by
    rw [List.take_zero, placeFrom]
    rcases placeFrom_range nm (x :: t) k with h | h
    · rw [h, if_pos (by omega)]
    · rw [if_neg (by omega)]
  | x :: t, k, j + 1 => by
    rw [List.take_succ_cons, placeFrom, placeFrom]
    by_cases h : x.name = nm
    · rw [if_pos h, if_pos h, if_pos (by omega)]
    · rw [if_neg h, if_neg h, placeFrom_take nm t (k + 1) j, show k + 1 + j = k + (j + 1) by omega]
theorem place_take (l : List Q) (nm : List UInt8) (j : Nat) : place (l.take j) nm = if place l nm < j then place l nm else -1 := by
  have := placeFrom_take nm l 0 j
  rw [Nat.zero_add] at this
  exact this
/-- in a tree: what is told from the queue at place p on, up to the first one -/
def upAt (l : List Q) : Nat → Int → List Q
  | 0, _ => []
  | n + 1, p => if h : 0 ≤ p ∧ p.toNat < l.length then l[p.toNat] :: upAt l n (place l l[p.toNat].parent) else []
theorem upAt_names (l : List Q) : ∀ (n : Nat) (p : Int), (upAt l n p).map Q.name = pathAt l n p
  | 0, _ => rfl
  | n + 1, p => by
    rw [upAt, pathAt]
    split
    · rw [List.map_cons, upAt_names l n]
    · rfl
theorem upsFrom_upAt {l : List Q} (h : queuesOk l = true) : ∀ (n j : Nat) (nm : List UInt8), place l nm < j → upsFrom n (l.take j) nm = upAt l n (place l nm)
  | 0, _, _, _ => rfl
  | n + 1, j, nm, hj => by
    have hp : place (l.take j) nm = place l nm := by rw [place_take, if_pos hj]
    have hr := place_range l nm
    rw [upsFrom, upAt]
    simp only [hp]
    by_cases h0 : 0 ≤ place l nm
    · rw [dif_pos ⟨h0, by simp; omega⟩, dif_pos ⟨h0, by omega⟩]
      rw [List.getElem_take, List.take_take, show min (place l nm).toNat j = (place l nm).toNat by omega]
      rw [upsFrom_upAt h n _ _ (parent_ahead h (by omega))]
    · rw [dif_neg (by omega), dif_neg (by omega)]
theorem ups_up {l : List Q} (h : queuesOk l = true) (nm : List UInt8) : ups l nm = upAt l (l.length + 1) (place l nm) := by
  have hr := place_range l nm
  have := upsFrom_upAt h (l.length + 1) l.length nm (by omega)
  rwa [List.take_length] at this
theorem ups_path {l : List Q} (h : queuesOk l = true) (nm : List UInt8) : (ups l nm).map Q.name = path l nm := by
  rw [ups_up h, upAt_names, path, h]; rfl
end Go.Proofs.YtcplnodfcchdhaaGreat
