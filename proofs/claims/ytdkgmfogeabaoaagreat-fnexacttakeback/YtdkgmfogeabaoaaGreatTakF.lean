/-
  What the program's TakeBack answers: the state that is left, in memory of its own, and what is gone; walks over the dump.
-/
import Derived.Test.YtdkgmfogeabaoaaGreatTakS
namespace Go.Proofs.YtdkgmfogeabaoaaGreat
open Go.RowKit
set_option linter.unusedVariables false

set_option maxRecDepth 100000 in
set_option maxHeartbeats 1000000 in
theorem takeBack_clo (k : Nat) (io : Option Addr) (il ic : Nat) (ids : List Int) (q : Con) (w : World) (h : w.cell? ⟨k, 0, none⟩ = some (.slice io il ic)) (hi : IRow w io il ids) (hil : il ≤ 1048576) :
    Calls Tryz.prog 37 #[conv q, .pointer (some ⟨k, 0, none⟩)] w fun e w' => e = .returned (.bool (hasI q.id ids)) ∧ Below w.heap.size w w' := by
  obtain ⟨id, ap, nd, me, cp⟩ := q
  have hks := cell_lt h
  have hb := below_al (Below.refl _ w) (.cells #[.int .i64 id, .int .i64 ap, .string (bs nd), .int .i64 me, .int .i64 cp] 61)
  have HB := hide hb
  have CC := hide (containsInt_any io il ic ids id _ (hi.below hb) hil)
  clear hb hi
  go_enter Tryz.func37, Tryz.ntmps37
  go_wp2_with fail
  refine (unhide CC).mono ?_
  rintro e w1 ⟨rfl, rfl⟩
  clear CC
  go_wp2
  go_ret
  exact ⟨rfl, unhide HB⟩

set_option maxRecDepth 100000 in
set_option maxHeartbeats 8000000 in
theorem implTakeBack_any (x : Sls) (s : St) (io : Option Addr) (il ic : Nat) (ids : List Int) (w : World) (h : SRow w x s) (hf : FitSt s) (hc : x.ql ≤ x.qc) (hw : WfSt s) (hi : IRow w io il ids) (hil : il ≤ 1048576) :
    Calls Tryz.prog 10 #[sv x s, .slice io il ic] w (StAns w (takeV s ids).1 (takeV s ids).2) := by
  have hlc : s.cs.length ≤ 1048576 := hf.2.2.2.1
  obtain ⟨o, ho⟩ : ∃ o, stateOkV s = o := ⟨_, rfl⟩
  have HO := hide ho
  have HV := hide (takeV_eq s ids)
  have hb0 := below_al (below_al (below_al (Below.refl _ w) (.cells (svc x s) 35)) (.cells #[.slice io il ic] 28)) (.cells #[.slice none 0 0, .int .i64 0, .int .i64 0, .int .i64 0, .int .i64 0, .slice none 0 0, .slice none 0 0, .slice none 0 0] 35)
  have HB0 := hide hb0
  have P0 := hide (((blk_new w (svc x s) 35).al (.cells #[.slice io il ic] 28)).al (.cells #[.slice none 0 0, .int .i64 0, .int .i64 0, .int .i64 0, .int .i64 0, .slice none 0 0, .slice none 0 0, .slice none 0 0] 35))
  have PI := hide (show Blk _ (w.heap.size + 1) #[.slice io il ic] 28 by have := (blk_new (w.alloc (.cells (svc x s) 35)) #[.slice io il ic] 28).al (.cells #[.slice none 0 0, .int .i64 0, .int .i64 0, .int .i64 0, .int .i64 0, .slice none 0 0, .slice none 0 0, .slice none 0 0] 35); rwa [al_size] at this)
  have P1 := hide (show Blk _ (w.heap.size + 2) #[.slice none 0 0, .int .i64 0, .int .i64 0, .int .i64 0, .int .i64 0, .slice none 0 0, .slice none 0 0, .slice none 0 0] 35 by have := blk_new ((w.alloc (.cells (svc x s) 35)).alloc (.cells #[.slice io il ic] 28)) #[.slice none 0 0, .int .i64 0, .int .i64 0, .int .i64 0, .int .i64 0, .slice none 0 0, .slice none 0 0, .slice none 0 0] 35; rwa [al_size, al_size] at this)
  have CC := hide (copyOfState_any x s _ (h.below hb0) hf)
  have CO := hide (fun wx (hb : Below w.heap.size w wx) => by have := implStateOk_any x s wx (h.below hb) hf hc hw; rw [ho] at this; exact this)
  have HI := hide hi
  obtain ⟨qa, ql, qc, aa, al, ac, ma, ml, mc, ca, cl, cc⟩ := x
  obtain ⟨qs, clock, epoch, next, serial, apps, ms, cs⟩ := s
  simp only at *
  clear h hb0 hf hc hw ho hi
  go_enter Tryz.func10, Tryz.ntmps10
  go_wp2_with fail
  refine (unhide CC).mono ?_
  rintro e w2 ⟨y, hs, rfl, ha, hb⟩
  obtain ⟨yqa, yql, yqc, yaa, yal, yac, yma, yml, ymc, yca, ycl, ycc⟩ := y
  rw [al_size, al_size, al_size] at ha
  have H2 := hide (ha.has (Nat.le_refl _))
  have B2 := hide (below_on (unhide HB0) hb)
  have b3 := below_al (Below.refl _ w2) (.cells #[.slice yqa yql yqc, .int .i64 clock, .int .i64 epoch, .int .i64 next, .int .i64 serial, .slice yaa yal yac, .slice yma yml ymc, .slice yca ycl ycc] 35)
  have P3 := hide (((unhide P0).below hb).al (.cells #[.slice yqa yql yqc, .int .i64 clock, .int .i64 epoch, .int .i64 next, .int .i64 serial, .slice yaa yal yac, .slice yma yml ymc, .slice yca ycl ycc] 35))
  have I3 := hide (((unhide PI).below hb).al (.cells #[.slice yqa yql yqc, .int .i64 clock, .int .i64 epoch, .int .i64 next, .int .i64 serial, .slice yaa yal yac, .slice yma yml ymc, .slice yca ycl ycc] 35))
  have R3 := hide (((unhide P1).below hb).al (.cells #[.slice yqa yql yqc, .int .i64 clock, .int .i64 epoch, .int .i64 next, .int .i64 serial, .slice yaa yal yac, .slice yma yml ymc, .slice yca ycl ycc] 35))
  have O3 := hide (blk_new w2 #[.slice yqa yql yqc, .int .i64 clock, .int .i64 epoch, .int .i64 next, .int .i64 serial, .slice yaa yal yac, .slice yma yml ymc, .slice yca ycl ycc] 35)
  have H3 := hide ((unhide H2).below b3)
  have B3 := hide (below_on (unhide B2) b3)
  have hz2 : w.heap.size + 3 ≤ w2.heap.size := by have := hb.size; rw [al_size, al_size, al_size] at this; omega
  obtain ⟨b, hbb⟩ : ∃ b, w2.heap.size = b := ⟨_, rfl⟩
  have HBB := hide hbb
  have a0 := (unhide P3).at 0; have a1 := (unhide P3).at 1; have a2 := (unhide P3).at 2; have a3 := (unhide P3).at 3; have a4 := (unhide P3).at 4; have a5 := (unhide P3).at 5; have a6 := (unhide P3).at 6; have a7 := (unhide P3).at 7
  simp at a0 a1 a2 a3 a4 a5 a6 a7
  clear ha hb HB0 P0 P1 PI CC H2 B2 b3 hbb
  go_wp2_with fail
  refine (unhide CO _ (unhide B3)).mono ?_
  rintro e w4 ⟨rfl, hb⟩
  have B4 := hide (below_on (unhide B3) hb)
  have H4 := hide ((unhide H3).below hb)
  have R4 := hide ((unhide R3).below hb)
  have I4 := hide ((unhide I3).below hb)
  have O4 := hide (show Blk w4 b _ 35 by have := (unhide O3).below hb; rw [unhide HBB] at this; exact this)
  have hz4 : b < w4.heap.size := (unhide O4).lt
  have hb2 : w.heap.size + 3 ≤ b := by have := unhide HBB; omega
  rw [unhide HBB]
  clear hb B3 H3 R3 O3 P3 I3 a0 a1 a2 a3 a4 a5 a6 a7 CO
  cases o
  case false =>
    have c0 := (unhide R4).at 0; have c1 := (unhide R4).at 1; have c2 := (unhide R4).at 2; have c3 := (unhide R4).at 3; have c4 := (unhide R4).at 4; have c5 := (unhide R4).at 5; have c6 := (unhide R4).at 6; have c7 := (unhide R4).at 7
    have f0 := (unhide R4).f 0; have f1 := (unhide R4).f 1; have f2 := (unhide R4).f 2; have f3 := (unhide R4).f 3; have f4 := (unhide R4).f 4; have f5 := (unhide R4).f 5; have f6 := (unhide R4).f 6; have f7 := (unhide R4).f 7
    have a0 := (unhide O4).at 0; have a1 := (unhide O4).at 1; have a2 := (unhide O4).at 2; have a3 := (unhide O4).at 3; have a4 := (unhide O4).at 4; have a5 := (unhide O4).at 5; have a6 := (unhide O4).at 6; have a7 := (unhide O4).at 7
    simp at a0 a1 a2 a3 a4 a5 a6 a7 c0 c1 c2 c3 c4 c5 c6 c7
    go_wp2
    have R9 := hide (show Blk ((((((((w4.setCell ⟨w.heap.size + 2, 0, none⟩ (.slice yqa yql yqc)).setCell ⟨w.heap.size + 2, 1, none⟩ (.int .i64 clock)).setCell ⟨w.heap.size + 2, 2, none⟩ (.int .i64 epoch)).setCell ⟨w.heap.size + 2, 3, none⟩ (.int .i64 next)).setCell ⟨w.heap.size + 2, 4, none⟩ (.int .i64 serial)).setCell ⟨w.heap.size + 2, 5, none⟩ (.slice yaa yal yac)).setCell ⟨w.heap.size + 2, 6, none⟩ (.slice yma yml ymc)).setCell ⟨w.heap.size + 2, 7, none⟩ (.slice yca ycl ycc)) (w.heap.size + 2) #[.slice yqa yql yqc, .int .i64 clock, .int .i64 epoch, .int .i64 next, .int .i64 serial, .slice yaa yal yac, .slice yma yml ymc, .slice yca ycl ycc] 35 from (((((((((unhide R4).set 0 (.slice yqa yql yqc)).set 1 (.int .i64 clock)).set 2 (.int .i64 epoch)).set 3 (.int .i64 next)).set 4 (.int .i64 serial)).set 5 (.slice yaa yal yac)).set 6 (.slice yma yml ymc)).set 7 (.slice yca ycl ycc)))
    have H9 := hide (((((((((unhide H4).sc (k := w.heap.size + 2) (j := 0) (v := .slice yqa yql yqc) (by omega)).sc (k := w.heap.size + 2) (j := 1) (v := .int .i64 clock) (by omega)).sc (k := w.heap.size + 2) (j := 2) (v := .int .i64 epoch) (by omega)).sc (k := w.heap.size + 2) (j := 3) (v := .int .i64 next) (by omega)).sc (k := w.heap.size + 2) (j := 4) (v := .int .i64 serial) (by omega)).sc (k := w.heap.size + 2) (j := 5) (v := .slice yaa yal yac) (by omega)).sc (k := w.heap.size + 2) (j := 6) (v := .slice yma yml ymc) (by omega)).sc (k := w.heap.size + 2) (j := 7) (v := .slice yca ycl ycc) (by omega))
    have B9 := hide (below_sc (below_sc (below_sc (below_sc (below_sc (below_sc (below_sc (below_sc (unhide B4) (w.heap.size + 2) 0 (.slice yqa yql yqc) (by omega)) (w.heap.size + 2) 1 (.int .i64 clock) (by omega)) (w.heap.size + 2) 2 (.int .i64 epoch) (by omega)) (w.heap.size + 2) 3 (.int .i64 next) (by omega)) (w.heap.size + 2) 4 (.int .i64 serial) (by omega)) (w.heap.size + 2) 5 (.slice yaa yal yac) (by omega)) (w.heap.size + 2) 6 (.slice yma yml ymc) (by omega)) (w.heap.size + 2) 7 (.slice yca ycl ycc) (by omega))
    generalize ((((((((w4.setCell ⟨w.heap.size + 2, 0, none⟩ (.slice yqa yql yqc)).setCell ⟨w.heap.size + 2, 1, none⟩ (.int .i64 clock)).setCell ⟨w.heap.size + 2, 2, none⟩ (.int .i64 epoch)).setCell ⟨w.heap.size + 2, 3, none⟩ (.int .i64 next)).setCell ⟨w.heap.size + 2, 4, none⟩ (.int .i64 serial)).setCell ⟨w.heap.size + 2, 5, none⟩ (.slice yaa yal yac)).setCell ⟨w.heap.size + 2, 6, none⟩ (.slice yma yml ymc)).setCell ⟨w.heap.size + 2, 7, none⟩ (.slice yca ycl ycc)) = W9 at R9 H9 B9 ⊢
    have z0 := (unhide R9).at 0; have z1 := (unhide R9).at 1; have z2 := (unhide R9).at 2; have z3 := (unhide R9).at 3; have z4 := (unhide R9).at 4; have z5 := (unhide R9).at 5; have z6 := (unhide R9).at 6; have z7 := (unhide R9).at 7
    simp at z0 z1 z2 z3 z4 z5 z6 z7
    refine bodyPost_ret (v := .tuple #[.agg #[.slice yqa yql yqc, .int .i64 clock, .int .i64 epoch, .int .i64 next, .int .i64 serial, .slice yaa yal yac, .slice yma yml ymc, .slice yca ycl ycc], .slice none 0 0]) (by simp [results, Tryz.results10, go_sem, z0, z1, z2, z3, z4, z5, z6, z7]) rfl ?_
    rw [(unhide HV).2 (unhide HO)]
    exact ⟨⟨yqa, yql, yqc, yaa, yal, yac, yma, yml, ymc, yca, ycl, ycc⟩, hs, none, 0, 0, rfl, (unhide H9).ans.mono (by omega) (Nat.le_refl _), ⟨⟨rfl, .inl rfl⟩, .inl rfl⟩, fun k hk => absurd rfl hk.1, unhide B9⟩
  have hcl : ycl ≤ 1048576 := by have := (unhide H4).c.1.1; simp only at this; omega
  have CD := hide (takeConts_st 37 #[.pointer (some ⟨w.heap.size + 1, 0, none⟩)] (enters_of Tryz.func37 (by kernel_rfl) rfl) (fun q => hasI q.id ids) b ⟨yqa, yql, yqc, yaa, yal, yac, yma, yml, ymc, yca, ycl, ycc⟩ ⟨qs, clock, epoch, next, serial, apps, ms, cs⟩ hs w4 (unhide O4) (unhide H4) (by omega) hcl (fun wx q hq hbx => takeBack_clo (w.heap.size + 1) io il ic ids q wx (((unhide I4).below hbx).at 0) ((unhide HI).below (below_on (unhide B4) hbx)) hil))
  simp only at CD
  clear hcl
  go_wp2_with fail
  refine (unhide CD).mono ?_
  rintro e w5 ⟨z, go, gn, gc, rfl, hk, hh, hg, hap, hm⟩
  obtain ⟨zqa, zql, zqc, zaa, zal, zac, zma, zml, zmc, zca, zcl, zcc⟩ := z
  have K5 := hide hk
  have H5 := hide hh
  have G5 := hide (hg.base (B' := w.heap.size + 3) (by omega))
  have AP := hide hap
  have R5 := hide (hm.blk1 (unhide R4) (by omega))
  have B5 := hide (show Below w.heap.size w w5 from (unhide B4).trans (hm.below (fun k (hk : k = b) => by omega) (by omega)))
  clear hk hh hg hap hm CD
  have c0 := (unhide R5).at 0; have c1 := (unhide R5).at 1; have c2 := (unhide R5).at 2; have c3 := (unhide R5).at 3; have c4 := (unhide R5).at 4; have c5 := (unhide R5).at 5; have c6 := (unhide R5).at 6; have c7 := (unhide R5).at 7
  have f0 := (unhide R5).f 0; have f1 := (unhide R5).f 1; have f2 := (unhide R5).f 2; have f3 := (unhide R5).f 3; have f4 := (unhide R5).f 4; have f5 := (unhide R5).f 5; have f6 := (unhide R5).f 6; have f7 := (unhide R5).f 7
  have a0 := (unhide K5).at 0; have a1 := (unhide K5).at 1; have a2 := (unhide K5).at 2; have a3 := (unhide K5).at 3; have a4 := (unhide K5).at 4; have a5 := (unhide K5).at 5; have a6 := (unhide K5).at 6; have a7 := (unhide K5).at 7
  simp at a0 a1 a2 a3 a4 a5 a6 a7 c0 c1 c2 c3 c4 c5 c6 c7
  go_wp2
  have R9 := hide (show Blk ((((((((w5.setCell ⟨w.heap.size + 2, 0, none⟩ (.slice zqa zql zqc)).setCell ⟨w.heap.size + 2, 1, none⟩ (.int .i64 clock)).setCell ⟨w.heap.size + 2, 2, none⟩ (.int .i64 epoch)).setCell ⟨w.heap.size + 2, 3, none⟩ (.int .i64 next)).setCell ⟨w.heap.size + 2, 4, none⟩ (.int .i64 serial)).setCell ⟨w.heap.size + 2, 5, none⟩ (.slice zaa zal zac)).setCell ⟨w.heap.size + 2, 6, none⟩ (.slice zma zml zmc)).setCell ⟨w.heap.size + 2, 7, none⟩ (.slice zca zcl zcc)) (w.heap.size + 2) #[.slice zqa zql zqc, .int .i64 clock, .int .i64 epoch, .int .i64 next, .int .i64 serial, .slice zaa zal zac, .slice zma zml zmc, .slice zca zcl zcc] 35 from (((((((((unhide R5).set 0 (.slice zqa zql zqc)).set 1 (.int .i64 clock)).set 2 (.int .i64 epoch)).set 3 (.int .i64 next)).set 4 (.int .i64 serial)).set 5 (.slice zaa zal zac)).set 6 (.slice zma zml zmc)).set 7 (.slice zca zcl zcc)))
  have H9 := hide (((((((((unhide H5).sc (k := w.heap.size + 2) (j := 0) (v := .slice zqa zql zqc) (by omega)).sc (k := w.heap.size + 2) (j := 1) (v := .int .i64 clock) (by omega)).sc (k := w.heap.size + 2) (j := 2) (v := .int .i64 epoch) (by omega)).sc (k := w.heap.size + 2) (j := 3) (v := .int .i64 next) (by omega)).sc (k := w.heap.size + 2) (j := 4) (v := .int .i64 serial) (by omega)).sc (k := w.heap.size + 2) (j := 5) (v := .slice zaa zal zac) (by omega)).sc (k := w.heap.size + 2) (j := 6) (v := .slice zma zml zmc) (by omega)).sc (k := w.heap.size + 2) (j := 7) (v := .slice zca zcl zcc) (by omega))
  have G9 := hide (((((((((unhide G5).sc (k := w.heap.size + 2) (j := 0) (v := .slice zqa zql zqc) (by omega)).sc (k := w.heap.size + 2) (j := 1) (v := .int .i64 clock) (by omega)).sc (k := w.heap.size + 2) (j := 2) (v := .int .i64 epoch) (by omega)).sc (k := w.heap.size + 2) (j := 3) (v := .int .i64 next) (by omega)).sc (k := w.heap.size + 2) (j := 4) (v := .int .i64 serial) (by omega)).sc (k := w.heap.size + 2) (j := 5) (v := .slice zaa zal zac) (by omega)).sc (k := w.heap.size + 2) (j := 6) (v := .slice zma zml zmc) (by omega)).sc (k := w.heap.size + 2) (j := 7) (v := .slice zca zcl zcc) (by omega))
  have B9 := hide (below_sc (below_sc (below_sc (below_sc (below_sc (below_sc (below_sc (below_sc (unhide B5) (w.heap.size + 2) 0 (.slice zqa zql zqc) (by omega)) (w.heap.size + 2) 1 (.int .i64 clock) (by omega)) (w.heap.size + 2) 2 (.int .i64 epoch) (by omega)) (w.heap.size + 2) 3 (.int .i64 next) (by omega)) (w.heap.size + 2) 4 (.int .i64 serial) (by omega)) (w.heap.size + 2) 5 (.slice zaa zal zac) (by omega)) (w.heap.size + 2) 6 (.slice zma zml zmc) (by omega)) (w.heap.size + 2) 7 (.slice zca zcl zcc) (by omega))
  generalize ((((((((w5.setCell ⟨w.heap.size + 2, 0, none⟩ (.slice zqa zql zqc)).setCell ⟨w.heap.size + 2, 1, none⟩ (.int .i64 clock)).setCell ⟨w.heap.size + 2, 2, none⟩ (.int .i64 epoch)).setCell ⟨w.heap.size + 2, 3, none⟩ (.int .i64 next)).setCell ⟨w.heap.size + 2, 4, none⟩ (.int .i64 serial)).setCell ⟨w.heap.size + 2, 5, none⟩ (.slice zaa zal zac)).setCell ⟨w.heap.size + 2, 6, none⟩ (.slice zma zml zmc)).setCell ⟨w.heap.size + 2, 7, none⟩ (.slice zca zcl zcc)) = W9 at R9 H9 G9 B9 ⊢
  have z0 := (unhide R9).at 0; have z1 := (unhide R9).at 1; have z2 := (unhide R9).at 2; have z3 := (unhide R9).at 3; have z4 := (unhide R9).at 4; have z5 := (unhide R9).at 5; have z6 := (unhide R9).at 6; have z7 := (unhide R9).at 7
  simp at z0 z1 z2 z3 z4 z5 z6 z7
  refine bodyPost_ret (v := .tuple #[.agg #[.slice zqa zql zqc, .int .i64 clock, .int .i64 epoch, .int .i64 next, .int .i64 serial, .slice zaa zal zac, .slice zma zml zmc, .slice zca zcl zcc], .slice go gn gc]) (by simp [results, Tryz.results10, go_sem, z0, z1, z2, z3, z4, z5, z6, z7]) rfl ?_
  rw [(unhide HV).1 (unhide HO)]
  exact ⟨⟨zqa, zql, zqc, zaa, zal, zac, zma, zml, zmc, zca, zcl, zcc⟩, _, go, gn, gc, rfl, (unhide H9).ans.mono (by omega) (Nat.le_refl _), (unhide G9).base (by omega), unhide AP, unhide B9⟩
end Go.Proofs.YtdkgmfogeabaoaaGreat
