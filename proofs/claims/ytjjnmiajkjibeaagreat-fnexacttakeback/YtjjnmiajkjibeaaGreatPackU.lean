/-
  Several texts of this claim in one: TakF, IntL, MarkK (pack.py put them together); each says in its own remark what is proved.
-/
import Derived.Test.YtjjnmiajkjibeaaGreatTakS
import Derived.Test.YtjjnmiajkjibeaaGreatPackJ
import Derived.Test.YtjjnmiajkjibeaaGreatPackE
import Derived.Laws.MakeOwn
import Derived.Deep.RegionHeld3
import Derived.ChangeSlices
import Derived.Test.YtjjnmiajkjibeaaGreatPackC
/-
  What the program's TakeBack answers: the state that is left, in memory of its own, and what is gone; walks over the dump.
-/
namespace Go.Proofs.YtjjnmiajkjibeaaGreat
open Go.RowKit
set_option linter.unusedVariables false

set_option maxRecDepth 100000 in
set_option maxHeartbeats 1000000 in
theorem takeBack_clo (k : Nat) (io : Option Addr) (il ic : Nat) (ids : List Int) (q : Con) (w : World) (h : w.cell? ⟨k, 0, none⟩ = some (.slice io il ic)) (hi : IRow w io il ids) (hil : il ≤ 1048576) :
    Calls Tryz.prog 37 #[conv q, .pointer (some ⟨k, 0, none⟩)] w fun e w' => e = .returned (.bool (hasI q.id ids)) ∧ Below w.heap.size w w' := by
  obtain ⟨id, ap, nd, me, cp⟩ := q
  have hks := cell_lt h
  have hb := below_al (Below.refl _ w) (.cells #[.int .i64 id, .int .i64 ap, .string (bs nd), .int .i64 me, .int .i64 cp] 61)
  have HB := hide hb
  have CC := hide (containsInt_any io il ic ids id _ (hi.below hb) hil)
  clear hb hi
  go_enter Tryz.func37, Tryz.ntmps37
  go_wp2_with fail
  refine (unhide CC).mono ?_
  rintro e w1 ⟨rfl, rfl⟩
  clear CC
  go_wp2
  go_ret
  exact ⟨rfl, unhide HB⟩

set_option maxRecDepth 100000 in
set_option maxHeartbeats 8000000 in
theorem implTakeBack_any (x : Sls) (s : St) (io : Option Addr) (il ic : Nat) (ids : List Int) (w : World) (h : SRow w x s) (hf : FitSt s) (hc : x.ql ≤ x.qc) (hw : WfSt s) (hi : IRow w io il ids) (hil : il ≤ 1048576) :
    Calls Tryz.prog 10 #[sv x s, .slice io il ic] w (StAns w (takeV s ids).1 (takeV s ids).2) := by
  have hlc : s.cs.length ≤ 1048576 := hf.2.2.2.1
  obtain ⟨o, ho⟩ : ∃ o, stateOkV s = o := ⟨_, rfl⟩
  have HO := hide ho
  have HV := hide (takeV_eq s ids)
  have hb0 := below_al (below_al (below_al (Below.refl _ w) (.cells (svc x s) 35)) (.cells #[.slice io il ic] 28)) (.cells #[.slice none 0 0, .int .i64 0, .int .i64 0, .int .i64 0, .int .i64 0, .slice none 0 0, .slice none 0 0, .slice none 0 0] 35)
  have HB0 := hide hb0
  have P0 := hide (((blk_new w (svc x s) 35).al (.cells #[.slice io il ic] 28)).al (.cells #[.slice none 0 0, .int .i64 0, .int .i64 0, .int .i64 0, .int .i64 0, .slice none 0 0, .slice none 0 0, .slice none 0 0] 35))
  have PI := hide (show Blk _ (w.heap.size + 1) #[.slice io il ic] 28 by have := (blk_new (w.alloc (.cells (svc x s) 35)) #[.slice io il ic] 28).al (.cells #[.slice none 0 0, .int .i64 0, .int .i64 0, .int .i64 0, .int .i64 0, .slice none 0 0, .slice none 0 0, .slice none 0 0] 35); rwa [al_size] at this)
  have P1 := hide (show Blk _ (w.heap.size + 2) #[.slice none 0 0, .int .i64 0, .int .i64 0, .int .i64 0, .int .i64 0, .slice none 0 0, .slice none 0 0, .slice none 0 0] 35 by have := blk_new ((w.alloc (.cells (svc x s) 35)).alloc (.cells #[.slice io il ic] 28)) #[.slice none 0 0, .int .i64 0, .int .i64 0, .int .i64 0, .int .i64 0, .slice none 0 0, .slice none 0 0, .slice none 0 0] 35; rwa [al_size, al_size] at this)
  have CC := hide (copyOfState_any x s _ (h.below hb0) hf)
  have CO := hide (fun wx (hb : Below w.heap.size w wx) => by have := implStateOk_any x s wx (h.below hb) hf hc hw; rw [ho] at this; exact this)
  have HI := hide hi
  obtain ⟨qa, ql, qc, aa, al, ac, ma, ml, mc, ca, cl, cc⟩ := x
  obtain ⟨qs, clock, epoch, next, serial, apps, ms, cs⟩ := s
  simp only at *
  clear h hb0 hf hc hw ho hi
  go_enter Tryz.func10, Tryz.ntmps10
  go_wp2_with fail
  refine (unhide CC).mono ?_
  rintro e w2 ⟨y, hs, rfl, ha, hb⟩
  obtain ⟨yqa, yql, yqc, yaa, yal, yac, yma, yml, ymc, yca, ycl, ycc⟩ := y
  rw [al_size, al_size, al_size] at ha
  have H2 := hide (ha.has (Nat.le_refl _))
  have B2 := hide (below_on (unhide HB0) hb)
  have b3 := below_al (Below.refl _ w2) (.cells #[.slice yqa yql yqc, .int .i64 clock, .int .i64 epoch, .int .i64 next, .int .i64 serial, .slice yaa yal yac, .slice yma yml ymc, .slice yca ycl ycc] 35)
  have P3 := hide (((unhide P0).below hb).al (.cells #[.slice yqa yql yqc, .int .i64 clock, .int .i64 epoch, .int .i64 next, .int .i64 serial, .slice yaa yal yac, .slice yma yml ymc, .slice yca ycl ycc] 35))
  have I3 := hide (((unhide PI).below hb).al (.cells #[.slice yqa yql yqc, .int .i64 clock, .int .i64 epoch, .int .i64 next, .int .i64 serial, .slice yaa yal yac, .slice yma yml ymc, .slice yca ycl ycc] 35))
  have R3 := hide (((unhide P1).below hb).al (.cells #[.slice yqa yql yqc, .int .i64 clock, .int .i64 epoch, .int .i64 next, .int .i64 serial, .slice yaa yal yac, .slice yma yml ymc, .slice yca ycl ycc] 35))
  have O3 := hide (blk_new w2 #[.slice yqa yql yqc, .int .i64 clock, .int .i64 epoch, .int .i64 next, .int .i64 serial, .slice yaa yal yac, .slice yma yml ymc, .slice yca ycl ycc] 35)
  have H3 := hide ((unhide H2).below b3)
  have B3 := hide (below_on (unhide B2) b3)
  have hz2 : w.heap.size + 3 ≤ w2.heap.size := by have := hb.size; rw [al_size, al_size, al_size] at this; omega
  obtain ⟨b, hbb⟩ : ∃ b, w2.heap.size = b := ⟨_, rfl⟩
  have HBB := hide hbb
  have a0 := (unhide P3).at 0; have a1 := (unhide P3).at 1; have a2 := (unhide P3).at 2; have a3 := (unhide P3).at 3; have a4 := (unhide P3).at 4; have a5 := (unhide P3).at 5; have a6 := (unhide P3).at 6; have a7 := (unhide P3).at 7
  simp at a0 a1 a2 a3 a4 a5 a6 a7
  clear ha hb HB0 P0 P1 PI CC H2 B2 b3 hbb
  go_wp2_with fail
  refine (unhide CO _ (unhide B3)).mono ?_
  rintro e w4 ⟨rfl, hb⟩
  have B4 := hide (below_on (unhide B3) hb)
  have H4 := hide ((unhide H3).below hb)
  have R4 := hide ((unhide R3).below hb)
  have I4 := hide ((unhide I3).below hb)
  have O4 := hide (show Blk w4 b _ 35 by have := (unhide O3).below hb; rw [unhide HBB] at this; exact this)
  have hz4 : b < w4.heap.size := (unhide O4).lt
  have hb2 : w.heap.size + 3 ≤ b := by have := unhide HBB; omega
  rw [unhide HBB]
  clear hb B3 H3 R3 O3 P3 I3 a0 a1 a2 a3 a4 a5 a6 a7 CO
  cases o
  case false =>
    have c0 := (unhide R4).at 0; have c1 := (unhide R4).at 1; have c2 := (unhide R4).at 2; have c3 := (unhide R4).at 3; have c4 := (unhide R4).at 4; have c5 := (unhide R4).at 5; have c6 := (unhide R4).at 6; have c7 := (unhide R4).at 7
    have f0 := (unhide R4).f 0; have f1 := (unhide R4).f 1; have f2 := (unhide R4).f 2; have f3 := (unhide R4).f 3; have f4 := (unhide R4).f 4; have f5 := (unhide R4).f 5; have f6 := (unhide R4).f 6; have f7 := (unhide R4).f 7
    have a0 := (unhide O4).at 0; have a1 := (unhide O4).at 1; have a2 := (unhide O4).at 2; have a3 := (unhide O4).at 3; have a4 := (unhide O4).at 4; have a5 := (unhide O4).at 5; have a6 := (unhide O4).at 6; have a7 := (unhide O4).at 7
    simp at a0 a1 a2 a3 a4 a5 a6 a7 c0 c1 c2 c3 c4 c5 c6 c7
    go_wp2
    have R9 := hide (show Blk ((((((((w4.setCell ⟨w.heap.size + 2, 0, none⟩ (.slice yqa yql yqc)).setCell ⟨w.heap.size + 2, 1, none⟩ (.int .i64 clock)).setCell ⟨w.heap.size + 2, 2, none⟩ (.int .i64 epoch)).setCell ⟨w.heap.size + 2, 3, none⟩ (.int .i64 next)).setCell ⟨w.heap.size + 2, 4, none⟩ (.int .i64 serial)).setCell ⟨w.heap.size + 2, 5, none⟩ (.slice yaa yal yac)).setCell ⟨w.heap.size + 2, 6, none⟩ (.slice yma yml ymc)).setCell ⟨w.heap.size + 2, 7, none⟩ (.slice yca ycl ycc)) (w.heap.size + 2) #[.slice yqa yql yqc, .int .i64 clock, .int .i64 epoch, .int .i64 next, .int .i64 serial, .slice yaa yal yac, .slice yma yml ymc, .slice yca ycl ycc] 35 from (((((((((unhide R4).set 0 (.slice yqa yql yqc)).set 1 (.int .i64 clock)).set 2 (.int .i64 epoch)).set 3 (.int .i64 next)).set 4 (.int .i64 serial)).set 5 (.slice yaa yal yac)).set 6 (.slice yma yml ymc)).set 7 (.slice yca ycl ycc)))
    have H9 := hide (((((((((unhide H4).sc (k := w.heap.size + 2) (j := 0) (v := .slice yqa yql yqc) (by omega)).sc (k := w.heap.size + 2) (j := 1) (v := .int .i64 clock) (by omega)).sc (k := w.heap.size + 2) (j := 2) (v := .int .i64 epoch) (by omega)).sc (k := w.heap.size + 2) (j := 3) (v := .int .i64 next) (by omega)).sc (k := w.heap.size + 2) (j := 4) (v := .int .i64 serial) (by omega)).sc (k := w.heap.size + 2) (j := 5) (v := .slice yaa yal yac) (by omega)).sc (k := w.heap.size + 2) (j := 6) (v := .slice yma yml ymc) (by omega)).sc (k := w.heap.size + 2) (j := 7) (v := .slice yca ycl ycc) (by omega))
    have B9 := hide (below_sc (below_sc (below_sc (below_sc (below_sc (below_sc (below_sc (below_sc (unhide B4) (w.heap.size + 2) 0 (.slice yqa yql yqc) (by omega)) (w.heap.size + 2) 1 (.int .i64 clock) (by omega)) (w.heap.size + 2) 2 (.int .i64 epoch) (by omega)) (w.heap.size + 2) 3 (.int .i64 next) (by omega)) (w.heap.size + 2) 4 (.int .i64 serial) (by omega)) (w.heap.size + 2) 5 (.slice yaa yal yac) (by omega)) (w.heap.size + 2) 6 (.slice yma yml ymc) (by omega)) (w.heap.size + 2) 7 (.slice yca ycl ycc) (by omega))
    generalize ((((((((w4.setCell ⟨w.heap.size + 2, 0, none⟩ (.slice yqa yql yqc)).setCell ⟨w.heap.size + 2, 1, none⟩ (.int .i64 clock)).setCell ⟨w.heap.size + 2, 2, none⟩ (.int .i64 epoch)).setCell ⟨w.heap.size + 2, 3, none⟩ (.int .i64 next)).setCell ⟨w.heap.size + 2, 4, none⟩ (.int .i64 serial)).setCell ⟨w.heap.size + 2, 5, none⟩ (.slice yaa yal yac)).setCell ⟨w.heap.size + 2, 6, none⟩ (.slice yma yml ymc)).setCell ⟨w.heap.size + 2, 7, none⟩ (.slice yca ycl ycc)) = W9 at R9 H9 B9 ⊢
    have z0 := (unhide R9).at 0; have z1 := (unhide R9).at 1; have z2 := (unhide R9).at 2; have z3 := (unhide R9).at 3; have z4 := (unhide R9).at 4; have z5 := (unhide R9).at 5; have z6 := (unhide R9).at 6; have z7 := (unhide R9).at 7
    simp at z0 z1 z2 z3 z4 z5 z6 z7
    refine bodyPost_ret (v := .tuple #[.agg #[.slice yqa yql yqc, .int .i64 clock, .int .i64 epoch, .int .i64 next, .int .i64 serial, .slice yaa yal yac, .slice yma yml ymc, .slice yca ycl ycc], .slice none 0 0]) (by simp [results, Tryz.results10, go_sem, z0, z1, z2, z3, z4, z5, z6, z7]) rfl ?_
    rw [(unhide HV).2 (unhide HO)]
    exact ⟨⟨yqa, yql, yqc, yaa, yal, yac, yma, yml, ymc, yca, ycl, ycc⟩, hs, none, 0, 0, rfl, (unhide H9).ans.mono (by omega) (Nat.le_refl _), ⟨⟨rfl, .inl rfl⟩, .inl rfl⟩, fun k hk => absurd rfl hk.1, unhide B9⟩
  have hcl : ycl ≤ 1048576 := by have := (unhide H4).c.1.1; simp only at this; omega
  have CD := hide (takeConts_st 37 #[.pointer (some ⟨w.heap.size + 1, 0, none⟩)] (enters_of Tryz.func37 (by kernel_rfl) rfl) (fun q => hasI q.id ids) b ⟨yqa, yql, yqc, yaa, yal, yac, yma, yml, ymc, yca, ycl, ycc⟩ ⟨qs, clock, epoch, next, serial, apps, ms, cs⟩ hs w4 (unhide O4) (unhide H4) (by omega) hcl (fun wx q hq hbx => takeBack_clo (w.heap.size + 1) io il ic ids q wx (((unhide I4).below hbx).at 0) ((unhide HI).below (below_on (unhide B4) hbx)) hil))
  simp only at CD
  clear hcl
  go_wp2_with fail
  refine (unhide CD).mono ?_
  rintro e w5 ⟨z, go, gn, gc, rfl, hk, hh, hg, hap, hm⟩
  obtain ⟨zqa, zql, zqc, zaa, zal, zac, zma, zml, zmc, zca, zcl, zcc⟩ := z
  have K5 := hide hk
  have H5 := hide hh
  have G5 := hide (hg.base (B' := w.heap.size + 3) (by omega))
  have AP := hide hap
  have R5 := hide (hm.blk1 (unhide R4) (by omega))
  have B5 := hide (show Below w.heap.size w w5 from (unhide B4).trans (hm.below (fun k (hk : k = b) => by omega) (by omega)))
  clear hk hh hg hap hm CD
  have c0 := (unhide R5).at 0; have c1 := (unhide R5).at 1; have c2 := (unhide R5).at 2; have c3 := (unhide R5).at 3; have c4 := (unhide R5).at 4; have c5 := (unhide R5).at 5; have c6 := (unhide R5).at 6; have c7 := (unhide R5).at 7
  have f0 := (unhide R5).f 0; have f1 := (unhide R5).f 1; have f2 := (unhide R5).f 2; have f3 := (unhide R5).f 3; have f4 := (unhide R5).f 4; have f5 := (unhide R5).f 5; have f6 := (unhide R5).f 6; have f7 := (unhide R5).f 7
  have a0 := (unhide K5).at 0; have a1 := (unhide K5).at 1; have a2 := (unhide K5).at 2; have a3 := (unhide K5).at 3; have a4 := (unhide K5).at 4; have a5 := (unhide K5).at 5; have a6 := (unhide K5).at 6; have a7 := (unhide K5).at 7
  simp at a0 a1 a2 a3 a4 a5 a6 a7 c0 c1 c2 c3 c4 c5 c6 c7
  go_wp2
  have R9 := hide (show Blk ((((((((w5.setCell ⟨w.heap.size + 2, 0, none⟩ (.slice zqa zql zqc)).setCell ⟨w.heap.size + 2, 1, none⟩ (.int .i64 clock)).setCell ⟨w.heap.size + 2, 2, none⟩ (.int .i64 epoch)).setCell ⟨w.heap.size + 2, 3, none⟩ (.int .i64 next)).setCell ⟨w.heap.size + 2, 4, none⟩ (.int .i64 serial)).setCell ⟨w.heap.size + 2, 5, none⟩ (.slice zaa zal zac)).setCell ⟨w.heap.size + 2, 6, none⟩ (.slice zma zml zmc)).setCell ⟨w.heap.size + 2, 7, none⟩ (.slice zca zcl zcc)) (w.heap.size + 2) #[.slice zqa zql zqc, .int .i64 clock, .int .i64 epoch, .int .i64 next, .int .i64 serial, .slice zaa zal zac, .slice zma zml zmc, .slice zca zcl zcc] 35 from (((((((((unhide R5).set 0 (.slice zqa zql zqc)).set 1 (.int .i64 clock)).set 2 (.int .i64 epoch)).set 3 (.int .i64 next)).set 4 (.int .i64 serial)).set 5 (.slice zaa zal zac)).set 6 (.slice zma zml zmc)).set 7 (.slice zca zcl zcc)))
  have H9 := hide (((((((((unhide H5).sc (k := w.heap.size + 2) (j := 0) (v := .slice zqa zql zqc) (by omega)).sc (k := w.heap.size + 2) (j := 1) (v := .int .i64 clock) (by omega)).sc (k := w.heap.size + 2) (j := 2) (v := .int .i64 epoch) (by omega)).sc (k := w.heap.size + 2) (j := 3) (v := .int .i64 next) (by omega)).sc (k := w.heap.size + 2) (j := 4) (v := .int .i64 serial) (by omega)).sc (k := w.heap.size + 2) (j := 5) (v := .slice zaa zal zac) (by omega)).sc (k := w.heap.size + 2) (j := 6) (v := .slice zma zml zmc) (by omega)).sc (k := w.heap.size + 2) (j := 7) (v := .slice zca zcl zcc) (by omega))
  have G9 := hide (((((((((unhide G5).sc (k := w.heap.size + 2) (j := 0) (v := .slice zqa zql zqc) (by omega)).sc (k := w.heap.size + 2) (j := 1) (v := .int .i64 clock) (by omega)).sc (k := w.heap.size + 2) (j := 2) (v := .int .i64 epoch) (by omega)).sc (k := w.heap.size + 2) (j := 3) (v := .int .i64 next) (by omega)).sc (k := w.heap.size + 2) (j := 4) (v := .int .i64 serial) (by omega)).sc (k := w.heap.size + 2) (j := 5) (v := .slice zaa zal zac) (by omega)).sc (k := w.heap.size + 2) (j := 6) (v := .slice zma zml zmc) (by omega)).sc (k := w.heap.size + 2) (j := 7) (v := .slice zca zcl zcc) (by omega))
  have B9 := hide (below_sc (below_sc (below_sc (below_sc (below_sc (below_sc (below_sc (below_sc (unhide B5) (w.heap.size + 2) 0 (.slice zqa zql zqc) (by omega)) (w.heap.size + 2) 1 (.int .i64 clock) (by omega)) (w.heap.size + 2) 2 (.int .i64 epoch) (by omega)) (w.heap.size + 2) 3 (.int .i64 next) (by omega)) (w.heap.size + 2) 4 (.int .i64 serial) (by omega)) (w.heap.size + 2) 5 (.slice zaa zal zac) (by omega)) (w.heap.size + 2) 6 (.slice zma zml zmc) (by omega)) (w.heap.size + 2) 7 (.slice zca zcl zcc) (by omega))
  generalize ((((((((w5.setCell ⟨w.heap.size + 2, 0, none⟩ (.slice zqa zql zqc)).setCell ⟨w.heap.size + 2, 1, none⟩ (.int .i64 clock)).setCell ⟨w.heap.size + 2, 2, none⟩ (.int .i64 epoch)).setCell ⟨w.heap.size + 2, 3, none⟩ (.int .i64 next)).setCell ⟨w.heap.size + 2, 4, none⟩ (.int .i64 serial)).setCell ⟨w.heap.size + 2, 5, none⟩ (.slice zaa zal zac)).setCell ⟨w.heap.size + 2, 6, none⟩ (.slice zma zml zmc)).setCell ⟨w.heap.size + 2, 7, none⟩ (.slice zca zcl zcc)) = W9 at R9 H9 G9 B9 ⊢
  have z0 := (unhide R9).at 0; have z1 := (unhide R9).at 1; have z2 := (unhide R9).at 2; have z3 := (unhide R9).at 3; have z4 := (unhide R9).at 4; have z5 := (unhide R9).at 5; have z6 := (unhide R9).at 6; have z7 := (unhide R9).at 7
  simp at z0 z1 z2 z3 z4 z5 z6 z7
  refine bodyPost_ret (v := .tuple #[.agg #[.slice zqa zql zqc, .int .i64 clock, .int .i64 epoch, .int .i64 next, .int .i64 serial, .slice zaa zal zac, .slice zma zml zmc, .slice zca zcl zcc], .slice go gn gc]) (by simp [results, Tryz.results10, go_sem, z0, z1, z2, z3, z4, z5, z6, z7]) rfl ?_
  rw [(unhide HV).1 (unhide HO)]
  exact ⟨⟨zqa, zql, zqc, zaa, zal, zac, zma, zml, zmc, zca, zcl, zcc⟩, _, go, gn, gc, rfl, (unhide H9).ans.mono (by omega) (Nat.le_refl _), (unhide G9).base (by omega), unhide AP, unhide B9⟩
end Go.Proofs.YtjjnmiajkjibeaaGreat

/-
  The laws' own toIntS, eqIntS and markIntS: rows of whole numbers made anew, compared where they hold the same, marked; a row of whole numbers that a law is handed; walks over the dump.
-/
namespace Go.Proofs.YtjjnmiajkjibeaaGreat
open Go.RowKit Go.ChangeShapes
set_option linter.unusedVariables false

/-- block g is a row of n numbers, of which the first k are those of l -/
def IBlk (w : World) (t : TypeId) (g n k : Nat) (l : List Int) : Prop :=
  ∃ arr : Array Value, w.heap[g]? = some (.cells arr t (0, 0)) ∧ arr.size = n ∧ ∀ i (h : i < l.length), i < k → arr[i]? = some (.int .i64 l[i])
theorem IBlk.lt {w : World} {t : TypeId} {g n k : Nat} {l : List Int} (h : IBlk w t g n k l) : g < w.heap.size := let ⟨_, h, _⟩ := h; lt_of_block h
theorem IBlk.below {w w' : World} {t : TypeId} {g n k : Nat} {l : List Int} (h : IBlk w t g n k l) (hb : Below w.heap.size w w') : IBlk w' t g n k l := by
  have hlt := h.lt
  obtain ⟨arr, h1, h2⟩ := h
  exact ⟨arr, (hb.block g hlt).trans h1, h2⟩
theorem IBlk.cell {w : World} {t : TypeId} {g n k : Nat} {l : List Int} (h : IBlk w t g n k l) {j : Nat} (hj : j < n) : ∃ v, w.cell? ⟨g, j, none⟩ = some v := by
  obtain ⟨arr, h1, h2, _⟩ := h
  exact ⟨arr[j]'(by omega), by simp [World.cell?, h1, Array.getElem?_eq_getElem (show j < arr.size by omega)]⟩
theorem IBlk.frozen {w : World} {t : TypeId} {g n k : Nat} {l : List Int} (h : IBlk w t g n k l) (j : Nat) : w.frozen? ⟨g, j, none⟩ = false := by
  obtain ⟨arr, h1, h2, _⟩ := h
  simp [World.frozen?, h1]
theorem IBlk.row {w : World} {t : TypeId} {g n : Nat} {l : List Int} (h : IBlk w t g n n l) (hl : n = l.length) : IRow w (some ⟨g, 0, none⟩) n l := by
  obtain ⟨arr, h1, h2, h3⟩ := h
  refine ⟨hl, .inr ⟨g, 0, rfl, fun i hi => ?_⟩⟩
  have a := h3 i hi (by omega)
  simp only [Nat.zero_add]
  simp [World.cell?, h1, a]
theorem iblk_made (w : World) (t : TypeId) (z : Array Value) (n : Nat) (l : List Int) : IBlk (w.alloc (.cells (madeCells z n) t)) t w.heap.size n 0 l :=
  ⟨madeCells z n, by show (w.heap.push _)[w.heap.size]? = _; simp, size_madeCells _ _, fun i _ h => absurd h (by omega)⟩
theorem IBlk.step {w : World} {t : TypeId} {g n k : Nat} {l : List Int} (h : IBlk w t g n k l) (hk : k < n) (hl : k < l.length) : IBlk (w.setCell ⟨g, k, none⟩ (.int .i64 l[k])) t g n (k + 1) l := by
  obtain ⟨arr, h1, h2, h3⟩ := h
  refine ⟨_, heap_setCell_same w g k _ _ (.int .i64 l[k]) h1, by simp [h2], fun i hi hik => ?_⟩
  by_cases e : i = k
  · subst e
    simp [Array.getElem?_setIfInBounds, h2]
    omega
  · have a := h3 i hi (by omega)
    rw [← a]; simp only [Array.getElem?_setIfInBounds]; rw [if_neg (by omega)]
/-- one cell turned: the row's block still is one of n numbers -/
theorem IBlk.put {w : World} {t : TypeId} {g n k : Nat} {l : List Int} (h : IBlk w t g n k l) (j : Nat) (v : Value) : IBlk (w.setCell ⟨g, j, none⟩ v) t g n 0 l := by
  obtain ⟨arr, h1, h2, h3⟩ := h
  exact ⟨_, heap_setCell_same w g j _ _ v h1, by simp [h2], fun i hi hik => absurd hik (by omega)⟩
theorem IBlk.none {w : World} {t : TypeId} {g n k : Nat} {l : List Int} (h : IBlk w t g n k l) : IBlk w t g n 0 l := by
  obtain ⟨arr, h1, h2, h3⟩ := h
  exact ⟨arr, h1, h2, fun i hi hik => absurd hik (by omega)⟩
theorem IBlk.mks {S : Nat → Prop} {w w' : World} {t : TypeId} {g n k : Nat} {l : List Int} (h : IBlk w t g n k l) (hm : Mks S w w') (hg : ¬ S g) : IBlk w' t g n k l := by
  have hlt := h.lt
  obtain ⟨arr, h1, h2⟩ := h
  exact ⟨arr, (hm.block g hlt hg).trans h1, h2⟩

theorem IBlk.mkd {B E : Nat} {w w' : World} {t : TypeId} {g n k : Nat} {l : List Int} (h : IBlk w t g n k l) (hm : Mkd B E w w') (hg : g < B ∨ E ≤ g) : IBlk w' t g n k l := by
  have hlt := h.lt
  obtain ⟨arr, h1, h2⟩ := h
  exact ⟨arr, (hm.block g hlt hg).trans h1, h2⟩
theorem IBlk.al {w : World} {t : TypeId} {g n k : Nat} {l : List Int} (h : IBlk w t g n k l) (o : Obj) : IBlk (w.alloc o) t g n k l := h.below (below_al (Below.refl _ _) o)

theorem make_ints (n : Nat) (hn : n ≤ 1048576) (w : World) :
    (Instr.makeSlice 28 (.int .i64 (n : Int)) (.int .i64 (n : Int))).run Tryz.prog w = .ok (.slice (some ⟨w.heap.size, 0, none⟩) n n) (w.alloc (.cells (madeCells (Value.int .i64 0).cells n) 3)) := by
  obtain ⟨i, hi, hz⟩ := Option.map_eq_some_iff.1 Tryz.infoI
  simp only [Prod.mk.injEq] at hz
  obtain ⟨hz, hs, hb⟩ := hz
  have hr := run_make (P := Tryz.prog) w 28 3 i _ Tryz.underlying28 hi hz .i64 .i64 n n (by omega) (Int.le_refl _) (by rw [hb]; omega) (by omega)
  simp only [Int.toNat_natCast, hs, Nat.mul_one] at hr
  exact hr

set_option maxRecDepth 100000 in
set_option maxHeartbeats 1000000 in
theorem toIntS_any (ao : Option Addr) (len cap : Nat) (l : List Int) (w : World) (h : IRow w ao len l) (hl : len ≤ 1048576) :
    Calls Tryz.prog 9 #[.slice ao len cap] w fun e w' => e = .returned (.slice (some ⟨w.heap.size, 0, none⟩) len len) ∧ IBlk w' 3 w.heap.size len len l ∧ Below w.heap.size w w' := by
  have HR := hide h
  have HL := hide h.1
  have hmk := make_ints len hl w
  obtain ⟨zs, hzs⟩ : ∃ z, z = (Value.int .i64 0).cells := ⟨_, rfl⟩
  rw [← hzs] at hmk
  clear h hzs
  go_enter Tryz.func9, Tryz.ntmps9
  go_wp2
  clear hmk
  go_loopw [4] (fun i wr => ∃ k : Nat, k ≤ len ∧ i = .int .i64 k ∧ Hid (IBlk wr 3 w.heap.size len k l) ∧ Hid (Below w.heap.size w wr)) (fun i _ => len - (intOf i).toNat)
  case atStart => exact ⟨0, Nat.zero_le _, rfl, hide (iblk_made w _ _ _ _), hide (below_al (Below.refl _ _) _)⟩
  case round =>
    obtain ⟨k, hk, rfl, HQ, HB⟩ := hrel
    by_cases hlt : k < len
    · obtain ⟨b, off, rfl, hq⟩ := ((unhide HR).below (unhide HB)).at hlt
      have hkl : k < l.length := by have := unhide HL; omega
      have c0 := hq hkl
      have HST := hide ((unhide HQ).step hlt hkl)
      obtain ⟨q, hs⟩ : ∃ q, l[k] = q := ⟨_, rfl⟩
      rw [hs] at c0 HST
      clear hq hs hkl
      obtain ⟨v0, d0⟩ := (unhide HQ).cell (j := k) (by omega)
      have f0 := (unhide HQ).frozen k
      go_wp2
      go_roundw
      case rel => exact ⟨k + 1, by omega, by go_num, HST, hide (below_sc (unhide HB) _ _ _ (by omega))⟩
      case measure => simp [intOf]; omega
    · have hkk : k = len := by omega
      subst hkk
      go_wp2
      go_ret
      exact ⟨rfl, unhide HQ, unhide HB⟩

/-- the same number stands at two places -/
def ITwo (w0 : World) (b p c r : Nat) (q : Int) (w : World) : Prop := w.cell? ⟨b, p, none⟩ = some (.int .i64 q) ∧ w.cell? ⟨c, r, none⟩ = some (.int .i64 q) ∧ Below w0.heap.size w0 w
theorem ITwo.call {w0 w w' : World} {b p c r : Nat} {q : Int} (h : ITwo w0 b p c r q w) (hb : Below w.heap.size w w') : ITwo w0 b p c r q w' := ⟨(hb.cell (cell_lt h.1)).trans h.1, (hb.cell (cell_lt h.2.1)).trans h.2.1, below_on h.2.2 hb⟩
theorem ITwo.drew {w0 w : World} {b p c r : Nat} {q : Int} (h : ITwo w0 b p c r q w) : ITwo w0 b p c r q w.drew := h.call (Below.refl _ _).drew
theorem ITwo.read (w0 : World) (b p c r : Nat) (q : Int) : ∀ wx, ITwo w0 b p c r q wx → wx.cell? ⟨b, p, none⟩ = some (.int .i64 q) ∧ wx.cell? ⟨c, r, none⟩ = some (.int .i64 q) := fun wx h => ⟨h.1, h.2.1⟩

set_option maxRecDepth 100000 in
set_option maxHeartbeats 2000000 in
theorem eqIntS_same (ao bo : Option Addr) (len cap ccap : Nat) (l : List Int) (w : World) (h : IRow w ao len l) (h' : IRow w bo len l) (hl : len ≤ 1048576) :
    Calls Tryz.prog 13 #[.slice ao len cap, .slice bo len ccap] w fun e w' => e = .returned (.bool true) ∧ Below w.heap.size w w' := by
  have HR := hide h
  have HR' := hide h'
  have HL := hide h.1
  clear h h'
  go_enter Tryz.func13, Tryz.ntmps13
  go_wp2
  go_loopw [5] (fun i wr => ∃ k : Nat, k ≤ len ∧ i = .int .i64 k ∧ Hid (Below w.heap.size w wr)) (fun i _ => len - (intOf i).toNat)
  case atStart => exact ⟨0, Nat.zero_le _, rfl, hide (Below.refl _ _)⟩
  case round =>
    obtain ⟨k, hk, rfl, HB⟩ := hrel
    by_cases hlt : k < len
    · obtain ⟨b, off, rfl, hq⟩ := ((unhide HR).below (unhide HB)).at hlt
      obtain ⟨c, coff, rfl, hq'⟩ := ((unhide HR').below (unhide HB)).at hlt
      have hkl : k < l.length := by have := unhide HL; omega
      have A0 := hide (show ITwo w b (off + k) c (coff + k) l[k] wr from ⟨hq hkl, hq' hkl, unhide HB⟩)
      obtain ⟨q, hs⟩ : ∃ q, l[k] = q := ⟨_, rfl⟩
      rw [hs] at A0
      have R := ITwo.read w b (off + k) c (coff + k) q
      have k0 : (0 : Int) ≤ k := by omega
      have k1 : (k : Int) < len := by omega
      clear hq hq' hs hkl
      go_wp2_with fail
      go_region_held3 (fun wx => ITwo w b (off + k) c (coff + k) q wx)
        (first | (with_reducible assumption) | exact (unhide A0).drew | exact ITwo.call (by assumption) (by assumption))
        (fail)
      all_goals
        have HB2 := hide (unhide A0).drew.2.2
        clear R A0
        go_wp2
        go_roundw
        case rel => exact ⟨k + 1, by omega, by go_num, HB2⟩
        case measure => simp [intOf]; omega
    · go_wp2
      go_ret
      exact ⟨rfl, unhide HB⟩

set_option maxRecDepth 100000 in
set_option maxHeartbeats 1000000 in
theorem markIntS_any (g n c K : Nat) (l : List Int) (w : World) (h : IBlk w 3 g n n l) (hn : n ≤ 1048576) (hK : K ≤ 4611686018427387904) :
    Calls Tryz.prog 15 #[.slice (some ⟨g, 0, none⟩) n c, .int .i64 (K : Int)] w fun e w' => e = .returned (.int .i64 ((K : Int) + (n : Int))) ∧ Mks (fun k => k = g) w w' := by
  have HI := hide h.none
  clear h
  go_enter Tryz.func15, Tryz.ntmps15
  go_wp2
  go_loopw [1, 5] (fun s i wr => ∃ (j : Nat) (k : Int), j ≤ n ∧ i = .int .i64 j ∧ s = .int .i64 k ∧ Hid (k = (K : Int) + (j : Int)) ∧ Hid (IBlk wr 3 g n 0 l) ∧ Hid (Mks (fun k => k = g) w wr)) (fun _ i _ => n - (intOf i).toNat)
  case atStart => exact ⟨0, K, Nat.zero_le _, rfl, rfl, hide (by simp), HI, hide (Mks.refl _ _)⟩
  case round =>
    obtain ⟨j, k, hj, rfl, rfl, hk, HV, HM⟩ := hrel
    have hkk := unhide hk
    by_cases hlt : j < n
    · obtain ⟨v0, d0⟩ := (unhide HV).cell (j := j) (by omega)
      have f0 := (unhide HV).frozen j
      go_wp2
      go_roundw
      case rel => exact ⟨j + 1, k + 1, by omega, by go_num, by go_num, hide (by omega), hide ((unhide HV).put _ _), hide ((unhide HM).sc _ _ _ rfl)⟩
      case measure => simp [intOf]; omega
    · obtain rfl : j = n := by omega
      rw [hkk]
      go_wp2
      go_ret
      exact ⟨rfl, unhide HM⟩

theorem open_introw {H : Type} {enc : TypeId × Value → H} {W : World} {base : Nat} {held : Bool} {ao : Option Addr} {len cap : Nat} {d : DataW H} {p : List MemPlace}
    (h : DataW.Trod enc Tryz.prog W base (fun _ => true) held 28 (.slice ao len cap) d p) :
    ∃ l : List Int, IRow W ao len l ∧ len ≤ 9223372036854775807 := by
  obtain ⟨fuel, hf⟩ := h
  rcases open_ints Tryz.underlying28 Tryz.underlying3 (by kernel_rfl) hf with ⟨hcs, _⟩ | ⟨a, l, c, zs, hcs, _, hl, hm, hz, _, hcell, hwz⟩
  · simp [Value.cells] at hcs
    obtain ⟨rfl, rfl, rfl⟩ := hcs
    exact ⟨[], ⟨rfl, .inl rfl⟩, by omega⟩
  · simp [Value.cells] at hcs
    obtain ⟨rfl, rfl, rfl⟩ := hcs
    simp only [if_true] at hz
    have hmx : maxLen = 9223372036854775807 := rfl
    refine ⟨zs.take len, ⟨by simp; omega, ?_⟩, by omega⟩
    by_cases h0 : len = 0
    · exact .inl h0
    · right
      obtain ⟨b, off, spot⟩ := a
      have hc0 := hcell 0 (by omega)
      have hspot : spot = none := by simpa [Addr.add] using World.cell?_spot hc0
      subst hspot
      refine ⟨b, off, rfl, fun i hi => ?_⟩
      have hi' : i < len ∧ i < zs.length := by simp only [List.length_take] at hi; omega
      have := hcell i hi'.2
      rw [Lib.add_plain] at this
      rw [this]
      simp [List.getElem?_eq_getElem hi'.2]
end Go.Proofs.YtjjnmiajkjibeaaGreat

/-
  The laws' markState over a state that toState made, with a bound on the number that it answers; a walk over the dump.
-/
namespace Go.Proofs.YtjjnmiajkjibeaaGreat
open Go.RowKit
set_option linter.unusedVariables false

set_option maxRecDepth 100000 in
set_option maxHeartbeats 2000000 in
theorem markState_le (B E g1 g2 g3 g4 ql al ml cl : Nat) (s : St) (w : World) (hq : Cel w 99 g1 (ql * 4)) (ha : AWh w B E g2 al) (hm : Cel w 103 g3 (ml * 4)) (hc : Cel w 61 g4 (cl * 5))
    (b1 : B ≤ g1 ∧ g1 < g2 ∧ g2 < g3 ∧ g3 < g4 ∧ g4 < E) (hE : E ≤ w.heap.size) (hql : ql ≤ 1048576) (hal : al ≤ 1048576) (hml : ml ≤ 1048576) (hcl : cl ≤ 1048576) :
    Calls Tryz.prog 14 #[sv (own4 g1 g2 g3 g4 ql al ml cl) s, .int .i64 1] w fun e w' => ∃ k, e = .returned (.int .i64 k) ∧ (0 < k ∧ k ≤ 20000000000000) ∧ Mkd B E w w' := by
  have hb0 := below_al (Below.refl _ w) (.cells (svc (own4 g1 g2 g3 g4 ql al ml cl) s) 35)
  have P0 := hide (blk_new w (svc (own4 g1 g2 g3 g4 ql al ml cl) s) 35)
  have CQ := hide (hq.below hb0)
  have CA := hide (ha.below hb0)
  have CM := hide (hm.below hb0)
  have CC := hide (hc.below hb0)
  have HG0 := hide (show Mkd B E w _ from .of_below hb0)
  obtain ⟨qs, clock, epoch, next, serial, apps, ms, cs⟩ := s
  clear hq ha hm hc hb0
  go_enter Tryz.func14, Tryz.ntmps14
  go_wp2_with fail
  refine (markQueueS_from g1 ql ql 1 _ (unhide CQ) (Nat.le_refl _) hql (by omega) (by omega)).mono ?_
  rintro e w1 ⟨rfl, hm1⟩
  have P1 := hide (hm1.blk (unhide P0) (.inr (by omega)))
  have CA1 := hide ((unhide CA).mkd hm1 (by omega))
  have CM1 := hide (hm1.cel _ _ _ (unhide CM))
  have CC1 := hide (hm1.cel _ _ _ (unhide CC))
  have HG1 := hide ((unhide HG0).trans (hm1.mono b1.1 (by omega)))
  have p5 := (unhide P1).at 5
  simp at p5
  clear hm1 P0 CQ CA CM CC HG0
  go_wp2_with fail
  refine (markAppS_from B E g2 al (1 + 4 * (ql : Int)) _ (unhide CA1) (by omega) (by omega) hal (by omega) (by omega)).mono ?_
  rintro e w2 ⟨k2, rfl, hk2, hk2', hm2⟩
  have P2 := hide (hm2.blk (unhide P1) (.inr (by omega)))
  have CM2 := hide (hm2.cel _ _ _ (unhide CM1))
  have CC2 := hide (hm2.cel _ _ _ (unhide CC1))
  have HG2 := hide ((unhide HG1).trans hm2)
  have p6 := (unhide P2).at 6
  simp at p6
  have hk2a : 0 < k2 := by omega
  have hk2b : k2 ≤ 10000000000000 := by omega
  clear hm2 P1 CA1 CM1 CC1 HG1 p5 hk2 hk2'
  go_wp2_with fail
  refine (markMachineS_from g3 ml ml k2 _ (unhide CM2) (Nat.le_refl _) hml (by omega) (by omega)).mono ?_
  rintro e w3 ⟨rfl, hm3⟩
  have P3 := hide (hm3.blk (unhide P2) (.inr (by omega)))
  have CC3 := hide (hm3.cel _ _ _ (unhide CC2))
  have HG3 := hide ((unhide HG2).trans (hm3.mono (by omega) (by omega)))
  have p7 := (unhide P3).at 7
  simp at p7
  clear hm3 P2 CM2 CC2 HG2 p6
  go_wp2_with fail
  refine (markContS_from g4 cl cl (k2 + 4 * (ml : Int)) _ (unhide CC3) (Nat.le_refl _) hcl (by omega) (by omega)).mono ?_
  rintro e w4 ⟨rfl, hm4⟩
  have HG4 := hide ((unhide HG3).trans (hm4.mono (by omega) (by omega)))
  clear hm4 P3 CC3 HG3 p7
  go_wp2
  go_ret
  exact ⟨_, rfl, by omega, unhide HG4⟩
end Go.Proofs.YtjjnmiajkjibeaaGreat
