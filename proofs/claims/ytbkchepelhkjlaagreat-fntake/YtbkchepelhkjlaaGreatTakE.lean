/-
 What the program's Drop and Lose answer: the state that is left, in memory of its own, and what is gone; walks over the dump.
-/
import Derived.Test.YtbkchepelhkjlaaGreatTakD2
import Derived.Test.YtbkchepelhkjlaaGreatPackR
namespace Go.Proofs.YtbkchepelhkjlaaGreat
open Go.RowKit
set_option linter.unusedVariables false
theorem SHas.sc {B k j : Nat} {v : Value} {w : World} {x : Sls} {s : St} {hs : List AV} (h : SHas B w x s hs) (hk : k < B) : SHas B (w.setCell ⟨k, j, none⟩ v) x s hs := ⟨h.q.sc hk, h.p.sc hk, h.k.sc (.inl hk), h.m.sc hk, h.c.sc hk, h.cap, (h.rm.sc k j v).mono (Nat.le_refl _) (by rw [set_size]; exact Nat.le_refl _)⟩
/-- the answer: a state in memory of its own, and containers in memory of their own -/
def StAns (w : World) (s : St) (gone : List Con) (e : Ending) (w' : World) : Prop :=
 ∃ y hs go gn gc, e = .returned (.tuple #[sv y s, .slice go gn gc]) ∧ SAns w.heap.size w'.heap.size w' y s hs ∧ CHas w.heap.size w' go gn gone ∧ (∀ k, inR go gn k → ¬ inR y.ca y.cl k) ∧ Below w.heap.size w w'
/-- without an application, and what was its -/
def dropV (s : St) (app : Int) : St × List Con :=
 if stateOkV s = true then (⟨s.qs, s.clock, s.epoch, s.next, s.serial, s.apps.filter (fun a => !decide (a.id = app)), s.ms, s.cs.filter (fun q => !decide (q.app = app))⟩, s.cs.filter (fun q => decide (q.app = app))) else (s, [])
/-- without a machine, and what was on it -/
def loseV (s : St) (nm : List UInt8) : St × List Con :=
 if stateOkV s = true then (⟨s.qs, s.clock, s.epoch, s.next, s.serial, s.apps, s.ms.filter (fun v => !decide (v.name = nm)), s.cs.filter (fun q => !decide (q.node = nm))⟩, s.cs.filter (fun q => decide (q.node = nm))) else (s, [])
theorem dropV_eq (s : St) (app : Int) : (stateOkV s = true → dropV s app = (⟨s.qs, s.clock, s.epoch, s.next, s.serial, s.apps.filter (fun a => !decide (a.id = app)), s.ms, s.cs.filter (fun q => !decide (q.app = app))⟩, s.cs.filter (fun q => decide (q.app = app)))) ∧ (stateOkV s = false → dropV s app = (s, [])) :=
 ⟨fun h => if_pos h, fun h => if_neg (by simp [h])⟩
theorem loseV_eq (s : St) (nm : List UInt8) : (stateOkV s = true → loseV s nm = (⟨s.qs, s.clock, s.epoch, s.next, s.serial, s.apps, s.ms.filter (fun v => !decide (v.name = nm)), s.cs.filter (fun q => !decide (q.node = nm))⟩, s.cs.filter (fun q => decide (q.node = nm)))) ∧ (stateOkV s = false → loseV s nm = (s, [])) :=
 ⟨fun h => if_pos h, fun h => if_neg (by simp [h])⟩

set_option maxRecDepth 100000 in
set_option maxHeartbeats 8000000 in
theorem implDrop_any (x : Sls) (s : St) (app : Int) (w : World) (h : SRow w x s) (hf : FitSt s) (hc : x.ql ≤ x.qc) (hw : WfSt s) :
  Calls Tryz.prog 37 #[sv x s, .int .i64 app] w (StAns w (dropV s app).1 (dropV s app).2) := by
 have hla : s.apps.length ≤ 1048576 := hf.2.1.1
 have hlm : s.ms.length ≤ 1048576 := hf.2.2.1.1
 have hlc : s.cs.length ≤ 1048576 := hf.2.2.2.1
 obtain ⟨o, ho⟩ : ∃ o, stateOkV s = o := ⟨_, rfl⟩
 have HO := hide ho
 have HV := hide (dropV_eq s app)
 have hb0 := below_al (below_al (Below.refl _ w) (.cells (svc x s) 29)) (.cells #[.slice none 0 0, .int .i64 0, .int .i64 0, .int .i64 0, .int .i64 0, .slice none 0 0, .slice none 0 0, .slice none 0 0] 29)
 have HB0 := hide hb0
 have P0 := hide ((blk_new w (svc x s) 29).al (.cells #[.slice none 0 0, .int .i64 0, .int .i64 0, .int .i64 0, .int .i64 0, .slice none 0 0, .slice none 0 0, .slice none 0 0] 29))
 have P1 := hide (show Blk _ (w.heap.size + 1) #[.slice none 0 0, .int .i64 0, .int .i64 0, .int .i64 0, .int .i64 0, .slice none 0 0, .slice none 0 0, .slice none 0 0] 29 by have := blk_new (w.alloc (.cells (svc x s) 29)) #[.slice none 0 0, .int .i64 0, .int .i64 0, .int .i64 0, .int .i64 0, .slice none 0 0, .slice none 0 0, .slice none 0 0] 29; rwa [al_size] at this)
 have CC := hide (copyOfState_any x s _ (h.below hb0) hf)
 have CO := hide (fun wx (hb : Below w.heap.size w wx) => by have := implStateOk_any x s wx (h.below hb) hf hc hw; rw [ho] at this; exact this)
 obtain ⟨qa, ql, qc, aa, al, ac, ma, ml, mc, ca, cl, cc⟩ := x
 obtain ⟨qs, clock, epoch, next, serial, apps, ms, cs⟩ := s
 simp only at *
 clear h hb0 hf hc hw ho
 go_enter Tryz.func37, Tryz.ntmps37
 go_wp2_with fail
 refine (unhide CC).mono ?_
 rintro e w2 ⟨y, hs, rfl, ha, hb⟩
 obtain ⟨yqa, yql, yqc, yaa, yal, yac, yma, yml, ymc, yca, ycl, ycc⟩ := y
 rw [al_size, al_size] at ha
 have H2 := hide (ha.has (Nat.le_refl _))
 have B2 := hide (below_on (unhide HB0) hb)
 have b3 := below_al (Below.refl _ w2) (.cells #[.slice yqa yql yqc, .int .i64 clock, .int .i64 epoch, .int .i64 next, .int .i64 serial, .slice yaa yal yac, .slice yma yml ymc, .slice yca ycl ycc] 29)
 have P3 := hide (((unhide P0).below hb).al (.cells #[.slice yqa yql yqc, .int .i64 clock, .int .i64 epoch, .int .i64 next, .int .i64 serial, .slice yaa yal yac, .slice yma yml ymc, .slice yca ycl ycc] 29))
 have R3 := hide (((unhide P1).below hb).al (.cells #[.slice yqa yql yqc, .int .i64 clock, .int .i64 epoch, .int .i64 next, .int .i64 serial, .slice yaa yal yac, .slice yma yml ymc, .slice yca ycl ycc] 29))
 have O3 := hide (blk_new w2 #[.slice yqa yql yqc, .int .i64 clock, .int .i64 epoch, .int .i64 next, .int .i64 serial, .slice yaa yal yac, .slice yma yml ymc, .slice yca ycl ycc] 29)
 have H3 := hide ((unhide H2).below b3)
 have B3 := hide (below_on (unhide B2) b3)
 have hz2 : w.heap.size + 2 ≤ w2.heap.size := by have := hb.size; rw [al_size, al_size] at this; omega
 obtain ⟨b, hbb⟩ : ∃ b, w2.heap.size = b := ⟨_, rfl⟩
 have HBB := hide hbb
 have a0 := (unhide P3).at 0; have a1 := (unhide P3).at 1; have a2 := (unhide P3).at 2; have a3 := (unhide P3).at 3; have a4 := (unhide P3).at 4; have a5 := (unhide P3).at 5; have a6 := (unhide P3).at 6; have a7 := (unhide P3).at 7
 simp at a0 a1 a2 a3 a4 a5 a6 a7
 clear ha hb HB0 P0 P1 CC H2 B2 b3 hbb
 go_wp2_with fail
 refine (unhide CO _ (unhide B3)).mono ?_
 rintro e w4 ⟨rfl, hb⟩
 have B4 := hide (below_on (unhide B3) hb)
 have H4 := hide ((unhide H3).below hb)
 have R4 := hide ((unhide R3).below hb)
 have O4 := hide (show Blk w4 b _ 29 by have := (unhide O3).below hb; rw [unhide HBB] at this; exact this)
 have hz4 : b < w4.heap.size := (unhide O4).lt
 have hb2 : w.heap.size + 2 ≤ b := by have := unhide HBB; omega
 rw [unhide HBB]
 clear hb B3 H3 R3 O3 P3 a0 a1 a2 a3 a4 a5 a6 a7 CO
 cases o
 case false =>
  have c0 := (unhide R4).at 0; have c1 := (unhide R4).at 1; have c2 := (unhide R4).at 2; have c3 := (unhide R4).at 3; have c4 := (unhide R4).at 4; have c5 := (unhide R4).at 5; have c6 := (unhide R4).at 6; have c7 := (unhide R4).at 7
  have f0 := (unhide R4).f 0; have f1 := (unhide R4).f 1; have f2 := (unhide R4).f 2; have f3 := (unhide R4).f 3; have f4 := (unhide R4).f 4; have f5 := (unhide R4).f 5; have f6 := (unhide R4).f 6; have f7 := (unhide R4).f 7
  have a0 := (unhide O4).at 0; have a1 := (unhide O4).at 1; have a2 := (unhide O4).at 2; have a3 := (unhide O4).at 3; have a4 := (unhide O4).at 4; have a5 := (unhide O4).at 5; have a6 := (unhide O4).at 6; have a7 := (unhide O4).at 7
  simp at a0 a1 a2 a3 a4 a5 a6 a7 c0 c1 c2 c3 c4 c5 c6 c7
  go_wp2
  have R9 := hide (show Blk ((((((((w4.setCell ⟨w.heap.size + 1, 0, none⟩ (.slice yqa yql yqc)).setCell ⟨w.heap.size + 1, 1, none⟩ (.int .i64 clock)).setCell ⟨w.heap.size + 1, 2, none⟩ (.int .i64 epoch)).setCell ⟨w.heap.size + 1, 3, none⟩ (.int .i64 next)).setCell ⟨w.heap.size + 1, 4, none⟩ (.int .i64 serial)).setCell ⟨w.heap.size + 1, 5, none⟩ (.slice yaa yal yac)).setCell ⟨w.heap.size + 1, 6, none⟩ (.slice yma yml ymc)).setCell ⟨w.heap.size + 1, 7, none⟩ (.slice yca ycl ycc)) (w.heap.size + 1) #[.slice yqa yql yqc, .int .i64 clock, .int .i64 epoch, .int .i64 next, .int .i64 serial, .slice yaa yal yac, .slice yma yml ymc, .slice yca ycl ycc] 29 from (((((((((unhide R4).set 0 (.slice yqa yql yqc)).set 1 (.int .i64 clock)).set 2 (.int .i64 epoch)).set 3 (.int .i64 next)).set 4 (.int .i64 serial)).set 5 (.slice yaa yal yac)).set 6 (.slice yma yml ymc)).set 7 (.slice yca ycl ycc)))
  have H9 := hide (((((((((unhide H4).sc (k := w.heap.size + 1) (j := 0) (v := .slice yqa yql yqc) (by omega)).sc (k := w.heap.size + 1) (j := 1) (v := .int .i64 clock) (by omega)).sc (k := w.heap.size + 1) (j := 2) (v := .int .i64 epoch) (by omega)).sc (k := w.heap.size + 1) (j := 3) (v := .int .i64 next) (by omega)).sc (k := w.heap.size + 1) (j := 4) (v := .int .i64 serial) (by omega)).sc (k := w.heap.size + 1) (j := 5) (v := .slice yaa yal yac) (by omega)).sc (k := w.heap.size + 1) (j := 6) (v := .slice yma yml ymc) (by omega)).sc (k := w.heap.size + 1) (j := 7) (v := .slice yca ycl ycc) (by omega))
  have B9 := hide (below_sc (below_sc (below_sc (below_sc (below_sc (below_sc (below_sc (below_sc (unhide B4) (w.heap.size + 1) 0 (.slice yqa yql yqc) (by omega)) (w.heap.size + 1) 1 (.int .i64 clock) (by omega)) (w.heap.size + 1) 2 (.int .i64 epoch) (by omega)) (w.heap.size + 1) 3 (.int .i64 next) (by omega)) (w.heap.size + 1) 4 (.int .i64 serial) (by omega)) (w.heap.size + 1) 5 (.slice yaa yal yac) (by omega)) (w.heap.size + 1) 6 (.slice yma yml ymc) (by omega)) (w.heap.size + 1) 7 (.slice yca ycl ycc) (by omega))
  generalize ((((((((w4.setCell ⟨w.heap.size + 1, 0, none⟩ (.slice yqa yql yqc)).setCell ⟨w.heap.size + 1, 1, none⟩ (.int .i64 clock)).setCell ⟨w.heap.size + 1, 2, none⟩ (.int .i64 epoch)).setCell ⟨w.heap.size + 1, 3, none⟩ (.int .i64 next)).setCell ⟨w.heap.size + 1, 4, none⟩ (.int .i64 serial)).setCell ⟨w.heap.size + 1, 5, none⟩ (.slice yaa yal yac)).setCell ⟨w.heap.size + 1, 6, none⟩ (.slice yma yml ymc)).setCell ⟨w.heap.size + 1, 7, none⟩ (.slice yca ycl ycc)) = W9 at R9 H9 B9 ⊢
  have z0 := (unhide R9).at 0; have z1 := (unhide R9).at 1; have z2 := (unhide R9).at 2; have z3 := (unhide R9).at 3; have z4 := (unhide R9).at 4; have z5 := (unhide R9).at 5; have z6 := (unhide R9).at 6; have z7 := (unhide R9).at 7
  simp at z0 z1 z2 z3 z4 z5 z6 z7
  refine bodyPost_ret (v := .tuple #[.agg #[.slice yqa yql yqc, .int .i64 clock, .int .i64 epoch, .int .i64 next, .int .i64 serial, .slice yaa yal yac, .slice yma yml ymc, .slice yca ycl ycc], .slice none 0 0]) (by simp [results, Tryz.results37, go_sem, z0, z1, z2, z3, z4, z5, z6, z7]) rfl ?_
  rw [(unhide HV).2 (unhide HO)]
  exact ⟨⟨yqa, yql, yqc, yaa, yal, yac, yma, yml, ymc, yca, ycl, ycc⟩, hs, none, 0, 0, rfl, (unhide H9).ans.mono (by omega) (Nat.le_refl _), ⟨⟨rfl, .inl rfl⟩, .inl rfl⟩, fun k hk => absurd rfl hk.1, unhide B9⟩
 have hcl : ycl ≤ 1048576 := by have := (unhide H4).c.1.1; simp only at this; omega
 have hcp : yal ≤ 1048576 := by have h1 := (unhide H4).p.1.1; have h2 := (unhide H4).k.heads.1; simp only at h1 h2; omega
 have hcm : yml ≤ 1048576 := by have := (unhide H4).m.1.1; simp only at this; omega
 have CD := hide (drop_st app b ⟨yqa, yql, yqc, yaa, yal, yac, yma, yml, ymc, yca, ycl, ycc⟩ ⟨qs, clock, epoch, next, serial, apps, ms, cs⟩ hs w4 (unhide O4) (unhide H4) (by omega) hcl (by first | exact hcp | exact hcm))
 simp only at CD
 clear hcl hcp hcm
 go_wp2_with fail
 refine (unhide CD).mono ?_
 rintro e w5 ⟨z, go, gn, gc, rfl, hk, hh, hg, hap, hm⟩
 obtain ⟨zqa, zql, zqc, zaa, zal, zac, zma, zml, zmc, zca, zcl, zcc⟩ := z
 have K5 := hide hk
 have H5 := hide hh
 have G5 := hide (hg.base (B' := w.heap.size + 2) (by omega))
 have AP := hide hap
 have R5 := hide (hm.blk1 (unhide R4) (by omega))
 have B5 := hide (show Below w.heap.size w w5 from (unhide B4).trans (hm.below (fun k (hk : k = b) => by omega) (by omega)))
 clear hk hh hg hap hm CD
 have c0 := (unhide R5).at 0; have c1 := (unhide R5).at 1; have c2 := (unhide R5).at 2; have c3 := (unhide R5).at 3; have c4 := (unhide R5).at 4; have c5 := (unhide R5).at 5; have c6 := (unhide R5).at 6; have c7 := (unhide R5).at 7
 have f0 := (unhide R5).f 0; have f1 := (unhide R5).f 1; have f2 := (unhide R5).f 2; have f3 := (unhide R5).f 3; have f4 := (unhide R5).f 4; have f5 := (unhide R5).f 5; have f6 := (unhide R5).f 6; have f7 := (unhide R5).f 7
 have a0 := (unhide K5).at 0; have a1 := (unhide K5).at 1; have a2 := (unhide K5).at 2; have a3 := (unhide K5).at 3; have a4 := (unhide K5).at 4; have a5 := (unhide K5).at 5; have a6 := (unhide K5).at 6; have a7 := (unhide K5).at 7
 simp at a0 a1 a2 a3 a4 a5 a6 a7 c0 c1 c2 c3 c4 c5 c6 c7
 go_wp2
 have R9 := hide (show Blk ((((((((w5.setCell ⟨w.heap.size + 1, 0, none⟩ (.slice zqa zql zqc)).setCell ⟨w.heap.size + 1, 1, none⟩ (.int .i64 clock)).setCell ⟨w.heap.size + 1, 2, none⟩ (.int .i64 epoch)).setCell ⟨w.heap.size + 1, 3, none⟩ (.int .i64 next)).setCell ⟨w.heap.size + 1, 4, none⟩ (.int .i64 serial)).setCell ⟨w.heap.size + 1, 5, none⟩ (.slice zaa zal zac)).setCell ⟨w.heap.size + 1, 6, none⟩ (.slice zma zml zmc)).setCell ⟨w.heap.size + 1, 7, none⟩ (.slice zca zcl zcc)) (w.heap.size + 1) #[.slice zqa zql zqc, .int .i64 clock, .int .i64 epoch, .int .i64 next, .int .i64 serial, .slice zaa zal zac, .slice zma zml zmc, .slice zca zcl zcc] 29 from (((((((((unhide R5).set 0 (.slice zqa zql zqc)).set 1 (.int .i64 clock)).set 2 (.int .i64 epoch)).set 3 (.int .i64 next)).set 4 (.int .i64 serial)).set 5 (.slice zaa zal zac)).set 6 (.slice zma zml zmc)).set 7 (.slice zca zcl zcc)))
 have H9 := hide (((((((((unhide H5).sc (k := w.heap.size + 1) (j := 0) (v := .slice zqa zql zqc) (by omega)).sc (k := w.heap.size + 1) (j := 1) (v := .int .i64 clock) (by omega)).sc (k := w.heap.size + 1) (j := 2) (v := .int .i64 epoch) (by omega)).sc (k := w.heap.size + 1) (j := 3) (v := .int .i64 next) (by omega)).sc (k := w.heap.size + 1) (j := 4) (v := .int .i64 serial) (by omega)).sc (k := w.heap.size + 1) (j := 5) (v := .slice zaa zal zac) (by omega)).sc (k := w.heap.size + 1) (j := 6) (v := .slice zma zml zmc) (by omega)).sc (k := w.heap.size + 1) (j := 7) (v := .slice zca zcl zcc) (by omega))
 have G9 := hide (((((((((unhide G5).sc (k := w.heap.size + 1) (j := 0) (v := .slice zqa zql zqc) (by omega)).sc (k := w.heap.size + 1) (j := 1) (v := .int .i64 clock) (by omega)).sc (k := w.heap.size + 1) (j := 2) (v := .int .i64 epoch) (by omega)).sc (k := w.heap.size + 1) (j := 3) (v := .int .i64 next) (by omega)).sc (k := w.heap.size + 1) (j := 4) (v := .int .i64 serial) (by omega)).sc (k := w.heap.size + 1) (j := 5) (v := .slice zaa zal zac) (by omega)).sc (k := w.heap.size + 1) (j := 6) (v := .slice zma zml zmc) (by omega)).sc (k := w.heap.size + 1) (j := 7) (v := .slice zca zcl zcc) (by omega))
 have B9 := hide (below_sc (below_sc (below_sc (below_sc (below_sc (below_sc (below_sc (below_sc (unhide B5) (w.heap.size + 1) 0 (.slice zqa zql zqc) (by omega)) (w.heap.size + 1) 1 (.int .i64 clock) (by omega)) (w.heap.size + 1) 2 (.int .i64 epoch) (by omega)) (w.heap.size + 1) 3 (.int .i64 next) (by omega)) (w.heap.size + 1) 4 (.int .i64 serial) (by omega)) (w.heap.size + 1) 5 (.slice zaa zal zac) (by omega)) (w.heap.size + 1) 6 (.slice zma zml zmc) (by omega)) (w.heap.size + 1) 7 (.slice zca zcl zcc) (by omega))
 generalize ((((((((w5.setCell ⟨w.heap.size + 1, 0, none⟩ (.slice zqa zql zqc)).setCell ⟨w.heap.size + 1, 1, none⟩ (.int .i64 clock)).setCell ⟨w.heap.size + 1, 2, none⟩ (.int .i64 epoch)).setCell ⟨w.heap.size + 1, 3, none⟩ (.int .i64 next)).setCell ⟨w.heap.size + 1, 4, none⟩ (.int .i64 serial)).setCell ⟨w.heap.size + 1, 5, none⟩ (.slice zaa zal zac)).setCell ⟨w.heap.size + 1, 6, none⟩ (.slice zma zml zmc)).setCell ⟨w.heap.size + 1, 7, none⟩ (.slice zca zcl zcc)) = W9 at R9 H9 G9 B9 ⊢
 have z0 := (unhide R9).at 0; have z1 := (unhide R9).at 1; have z2 := (unhide R9).at 2; have z3 := (unhide R9).at 3; have z4 := (unhide R9).at 4; have z5 := (unhide R9).at 5; have z6 := (unhide R9).at 6; have z7 := (unhide R9).at 7
 simp at z0 z1 z2 z3 z4 z5 z6 z7
 refine bodyPost_ret (v := .tuple #[.agg #[.slice zqa zql zqc, .int .i64 clock, .int .i64 epoch, .int .i64 next, .int .i64 serial, .slice zaa zal zac, .slice zma zml zmc, .slice zca zcl zcc], .slice go gn gc]) (by simp [results, Tryz.results37, go_sem, z0, z1, z2, z3, z4, z5, z6, z7]) rfl ?_
 rw [(unhide HV).1 (unhide HO)]
 exact ⟨⟨zqa, zql, zqc, zaa, zal, zac, zma, zml, zmc, zca, zcl, zcc⟩, _, go, gn, gc, rfl, (unhide H9).ans.mono (by omega) (Nat.le_refl _), (unhide G9).base (by omega), unhide AP, unhide B9⟩

set_option maxRecDepth 100000 in
set_option maxHeartbeats 8000000 in
theorem implLose_any (x : Sls) (s : St) (nm : List UInt8) (w : World) (h : SRow w x s) (hf : FitSt s) (hc : x.ql ≤ x.qc) (hw : WfSt s) :
  Calls Tryz.prog 40 #[sv x s, .string (bs nm)] w (StAns w (loseV s nm).1 (loseV s nm).2) := by
 have hla : s.apps.length ≤ 1048576 := hf.2.1.1
 have hlm : s.ms.length ≤ 1048576 := hf.2.2.1.1
 have hlc : s.cs.length ≤ 1048576 := hf.2.2.2.1
 obtain ⟨o, ho⟩ : ∃ o, stateOkV s = o := ⟨_, rfl⟩
 have HO := hide ho
 have HV := hide (loseV_eq s nm)
 have hb0 := below_al (below_al (Below.refl _ w) (.cells (svc x s) 29)) (.cells #[.slice none 0 0, .int .i64 0, .int .i64 0, .int .i64 0, .int .i64 0, .slice none 0 0, .slice none 0 0, .slice none 0 0] 29)
 have HB0 := hide hb0
 have P0 := hide ((blk_new w (svc x s) 29).al (.cells #[.slice none 0 0, .int .i64 0, .int .i64 0, .int .i64 0, .int .i64 0, .slice none 0 0, .slice none 0 0, .slice none 0 0] 29))
 have P1 := hide (show Blk _ (w.heap.size + 1) #[.slice none 0 0, .int .i64 0, .int .i64 0, .int .i64 0, .int .i64 0, .slice none 0 0, .slice none 0 0, .slice none 0 0] 29 by have := blk_new (w.alloc (.cells (svc x s) 29)) #[.slice none 0 0, .int .i64 0, .int .i64 0, .int .i64 0, .int .i64 0, .slice none 0 0, .slice none 0 0, .slice none 0 0] 29; rwa [al_size] at this)
 have CC := hide (copyOfState_any x s _ (h.below hb0) hf)
 have CO := hide (fun wx (hb : Below w.heap.size w wx) => by have := implStateOk_any x s wx (h.below hb) hf hc hw; rw [ho] at this; exact this)
 obtain ⟨qa, ql, qc, aa, al, ac, ma, ml, mc, ca, cl, cc⟩ := x
 obtain ⟨qs, clock, epoch, next, serial, apps, ms, cs⟩ := s
 simp only at *
 clear h hb0 hf hc hw ho
 go_enter Tryz.func40, Tryz.ntmps40
 go_wp2_with fail
 refine (unhide CC).mono ?_
 rintro e w2 ⟨y, hs, rfl, ha, hb⟩
 obtain ⟨yqa, yql, yqc, yaa, yal, yac, yma, yml, ymc, yca, ycl, ycc⟩ := y
 rw [al_size, al_size] at ha
 have H2 := hide (ha.has (Nat.le_refl _))
 have B2 := hide (below_on (unhide HB0) hb)
 have b3 := below_al (Below.refl _ w2) (.cells #[.slice yqa yql yqc, .int .i64 clock, .int .i64 epoch, .int .i64 next, .int .i64 serial, .slice yaa yal yac, .slice yma yml ymc, .slice yca ycl ycc] 29)
 have P3 := hide (((unhide P0).below hb).al (.cells #[.slice yqa yql yqc, .int .i64 clock, .int .i64 epoch, .int .i64 next, .int .i64 serial, .slice yaa yal yac, .slice yma yml ymc, .slice yca ycl ycc] 29))
 have R3 := hide (((unhide P1).below hb).al (.cells #[.slice yqa yql yqc, .int .i64 clock, .int .i64 epoch, .int .i64 next, .int .i64 serial, .slice yaa yal yac, .slice yma yml ymc, .slice yca ycl ycc] 29))
 have O3 := hide (blk_new w2 #[.slice yqa yql yqc, .int .i64 clock, .int .i64 epoch, .int .i64 next, .int .i64 serial, .slice yaa yal yac, .slice yma yml ymc, .slice yca ycl ycc] 29)
 have H3 := hide ((unhide H2).below b3)
 have B3 := hide (below_on (unhide B2) b3)
 have hz2 : w.heap.size + 2 ≤ w2.heap.size := by have := hb.size; rw [al_size, al_size] at this; omega
 obtain ⟨b, hbb⟩ : ∃ b, w2.heap.size = b := ⟨_, rfl⟩
 have HBB := hide hbb
 have a0 := (unhide P3).at 0; have a1 := (unhide P3).at 1; have a2 := (unhide P3).at 2; have a3 := (unhide P3).at 3; have a4 := (unhide P3).at 4; have a5 := (unhide P3).at 5; have a6 := (unhide P3).at 6; have a7 := (unhide P3).at 7
 simp at a0 a1 a2 a3 a4 a5 a6 a7
 clear ha hb HB0 P0 P1 CC H2 B2 b3 hbb
 go_wp2_with fail
 refine (unhide CO _ (unhide B3)).mono ?_
 rintro e w4 ⟨rfl, hb⟩
 have B4 := hide (below_on (unhide B3) hb)
 have H4 := hide ((unhide H3).below hb)
 have R4 := hide ((unhide R3).below hb)
 have O4 := hide (show Blk w4 b _ 29 by have := (unhide O3).below hb; rw [unhide HBB] at this; exact this)
 have hz4 : b < w4.heap.size := (unhide O4).lt
 have hb2 : w.heap.size + 2 ≤ b := by have := unhide HBB; omega
 rw [unhide HBB]
 clear hb B3 H3 R3 O3 P3 a0 a1 a2 a3 a4 a5 a6 a7 CO
 cases o
 case false =>
  have c0 := (unhide R4).at 0; have c1 := (unhide R4).at 1; have c2 := (unhide R4).at 2; have c3 := (unhide R4).at 3; have c4 := (unhide R4).at 4; have c5 := (unhide R4).at 5; have c6 := (unhide R4).at 6; have c7 := (unhide R4).at 7
  have f0 := (unhide R4).f 0; have f1 := (unhide R4).f 1; have f2 := (unhide R4).f 2; have f3 := (unhide R4).f 3; have f4 := (unhide R4).f 4; have f5 := (unhide R4).f 5; have f6 := (unhide R4).f 6; have f7 := (unhide R4).f 7
  have a0 := (unhide O4).at 0; have a1 := (unhide O4).at 1; have a2 := (unhide O4).at 2; have a3 := (unhide O4).at 3; have a4 := (unhide O4).at 4; have a5 := (unhide O4).at 5; have a6 := (unhide O4).at 6; have a7 := (unhide O4).at 7
  simp at a0 a1 a2 a3 a4 a5 a6 a7 c0 c1 c2 c3 c4 c5 c6 c7
  go_wp2
  have R9 := hide (show Blk ((((((((w4.setCell ⟨w.heap.size + 1, 0, none⟩ (.slice yqa yql yqc)).setCell ⟨w.heap.size + 1, 1, none⟩ (.int .i64 clock)).setCell ⟨w.heap.size + 1, 2, none⟩ (.int .i64 epoch)).setCell ⟨w.heap.size + 1, 3, none⟩ (.int .i64 next)).setCell ⟨w.heap.size + 1, 4, none⟩ (.int .i64 serial)).setCell ⟨w.heap.size + 1, 5, none⟩ (.slice yaa yal yac)).setCell ⟨w.heap.size + 1, 6, none⟩ (.slice yma yml ymc)).setCell ⟨w.heap.size + 1, 7, none⟩ (.slice yca ycl ycc)) (w.heap.size + 1) #[.slice yqa yql yqc, .int .i64 clock, .int .i64 epoch, .int .i64 next, .int .i64 serial, .slice yaa yal yac, .slice yma yml ymc, .slice yca ycl ycc] 29 from (((((((((unhide R4).set 0 (.slice yqa yql yqc)).set 1 (.int .i64 clock)).set 2 (.int .i64 epoch)).set 3 (.int .i64 next)).set 4 (.int .i64 serial)).set 5 (.slice yaa yal yac)).set 6 (.slice yma yml ymc)).set 7 (.slice yca ycl ycc)))
  have H9 := hide (((((((((unhide H4).sc (k := w.heap.size + 1) (j := 0) (v := .slice yqa yql yqc) (by omega)).sc (k := w.heap.size + 1) (j := 1) (v := .int .i64 clock) (by omega)).sc (k := w.heap.size + 1) (j := 2) (v := .int .i64 epoch) (by omega)).sc (k := w.heap.size + 1) (j := 3) (v := .int .i64 next) (by omega)).sc (k := w.heap.size + 1) (j := 4) (v := .int .i64 serial) (by omega)).sc (k := w.heap.size + 1) (j := 5) (v := .slice yaa yal yac) (by omega)).sc (k := w.heap.size + 1) (j := 6) (v := .slice yma yml ymc) (by omega)).sc (k := w.heap.size + 1) (j := 7) (v := .slice yca ycl ycc) (by omega))
  have B9 := hide (below_sc (below_sc (below_sc (below_sc (below_sc (below_sc (below_sc (below_sc (unhide B4) (w.heap.size + 1) 0 (.slice yqa yql yqc) (by omega)) (w.heap.size + 1) 1 (.int .i64 clock) (by omega)) (w.heap.size + 1) 2 (.int .i64 epoch) (by omega)) (w.heap.size + 1) 3 (.int .i64 next) (by omega)) (w.heap.size + 1) 4 (.int .i64 serial) (by omega)) (w.heap.size + 1) 5 (.slice yaa yal yac) (by omega)) (w.heap.size + 1) 6 (.slice yma yml ymc) (by omega)) (w.heap.size + 1) 7 (.slice yca ycl ycc) (by omega))
  generalize ((((((((w4.setCell ⟨w.heap.size + 1, 0, none⟩ (.slice yqa yql yqc)).setCell ⟨w.heap.size + 1, 1, none⟩ (.int .i64 clock)).setCell ⟨w.heap.size + 1, 2, none⟩ (.int .i64 epoch)).setCell ⟨w.heap.size + 1, 3, none⟩ (.int .i64 next)).setCell ⟨w.heap.size + 1, 4, none⟩ (.int .i64 serial)).setCell ⟨w.heap.size + 1, 5, none⟩ (.slice yaa yal yac)).setCell ⟨w.heap.size + 1, 6, none⟩ (.slice yma yml ymc)).setCell ⟨w.heap.size + 1, 7, none⟩ (.slice yca ycl ycc)) = W9 at R9 H9 B9 ⊢
  have z0 := (unhide R9).at 0; have z1 := (unhide R9).at 1; have z2 := (unhide R9).at 2; have z3 := (unhide R9).at 3; have z4 := (unhide R9).at 4; have z5 := (unhide R9).at 5; have z6 := (unhide R9).at 6; have z7 := (unhide R9).at 7
  simp at z0 z1 z2 z3 z4 z5 z6 z7
  refine bodyPost_ret (v := .tuple #[.agg #[.slice yqa yql yqc, .int .i64 clock, .int .i64 epoch, .int .i64 next, .int .i64 serial, .slice yaa yal yac, .slice yma yml ymc, .slice yca ycl ycc], .slice none 0 0]) (by simp [results, Tryz.results40, go_sem, z0, z1, z2, z3, z4, z5, z6, z7]) rfl ?_
  rw [(unhide HV).2 (unhide HO)]
  exact ⟨⟨yqa, yql, yqc, yaa, yal, yac, yma, yml, ymc, yca, ycl, ycc⟩, hs, none, 0, 0, rfl, (unhide H9).ans.mono (by omega) (Nat.le_refl _), ⟨⟨rfl, .inl rfl⟩, .inl rfl⟩, fun k hk => absurd rfl hk.1, unhide B9⟩
 have hcl : ycl ≤ 1048576 := by have := (unhide H4).c.1.1; simp only at this; omega
 have hcp : yal ≤ 1048576 := by have h1 := (unhide H4).p.1.1; have h2 := (unhide H4).k.heads.1; simp only at h1 h2; omega
 have hcm : yml ≤ 1048576 := by have := (unhide H4).m.1.1; simp only at this; omega
 have CD := hide (lose_st nm b ⟨yqa, yql, yqc, yaa, yal, yac, yma, yml, ymc, yca, ycl, ycc⟩ ⟨qs, clock, epoch, next, serial, apps, ms, cs⟩ hs w4 (unhide O4) (unhide H4) (by omega) hcl (by first | exact hcp | exact hcm))
 simp only at CD
 clear hcl hcp hcm
 go_wp2_with fail
 refine (unhide CD).mono ?_
 rintro e w5 ⟨z, go, gn, gc, rfl, hk, hh, hg, hap, hm⟩
 obtain ⟨zqa, zql, zqc, zaa, zal, zac, zma, zml, zmc, zca, zcl, zcc⟩ := z
 have K5 := hide hk
 have H5 := hide hh
 have G5 := hide (hg.base (B' := w.heap.size + 2) (by omega))
 have AP := hide hap
 have R5 := hide (hm.blk1 (unhide R4) (by omega))
 have B5 := hide (show Below w.heap.size w w5 from (unhide B4).trans (hm.below (fun k (hk : k = b) => by omega) (by omega)))
 clear hk hh hg hap hm CD
 have c0 := (unhide R5).at 0; have c1 := (unhide R5).at 1; have c2 := (unhide R5).at 2; have c3 := (unhide R5).at 3; have c4 := (unhide R5).at 4; have c5 := (unhide R5).at 5; have c6 := (unhide R5).at 6; have c7 := (unhide R5).at 7
 have f0 := (unhide R5).f 0; have f1 := (unhide R5).f 1; have f2 := (unhide R5).f 2; have f3 := (unhide R5).f 3; have f4 := (unhide R5).f 4; have f5 := (unhide R5).f 5; have f6 := (unhide R5).f 6; have f7 := (unhide R5).f 7
 have a0 := (unhide K5).at 0; have a1 := (unhide K5).at 1; have a2 := (unhide K5).at 2; have a3 := (unhide K5).at 3; have a4 := (unhide K5).at 4; have a5 := (unhide K5).at 5; have a6 := (unhide K5).at 6; have a7 := (unhide K5).at 7
 simp at a0 a1 a2 a3 a4 a5 a6 a7 c0 c1 c2 c3 c4 c5 c6 c7
 go_wp2
 have R9 := hide (show Blk ((((((((w5.setCell ⟨w.heap.size + 1, 0, none⟩ (.slice zqa zql zqc)).setCell ⟨w.heap.size + 1, 1, none⟩ (.int .i64 clock)).setCell ⟨w.heap.size + 1, 2, none⟩ (.int .i64 epoch)).setCell ⟨w.heap.size + 1, 3, none⟩ (.int .i64 next)).setCell ⟨w.heap.size + 1, 4, none⟩ (.int .i64 serial)).setCell ⟨w.heap.size + 1, 5, none⟩ (.slice zaa zal zac)).setCell ⟨w.heap.size + 1, 6, none⟩ (.slice zma zml zmc)).setCell ⟨w.heap.size + 1, 7, none⟩ (.slice zca zcl zcc)) (w.heap.size + 1) #[.slice zqa zql zqc, .int .i64 clock, .int .i64 epoch, .int .i64 next, .int .i64 serial, .slice zaa zal zac, .slice zma zml zmc, .slice zca zcl zcc] 29 from (((((((((unhide R5).set 0 (.slice zqa zql zqc)).set 1 (.int .i64 clock)).set 2 (.int .i64 epoch)).set 3 (.int .i64 next)).set 4 (.int .i64 serial)).set 5 (.slice zaa zal zac)).set 6 (.slice zma zml zmc)).set 7 (.slice zca zcl zcc)))
 have H9 := hide (((((((((unhide H5).sc (k := w.heap.size + 1) (j := 0) (v := .slice zqa zql zqc) (by omega)).sc (k := w.heap.size + 1) (j := 1) (v := .int .i64 clock) (by omega)).sc (k := w.heap.size + 1) (j := 2) (v := .int .i64 epoch) (by omega)).sc (k := w.heap.size + 1) (j := 3) (v := .int .i64 next) (by omega)).sc (k := w.heap.size + 1) (j := 4) (v := .int .i64 serial) (by omega)).sc (k := w.heap.size + 1) (j := 5) (v := .slice zaa zal zac) (by omega)).sc (k := w.heap.size + 1) (j := 6) (v := .slice zma zml zmc) (by omega)).sc (k := w.heap.size + 1) (j := 7) (v := .slice zca zcl zcc) (by omega))
 have G9 := hide (((((((((unhide G5).sc (k := w.heap.size + 1) (j := 0) (v := .slice zqa zql zqc) (by omega)).sc (k := w.heap.size + 1) (j := 1) (v := .int .i64 clock) (by omega)).sc (k := w.heap.size + 1) (j := 2) (v := .int .i64 epoch) (by omega)).sc (k := w.heap.size + 1) (j := 3) (v := .int .i64 next) (by omega)).sc (k := w.heap.size + 1) (j := 4) (v := .int .i64 serial) (by omega)).sc (k := w.heap.size + 1) (j := 5) (v := .slice zaa zal zac) (by omega)).sc (k := w.heap.size + 1) (j := 6) (v := .slice zma zml zmc) (by omega)).sc (k := w.heap.size + 1) (j := 7) (v := .slice zca zcl zcc) (by omega))
 have B9 := hide (below_sc (below_sc (below_sc (below_sc (below_sc (below_sc (below_sc (below_sc (unhide B5) (w.heap.size + 1) 0 (.slice zqa zql zqc) (by omega)) (w.heap.size + 1) 1 (.int .i64 clock) (by omega)) (w.heap.size + 1) 2 (.int .i64 epoch) (by omega)) (w.heap.size + 1) 3 (.int .i64 next) (by omega)) (w.heap.size + 1) 4 (.int .i64 serial) (by omega)) (w.heap.size + 1) 5 (.slice zaa zal zac) (by omega)) (w.heap.size + 1) 6 (.slice zma zml zmc) (by omega)) (w.heap.size + 1) 7 (.slice zca zcl zcc) (by omega))
 generalize ((((((((w5.setCell ⟨w.heap.size + 1, 0, none⟩ (.slice zqa zql zqc)).setCell ⟨w.heap.size + 1, 1, none⟩ (.int .i64 clock)).setCell ⟨w.heap.size + 1, 2, none⟩ (.int .i64 epoch)).setCell ⟨w.heap.size + 1, 3, none⟩ (.int .i64 next)).setCell ⟨w.heap.size + 1, 4, none⟩ (.int .i64 serial)).setCell ⟨w.heap.size + 1, 5, none⟩ (.slice zaa zal zac)).setCell ⟨w.heap.size + 1, 6, none⟩ (.slice zma zml zmc)).setCell ⟨w.heap.size + 1, 7, none⟩ (.slice zca zcl zcc)) = W9 at R9 H9 G9 B9 ⊢
 have z0 := (unhide R9).at 0; have z1 := (unhide R9).at 1; have z2 := (unhide R9).at 2; have z3 := (unhide R9).at 3; have z4 := (unhide R9).at 4; have z5 := (unhide R9).at 5; have z6 := (unhide R9).at 6; have z7 := (unhide R9).at 7
 simp at z0 z1 z2 z3 z4 z5 z6 z7
 refine bodyPost_ret (v := .tuple #[.agg #[.slice zqa zql zqc, .int .i64 clock, .int .i64 epoch, .int .i64 next, .int .i64 serial, .slice zaa zal zac, .slice zma zml zmc, .slice zca zcl zcc], .slice go gn gc]) (by simp [results, Tryz.results40, go_sem, z0, z1, z2, z3, z4, z5, z6, z7]) rfl ?_
 rw [(unhide HV).1 (unhide HO)]
 exact ⟨⟨zqa, zql, zqc, zaa, zal, zac, zma, zml, zmc, zca, zcl, zcc⟩, _, go, gn, gc, rfl, (unhide H9).ans.mono (by omega) (Nat.le_refl _), (unhide G9).base (by omega), unhide AP, unhide B9⟩
end Go.Proofs.YtbkchepelhkjlaaGreat
