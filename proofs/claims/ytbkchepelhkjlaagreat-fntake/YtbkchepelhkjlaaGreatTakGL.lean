/-
 What the model's Lose answers: the state that is left, in memory of its own, and what is gone; a walk over the dump.
-/
import Derived.Test.YtbkchepelhkjlaaGreatPackW
import Derived.Deep.CutBlock
import Derived.Deep.CutRange
namespace Go.Proofs.YtbkchepelhkjlaaGreat
open Go.RowKit
set_option linter.unusedVariables false
set_option linter.unusedSimpArgs false
set_option maxRecDepth 100000 in
set_option maxHeartbeats 16000000 in
theorem specLose_any (x : Sls) (s : St) (hs0 : List AV) (nm : List UInt8) (w : World) (h : SRow w x s) (hav : AVRow w x.aa x.al hs0) (hhd : Heads w hs0 s.apps) (hss : SSome x hs0) (hf : FitSt s) :
  Calls Tryz.prog 41 #[sv x s, .string (bs nm)] w (StAns w (loseV s nm).1 (loseV s nm).2) := by
 have hlc : x.cl ≤ 1048576 := by have := hf.2.2.2.1; have := h.2.2.2.1; omega
 have hla : x.al ≤ 1048576 := by have := hf.2.1.1; have := h.2.1.1; omega
 have hlm : x.ml ≤ 1048576 := by have := hf.2.2.1.1; have := h.2.2.1.1; omega
 have hlms : s.ms.length ≤ 1048576 := hf.2.2.1.1
 have hlap : s.apps.length ≤ 1048576 := hf.2.1.1
 obtain ⟨o, ho⟩ : ∃ o, stateOkV s = o := ⟨_, rfl⟩
 have HO := hide ho
 have HV := hide (loseV_eq s nm)
 have hb0 := below_al (below_al (Below.refl _ w) (.cells (svc x s) 29)) (.cells #[.slice none 0 0, .int .i64 0, .int .i64 0, .int .i64 0, .int .i64 0, .slice none 0 0, .slice none 0 0, .slice none 0 0] 29)
 have P3 := hide ((blk_new w (svc x s) 29).al (.cells #[.slice none 0 0, .int .i64 0, .int .i64 0, .int .i64 0, .int .i64 0, .slice none 0 0, .slice none 0 0, .slice none 0 0] 29))
 have R3 := hide (show Blk _ (w.heap.size + 1) #[.slice none 0 0, .int .i64 0, .int .i64 0, .int .i64 0, .int .i64 0, .slice none 0 0, .slice none 0 0, .slice none 0 0] 29 by have := blk_new (w.alloc (.cells (svc x s) 29)) #[.slice none 0 0, .int .i64 0, .int .i64 0, .int .i64 0, .int .i64 0, .slice none 0 0, .slice none 0 0, .slice none 0 0] 29; rwa [al_size] at this)
 have B3 := hide hb0
 have CL := hide (fun wx (hb : Below w.heap.size w wx) => l04Copy_any x s hs0 wx (h.below hb) (hav.below hb) (hhd.below hb) hss hf)
 have CO := hide (fun wx (hb : Below w.heap.size w wx) => by have := specStateOk_any x s wx (h.below hb) hf; rw [ho] at this; exact this)
 obtain ⟨fi, hfi⟩ : ∃ i, macAt s.ms nm = i := ⟨_, rfl⟩
 have HFI := hide hfi
 have CA := hide (fun wx (hb : Below w.heap.size w wx) => by have := l04Machine_any x s nm wx (h.2.2.1.below hb) hlm; rw [hfi] at this; exact this)
 have HTI := hide (fun (ho : stateOkV s = true) => take_ids ho (fun q => decide (q.node = nm)))
 have CT := hide (fun wx (io : Option Addr) (il ic : Nat) (hb : Below w.heap.size w wx) (hi : IRow wx io il (idsOf (fun q => decide (q.node = nm)) s.cs)) (hil : il ≤ 1048576) => specTakeBack_any x s hs0 io il ic (idsOf (fun q => decide (q.node = nm)) s.cs) wx (h.below hb) (hav.below hb) (hhd.below hb) hss hf hi hil)
 have HSM := hide (fun (ho : stateOkV s = true) (j : Nat) (e : macAt s.ms nm = (j : Int)) => lose_some ho e)
 have HNO := hide (fun (ho : stateOkV s = true) (e : macAt s.ms nm < 0) => lose_none ho e)
 obtain ⟨qa, ql, qc, aa, al, ac, ma, ml, mc, ca, cl, cc⟩ := x
 obtain ⟨qs, clock, epoch, next, serial, apps, ms, cs⟩ := s
 simp only at *
 have RC := hide (show ConRow w ca cl cs from h.2.2.2)
 have HLC := hide (show cl = cs.length from h.2.2.2.1)
 clear h hb0 hf ho hav hhd hss hfi
 go_enter Tryz.func41, Tryz.ntmps41
 have a0 := (unhide P3).at 0; have a1 := (unhide P3).at 1; have a2 := (unhide P3).at 2; have a3 := (unhide P3).at 3; have a4 := (unhide P3).at 4; have a5 := (unhide P3).at 5; have a6 := (unhide P3).at 6; have a7 := (unhide P3).at 7
 simp at a0 a1 a2 a3 a4 a5 a6 a7
 go_wp2_with fail
 refine (unhide CA _ (unhide B3)).mono ?_
 rintro e w3a ⟨rfl, hb⟩
 have B3a := hide (below_on (unhide B3) hb)
 have P3a := hide ((unhide P3).below hb)
 have R3a := hide ((unhide R3).below hb)
 clear hb B3 P3 R3 a0 a1 a2 a3 a4 a5 a6 a7

 have a0 := (unhide P3a).at 0; have a1 := (unhide P3a).at 1; have a2 := (unhide P3a).at 2; have a3 := (unhide P3a).at 3; have a4 := (unhide P3a).at 4; have a5 := (unhide P3a).at 5; have a6 := (unhide P3a).at 6; have a7 := (unhide P3a).at 7
 simp at a0 a1 a2 a3 a4 a5 a6 a7
 go_wp2_with fail
 refine (unhide CO _ (unhide B3a)).mono ?_
 rintro e w4a ⟨rfl, hb⟩
 have B4a := hide (below_on (unhide B3a) hb)
 have P4a := hide ((unhide P3a).below hb)
 have R4a := hide ((unhide R3a).below hb)
 clear hb B3a P3a R3a a0 a1 a2 a3 a4 a5 a6 a7 CO
 cases o
 case false =>
  have B4 := B4a
  have P4 := P4a
  have R4 := R4a
  clear B4a P4a R4a
  have a0 := (unhide P4).at 0; have a1 := (unhide P4).at 1; have a2 := (unhide P4).at 2; have a3 := (unhide P4).at 3; have a4 := (unhide P4).at 4; have a5 := (unhide P4).at 5; have a6 := (unhide P4).at 6; have a7 := (unhide P4).at 7
  simp at a0 a1 a2 a3 a4 a5 a6 a7
  go_wp2_with fail
  refine (unhide CL _ (unhide B4)).mono ?_
  rintro e w5 ⟨y, hs, rfl, ha, hb⟩
  obtain ⟨yqa, yql, yqc, yaa, yal, yac, yma, yml, ymc, yca, ycl, ycc⟩ := y
  have b5 := below_al hb (.cells #[] 70)
  have hz4 : w.heap.size + 2 ≤ w4a.heap.size := by have := (unhide R4).lt; omega
  have H5 := hide (((ha.has (Nat.le_refl _)).base hz4).below (below_al (Below.refl _ w5) (.cells #[] 70)))
  have R5 := hide (((unhide R4).below hb).al (.cells #[] 70))
  have B5 := hide (below_on (unhide B4) b5)
  obtain ⟨g5, hg5⟩ : ∃ g, w5.heap.size = g := ⟨_, rfl⟩
  have HG5 := hide hg5
  clear ha hb b5 a0 a1 a2 a3 a4 a5 a6 a7 CL hg5
  have c0 := (unhide R5).at 0; have c1 := (unhide R5).at 1; have c2 := (unhide R5).at 2; have c3 := (unhide R5).at 3; have c4 := (unhide R5).at 4; have c5 := (unhide R5).at 5; have c6 := (unhide R5).at 6; have c7 := (unhide R5).at 7
  have f0 := (unhide R5).f 0; have f1 := (unhide R5).f 1; have f2 := (unhide R5).f 2; have f3 := (unhide R5).f 3; have f4 := (unhide R5).f 4; have f5 := (unhide R5).f 5; have f6 := (unhide R5).f 6; have f7 := (unhide R5).f 7
  simp at c0 c1 c2 c3 c4 c5 c6 c7
  obtain ⟨w5a, hw5a⟩ : ∃ w', w5.alloc (.cells #[] 70) = w' := ⟨_, rfl⟩
  rw [hw5a] at H5 R5 B5 c0 c1 c2 c3 c4 c5 c6 c7 f0 f1 f2 f3 f4 f5 f6 f7
  go_wp2
  have RR := hide (show Blk ((((((((w5a.setCell ⟨w.heap.size + 1, 0, none⟩ (.slice yqa yql yqc)).setCell ⟨w.heap.size + 1, 1, none⟩ (.int .i64 clock)).setCell ⟨w.heap.size + 1, 2, none⟩ (.int .i64 epoch)).setCell ⟨w.heap.size + 1, 3, none⟩ (.int .i64 next)).setCell ⟨w.heap.size + 1, 4, none⟩ (.int .i64 serial)).setCell ⟨w.heap.size + 1, 5, none⟩ (.slice yaa yal yac)).setCell ⟨w.heap.size + 1, 6, none⟩ (.slice yma yml ymc)).setCell ⟨w.heap.size + 1, 7, none⟩ (.slice yca ycl ycc)) (w.heap.size + 1) #[.slice yqa yql yqc, .int .i64 clock, .int .i64 epoch, .int .i64 next, .int .i64 serial, .slice yaa yal yac, .slice yma yml ymc, .slice yca ycl ycc] 29 from (((((((((unhide R5).set 0 (.slice yqa yql yqc)).set 1 (.int .i64 clock)).set 2 (.int .i64 epoch)).set 3 (.int .i64 next)).set 4 (.int .i64 serial)).set 5 (.slice yaa yal yac)).set 6 (.slice yma yml ymc)).set 7 (.slice yca ycl ycc)))
  have H9 := hide (((((((((unhide H5).sc (k := w.heap.size + 1) (j := 0) (v := .slice yqa yql yqc) (by omega)).sc (k := w.heap.size + 1) (j := 1) (v := .int .i64 clock) (by omega)).sc (k := w.heap.size + 1) (j := 2) (v := .int .i64 epoch) (by omega)).sc (k := w.heap.size + 1) (j := 3) (v := .int .i64 next) (by omega)).sc (k := w.heap.size + 1) (j := 4) (v := .int .i64 serial) (by omega)).sc (k := w.heap.size + 1) (j := 5) (v := .slice yaa yal yac) (by omega)).sc (k := w.heap.size + 1) (j := 6) (v := .slice yma yml ymc) (by omega)).sc (k := w.heap.size + 1) (j := 7) (v := .slice yca ycl ycc) (by omega))
  have B9 := hide (below_sc (below_sc (below_sc (below_sc (below_sc (below_sc (below_sc (below_sc (unhide B5) (w.heap.size + 1) 0 (.slice yqa yql yqc) (by omega)) (w.heap.size + 1) 1 (.int .i64 clock) (by omega)) (w.heap.size + 1) 2 (.int .i64 epoch) (by omega)) (w.heap.size + 1) 3 (.int .i64 next) (by omega)) (w.heap.size + 1) 4 (.int .i64 serial) (by omega)) (w.heap.size + 1) 5 (.slice yaa yal yac) (by omega)) (w.heap.size + 1) 6 (.slice yma yml ymc) (by omega)) (w.heap.size + 1) 7 (.slice yca ycl ycc) (by omega))
  generalize ((((((((w5a.setCell ⟨w.heap.size + 1, 0, none⟩ (.slice yqa yql yqc)).setCell ⟨w.heap.size + 1, 1, none⟩ (.int .i64 clock)).setCell ⟨w.heap.size + 1, 2, none⟩ (.int .i64 epoch)).setCell ⟨w.heap.size + 1, 3, none⟩ (.int .i64 next)).setCell ⟨w.heap.size + 1, 4, none⟩ (.int .i64 serial)).setCell ⟨w.heap.size + 1, 5, none⟩ (.slice yaa yal yac)).setCell ⟨w.heap.size + 1, 6, none⟩ (.slice yma yml ymc)).setCell ⟨w.heap.size + 1, 7, none⟩ (.slice yca ycl ycc)) = W9 at RR H9 B9 ⊢
  have z0 := (unhide RR).at 0; have z1 := (unhide RR).at 1; have z2 := (unhide RR).at 2; have z3 := (unhide RR).at 3; have z4 := (unhide RR).at 4; have z5 := (unhide RR).at 5; have z6 := (unhide RR).at 6; have z7 := (unhide RR).at 7
  simp at z0 z1 z2 z3 z4 z5 z6 z7
  refine bodyPost_ret (v := .tuple #[.agg #[.slice yqa yql yqc, .int .i64 clock, .int .i64 epoch, .int .i64 next, .int .i64 serial, .slice yaa yal yac, .slice yma yml ymc, .slice yca ycl ycc], .slice (some ⟨w5.heap.size, 0, none⟩) 0 0]) (by simp [results, Tryz.results41, go_sem, z0, z1, z2, z3, z4, z5, z6, z7]) rfl ?_
  rw [(unhide HV).2 (unhide HO)]
  exact ⟨⟨yqa, yql, yqc, yaa, yal, yac, yma, yml, ymc, yca, ycl, ycc⟩, hs, some ⟨w5.heap.size, 0, none⟩, 0, 0, rfl, (unhide H9).ans.mono (by omega) (Nat.le_refl _), ⟨⟨rfl, .inl rfl⟩, .inl rfl⟩, fun k hk => absurd rfl hk.1, unhide B9⟩
 have B4 := B4a
 have P4 := P4a
 have R4 := R4a
 clear B4a P4a R4a

 by_cases hfn : fi < 0
 ·have HFN := hide (show macAt ms nm < 0 by rw [unhide HFI]; exact hfn)
  have a0 := (unhide P4).at 0; have a1 := (unhide P4).at 1; have a2 := (unhide P4).at 2; have a3 := (unhide P4).at 3; have a4 := (unhide P4).at 4; have a5 := (unhide P4).at 5; have a6 := (unhide P4).at 6; have a7 := (unhide P4).at 7
  simp at a0 a1 a2 a3 a4 a5 a6 a7
  go_wp2_with fail
  refine (unhide CL _ (unhide B4)).mono ?_
  rintro e w5 ⟨y, hs, rfl, ha, hb⟩
  obtain ⟨yqa, yql, yqc, yaa, yal, yac, yma, yml, ymc, yca, ycl, ycc⟩ := y
  have b5 := below_al hb (.cells #[] 70)
  have hz4 : w.heap.size + 2 ≤ w4a.heap.size := by have := (unhide R4).lt; omega
  have H5 := hide (((ha.has (Nat.le_refl _)).base hz4).below (below_al (Below.refl _ w5) (.cells #[] 70)))
  have R5 := hide (((unhide R4).below hb).al (.cells #[] 70))
  have B5 := hide (below_on (unhide B4) b5)
  obtain ⟨g5, hg5⟩ : ∃ g, w5.heap.size = g := ⟨_, rfl⟩
  have HG5 := hide hg5
  clear ha hb b5 a0 a1 a2 a3 a4 a5 a6 a7 CL hg5
  have c0 := (unhide R5).at 0; have c1 := (unhide R5).at 1; have c2 := (unhide R5).at 2; have c3 := (unhide R5).at 3; have c4 := (unhide R5).at 4; have c5 := (unhide R5).at 5; have c6 := (unhide R5).at 6; have c7 := (unhide R5).at 7
  have f0 := (unhide R5).f 0; have f1 := (unhide R5).f 1; have f2 := (unhide R5).f 2; have f3 := (unhide R5).f 3; have f4 := (unhide R5).f 4; have f5 := (unhide R5).f 5; have f6 := (unhide R5).f 6; have f7 := (unhide R5).f 7
  simp at c0 c1 c2 c3 c4 c5 c6 c7
  obtain ⟨w5a, hw5a⟩ : ∃ w', w5.alloc (.cells #[] 70) = w' := ⟨_, rfl⟩
  rw [hw5a] at H5 R5 B5 c0 c1 c2 c3 c4 c5 c6 c7 f0 f1 f2 f3 f4 f5 f6 f7
  go_wp2
  have RR := hide (show Blk ((((((((w5a.setCell ⟨w.heap.size + 1, 0, none⟩ (.slice yqa yql yqc)).setCell ⟨w.heap.size + 1, 1, none⟩ (.int .i64 clock)).setCell ⟨w.heap.size + 1, 2, none⟩ (.int .i64 epoch)).setCell ⟨w.heap.size + 1, 3, none⟩ (.int .i64 next)).setCell ⟨w.heap.size + 1, 4, none⟩ (.int .i64 serial)).setCell ⟨w.heap.size + 1, 5, none⟩ (.slice yaa yal yac)).setCell ⟨w.heap.size + 1, 6, none⟩ (.slice yma yml ymc)).setCell ⟨w.heap.size + 1, 7, none⟩ (.slice yca ycl ycc)) (w.heap.size + 1) #[.slice yqa yql yqc, .int .i64 clock, .int .i64 epoch, .int .i64 next, .int .i64 serial, .slice yaa yal yac, .slice yma yml ymc, .slice yca ycl ycc] 29 from (((((((((unhide R5).set 0 (.slice yqa yql yqc)).set 1 (.int .i64 clock)).set 2 (.int .i64 epoch)).set 3 (.int .i64 next)).set 4 (.int .i64 serial)).set 5 (.slice yaa yal yac)).set 6 (.slice yma yml ymc)).set 7 (.slice yca ycl ycc)))
  have H9 := hide (((((((((unhide H5).sc (k := w.heap.size + 1) (j := 0) (v := .slice yqa yql yqc) (by omega)).sc (k := w.heap.size + 1) (j := 1) (v := .int .i64 clock) (by omega)).sc (k := w.heap.size + 1) (j := 2) (v := .int .i64 epoch) (by omega)).sc (k := w.heap.size + 1) (j := 3) (v := .int .i64 next) (by omega)).sc (k := w.heap.size + 1) (j := 4) (v := .int .i64 serial) (by omega)).sc (k := w.heap.size + 1) (j := 5) (v := .slice yaa yal yac) (by omega)).sc (k := w.heap.size + 1) (j := 6) (v := .slice yma yml ymc) (by omega)).sc (k := w.heap.size + 1) (j := 7) (v := .slice yca ycl ycc) (by omega))
  have B9 := hide (below_sc (below_sc (below_sc (below_sc (below_sc (below_sc (below_sc (below_sc (unhide B5) (w.heap.size + 1) 0 (.slice yqa yql yqc) (by omega)) (w.heap.size + 1) 1 (.int .i64 clock) (by omega)) (w.heap.size + 1) 2 (.int .i64 epoch) (by omega)) (w.heap.size + 1) 3 (.int .i64 next) (by omega)) (w.heap.size + 1) 4 (.int .i64 serial) (by omega)) (w.heap.size + 1) 5 (.slice yaa yal yac) (by omega)) (w.heap.size + 1) 6 (.slice yma yml ymc) (by omega)) (w.heap.size + 1) 7 (.slice yca ycl ycc) (by omega))
  generalize ((((((((w5a.setCell ⟨w.heap.size + 1, 0, none⟩ (.slice yqa yql yqc)).setCell ⟨w.heap.size + 1, 1, none⟩ (.int .i64 clock)).setCell ⟨w.heap.size + 1, 2, none⟩ (.int .i64 epoch)).setCell ⟨w.heap.size + 1, 3, none⟩ (.int .i64 next)).setCell ⟨w.heap.size + 1, 4, none⟩ (.int .i64 serial)).setCell ⟨w.heap.size + 1, 5, none⟩ (.slice yaa yal yac)).setCell ⟨w.heap.size + 1, 6, none⟩ (.slice yma yml ymc)).setCell ⟨w.heap.size + 1, 7, none⟩ (.slice yca ycl ycc)) = W9 at RR H9 B9 ⊢
  have z0 := (unhide RR).at 0; have z1 := (unhide RR).at 1; have z2 := (unhide RR).at 2; have z3 := (unhide RR).at 3; have z4 := (unhide RR).at 4; have z5 := (unhide RR).at 5; have z6 := (unhide RR).at 6; have z7 := (unhide RR).at 7
  simp at z0 z1 z2 z3 z4 z5 z6 z7
  refine bodyPost_ret (v := .tuple #[.agg #[.slice yqa yql yqc, .int .i64 clock, .int .i64 epoch, .int .i64 next, .int .i64 serial, .slice yaa yal yac, .slice yma yml ymc, .slice yca ycl ycc], .slice (some ⟨w5.heap.size, 0, none⟩) 0 0]) (by simp [results, Tryz.results41, go_sem, z0, z1, z2, z3, z4, z5, z6, z7]) rfl ?_
  rw [lose_none (unhide HO) (unhide HFN)]
  exact ⟨⟨yqa, yql, yqc, yaa, yal, yac, yma, yml, ymc, yca, ycl, ycc⟩, hs, some ⟨w5.heap.size, 0, none⟩, 0, 0, rfl, (unhide H9).ans.mono (by omega) (Nat.le_refl _), ⟨⟨rfl, .inl rfl⟩, .inl rfl⟩, fun k hk => absurd rfl hk.1, unhide B9⟩
 obtain ⟨j, rfl⟩ := Int.eq_ofNat_of_zero_le (show 0 ≤ fi by omega)
 obtain ⟨hjl, hdr⟩ := unhide HSM (unhide HO) j (unhide HFI)
 have HJL := hide hjl
 have HDR := hide hdr
 try simp only at HJL HDR
 have HT := hide (unhide HTI (unhide HO))
 try simp only at HT
 clear hjl hdr HSM HNO HTI CL HV
 have hb1 := below_al (Below.refl _ w4a) (.cells #[] 3)
 have L5 := hide (iown_empty w4a)
 have P5 := hide ((unhide P4).below hb1)
 have R5 := hide ((unhide R4).below hb1)
 have B5 := hide (below_on (unhide B4) hb1)
 have hz4 : w.heap.size + 2 ≤ w4a.heap.size := by have := (unhide R4).lt; omega
 obtain ⟨b, hbb⟩ : ∃ b, w4a.heap.size = b := ⟨_, rfl⟩
 have HBB := hide hbb
 rw [hbb] at L5 hz4
 have hjn0 : ¬ ((j : Int) < 0) := by omega
 clear hb1 P4 R4 B4 hbb hfn
 go_upto_region 5 with fail
 rw [unhide HBB]
 have hz5 : b < (w4a.alloc (.cells #[] 3)).heap.size := by rw [al_size, unhide HBB]; omega
 generalize w4a.alloc (.cells #[] 3) = w5 at L5 P5 R5 B5 hz5 ⊢
 go_wp2
 go_loopw [7, 8] (fun v i wr => ∃ (k : Nat), k ≤ cl ∧ i = .int .i64 k ∧ Hid (IOwn b wr v (idsOf (fun q => decide (q.node = nm)) (cs.take k))) ∧ Hid (Blk wr w.heap.size #[.slice qa ql qc, .int .i64 clock, .int .i64 epoch, .int .i64 next, .int .i64 serial, .slice aa al ac, .slice ma ml mc, .slice ca cl cc] 29 ∧ Blk wr (w.heap.size + 1) #[.slice none 0 0, .int .i64 0, .int .i64 0, .int .i64 0, .int .i64 0, .slice none 0 0, .slice none 0 0, .slice none 0 0] 29) ∧ Hid (Below w.heap.size w wr) ∧ b < wr.heap.size) (fun _ i _ => cl - (intOf i).toNat)
 case atStart => exact ⟨0, Nat.zero_le _, rfl, hide (by simpa [idsOf] using unhide L5), hide ⟨unhide P5, unhide R5⟩, B5, hz5⟩
 case round =>
  clear L5 P5 R5 B5 hz5
  obtain ⟨k, hk, rfl, HI, HBK, HB, hzr⟩ := hrel
  have p7 := (unhide HBK).1.at 7
  simp at p7
  by_cases hlt : k < cl
  ·obtain ⟨b', off, rfl, hq⟩ := ((unhide RC).below (unhide HB)).at hlt
   have hkl : k < cs.length := by have := unhide HLC; omega
   obtain ⟨c0, c1, c2, c3, c4⟩ := hq hkl
   have htk : cs.take (k + 1) = cs.take k ++ [cs[k]] := List.take_succ_eq_append_getElem hkl
   obtain ⟨q, hqe⟩ : ∃ q, cs[k] = q := ⟨_, rfl⟩
   rw [hqe] at c0 c1 c2 c3 c4 htk
   obtain ⟨id, ap, nd, me, cp⟩ := q
   simp only at c0 c1 c2 c3 c4
   have hst : idsOf (fun q => decide (q.node = nm)) (cs.take (k + 1)) = idsOf (fun q => decide (q.node = nm)) (cs.take k) ++ (if decide (nd = nm) = true then [id] else []) := by
    rw [htk, idsOf, idsOf, List.filter_append, List.map_append]
    cases hc : decide (nd = nm) <;> simp [hc]
   have hll : (idsOf (fun q => decide (q.node = nm)) (cs.take k)).length ≤ 1048576 := by
    rw [idsOf, List.length_map]
    have := List.length_filter_le (fun q => decide (q.node = nm)) (cs.take k)
    rw [List.length_take] at this
    omega
   obtain ⟨IL, hIL⟩ : ∃ l, idsOf (fun q => decide (q.node = nm)) (cs.take k) = l := ⟨_, rfl⟩
   rw [hIL] at HI hst hll
   have j0 : (0 : Int) ≤ k := by omega
   have j1 : (k : Int) < cl := by omega
   clear hq hqe hkl htk hIL
   have hbe := bs_eq nd nm
   cases hpq : decide (nd = nm) with
   | true =>
    rw [hpq, if_pos rfl] at hst
    have HST := hide hst
    rw [hpq] at hbe
    clear hpq hst
    obtain ⟨i0, hi, hz0, hz1, hz2⟩ := info_parts Tryz.infoI
    have hown := unhide HI
    unfold IOwn at hown
    have HOW := hide hown
    go_wp2_with (at_builtin; refine wpList_append_own _ rfl _ _ 60 rfl b 3 i0 (.int .i64 0) 1 8 Tryz.underlying60 hi hz0 hz1 hz2 rfl (by decide) _ _ _ rfl (hown.alloc _) ⟨wr.heap.size, 0, none⟩ 1 1 [.int .i64 id] rfl rfl ?c1 ?c2 ?c3 ?c4 ?c5 ?_)
    case c1 => exact World.news_of_block (blk_new wr #[.int .i64 id] 3)
    case c2 => intro u hu; simp at hu; subst hu; rfl
    case c3 => unfold maxLen; omega
    case c4 => omega
    case c5 => simp; omega
    intro v' w3 hown' hgrow _
    have hbx := below_al (Below.refl _ wr) (.cells #[.int .i64 id] 3)
    have hrow : ∀ k, _ = some k → b ≤ k ∧ ∃ N, Cel (wr.alloc (.cells #[.int .i64 id] 3)) 3 k N := fun k e => by
     obtain ⟨N, hc⟩ := owns_cel (unhide HOW) k e
     exact ⟨(World.ownsRow.lt (unhide HOW) k e).1, N, hc.below hbx⟩
    have N1 := hide (show IOwn b w3 v' (IL ++ [id]) by
     unfold IOwn
     rw [List.length_append, icells, List.map_append]
     exact hown')
    have N2 := hide (show Blk w3 w.heap.size _ 29 ∧ Blk w3 (w.heap.size + 1) #[.slice none 0 0, .int .i64 0, .int .i64 0, .int .i64 0, .int .i64 0, .slice none 0 0, .slice none 0 0, .slice none 0 0] 29 from ⟨((unhide HBK).1.below hbx).grown hgrow (fun k e => (hrow k e).2) (by decide), ((unhide HBK).2.below hbx).grown hgrow (fun k e => (hrow k e).2) (by decide)⟩)
    have N3 := hide (show Below w.heap.size w w3 from (below_on (unhide HB) hbx).grown hgrow (by have := (unhide HB).size; simp; omega) (fun k e => by have := (hrow k e).1; omega))
    have N4 := hide (show b < w3.heap.size by have h1 := hbx.size; have h2 := hgrow.size; omega)
    clear hown hown' hgrow hbx hrow c0 c1 c2 c3 c4 HBK HB HI
    go_wp2
    go_roundw
    case rel => exact ⟨k + 1, by omega, by go_num, hide (by rw [unhide HST]; exact unhide N1), N2, N3, by have := (unhide N3).size; have := unhide N4; omega⟩
    case measure => simp [intOf]; omega
   | false =>
    rw [hpq, if_neg (by simp), List.append_nil] at hst
    have HST := hide hst
    rw [hpq] at hbe
    clear hpq hst
    go_wp2
    go_roundw
    case rel => exact ⟨k + 1, by omega, by go_num, hide (by rw [unhide HST]; exact unhide HI), HBK, HB, hzr⟩
    case measure => simp [intOf]; omega
  ·obtain rfl : k = cl := by omega
   have htk : cs.take k = cs := List.take_of_length_le (by have := unhide HLC; omega)
   rw [htk] at HI
   obtain ⟨io, ic, rfl, hir⟩ := iown_row (unhide HI)
   have hil2 : (idsOf (fun q => decide (q.node = nm)) cs).length ≤ 1048576 := by
    rw [idsOf, List.length_map]
    have := List.length_filter_le (fun q => decide (q.node = nm)) cs
    have := unhide HLC
    omega
   have ct := unhide CT wr io _ ic (unhide HB) hir hil2
   rw [unhide HT] at ct
   simp only at ct
   have hdr := unhide HDR
   rw [unhide HT] at hdr
   simp only at hdr
   obtain ⟨il, hil⟩ : ∃ n, (idsOf (fun q => decide (q.node = nm)) cs).length = n := ⟨_, rfl⟩
   obtain ⟨CF, hCF⟩ : ∃ l, cs.filter (fun q => !(fun q => decide (q.node = nm)) q) = l := ⟨_, rfl⟩
   obtain ⟨CG, hCG⟩ : ∃ l, cs.filter (fun q => decide (q.node = nm)) = l := ⟨_, rfl⟩
   simp only at hCF
   rw [hCF, hCG] at ct hdr
   rw [hil] at ct ⊢
   have CTT := hide ct
   have HDR2 := hide hdr
   have j1 : ¬ (k : Int) < k := by omega
   have hzr2 : w.heap.size + 2 ≤ wr.heap.size := by have := (unhide HBK).2.lt; omega
   have a0 := (unhide HBK).1.at 0; have a1 := (unhide HBK).1.at 1; have a2 := (unhide HBK).1.at 2; have a3 := (unhide HBK).1.at 3; have a4 := (unhide HBK).1.at 4; have a5 := (unhide HBK).1.at 5; have a6 := (unhide HBK).1.at 6; have a7 := (unhide HBK).1.at 7
   simp at a0 a1 a2 a3 a4 a5 a6 a7
   clear ct hdr hir htk hlt hil hCF hCG hil2 HI p7 HDR CT
   go_wp2_with fail
   refine (unhide CTT).mono ?_
   rintro e w6 ⟨y, hs, go, gn, gc, rfl, ha, hg, hap, hb⟩
   obtain ⟨yqa, yql, yqc, yaa, yal, yac, yma, yml, ymc, yca, ycl, ycc⟩ := y
   have bx := below_al (Below.refl _ w6) (.cells #[.slice yqa yql yqc, .int .i64 clock, .int .i64 epoch, .int .i64 next, .int .i64 serial, .slice yaa yal yac, .slice yma yml ymc, .slice yca ycl ycc] 29)
   have HH7 := hide (((ha.has (Nat.le_refl _)).base hzr2).below bx)
   have HG7 := hide ((hg.base hzr2).below bx)
   have HAP := hide hap
   obtain ⟨b6, hb6⟩ : ∃ b, w6.heap.size = b := ⟨_, rfl⟩
   have HB6 := hide hb6
   have HQ7 := hide (show Blk (w6.alloc (.cells #[.slice yqa yql yqc, .int .i64 clock, .int .i64 epoch, .int .i64 next, .int .i64 serial, .slice yaa yal yac, .slice yma yml ymc, .slice yca ycl ycc] 29)) w.heap.size _ 29 ∧ Blk (w6.alloc (.cells #[.slice yqa yql yqc, .int .i64 clock, .int .i64 epoch, .int .i64 next, .int .i64 serial, .slice yaa yal yac, .slice yma yml ymc, .slice yca ycl ycc] 29)) (w.heap.size + 1) #[.slice none 0 0, .int .i64 0, .int .i64 0, .int .i64 0, .int .i64 0, .slice none 0 0, .slice none 0 0, .slice none 0 0] 29 ∧ Blk (w6.alloc (.cells #[.slice yqa yql yqc, .int .i64 clock, .int .i64 epoch, .int .i64 next, .int .i64 serial, .slice yaa yal yac, .slice yma yml ymc, .slice yca ycl ycc] 29)) b6 #[.slice yqa yql yqc, .int .i64 clock, .int .i64 epoch, .int .i64 next, .int .i64 serial, .slice yaa yal yac, .slice yma yml ymc, .slice yca ycl ycc] 29 ∧ Below w.heap.size w (w6.alloc (.cells #[.slice yqa yql yqc, .int .i64 clock, .int .i64 epoch, .int .i64 next, .int .i64 serial, .slice yaa yal yac, .slice yma yml ymc, .slice yca ycl ycc] 29)) from ⟨((unhide HBK).1.below hb).below bx, ((unhide HBK).2.below hb).below bx, by have := blk_new w6 #[.slice yqa yql yqc, .int .i64 clock, .int .i64 epoch, .int .i64 next, .int .i64 serial, .slice yaa yal yac, .slice yma yml ymc, .slice yca ycl ycc] 29; rwa [hb6] at this, below_on (below_on (unhide HB) hb) bx⟩)
   have hb62 : w.heap.size + 2 ≤ b6 := by have := hb.size; omega
   clear ha hg hap hb bx hb6 HBK HB CTT a0 a1 a2 a3 a4 a5 a6 a7 hzr hzr2
   go_upto_region 11 with fail
   rw [unhide HB6]
   generalize w6.alloc (.cells #[.slice yqa yql yqc, .int .i64 clock, .int .i64 epoch, .int .i64 next, .int .i64 serial, .slice yaa yal yac, .slice yma yml ymc, .slice yca ycl ycc] 29) = w7a at HH7 HG7 HQ7 ⊢


   have hjl := unhide HJL
   have hln : yml = ms.length := (unhide HH7).m.1.1
   have hjn : j < yml := by omega
   have hcap : yml ≤ ymc := (unhide HH7).cap.m
   have hnl : yml ≤ 1048576 := by omega
   have hjz : j < ms.length := by omega
   obtain ⟨g, rfl, hgB, hgE, hfz, hat⟩ := (unhide HH7).m.blk hjn
   have SRCR := hide (unhide HH7).m.1
   have hbz := below_al (Below.refl _ w7a) (.cells #[] 56)
   obtain ⟨NC1, hNC1⟩ : ∃ c, mcells (ms.take j) = c := ⟨_, rfl⟩
   obtain ⟨NC2, hNC2⟩ : ∃ c, mcells (ms.drop (j + 1)) = c := ⟨_, rfl⟩
   have HL1 := hide (show NC1.length = j * 4 by rw [← hNC1, mcells_len, List.length_take, Nat.min_eq_left (by omega)])
   have HL2 := hide (show NC2.length = (yml - (j + 1)) * 4 by rw [← hNC2, mcells_len, List.length_drop, hln])
   have HONE1 := hide (show ∀ u ∈ NC1, u.oneCell' = true by rw [← hNC1]; exact mcells_one _)
   have HONE2 := hide (show ∀ u ∈ NC2, u.oneCell' = true by rw [← hNC2]; exact mcells_one _)
   have NEWS1 := hide (show ∀ wx : World, Below w7a.heap.size w7a wx → ∀ i u, NC1[i]? = some u → wx.cell? (Addr.add ⟨g, 0, none⟩ i) = some u from fun wx hb i u hu => by
    rw [Lib.add_plain]
    refine mcells_row ((unhide SRCR).below hb) i u ?_
    rw [← hNC1, ← mcells_take _ _ (by omega)] at hu
    have hlt := (List.getElem?_eq_some_iff.1 hu).1
    rw [List.length_take] at hlt
    rw [List.getElem?_take_of_lt (by omega)] at hu
    exact hu)
   have NEWS2 := hide (show ∀ wx : World, Below w7a.heap.size w7a wx → ∀ i u, NC2[i]? = some u → wx.cell? (Addr.add ⟨g, (j + 1) * 4, none⟩ i) = some u from fun wx hb i u hu => by
    rw [Lib.add_plain]
    have := mcells_row ((unhide SRCR).below hb) ((j + 1) * 4 + i) u (by rw [← hNC2, ← mcells_drop _ _ (by omega), List.getElem?_drop] at hu; exact hu)
    rwa [Nat.zero_add] at this)
   have HER := hide (show NC1 ++ NC2 = mcells (ms.eraseIdx j) by rw [← hNC1, ← hNC2, ← mcells_append, List.eraseIdx_eq_take_drop_succ])
   obtain ⟨n9, hn9⟩ : ∃ n, (ms.eraseIdx j).length = n := ⟨_, rfl⟩
   have hn9' : n9 = j + (yml - (j + 1)) := by rw [← hn9, List.length_eraseIdx_of_lt hjz, ← hln]; omega
   have HN9 := hide hn9
   have HN9' := hide hn9'
   have OWN0 := hide (mown_empty w7a)
   obtain ⟨i0, hi, hz0, hz1, hz2⟩ := info_parts Tryz.infoMachine
   have d5 := (unhide HQ7).2.2.1.at 6
   simp at d5
   have hb6z : b6 < w7a.heap.size := (unhide HQ7).2.2.1.lt
   have j0 : (0 : Int) ≤ j := by omega
   have j2 : (j : Int) ≤ ymc := by omega
   have j3 : j ≤ ymc := by omega
   have j4 : j + 1 ≤ yml := by omega
   have j5 : (j : Int) + 1 ≤ yml := by omega
   have j6 : (0 : Int) ≤ (j : Int) + 1 := by omega
   have j7 : ((j : Int) + 1).toNat = j + 1 := by omega
   have j8 : IntKind.i64.wrap ((j : Int) + 1) = (j : Int) + 1 := by rw [IntKind.wrap_i64]; omega
   have hLn := hide hln
   clear hNC1 hNC2 hn9 hn9' hbz hjl hln hjz
   have FIRST := hide (fun (wx : World) (h : Below w7a.heap.size w7a wx) => ((unhide HQ7).2.2.1.below h).at 6)
   go_cut [] from 11 to 67 (fun wx => ∃ ng nc, Hid (SHas (w.heap.size + 2) wx ⟨yqa, yql, yqc, yaa, yal, yac, some ⟨ng, 0, none⟩, n9, nc, yca, ycl, ycc⟩ ⟨qs, clock, epoch, next, serial, apps, ms.eraseIdx j, CF⟩ hs) ∧ Hid (CHas (w.heap.size + 2) wx go gn CG) ∧ Hid (Blk wx (w.heap.size + 1) #[.slice none 0 0, .int .i64 0, .int .i64 0, .int .i64 0, .int .i64 0, .slice none 0 0, .slice none 0 0, .slice none 0 0] 29) ∧ Hid (Blk wx b6 #[.slice yqa yql yqc, .int .i64 clock, .int .i64 epoch, .int .i64 next, .int .i64 serial, .slice yaa yal yac, .slice (some ⟨ng, 0, none⟩) n9 nc, .slice yca ycl ycc] 29) ∧ Hid (Below w.heap.size w wx))
   case first =>
    by_cases hce : ymc = j + 1
    ·have hye : yml = j + 1 := by omega
     have j9 : (j : Int) ≤ (j : Int) + 1 := by omega
     obtain rfl : NC2 = [] := List.eq_nil_of_length_eq_zero (by have := unhide HL2; omega)
     go_region_law (first | (refine step_append_own rfl (.tmp 55) (.tmp 59) 26 rfl w7a.heap.size 56 i0 (.agg #[.string ByteArray.empty, .int .i64 0, .int .i64 0, .int .i64 0]) 4 40 Tryz.underlying26 hi hz0 hz1 hz2 rfl (by decide) (.slice (some ⟨w7a.heap.size, 0, none⟩) 0 0) 0 [] rfl (unhide OWN0) ⟨g, 0, none⟩ j _ NC1 rfl (unhide HL1) (fun i u hu => unhide NEWS1 _ (by first | exact (below_al (Below.refl _ w7a) _).drew | exact below_al (Below.refl _ w7a).drew _ | exact below_al (Below.refl _ w7a) _) i u hu) (unhide HONE1) (by unfold maxLen; omega) (by omega) (by simp) ?_; intro v6 w8 hown6 hgrow6 hnil6; have HB8 := hide (show Below w7a.heap.size w7a w8 from (by first | exact ((below_al (Below.refl _ w7a) (.cells #[] 56)).drew).grown hgrow6 (by simp) (fun k e => by simp [Value.ownBlock] at e; omega) | exact (below_al (Below.refl _ w7a) (.cells #[] 56)).grown hgrow6 (by simp) (fun k e => by simp [Value.ownBlock] at e; omega))); have HN6 := hide (show v6 ≠ .slice none 0 0 from fun e => by have := (hnil6.1 e).1; simp at this); have O6 := hide hown6; have e5 := unhide FIRST _ (unhide HB8); simp at e5; have hz8 : w7a.heap.size ≤ w8.heap.size := (unhide HB8).size; clear hown6 hgrow6 hnil6) | (refine step_append_own rfl (.tmp 60) (.tmp 65) 26 rfl w7a.heap.size 56 i0 (.agg #[.string ByteArray.empty, .int .i64 0, .int .i64 0, .int .i64 0]) 4 40 Tryz.underlying26 hi hz0 hz1 hz2 rfl (by decide) v6 (0 + j) ([] ++ NC1) rfl (unhide O6) _ _ _ [] rfl (by first | rfl | simp) (fun i u hu => by simp at hu) (unhide HONE2) (by unfold maxLen; omega) (by omega) (by first | exact hz8 | (simp; omega)) ?_; intro v7 w9 hown7 hgrow7 hnil7; have HB9 := hide (show Below w7a.heap.size w7a w9 from (by first | exact ((unhide HB8).drew).grown hgrow7 hz8 (fun k e => (World.ownsRow.lt (unhide O6) k e).1) | exact (unhide HB8).grown hgrow7 hz8 (fun k e => (World.ownsRow.lt (unhide O6) k e).1))); have O7 := hide (owns_recount (n' := n9) (xs' := mcells (ms.eraseIdx j)) hown7 (by have := unhide HN9'; omega) (by rw [List.nil_append]; exact unhide HER)); have hv7 : v7 ≠ .slice none 0 0 := fun e => unhide HN6 (hnil7.1 e).1; obtain ⟨ng, nc, rfl⟩ := owns_some (unhide O7) hv7; have e6 := unhide FIRST _ (unhide HB9); have f6 := ((unhide HQ7).2.2.1.below (unhide HB9)).f 6; simp at e6; clear hown7 hgrow7 hnil7 hv7))
     all_goals
      have PN0 := mown_has (show MOwn w7a.heap.size w9 (.slice (some ⟨ng, 0, none⟩) n9 nc) (ms.eraseIdx j) by unfold MOwn; rw [unhide HN9]; exact unhide O7)
      rw [unhide HN9] at PN0
      obtain ⟨_, _, epn, hnc, hpn⟩ := PN0
      cases epn
      have PN := hide hpn
      have PRM := hide (own1_of (unhide O7))
      have HNC := hide hnc
      have O9 := hide ((unhide HQ7).2.2.1.below (unhide HB9))
      have HH9 := hide ((unhide HH7).below (unhide HB9))
      have hm : Mks (fun k => k = b6) w9 (w9.setCell ⟨b6, 6, none⟩ (.slice (some ⟨ng, 0, none⟩) n9 nc)) := Mks.one _ _ _ _ _ rfl
      have H10 := hide (show SHas (w.heap.size + 2) (w9.setCell ⟨b6, 6, none⟩ (.slice (some ⟨ng, 0, none⟩) n9 nc)) ⟨yqa, yql, yqc, yaa, yal, yac, some ⟨ng, 0, none⟩, n9, nc, yca, ycl, ycc⟩ ⟨qs, clock, epoch, next, serial, apps, ms.eraseIdx j, CF⟩ hs from by
       have hx := (unhide HH9).mkt hm (unhide O9)
       exact ⟨hx.q, hx.p, hx.k, by have := (unhide PN).mkt hm (unhide O9); exact this.base (by omega), hx.c, ⟨hx.cap.q, hx.cap.a, unhide HNC, hx.cap.c⟩, ⟨hx.rm.1, hx.rm.2.1, ((unhide PRM).sc b6 6 _).mono (by omega) (by rw [set_size]; exact Nat.le_refl _), hx.rm.2.2.2.1, hx.rm.2.2.2.2⟩⟩)
      have G10 := hide (((unhide HG7).below (unhide HB9)).mkt hm (unhide O9))
      have R10 := hide (((unhide HQ7).2.1.below (unhide HB9)).other b6 6 (.slice (some ⟨ng, 0, none⟩) n9 nc) (by omega))
      have O10 := hide (show Blk (w9.setCell ⟨b6, 6, none⟩ (.slice (some ⟨ng, 0, none⟩) n9 nc)) b6 #[.slice yqa yql yqc, .int .i64 clock, .int .i64 epoch, .int .i64 next, .int .i64 serial, .slice yaa yal yac, .slice (some ⟨ng, 0, none⟩) n9 nc, .slice yca ycl ycc] 29 from (unhide O9).set 6 _)
      have B10 := hide (below_sc (below_on (unhide HQ7).2.2.2 (unhide HB9)) b6 6 (.slice (some ⟨ng, 0, none⟩) n9 nc) (by omega))
      go_wp2_with fail
      go_meet
      exact ⟨ng, nc, H10, G10, R10, O10, B10⟩
    ·go_region_law (first | (refine step_append_own rfl (.tmp 55) (.tmp 59) 26 rfl w7a.heap.size 56 i0 (.agg #[.string ByteArray.empty, .int .i64 0, .int .i64 0, .int .i64 0]) 4 40 Tryz.underlying26 hi hz0 hz1 hz2 rfl (by decide) (.slice (some ⟨w7a.heap.size, 0, none⟩) 0 0) 0 [] rfl (unhide OWN0) ⟨g, 0, none⟩ j _ NC1 rfl (unhide HL1) (fun i u hu => unhide NEWS1 _ (by first | exact (below_al (Below.refl _ w7a) _).drew | exact below_al (Below.refl _ w7a).drew _ | exact below_al (Below.refl _ w7a) _) i u hu) (unhide HONE1) (by unfold maxLen; omega) (by omega) (by simp) ?_; intro v6 w8 hown6 hgrow6 hnil6; have HB8 := hide (show Below w7a.heap.size w7a w8 from (by first | exact ((below_al (Below.refl _ w7a) (.cells #[] 56)).drew).grown hgrow6 (by simp) (fun k e => by simp [Value.ownBlock] at e; omega) | exact (below_al (Below.refl _ w7a) (.cells #[] 56)).grown hgrow6 (by simp) (fun k e => by simp [Value.ownBlock] at e; omega))); have HN6 := hide (show v6 ≠ .slice none 0 0 from fun e => by have := (hnil6.1 e).1; simp at this); have O6 := hide hown6; have e5 := unhide FIRST _ (unhide HB8); simp at e5; have hz8 : w7a.heap.size ≤ w8.heap.size := (unhide HB8).size; clear hown6 hgrow6 hnil6) | (refine step_append_own rfl (.tmp 60) (.tmp 65) 26 rfl w7a.heap.size 56 i0 (.agg #[.string ByteArray.empty, .int .i64 0, .int .i64 0, .int .i64 0]) 4 40 Tryz.underlying26 hi hz0 hz1 hz2 rfl (by decide) v6 (0 + j) ([] ++ NC1) rfl (unhide O6) _ _ _ NC2 rfl (unhide HL2) (fun i u hu => unhide NEWS2 _ (by first | exact unhide HB8 | exact (unhide HB8).drew) i u hu) (unhide HONE2) (by unfold maxLen; omega) (by omega) (by first | exact hz8 | (simp; omega)) ?_; intro v7 w9 hown7 hgrow7 hnil7; have HB9 := hide (show Below w7a.heap.size w7a w9 from (by first | exact ((unhide HB8).drew).grown hgrow7 hz8 (fun k e => (World.ownsRow.lt (unhide O6) k e).1) | exact (unhide HB8).grown hgrow7 hz8 (fun k e => (World.ownsRow.lt (unhide O6) k e).1))); have O7 := hide (owns_recount (n' := n9) (xs' := mcells (ms.eraseIdx j)) hown7 (by have := unhide HN9'; omega) (by rw [List.nil_append]; exact unhide HER)); have hv7 : v7 ≠ .slice none 0 0 := fun e => unhide HN6 (hnil7.1 e).1; obtain ⟨ng, nc, rfl⟩ := owns_some (unhide O7) hv7; have e6 := unhide FIRST _ (unhide HB9); have f6 := ((unhide HQ7).2.2.1.below (unhide HB9)).f 6; simp at e6; clear hown7 hgrow7 hnil7 hv7))
     all_goals
      have PN0 := mown_has (show MOwn w7a.heap.size w9 (.slice (some ⟨ng, 0, none⟩) n9 nc) (ms.eraseIdx j) by unfold MOwn; rw [unhide HN9]; exact unhide O7)
      rw [unhide HN9] at PN0
      obtain ⟨_, _, epn, hnc, hpn⟩ := PN0
      cases epn
      have PN := hide hpn
      have PRM := hide (own1_of (unhide O7))
      have HNC := hide hnc
      have O9 := hide ((unhide HQ7).2.2.1.below (unhide HB9))
      have HH9 := hide ((unhide HH7).below (unhide HB9))
      have hm : Mks (fun k => k = b6) w9 (w9.setCell ⟨b6, 6, none⟩ (.slice (some ⟨ng, 0, none⟩) n9 nc)) := Mks.one _ _ _ _ _ rfl
      have H10 := hide (show SHas (w.heap.size + 2) (w9.setCell ⟨b6, 6, none⟩ (.slice (some ⟨ng, 0, none⟩) n9 nc)) ⟨yqa, yql, yqc, yaa, yal, yac, some ⟨ng, 0, none⟩, n9, nc, yca, ycl, ycc⟩ ⟨qs, clock, epoch, next, serial, apps, ms.eraseIdx j, CF⟩ hs from by
       have hx := (unhide HH9).mkt hm (unhide O9)
       exact ⟨hx.q, hx.p, hx.k, by have := (unhide PN).mkt hm (unhide O9); exact this.base (by omega), hx.c, ⟨hx.cap.q, hx.cap.a, unhide HNC, hx.cap.c⟩, ⟨hx.rm.1, hx.rm.2.1, ((unhide PRM).sc b6 6 _).mono (by omega) (by rw [set_size]; exact Nat.le_refl _), hx.rm.2.2.2.1, hx.rm.2.2.2.2⟩⟩)
      have G10 := hide (((unhide HG7).below (unhide HB9)).mkt hm (unhide O9))
      have R10 := hide (((unhide HQ7).2.1.below (unhide HB9)).other b6 6 (.slice (some ⟨ng, 0, none⟩) n9 nc) (by omega))
      have O10 := hide (show Blk (w9.setCell ⟨b6, 6, none⟩ (.slice (some ⟨ng, 0, none⟩) n9 nc)) b6 #[.slice yqa yql yqc, .int .i64 clock, .int .i64 epoch, .int .i64 next, .int .i64 serial, .slice yaa yal yac, .slice (some ⟨ng, 0, none⟩) n9 nc, .slice yca ycl ycc] 29 from (unhide O9).set 6 _)
      have B10 := hide (below_sc (below_on (unhide HQ7).2.2.2 (unhide HB9)) b6 6 (.slice (some ⟨ng, 0, none⟩) n9 nc) (by omega))
      go_wp2_with fail
      go_meet
      exact ⟨ng, nc, H10, G10, R10, O10, B10⟩
   case rest =>
    obtain ⟨ng, nc, H10, G10, R10, O10, B10⟩ := hcut
    obtain ⟨w10, rfl⟩ : ∃ w', w' = wc := ⟨wc, rfl⟩
    clear HQ7 HH7 HG7 FIRST d5 hb6z
    have c0 := (unhide R10).at 0; have c1 := (unhide R10).at 1; have c2 := (unhide R10).at 2; have c3 := (unhide R10).at 3; have c4 := (unhide R10).at 4; have c5 := (unhide R10).at 5; have c6 := (unhide R10).at 6; have c7 := (unhide R10).at 7
    have f0 := (unhide R10).f 0; have f1 := (unhide R10).f 1; have f2 := (unhide R10).f 2; have f3 := (unhide R10).f 3; have f4 := (unhide R10).f 4; have f5 := (unhide R10).f 5; have f6 := (unhide R10).f 6; have f7 := (unhide R10).f 7
    have a0 := (unhide O10).at 0; have a1 := (unhide O10).at 1; have a2 := (unhide O10).at 2; have a3 := (unhide O10).at 3; have a4 := (unhide O10).at 4; have a5 := (unhide O10).at 5; have a6 := (unhide O10).at 6; have a7 := (unhide O10).at 7
    simp at a0 a1 a2 a3 a4 a5 a6 a7 c0 c1 c2 c3 c4 c5 c6 c7
    go_wp2
    have RR := hide (show Blk ((((((((w10.setCell ⟨w.heap.size + 1, 0, none⟩ (.slice yqa yql yqc)).setCell ⟨w.heap.size + 1, 1, none⟩ (.int .i64 clock)).setCell ⟨w.heap.size + 1, 2, none⟩ (.int .i64 epoch)).setCell ⟨w.heap.size + 1, 3, none⟩ (.int .i64 next)).setCell ⟨w.heap.size + 1, 4, none⟩ (.int .i64 serial)).setCell ⟨w.heap.size + 1, 5, none⟩ (.slice yaa yal yac)).setCell ⟨w.heap.size + 1, 6, none⟩ (.slice (some ⟨ng, 0, none⟩) n9 nc)).setCell ⟨w.heap.size + 1, 7, none⟩ (.slice yca ycl ycc)) (w.heap.size + 1) #[.slice yqa yql yqc, .int .i64 clock, .int .i64 epoch, .int .i64 next, .int .i64 serial, .slice yaa yal yac, .slice (some ⟨ng, 0, none⟩) n9 nc, .slice yca ycl ycc] 29 from (((((((((unhide R10).set 0 (.slice yqa yql yqc)).set 1 (.int .i64 clock)).set 2 (.int .i64 epoch)).set 3 (.int .i64 next)).set 4 (.int .i64 serial)).set 5 (.slice yaa yal yac)).set 6 (.slice (some ⟨ng, 0, none⟩) n9 nc)).set 7 (.slice yca ycl ycc)))
    have HX := hide (((((((((unhide H10).sc (k := w.heap.size + 1) (j := 0) (v := .slice yqa yql yqc) (by omega)).sc (k := w.heap.size + 1) (j := 1) (v := .int .i64 clock) (by omega)).sc (k := w.heap.size + 1) (j := 2) (v := .int .i64 epoch) (by omega)).sc (k := w.heap.size + 1) (j := 3) (v := .int .i64 next) (by omega)).sc (k := w.heap.size + 1) (j := 4) (v := .int .i64 serial) (by omega)).sc (k := w.heap.size + 1) (j := 5) (v := .slice yaa yal yac) (by omega)).sc (k := w.heap.size + 1) (j := 6) (v := .slice (some ⟨ng, 0, none⟩) n9 nc) (by omega)).sc (k := w.heap.size + 1) (j := 7) (v := .slice yca ycl ycc) (by omega))
    have GX := hide (((((((((unhide G10).sc (k := w.heap.size + 1) (j := 0) (v := .slice yqa yql yqc) (by omega)).sc (k := w.heap.size + 1) (j := 1) (v := .int .i64 clock) (by omega)).sc (k := w.heap.size + 1) (j := 2) (v := .int .i64 epoch) (by omega)).sc (k := w.heap.size + 1) (j := 3) (v := .int .i64 next) (by omega)).sc (k := w.heap.size + 1) (j := 4) (v := .int .i64 serial) (by omega)).sc (k := w.heap.size + 1) (j := 5) (v := .slice yaa yal yac) (by omega)).sc (k := w.heap.size + 1) (j := 6) (v := .slice (some ⟨ng, 0, none⟩) n9 nc) (by omega)).sc (k := w.heap.size + 1) (j := 7) (v := .slice yca ycl ycc) (by omega))
    have BX := hide (below_sc (below_sc (below_sc (below_sc (below_sc (below_sc (below_sc (below_sc (unhide B10) (w.heap.size + 1) 0 (.slice yqa yql yqc) (by omega)) (w.heap.size + 1) 1 (.int .i64 clock) (by omega)) (w.heap.size + 1) 2 (.int .i64 epoch) (by omega)) (w.heap.size + 1) 3 (.int .i64 next) (by omega)) (w.heap.size + 1) 4 (.int .i64 serial) (by omega)) (w.heap.size + 1) 5 (.slice yaa yal yac) (by omega)) (w.heap.size + 1) 6 (.slice (some ⟨ng, 0, none⟩) n9 nc) (by omega)) (w.heap.size + 1) 7 (.slice yca ycl ycc) (by omega))
    generalize ((((((((w10.setCell ⟨w.heap.size + 1, 0, none⟩ (.slice yqa yql yqc)).setCell ⟨w.heap.size + 1, 1, none⟩ (.int .i64 clock)).setCell ⟨w.heap.size + 1, 2, none⟩ (.int .i64 epoch)).setCell ⟨w.heap.size + 1, 3, none⟩ (.int .i64 next)).setCell ⟨w.heap.size + 1, 4, none⟩ (.int .i64 serial)).setCell ⟨w.heap.size + 1, 5, none⟩ (.slice yaa yal yac)).setCell ⟨w.heap.size + 1, 6, none⟩ (.slice (some ⟨ng, 0, none⟩) n9 nc)).setCell ⟨w.heap.size + 1, 7, none⟩ (.slice yca ycl ycc)) = W9 at RR HX GX BX ⊢
    have z0 := (unhide RR).at 0; have z1 := (unhide RR).at 1; have z2 := (unhide RR).at 2; have z3 := (unhide RR).at 3; have z4 := (unhide RR).at 4; have z5 := (unhide RR).at 5; have z6 := (unhide RR).at 6; have z7 := (unhide RR).at 7
    simp at z0 z1 z2 z3 z4 z5 z6 z7
    refine bodyPost_ret (v := .tuple #[.agg #[.slice yqa yql yqc, .int .i64 clock, .int .i64 epoch, .int .i64 next, .int .i64 serial, .slice yaa yal yac, .slice (some ⟨ng, 0, none⟩) n9 nc, .slice yca ycl ycc], .slice go gn gc]) (by simp [results, Tryz.results41, go_sem, z0, z1, z2, z3, z4, z5, z6, z7]) rfl ?_
    rw [unhide HDR2]
    exact ⟨⟨yqa, yql, yqc, yaa, yal, yac, some ⟨ng, 0, none⟩, n9, nc, yca, ycl, ycc⟩, hs, go, gn, gc, rfl, (unhide HX).ans.mono (by omega) (Nat.le_refl _), (unhide GX).base (by omega), unhide HAP, unhide BX⟩
end Go.Proofs.YtbkchepelhkjlaaGreat
