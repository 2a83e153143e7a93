/-
  Several texts of this claim in one: RcvA, RcvB (pack.py put them together); each says in its own remark what is proved.
-/
import Derived.Test.YtkpmocbfedgfhaaGreatPackQ
import Derived.Test.YtkpmocbfedgfhaaGreatPackL
import Derived.Test.YtkpmocbfedgfhaaGreatTakGD
import Derived.Deep.CutBlock
import Derived.Deep.CutRange
import Derived.Deep.RegionWith
import Derived.Deep.QuietTactic
/-
  A state behind a record, by the model: l08Apply; a walk over the dump.
-/
namespace Go.Proofs.YtkpmocbfedgfhaaGreat
open Go.RowKit
set_option linter.unusedVariables false
set_option linter.unusedSimpArgs false
/-- rows of applications from B on -/
def ApS (B : Nat) (w : World) (k : Nat) : Prop := ∃ N, Cel w 44 k N ∧ B ≤ k
/-- the answer: a state whose lists lie in blocks from B on; nothing has turned but rows of applications -/
def ApAns (B : Nat) (w : World) (s : St) (e : Ending) (w' : World) : Prop := ∃ y hs, e = .returned (sv y s) ∧ SHas B w' y s hs ∧ Mks (ApS B w) w w'
theorem Mks.via {S S' : Nat → Prop} {a b c : World} (h : Mks S a b) (k : Mks S' b c) (hs : ∀ i, S' i → a.heap.size ≤ i ∨ S i) : Mks S a c :=
  ⟨k.os.trans h.os, k.tape.trans h.tape, k.output.trans h.output, Nat.le_trans h.size k.size, fun i hi hn => (k.block i (Nat.lt_of_lt_of_le hi h.size) (fun e => by rcases hs i e with h1 | h1; omega; exact hn h1)).trans (h.block i hi hn), fun t g N hc => k.cel t g N (h.cel t g N hc)⟩

set_option maxRecDepth 100000 in
set_option maxHeartbeats 4000000 in
theorem l08Apply_any {B : Nat} (l : List Q) (x : Sls) (s : St) (hs : List AV) (r : Rc) (w : World) (h : SHas B w x s hs) (hB : B ≤ w.heap.size) (hi : RInv l s) (hf : FitQ l) (hq : queuesOk l = true) :
    Calls Tryz.prog 20 #[sv x s, rcv r] w (ApAns B w (applyV s r)) := by
  have hok := rinv_ok hi hq
  have hfs := rinv_fit hi hf
  have hb0 := below_al (below_al (below_al (Below.refl _ w) (.cells (svc x s) 31)) (.cells #[.int .i64 r.kind, .int .i64 r.app, .string (bs r.queue)] 41)) (.cells #[.slice none 0 0, .int .i64 0, .int .i64 0, .int .i64 0, .int .i64 0, .slice none 0 0, .slice none 0 0, .slice none 0 0] 31)
  have P0 := hide (((blk_new w (svc x s) 31).al (.cells #[.int .i64 r.kind, .int .i64 r.app, .string (bs r.queue)] 41)).al (.cells #[.slice none 0 0, .int .i64 0, .int .i64 0, .int .i64 0, .int .i64 0, .slice none 0 0, .slice none 0 0, .slice none 0 0] 31))
  have P1 := hide ((blk_new (w.alloc (.cells (svc x s) 31)) #[.int .i64 r.kind, .int .i64 r.app, .string (bs r.queue)] 41).al (.cells #[.slice none 0 0, .int .i64 0, .int .i64 0, .int .i64 0, .int .i64 0, .slice none 0 0, .slice none 0 0, .slice none 0 0] 31))
  have P2 := hide (blk_new ((w.alloc (.cells (svc x s) 31)).alloc (.cells #[.int .i64 r.kind, .int .i64 r.app, .string (bs r.queue)] 41)) #[.slice none 0 0, .int .i64 0, .int .i64 0, .int .i64 0, .int .i64 0, .slice none 0 0, .slice none 0 0, .slice none 0 0] 31)
  rw [al_size] at P1
  rw [al_size, al_size] at P2
  have H0 := hide (h.below hb0)
  have HB0 := hide (show Mks (ApS B w) w _ from Mks.of_below hb0)
  have HW0 := hide hb0
  have hz0 := hb0.size
  have CL := hide (fun wx (hr : QRow wx x.qa x.ql s.qs) => by
    have := specLeaf_any x.qa x.ql x.qc s.qs r.queue wx hr (by have := hr.1; have := hfs.1.1; omega) (fun q hq => (hfs.1.2 q hq).1)
    rw [leaf_lone, hi.qs, hq, Bool.true_and, ← hi.qs] at this
    exact this)
  have CD := hide (fun wx (hx : SHas B wx x s hs) => by
    have := specDrop_any x s hs r.app wx hx.ans.row hx.p.1 hx.k.heads hx.ans.some hfs
    rw [(dropV_eq s r.app).1 hok] at this
    exact this)
  have i6 := hi.e1
  have i7 := hi.e2
  have i8 := hi.n1
  have i9 := hi.n2
  have i10 := hi.len
  have HAV := hide (fun wx (hx : SHas B wx x s hs) => hx.p.1)
  obtain ⟨i0, hii, hi1, hi2, hi3⟩ := info_parts Tryz.infoApp
  obtain ⟨S1, hS⟩ : ∃ S, applyV s r = S := ⟨_, rfl⟩
  rw [hS]
  have hal : x.al = hs.length := h.p.1.1
  have HAL := hide hal
  have hka : hs.length = s.apps.length := h.k.heads.1
  have hlone : ∃ o, lone s.qs r.queue = o := ⟨_, rfl⟩
  obtain ⟨lo, hlo⟩ := hlone
  rw [hlo] at CL
  have E2 := hide (fun (hk : r.kind = 2) (he : s.epoch < 900000) => hS.symm.trans (apply_epoch hk he))
  have E2n := hide (fun (hk : r.kind = 2) (he : ¬ s.epoch < 900000) => hS.symm.trans (apply_last hk he))
  have E0 := hide (fun (hk : r.kind = 0) (h1 : lo = true) (h2 : s.next ≤ r.app) (h3 : r.app ≤ s.epoch * 1000 + 999) (h4 : s.apps.length < 40) => hS.symm.trans (apply_app hk ⟨by rw [hlo]; exact h1, h2, h3, h4⟩))
  have E0n := hide (fun (hk : r.kind = 0) (hn : ¬ (lo = true ∧ s.next ≤ r.app ∧ r.app ≤ s.epoch * 1000 + 999 ∧ s.apps.length < 40)) => hS.symm.trans (apply_not hk (by rw [hlo]; exact hn)))
  have E1 := hide (fun (hk : r.kind = 1) => hS.symm.trans (apply_done hk))
  have EE := hide (fun (h0 : r.kind ≠ 0) (h1 : r.kind ≠ 1) (h2 : r.kind ≠ 2) => hS.symm.trans (apply_else h0 h1 h2))
  clear h hi hfs hok hb0 hS hlo hal
  obtain ⟨qa, ql, qc, aa, al, ac, ma, ml, mc, ca, cl, cc⟩ := x
  obtain ⟨qs, clock, epoch, next, serial, apps, ms, cs⟩ := s
  obtain ⟨rk, ra, rq⟩ := r
  simp only at *
  obtain ⟨b, hb⟩ : ∃ b, w.heap.size = b := ⟨_, rfl⟩
  have HBB := hide hb
  rw [hb] at P0 P1 P2 hB
  go_enter Tryz.func20, Tryz.ntmps20
  go_upto_block 0 with fail
  have hz3 : b + 2 < (((w.alloc (.cells #[.slice qa ql qc, .int .i64 clock, .int .i64 epoch, .int .i64 next, .int .i64 serial, .slice aa al ac, .slice ma ml mc, .slice ca cl cc] 31)).alloc (.cells #[.int .i64 rk, .int .i64 ra, .string (bs rq)] 41)).alloc (.cells #[.slice none 0 0, .int .i64 0, .int .i64 0, .int .i64 0, .int .i64 0, .slice none 0 0, .slice none 0 0, .slice none 0 0] 31)).heap.size := (unhide P2).lt
  generalize ((w.alloc (.cells #[.slice qa ql qc, .int .i64 clock, .int .i64 epoch, .int .i64 next, .int .i64 serial, .slice aa al ac, .slice ma ml mc, .slice ca cl cc] 31)).alloc (.cells #[.int .i64 rk, .int .i64 ra, .string (bs rq)] 41)).alloc (.cells #[.slice none 0 0, .int .i64 0, .int .i64 0, .int .i64 0, .int .i64 0, .slice none 0 0, .slice none 0 0, .slice none 0 0] 31) = w3 at P0 P1 P2 H0 HB0 HW0 hz3 ⊢
  have p0 := (unhide P0).at 0; have p1 := (unhide P0).at 1; have p2 := (unhide P0).at 2; have p3 := (unhide P0).at 3; have p4 := (unhide P0).at 4; have p5 := (unhide P0).at 5; have p6 := (unhide P0).at 6; have p7 := (unhide P0).at 7
  have g2 := (unhide P0).f 2; have g3 := (unhide P0).f 3; have g5 := (unhide P0).f 5
  have r0 := (unhide P1).at 0; have r1 := (unhide P1).at 1; have r2 := (unhide P1).at 2
  simp at p0 p1 p2 p3 p4 p5 p6 p7 r0 r1 r2
  clear hb hz0
  go_cut [] from 5 to 85 (fun wx => ∃ y hs', Hid (Blk wx b (svc y S1) 31) ∧ Hid (Blk wx (b + 1 + 1) #[.slice none 0 0, .int .i64 0, .int .i64 0, .int .i64 0, .int .i64 0, .slice none 0 0, .slice none 0 0, .slice none 0 0] 31) ∧ Hid (SHas B wx y S1 hs') ∧ Hid (Mks (ApS B w) w wx) ∧ b + 2 < wx.heap.size)
  case first =>
    by_cases k2 : rk = 2
    · subst k2
      by_cases he : epoch < 900000
      · have hS := unhide E2 (by simp) he
        have m2 : Mks (fun k => k = b) w3 (w3.setCell ⟨b, 2, none⟩ (.int .i64 (epoch + 1))) := Mks.one _ _ _ _ _ rfl
        have K4 := hide (show Blk (w3.setCell ⟨b, 2, none⟩ (.int .i64 (epoch + 1))) b _ 31 from (unhide P0).set 2 _)
        have P4 := hide ((unhide P2).other b 2 (.int .i64 (epoch + 1)) (by omega))
        have H4 := hide ((unhide H0).mkt m2 (unhide P0))
        have B4 := hide (show Mks (ApS B w) w _ from (unhide HB0).via m2 (fun k e => .inl (by rw [e, unhide HBB]; exact Nat.le_refl _)))
        have hz4 : b + 2 < (w3.setCell ⟨b, 2, none⟩ (.int .i64 (epoch + 1))).heap.size := by rw [set_size]; exact hz3
        have q2 : (w3.setCell ⟨b, 2, none⟩ (.int .i64 (epoch + 1))).cell? ⟨b, 2, none⟩ = some (.int .i64 (epoch + 1)) := by have := (unhide K4).at 2; simpa using this
        have q3 : (w3.setCell ⟨b, 2, none⟩ (.int .i64 (epoch + 1))).cell? ⟨b, 3, none⟩ = some (.int .i64 next) := by have := (unhide K4).at 3; simpa using this
        have qf3 : (w3.setCell ⟨b, 2, none⟩ (.int .i64 (epoch + 1))).frozen? ⟨b, 3, none⟩ = false := (unhide K4).f 3
        by_cases hn : next < (epoch + 1) * 1000 + 1
        · rw [show max next ((epoch + 1) * 1000 + 1) = (epoch + 1) * 1000 + 1 by omega] at hS
          subst hS
          have m3 : Mks (fun k => k = b) (w3.setCell ⟨b, 2, none⟩ (.int .i64 (epoch + 1))) ((w3.setCell ⟨b, 2, none⟩ (.int .i64 (epoch + 1))).setCell ⟨b, 3, none⟩ (.int .i64 ((epoch + 1) * 1000 + 1))) := Mks.one _ _ _ _ _ rfl
          have K5 := hide (show Blk ((w3.setCell ⟨b, 2, none⟩ (.int .i64 (epoch + 1))).setCell ⟨b, 3, none⟩ (.int .i64 ((epoch + 1) * 1000 + 1))) b (svc ⟨qa, ql, qc, aa, al, ac, ma, ml, mc, ca, cl, cc⟩ ⟨qs, clock, epoch + 1, (epoch + 1) * 1000 + 1, serial, apps, ms, cs⟩) 31 from (unhide K4).set 3 _)
          have P5 := hide ((unhide P4).other b 3 (.int .i64 ((epoch + 1) * 1000 + 1)) (by omega))
          have H5 := hide (show SHas B _ ⟨qa, ql, qc, aa, al, ac, ma, ml, mc, ca, cl, cc⟩ ⟨qs, clock, epoch + 1, (epoch + 1) * 1000 + 1, serial, apps, ms, cs⟩ hs from (fun z => ⟨z.q, z.p, z.k, z.m, z.c, z.cap, z.rm⟩) ((unhide H4).mkt m3 (unhide K4)))
          have B5 := hide (show Mks (ApS B w) w _ from (unhide B4).via m3 (fun k e => .inl (by rw [e, unhide HBB]; exact Nat.le_refl _)))
          have hz5 := hz4
          clear m2 m3 K4 P4 H4 B4 E2 E2n E0 E0n E1 EE CL CD
          go_wp2_with fail
          go_meet
          exact ⟨⟨qa, ql, qc, aa, al, ac, ma, ml, mc, ca, cl, cc⟩, hs, K5, P5, H5, B5, by rw [set_size]; exact hz5⟩
        · exact absurd hn (by omega)
      · have hS := unhide E2n (by simp) he
        subst hS
        clear E2 E2n E0 E0n E1 EE CL CD
        go_wp2_with fail
        go_meet
        exact ⟨⟨qa, ql, qc, aa, al, ac, ma, ml, mc, ca, cl, cc⟩, hs, P0, P2, H0, HB0, hz3⟩
    have k2' : (rk == 2) = false := by simpa using k2
    by_cases k1 : rk = 1
    · subst k1
      have hS := unhide E1 (by simp)
      subst hS
      clear E2 E2n E0 E0n E1 EE CL
      go_wp2_with fail
      refine (unhide CD _ (unhide H0)).mono ?_
      rintro e w4 ⟨y, hs2, go, gn, gc, rfl, ha, hg, hd, hb⟩
      obtain ⟨yqa, yql, yqc, yaa, yal, yac, yma, yml, ymc, yca, ycl, ycc⟩ := y
      have hz4 : b + 2 < w4.heap.size := Nat.lt_of_lt_of_le hz3 hb.size
      have b5 := below_al (Below.refl _ w4) (.cells (svc ⟨yqa, yql, yqc, yaa, yal, yac, yma, yml, ymc, yca, ycl, ycc⟩ ⟨qs, clock, epoch, next, serial, apps.filter (fun a => !decide (a.id = ra)), ms, cs.filter (fun q => !decide (q.app = ra))⟩) 31)
      have K5 := hide (blk_new w4 (svc ⟨yqa, yql, yqc, yaa, yal, yac, yma, yml, ymc, yca, ycl, ycc⟩ ⟨qs, clock, epoch, next, serial, apps.filter (fun a => !decide (a.id = ra)), ms, cs.filter (fun q => !decide (q.app = ra))⟩) 31)
      have P5 := hide (((unhide P2).below hb).below b5)
      have H5 := hide (((ha.has (Nat.le_refl _)).base (B' := B) (by omega)).below b5)
      have B5 := hide (show Mks (ApS B w) w _ from (unhide HB0).on (below_on hb b5))
      have hz5 := b5.size
      obtain ⟨b6, hb6⟩ : ∃ b, w4.heap.size = b := ⟨_, rfl⟩
      rw [hb6] at K5
      clear ha hg hd hb b5 CD
      go_upto_region 10 with fail
      generalize w4.alloc (.cells (svc ⟨yqa, yql, yqc, yaa, yal, yac, yma, yml, ymc, yca, ycl, ycc⟩ ⟨qs, clock, epoch, next, serial, apps.filter (fun a => !decide (a.id = ra)), ms, cs.filter (fun q => !decide (q.app = ra))⟩) 31) = w5 at K5 P5 H5 B5 hz5 ⊢
      refine wp_region_lit ?_
      refine wpList_same (v := .agg #[.slice yqa yql yqc, .int .i64 clock, .int .i64 epoch, .int .i64 next, .int .i64 serial, .slice yaa yal yac, .slice yma yml ymc, .slice yca ycl ycc]) (d := some 85) rfl rfl (run_v (st_load (unhide K5) rfl)) ?_
      simp only [Act.put, List.setIfInBounds_toArray, List.set_cons_zero, List.set_cons_succ]
      refine wpList_none (d := none) rfl rfl (run_u (st_store (unhide P5) rfl rfl (by kernel_rfl))) ?_
      simp only [Act.put]
      have RR := hide (blk_row (unhide P5) #[.slice yqa yql yqc, .int .i64 clock, .int .i64 epoch, .int .i64 next, .int .i64 serial, .slice yaa yal yac, .slice yma yml ymc, .slice yca ycl ycc])
      have MM := hide (mks_row (unhide P5) #[.slice yqa yql yqc, .int .i64 clock, .int .i64 epoch, .int .i64 next, .int .i64 serial, .slice yaa yal yac, .slice yma yml ymc, .slice yca ycl ycc] rfl)
      generalize World.setRow w5 (b + 1 + 1) #[.slice yqa yql yqc, .int .i64 clock, .int .i64 epoch, .int .i64 next, .int .i64 serial, .slice yaa yal yac, .slice yma yml ymc, .slice yca ycl ycc] = W9 at RR MM ⊢
      have H9 := hide ((unhide H5).mkt (unhide MM) (unhide P5))
      have B9 := hide ((unhide B5).via (unhide MM) (fun k e => .inl (by rw [e]; have := unhide HBB; omega)))

      have z0 := (unhide RR).at 0; have z1 := (unhide RR).at 1; have z2 := (unhide RR).at 2; have z3 := (unhide RR).at 3; have z4 := (unhide RR).at 4; have z5 := (unhide RR).at 5; have z6 := (unhide RR).at 6; have z7 := (unhide RR).at 7
      simp at z0 z1 z2 z3 z4 z5 z6 z7
      go_wp2
      refine bodyPost_ret (v := .agg #[.slice yqa yql yqc, .int .i64 clock, .int .i64 epoch, .int .i64 next, .int .i64 serial, .slice yaa yal yac, .slice yma yml ymc, .slice yca ycl ycc]) (by simp [results, Tryz.results20, go_sem, z0, z1, z2, z3, z4, z5, z6, z7]) rfl ?_
      exact (show ApAns B w _ _ _ from ⟨⟨yqa, yql, yqc, yaa, yal, yac, yma, yml, ymc, yca, ycl, ycc⟩, _, rfl, unhide H9, unhide B9⟩)
    have k1' : (rk == 1) = false := by simpa using k1
    by_cases k0 : rk = 0
    case neg =>
      have k0' : (rk == 0) = false := by simpa using k0
      have hS := unhide EE k0 k1 k2
      subst hS
      clear E2 E2n E0 E0n E1 EE CL CD
      go_wp2_with fail
      go_meet
      exact ⟨⟨qa, ql, qc, aa, al, ac, ma, ml, mc, ca, cl, cc⟩, hs, P0, P2, H0, HB0, hz3⟩
    subst k0
    have CI := hide (fun wx => l01In_any ra next (epoch * 1000 + 999) wx)
    have CLX := hide (unhide CL w3 (unhide H0).q.1)
    obtain ⟨ib, hib⟩ : ∃ o, inB ra next (epoch * 1000 + 999) = o := ⟨_, rfl⟩
    rw [hib] at CI
    have HIB := hide hib
    have ha40 := unhide HAL
    have HA40 := hide (show al = apps.length by omega)
    clear hib ha40 E2 E2n E1 EE CL CD hka
    cases lo
    case false =>
      have hS := unhide E0n (by simp) (by simp)
      subst hS
      clear E0 E0n
      go_wp2_with fail
      refine (unhide CLX).mono ?_
      rintro e w4 ⟨rfl, hb⟩
      have HBX := hide hb
      have r0 := ((unhide P1).below hb).at 0
      simp at r0
      clear hb CLX
      go_wp2_with fail
      go_meet
      have HX := unhide HBX
      exact ⟨⟨qa, ql, qc, aa, al, ac, ma, ml, mc, ca, cl, cc⟩, hs, hide ((unhide P0).below HX), hide ((unhide P2).below HX), hide ((unhide H0).below HX), hide ((unhide HB0).on HX), Nat.lt_of_lt_of_le hz3 HX.size⟩
    cases ib
    case false =>
      have hS := unhide E0n (by simp) (fun h => by have := unhide HIB; rw [inB_true h.2.1 h.2.2.1] at this; cases this)
      subst hS
      clear E0 E0n
      go_wp2_with fail
      refine (unhide CLX).mono ?_
      rintro e w4 ⟨rfl, hb⟩
      have HBX := hide hb
      have p2 := ((unhide P0).below hb).at 2; have p3 := ((unhide P0).below hb).at 3
      have r0 := ((unhide P1).below hb).at 0; have r1 := ((unhide P1).below hb).at 1
      simp at p2 p3 r0 r1
      clear hb CLX
      go_wp2_with fail
      refine (unhide CI _).mono ?_
      rintro e w5 ⟨rfl, rfl⟩
      go_wp2_with fail
      go_meet
      have HX := unhide HBX
      exact ⟨⟨qa, ql, qc, aa, al, ac, ma, ml, mc, ca, cl, cc⟩, hs, hide ((unhide P0).below HX), hide ((unhide P2).below HX), hide ((unhide H0).below HX), hide ((unhide HB0).on HX), Nat.lt_of_lt_of_le hz3 HX.size⟩
    have hin : next ≤ ra ∧ ra ≤ epoch * 1000 + 999 := by have h := unhide HIB; simpa [inB] using h
    obtain ⟨hin1, hin2⟩ := hin
    by_cases h40 : al < 40
    case neg =>
      have hS := unhide E0n (by simp) (fun h => by have := unhide HA40; omega)
      subst hS
      have h40' : ¬ (al : Int) < 40 := by omega
      clear E0 E0n
      go_wp2_with fail
      refine (unhide CLX).mono ?_
      rintro e w4 ⟨rfl, hb⟩
      have HBX := hide hb
      have p2 := ((unhide P0).below hb).at 2; have p3 := ((unhide P0).below hb).at 3; have p5 := ((unhide P0).below hb).at 5
      have r0 := ((unhide P1).below hb).at 0; have r1 := ((unhide P1).below hb).at 1
      simp at p2 p3 p5 r0 r1
      clear hb CLX
      go_wp2_with fail
      refine (unhide CI _).mono ?_
      rintro e w5 ⟨rfl, rfl⟩
      go_wp2_with fail
      go_meet
      have HX := unhide HBX
      exact ⟨⟨qa, ql, qc, aa, al, ac, ma, ml, mc, ca, cl, cc⟩, hs, hide ((unhide P0).below HX), hide ((unhide P2).below HX), hide ((unhide H0).below HX), hide ((unhide HB0).on HX), Nat.lt_of_lt_of_le hz3 HX.size⟩
    have hS := unhide E0 (by simp) (by simp) hin1 hin2 (by have := unhide HA40; omega)
    subst hS
    have h40' : (al : Int) < 40 := by omega
    clear E0 E0n
    go_wp2_with fail
    refine (unhide CLX).mono ?_
    rintro e w4 ⟨rfl, hb⟩
    have K4 := hide ((unhide P0).below hb)
    have P4 := hide ((unhide P2).below hb)
    have H4 := hide ((unhide H0).below hb)
    have B4 := hide (show Below w.heap.size w w4 from below_on (unhide HW0) hb)
    have hz4 : b + 2 < w4.heap.size := Nat.lt_of_lt_of_le hz3 hb.size
    have p2 := (unhide K4).at 2; have p3 := (unhide K4).at 3; have p5 := (unhide K4).at 5
    have R4 := hide ((unhide P1).below hb)
    have r1 := (unhide R4).at 1; have r2 := (unhide R4).at 2
    simp at p2 p3 p5 r1 r2
    clear hb CLX
    go_wp2_with fail
    refine (unhide CI _).mono ?_
    rintro e w5 ⟨rfl, rfl⟩
    have hbx := below_al (Below.refl _ w4) (.cells #[.int .i64 ra, .string (bs rq), .slice none 0 0] 44)
    have H5 := hide ((unhide H4).below hbx)
    have K5 := hide ((unhide K4).below hbx)
    have P5 := hide ((unhide P4).below hbx)
    have R5 := hide ((unhide R4).below hbx)
    have B5 := hide (show Below w.heap.size w _ from below_on (unhide B4) hbx)
    have RW := hide (unhide H5).p.1
    have CP := hide (unhide H5).cap.a
    have RM := hide (unhide H5).rm.2.1
    have ALN := hide (unhide H5).p.1.1
    simp only at RW CP RM ALN
    go_wp2_with (at_builtin; refine wpList_append_rm _ rfl _ _ 27 rfl 44 i0 (.agg #[.int .i64 0, .string ByteArray.empty, .slice none 0 0]) 3 48 Tryz.underlying27 hii hi1 hi2 hi3 rfl (by decide) B _ aa al ac (pcells hs) rfl (unhide RM) (unhide CP) ?cB ?clo ?chs ⟨w4.heap.size, 0, none⟩ 1 1 (pcell ⟨ra, rq, none, 0, 0⟩) rfl rfl ?c1 ?c2 (by decide) ?c3 ?c4 ?_)
    case cB => simp; omega
    case clo => rw [pcells_len, ← unhide ALN]
    case chs => intro b' off e j u hj; subst e; exact pcells_row (unhide RW) j u hj
    case c1 => exact World.news_of_block (blk_new w4 #[.int .i64 ra, .string (bs rq), .slice none 0 0] 44)
    case c2 => intro u hu; simp at hu; rcases hu with rfl | rfl | rfl <;> rfl
    case c3 => unfold maxLen; omega
    case c4 => omega
    intro g cap' w6 ha
    have hBx : B ≤ (w4.alloc (.cells #[.int .i64 ra, .string (bs rq), .slice none 0 0] 44)).heap.size := by rw [al_size]; omega
    have H6 := hide ((unhide H5).add hBx ra (ra + 1) rq ha)
    have K6 := hide (show Blk w6 b _ 31 from ha.mks.blk (unhide K5) (fun ⟨N, hc, _⟩ => absurd (hc.type ⟨_, unhide K5, rfl⟩) (by decide)))
    have P6 := hide (show Blk w6 (b + 1 + 1) _ 31 from ha.mks.blk (unhide P5) (fun ⟨N, hc, _⟩ => absurd (hc.type ⟨_, unhide P5, rfl⟩) (by decide)))
    have R6 := hide (show Blk w6 (b + 1) _ 41 from ha.mks.blk (unhide R5) (fun ⟨N, hc, _⟩ => absurd (hc.type ⟨_, unhide R5, rfl⟩) (by decide)))
    have B6 := hide (show Mks (ApS B w) w w6 from (Mks.of_below (unhide B5)).via ha.mks (fun k ⟨N, hc, hBk⟩ => by
      rcases Nat.lt_or_ge k w.heap.size with hlt | hge
      · exact .inr ⟨N, hc.of_block ((unhide B5).block k hlt).symm, hBk⟩
      · exact .inl hge))
    have d5 := (unhide K6).at 5
    have d3 := (unhide K6).at 3
    have f5 := (unhide K6).f 5
    have f3 := (unhide K6).f 3
    have r1 := (unhide R6).at 1
    simp at d5 d3 r1
    have hz6 : b + 2 < w6.heap.size := (unhide P6).lt
    clear ha hBx H4 H5 K4 K5 P4 P5 R4 R5 R6 B4 B5 RW CP RM ALN hbx p0 p1 p2 p3 p4 p5 p6 p7 r0 r2
    have m5 : Mks (fun k => k = b) w6 (w6.setCell ⟨b, 5, none⟩ (.slice (some ⟨g, 0, none⟩) (al + 1) cap')) := Mks.one _ _ _ _ _ rfl
    have K7 := hide (show Blk (w6.setCell ⟨b, 5, none⟩ (.slice (some ⟨g, 0, none⟩) (al + 1) cap')) b _ 31 from (unhide K6).set 5 _)
    have m3 : Mks (fun k => k = b) (w6.setCell ⟨b, 5, none⟩ (.slice (some ⟨g, 0, none⟩) (al + 1) cap')) ((w6.setCell ⟨b, 5, none⟩ (.slice (some ⟨g, 0, none⟩) (al + 1) cap')).setCell ⟨b, 3, none⟩ (.int .i64 (ra + 1))) := Mks.one _ _ _ _ _ rfl
    have K8 := hide (show Blk ((w6.setCell ⟨b, 5, none⟩ (.slice (some ⟨g, 0, none⟩) (al + 1) cap')).setCell ⟨b, 3, none⟩ (.int .i64 (ra + 1))) b (svc ⟨qa, ql, qc, some ⟨g, 0, none⟩, al + 1, cap', ma, ml, mc, ca, cl, cc⟩ ⟨qs, clock, epoch, ra + 1, serial, apps ++ [⟨ra, rq, []⟩], ms, cs⟩) 31 from (unhide K7).set 3 _)
    have P8 := hide (((unhide P6).other b 5 (.slice (some ⟨g, 0, none⟩) (al + 1) cap') (by omega)).other b 3 (.int .i64 (ra + 1)) (by omega))
    have H8 := hide (((unhide H6).mkt m5 (unhide K6)).mkt m3 (unhide K7))
    have B8 := hide (show Mks (ApS B w) w _ from (unhide B6).via (m5.trans m3) (fun k e => .inl (by rw [e, unhide HBB]; exact Nat.le_refl _)))
    clear m5 m3 K6 K7 P6 H6 B6
    go_wp2_with fail
    go_meet
    exact ⟨⟨qa, ql, qc, some ⟨g, 0, none⟩, al + 1, cap', ma, ml, mc, ca, cl, cc⟩, _, K8, P8, H8, B8, by rw [set_size, set_size]; exact hz6⟩
  case rest =>
    obtain ⟨y, hs', K, P, H, BB, hz⟩ := hcut
    obtain ⟨w9, rfl⟩ : ∃ w', w' = wc := ⟨wc, rfl⟩
    obtain ⟨yqa, yql, yqc, yaa, yal, yac, yma, yml, ymc, yca, ycl, ycc⟩ := y
    obtain ⟨sqs, sck, sep, snx, sse, sap, sms, scs⟩ := S1
    clear P0 P1 P2 H0 HB0 E2 E2n E0 E0n E1 EE CL CD p0 p1 p2 p3 p4 p5 p6 p7 r0 r1 r2
    go_upto_region 11 with fail
    refine wp_region_lit ?_
    refine wpList_same (v := .agg #[.slice yqa yql yqc, .int .i64 sck, .int .i64 sep, .int .i64 snx, .int .i64 sse, .slice yaa yal yac, .slice yma yml ymc, .slice yca ycl ycc]) (d := some 86) rfl rfl (run_v (st_load (unhide K) rfl)) ?_
    simp only [Act.put, List.setIfInBounds_toArray, List.set_cons_zero, List.set_cons_succ]
    refine wpList_none (d := none) rfl rfl (run_u (st_store (unhide P) rfl rfl (by kernel_rfl))) ?_
    simp only [Act.put]
    have RR := hide (blk_row (unhide P) #[.slice yqa yql yqc, .int .i64 sck, .int .i64 sep, .int .i64 snx, .int .i64 sse, .slice yaa yal yac, .slice yma yml ymc, .slice yca ycl ycc])
    have MM := hide (mks_row (unhide P) #[.slice yqa yql yqc, .int .i64 sck, .int .i64 sep, .int .i64 snx, .int .i64 sse, .slice yaa yal yac, .slice yma yml ymc, .slice yca ycl ycc] rfl)
    generalize World.setRow w9 (b + 1 + 1) #[.slice yqa yql yqc, .int .i64 sck, .int .i64 sep, .int .i64 snx, .int .i64 sse, .slice yaa yal yac, .slice yma yml ymc, .slice yca ycl ycc] = W9 at RR MM ⊢
    have H9 := hide ((unhide H).mkt (unhide MM) (unhide P))
    have B9 := hide ((unhide BB).via (unhide MM) (fun k e => .inl (by rw [e]; have := unhide HBB; omega)))

    have z0 := (unhide RR).at 0; have z1 := (unhide RR).at 1; have z2 := (unhide RR).at 2; have z3 := (unhide RR).at 3; have z4 := (unhide RR).at 4; have z5 := (unhide RR).at 5; have z6 := (unhide RR).at 6; have z7 := (unhide RR).at 7
    simp at z0 z1 z2 z3 z4 z5 z6 z7
    go_wp2
    refine bodyPost_ret (v := .agg #[.slice yqa yql yqc, .int .i64 sck, .int .i64 sep, .int .i64 snx, .int .i64 sse, .slice yaa yal yac, .slice yma yml ymc, .slice yca ycl ycc]) (by simp [results, Tryz.results20, go_sem, z0, z1, z2, z3, z4, z5, z6, z7]) rfl ?_
    exact (show ApAns B w _ _ _ from ⟨⟨yqa, yql, yqc, yaa, yal, yac, yma, yml, ymc, yca, ycl, ycc⟩, hs', rfl, unhide H9, unhide B9⟩)
end Go.Proofs.YtkpmocbfedgfhaaGreat

/-
  A record put into effect by the program: takeOn, beginEpoch, recall; walks over the dump.
-/
namespace Go.Proofs.YtkpmocbfedgfhaaGreat
open Go.RowKit
set_option linter.unusedVariables false
set_option linter.unusedSimpArgs false
/-- the box b bears a state whose lists lie in blocks from B on; below B all stands -/
def StIn (B b : Nat) (w : World) (s : St) (w' : World) : Prop := ∃ y hs, Blk w' b (svc y s) 31 ∧ SHas B w' y s hs ∧ Below B w w'

set_option maxRecDepth 100000 in
set_option maxHeartbeats 1000000 in
theorem lastAppOf_any (ep : Int) (w : World) (h1 : 0 ≤ ep) (h2 : ep ≤ 900000) :
    Calls Tryz.prog 121 #[.int .i64 ep] w fun e w' => e = .returned (.int .i64 (ep * 1000 + 999)) ∧ w = w' := by
  go_enter Tryz.func121, Tryz.ntmps121
  go_wp2
  go_ret
  exact ⟨ret_int (by omega), rfl⟩

set_option maxRecDepth 100000 in
set_option maxHeartbeats 4000000 in
theorem takeOn_st {B : Nat} (l : List Q) (b : Nat) (x : Sls) (s : St) (hs : List AV) (ra : Int) (rq : List UInt8) (w : World) (hk : Blk w b (svc x s) 31) (h : SHas B w x s hs) (hBb : B ≤ b) (hi : RInv l s) (hf : FitQ l) :
    Calls Tryz.prog 83 #[.pointer (some ⟨b, 0, none⟩), .int .i64 ra, .string (bs rq)] w fun e w' => e = .returned (.tuple #[]) ∧ StIn B b w (applyV s ⟨0, ra, rq⟩) w' := by
  have hfs := rinv_fit hi hf
  have hbs := hk.lt
  have CL := hide (fun wx (hb : Below w.heap.size w wx) => lone_any x.qa x.ql x.qc s.qs rq wx (h.q.1.below hb) (by have := h.q.1.1; have := hfs.1.1; omega))
  obtain ⟨i0, hii, hz0, hz1, hz2⟩ := info_parts Tryz.infoApp
  have i6 := hi.e1
  have i7 := hi.e2
  have i8 := hi.n1
  have i9 := hi.n2
  have i10 := hi.len
  have hal : x.al = s.apps.length := h.p.1.1.trans h.k.heads.1
  obtain ⟨S1, hS⟩ : ∃ S, applyV s ⟨0, ra, rq⟩ = S := ⟨_, rfl⟩
  rw [hS]
  obtain ⟨lo, hlo⟩ : ∃ o, lone s.qs rq = o := ⟨_, rfl⟩
  rw [hlo] at CL
  have E0 := hide (fun (h1 : lo = true) (h2 : s.next ≤ ra) (h3 : ra ≤ s.epoch * 1000 + 999) (h4 : s.apps.length < 40) => hS.symm.trans (apply_app (r := ⟨0, ra, rq⟩) rfl ⟨by rw [hlo]; exact h1, h2, h3, h4⟩))
  have E0n := hide (fun (hn : ¬ (lo = true ∧ s.next ≤ ra ∧ ra ≤ s.epoch * 1000 + 999 ∧ s.apps.length < 40)) => hS.symm.trans (apply_not (r := ⟨0, ra, rq⟩) rfl (by rw [hlo]; exact hn)))
  have HK := hide hk
  have HH := hide h
  have a0 := hk.at 0
  simp at a0
  clear hk h hi hfs hS hlo
  obtain ⟨qa, ql, qc, aa, al, ac, ma, ml, mc, ca, cl, cc⟩ := x
  obtain ⟨qs, clock, epoch, next, serial, apps, ms, cs⟩ := s
  simp only at *
  have CA := hide (fun wx => lastAppOf_any epoch wx (by omega) i7)
  have HAL := hide hal
  clear hal
  by_cases hc : lo = true ∧ next ≤ ra ∧ ra ≤ epoch * 1000 + 999 ∧ apps.length < 40
  case neg =>
    have hS := unhide E0n hc
    subst hS
    clear E0 E0n
    cases lo
    case false =>
      go_enter Tryz.func83, Tryz.ntmps83
      go_wp2_with fail
      refine (unhide CL _ (Below.refl _ _)).mono ?_
      rintro e w1 ⟨rfl, hb⟩
      have HF := hide (show StIn B b w _ w1 from ⟨_, _, (unhide HK).below hb, (unhide HH).below hb, hb.mono (by omega)⟩)
      clear hb
      go_wp2
      refine bodyPost_ret (v := .tuple #[]) (by simp [results, Tryz.results83, go_sem]) rfl ⟨rfl, unhide HF⟩
    simp only [true_and] at hc
    have hc2 : ra < next ∨ (next ≤ ra ∧ epoch * 1000 + 999 < ra) ∨ (next ≤ ra ∧ ra ≤ epoch * 1000 + 999 ∧ 40 ≤ al) := by have := unhide HAL; omega
    clear hc
    go_enter Tryz.func83, Tryz.ntmps83
    go_wp2_with fail
    refine (unhide CL _ (Below.refl _ _)).mono ?_
    rintro e w1 ⟨rfl, hb⟩
    have HF := hide (show StIn B b w _ w1 from ⟨_, _, (unhide HK).below hb, (unhide HH).below hb, hb.mono (by omega)⟩)
    have a2 := ((unhide HK).below hb).at 2
    have a3 := ((unhide HK).below hb).at 3
    have a5 := ((unhide HK).below hb).at 5
    simp at a2 a3 a5
    clear hb a0
    rcases hc2 with h1 | ⟨h1, h2⟩ | ⟨h1, h2, h3⟩
    · go_wp2
      refine bodyPost_ret (v := .tuple #[]) (by simp [results, Tryz.results83, go_sem]) rfl ⟨rfl, unhide HF⟩
    · have h1' : ¬ ra < next := by omega
      go_wp2_with fail
      refine (unhide CA _).mono ?_
      rintro e w2 ⟨rfl, rfl⟩
      go_wp2
      refine bodyPost_ret (v := .tuple #[]) (by simp [results, Tryz.results83, go_sem]) rfl ⟨rfl, unhide HF⟩
    · have h1' : ¬ ra < next := by omega
      have h2' : ¬ epoch * 1000 + 999 < ra := by omega
      go_wp2_with fail
      refine (unhide CA _).mono ?_
      rintro e w2 ⟨rfl, rfl⟩
      have h3' : (40 : Int) ≤ (al : Int) := by omega
      go_wp2
      refine bodyPost_ret (v := .tuple #[]) (by simp [results, Tryz.results83, go_sem]) rfl ⟨rfl, unhide HF⟩
  obtain ⟨h0, h1, h2, h3⟩ := hc
  have hS := unhide E0 h0 h1 h2 h3
  subst hS h0
  clear E0 E0n
  go_enter Tryz.func83, Tryz.ntmps83
  go_wp2_with fail
  refine (unhide CL _ (Below.refl _ _)).mono ?_
  rintro e w1 ⟨rfl, hb⟩
  have K1 := hide ((unhide HK).below hb)
  have H1 := hide ((unhide HH).below hb)
  have B1 := hide (show Below B w w1 from hb.mono (by omega))
  have a2 := (unhide K1).at 2
  have a3 := (unhide K1).at 3
  have a5 := (unhide K1).at 5
  simp at a2 a3 a5
  have hb1 : b < w1.heap.size := (unhide K1).lt
  clear hb a0
  have h1' : ¬ ra < next := by omega
  have h2' : ¬ epoch * 1000 + 999 < ra := by omega
  have h3' : ¬ (40 : Int) ≤ (al : Int) := by have := unhide HAL; omega
  go_wp2_with fail
  refine (unhide CA _).mono ?_
  rintro e w2 ⟨rfl, rfl⟩
  have hbx := below_al (Below.refl _ w1) (.cells #[.int .i64 ra, .string (bs rq), .slice none 0 0] 44)
  have H2 := hide ((unhide H1).below hbx)
  have K2 := hide ((unhide K1).below hbx)
  have B2 := hide (show Below B w _ from (unhide B1).trans (hbx.mono (by omega)))
  have RW := hide (unhide H2).p.1
  have CP := hide (unhide H2).cap.a
  have RM := hide (unhide H2).rm.2.1
  have hl : al ≤ 40 := by have := unhide HAL; omega
  have ALN := hide (unhide H2).p.1.1
  simp only at RW CP RM ALN
  go_wp2_with (at_builtin; refine wpList_append_rm _ rfl _ _ 27 rfl 44 i0 (.agg #[.int .i64 0, .string ByteArray.empty, .slice none 0 0]) 3 48 Tryz.underlying27 hii hz0 hz1 hz2 rfl (by decide) B _ aa al ac (pcells hs) rfl (unhide RM) (unhide CP) ?cB ?clo ?chs ⟨w1.heap.size, 0, none⟩ 1 1 (pcell ⟨ra, rq, none, 0, 0⟩) rfl rfl ?c1 ?c2 (by decide) ?c3 ?c4 ?_)
  case cB => simp; omega
  case clo => rw [pcells_len, ← unhide ALN]
  case chs => intro b' off e j u hj; subst e; exact pcells_row (unhide RW) j u hj
  case c1 => exact World.news_of_block (blk_new w1 #[.int .i64 ra, .string (bs rq), .slice none 0 0] 44)
  case c2 => intro u hu; simp at hu; rcases hu with rfl | rfl | rfl <;> rfl
  case c3 => unfold maxLen; omega
  case c4 => omega
  intro g cap' w3 ha
  have hBx : B ≤ (w1.alloc (.cells #[.int .i64 ra, .string (bs rq), .slice none 0 0] 44)).heap.size := by rw [al_size]; omega
  have H3 := hide ((unhide H2).add hBx ra (ra + 1) rq ha)
  have K3 := hide (show Blk w3 b _ 31 from ha.mks.blk (unhide K2) (fun ⟨N, hc, _⟩ => absurd (hc.type ⟨_, unhide K2, rfl⟩) (by decide)))
  have B3 := hide (show Below B w w3 from (unhide B2).trans (ha.mks.below (fun k ⟨N, _, h⟩ => h) hBx))
  have d5 := (unhide K3).at 5
  have d3 := (unhide K3).at 3
  have f5 := (unhide K3).f 5
  have f3 := (unhide K3).f 3
  simp at d5 d3
  have hb3 : b < w3.heap.size := (unhide K3).lt
  clear ha hBx H1 H2 K1 K2 B1 B2 RW CP RM ALN hbx a2 a3 a5 CA CL HH HK
  have m5 : Mks (fun k => k = b) w3 (w3.setCell ⟨b, 5, none⟩ (.slice (some ⟨g, 0, none⟩) (al + 1) cap')) := Mks.one _ _ _ _ _ rfl
  have K4 := hide (show Blk (w3.setCell ⟨b, 5, none⟩ (.slice (some ⟨g, 0, none⟩) (al + 1) cap')) b _ 31 from (unhide K3).set 5 _)
  have m3 : Mks (fun k => k = b) (w3.setCell ⟨b, 5, none⟩ (.slice (some ⟨g, 0, none⟩) (al + 1) cap')) ((w3.setCell ⟨b, 5, none⟩ (.slice (some ⟨g, 0, none⟩) (al + 1) cap')).setCell ⟨b, 3, none⟩ (.int .i64 (ra + 1))) := Mks.one _ _ _ _ _ rfl
  have HF := hide (show StIn B b w ⟨qs, clock, epoch, ra + 1, serial, apps ++ [⟨ra, rq, []⟩], ms, cs⟩ ((w3.setCell ⟨b, 5, none⟩ (.slice (some ⟨g, 0, none⟩) (al + 1) cap')).setCell ⟨b, 3, none⟩ (.int .i64 (ra + 1))) from
    ⟨⟨qa, ql, qc, some ⟨g, 0, none⟩, al + 1, cap', ma, ml, mc, ca, cl, cc⟩, _, (unhide K4).set 3 _, ((unhide H3).mkt m5 (unhide K3)).mkt m3 (unhide K4), (unhide B3).trans ((m5.trans m3).below (fun k e => by rw [e]; exact hBb) (by omega))⟩)
  clear m5 m3 K4 K3 H3 B3
  go_wp2
  go_end0
  exact ⟨rfl, unhide HF⟩

theorem max_runR (x y : Int) (wx : World) : (Builtin.max_ #[3, 3] 3 #[.int .i64 x, .int .i64 y]).run Tryz.prog wx = .ok (.int .i64 (max x y)) wx := by
  have : (if x < y then y else x) = max x y := by omega
  simp [go_sem, this]
set_option maxRecDepth 100000 in
set_option maxHeartbeats 4000000 in
theorem beginEpoch_st {B : Nat} (l : List Q) (b : Nat) (x : Sls) (s : St) (hs : List AV) (rr : Rc) (hrr : rr.kind = 2) (w : World) (hk : Blk w b (svc x s) 31) (h : SHas B w x s hs) (hBb : B ≤ b) (hi : RInv l s) :
    Calls Tryz.prog 85 #[.pointer (some ⟨b, 0, none⟩)] w fun e w' => e = .returned (.tuple #[]) ∧ StIn B b w (applyV s rr) w' := by
  have hbs := hk.lt
  have i6 := hi.e1
  have i7 := hi.e2
  have i8 := hi.n1
  have i9 := hi.n2
  obtain ⟨S1, hS⟩ : ∃ S, applyV s rr = S := ⟨_, rfl⟩
  rw [hS]
  have E2 := hide (fun (he : s.epoch < 900000) => hS.symm.trans (apply_epoch hrr he))
  have E2n := hide (fun (he : ¬ s.epoch < 900000) => hS.symm.trans (apply_last hrr he))
  have HK := hide hk
  have HH := hide h
  have a2 := hk.at 2
  have a3 := hk.at 3
  have f2 := hk.f 2
  have f3 := hk.f 3
  simp at a2 a3
  clear hk h hi hS
  obtain ⟨qa, ql, qc, aa, al, ac, ma, ml, mc, ca, cl, cc⟩ := x
  obtain ⟨qs, clock, epoch, next, serial, apps, ms, cs⟩ := s
  simp only at *
  by_cases he : epoch < 900000
  · have hS := unhide E2 he
    subst hS
    have m2 : Mks (fun k => k = b) w (w.setCell ⟨b, 2, none⟩ (.int .i64 (epoch + 1))) := Mks.one _ _ _ _ _ rfl
    have K4 := hide (show Blk (w.setCell ⟨b, 2, none⟩ (.int .i64 (epoch + 1))) b _ 31 from (unhide HK).set 2 _)
    have m3 : Mks (fun k => k = b) (w.setCell ⟨b, 2, none⟩ (.int .i64 (epoch + 1))) ((w.setCell ⟨b, 2, none⟩ (.int .i64 (epoch + 1))).setCell ⟨b, 3, none⟩ (.int .i64 (max next ((epoch + 1) * 1000 + 1)))) := Mks.one _ _ _ _ _ rfl
    have HF := hide (show StIn B b w ⟨qs, clock, epoch + 1, max next ((epoch + 1) * 1000 + 1), serial, apps, ms, cs⟩ ((w.setCell ⟨b, 2, none⟩ (.int .i64 (epoch + 1))).setCell ⟨b, 3, none⟩ (.int .i64 (max next ((epoch + 1) * 1000 + 1)))).drew from
      ⟨⟨qa, ql, qc, aa, al, ac, ma, ml, mc, ca, cl, cc⟩, hs, (unhide K4).set 3 _, (fun z => ⟨z.q, z.p, z.k, z.m, z.c, z.cap, z.rm⟩) ((((unhide HH).mkt m2 (unhide HK)).mkt m3 (unhide K4)).below ((Below.refl _ _).drew)), ((m2.trans m3).below (fun k e => by rw [e]; exact hBb) (by omega)).drew⟩)
    have g2 : (w.setCell ⟨b, 2, none⟩ (.int .i64 (epoch + 1))).cell? ⟨b, 2, none⟩ = some (.int .i64 (epoch + 1)) := by have := (unhide K4).at 2; simpa using this
    have g3 : (w.setCell ⟨b, 2, none⟩ (.int .i64 (epoch + 1))).cell? ⟨b, 3, none⟩ = some (.int .i64 next) := by have := (unhide K4).at 3; simpa using this
    have hf3 : (w.setCell ⟨b, 2, none⟩ (.int .i64 (epoch + 1))).frozen? ⟨b, 3, none⟩ = false := (unhide K4).f 3
    have hwr : IntKind.i64.wrap ((epoch + 1) * 1000) = (epoch + 1) * 1000 := by rw [IntKind.wrap_i64]; omega
    have hwr2 : IntKind.i64.wrap ((epoch + 1) * 1000 + 1) = (epoch + 1) * 1000 + 1 := by rw [IntKind.wrap_i64]; omega
    have hmax := max_runR next ((epoch + 1) * 1000 + 1)
    have he' : ¬ (900000 : Int) ≤ epoch := by omega
    clear m2 m3 K4 E2 E2n HK HH
    go_enter Tryz.func85, Tryz.ntmps85
    go_upto_region 2 with fail
    go_region_with (fail)
    all_goals
      go_wp2
      go_end0
      exact ⟨rfl, unhide HF⟩
  · have hS := unhide E2n he
    subst hS
    have he' : (900000 : Int) ≤ epoch := by omega
    have HF := hide (show StIn B b w _ w from ⟨_, _, unhide HK, unhide HH, Below.refl _ _⟩)
    clear E2 E2n HK HH
    go_enter Tryz.func85, Tryz.ntmps85
    go_wp2
    refine bodyPost_ret (v := .tuple #[]) (by simp [results, Tryz.results85, go_sem]) rfl ⟨rfl, unhide HF⟩

theorem StIn.of {B b : Nat} {w w1 w' : World} {s : St} (h : StIn B b w1 s w') (hb : Below B w w1) : StIn B b w s w' := let ⟨y, hs, h1, h2, h3⟩ := h; ⟨y, hs, h1, h2, hb.trans h3⟩

set_option maxRecDepth 100000 in
set_option maxHeartbeats 4000000 in
theorem recall_st {B : Nat} (l : List Q) (b : Nat) (s : St) (r : Rc) (w0 w : World) (h : StIn B b w0 s w) (hBb : B ≤ b) (hi : RInv l s) (hf : FitQ l) :
    Calls Tryz.prog 49 #[.pointer (some ⟨b, 0, none⟩), rcv r] w fun e w' => e = .returned (.tuple #[]) ∧ StIn B b w0 (applyV s r) w' ∧ w.heap.size ≤ w'.heap.size := by
  obtain ⟨x, hs, hk, hh, hb0⟩ := h
  obtain ⟨rk, ra, rq⟩ := r
  have hbs := hk.lt
  have hfs := rinv_fit hi hf
  have hba := below_al (Below.refl _ w) (.cells #[.int .i64 rk, .int .i64 ra, .string (bs rq)] 41)
  have KA := hide (hk.below hba)
  have HA := hide (hh.below hba)
  have BA := hide (show Below B w0 _ from hb0.trans (hba.mono (by omega)))
  have hal : x.al ≤ 1048576 := by have := hh.p.1.1; have := hh.k.heads.1; have := hfs.2.1.1; omega
  have hcl : x.cl ≤ 1048576 := by have := hh.c.1.1; have := hfs.2.2.2.1; omega
  have CT := hide (takeOn_st l b x s hs ra rq _ (unhide KA) (unhide HA) hBb hi hf)
  have CE := hide (fun h2 => beginEpoch_st l b x s hs ⟨rk, ra, rq⟩ h2 _ (unhide KA) (unhide HA) hBb hi)
  have CD := hide (drop_st (B := B) ra b x s hs _ (unhide KA) (unhide HA) (by rw [al_size]; omega) hcl hal)
  have E1 := hide (fun (h : rk = 1) => apply_done (s := s) (r := ⟨rk, ra, rq⟩) h)
  have E0 := hide (fun (h0 : rk ≠ 0) (h1 : rk ≠ 1) (h2 : rk ≠ 2) => apply_else (s := s) (r := ⟨rk, ra, rq⟩) h0 h1 h2)
  have HST := hide (show StIn B b w0 s _ from ⟨x, hs, unhide KA, unhide HA, unhide BA⟩)
  clear hk hh hb0 hfs hi
  by_cases k0 : rk = 0
  · subst k0
    go_enter Tryz.func49, Tryz.ntmps49
    go_wp2_with fail
    refine (unhide CT).mono ?_
    rintro e w1 ⟨rfl, h1⟩
    have HF := hide (h1.of (unhide BA))
    have hz : w.heap.size ≤ w1.heap.size := by obtain ⟨_, _, _, _, hb⟩ := h1; exact Nat.le_trans hba.size hb.size
    clear h1
    go_wp2
    go_end0
    exact ⟨rfl, unhide HF, hz⟩
  by_cases k1 : rk = 1
  · subst k1
    rw [unhide E1 rfl]
    go_enter Tryz.func49, Tryz.ntmps49
    go_wp2_with fail
    refine (unhide CD).mono ?_
    rintro e w1 ⟨y, go, gn, gc, rfl, h1, h2, h3, h4, h5⟩
    have HF := hide (show StIn B b w0 ⟨s.qs, s.clock, s.epoch, s.next, s.serial, s.apps.filter (fun a => !decide (a.id = ra)), s.ms, s.cs.filter (fun q => !decide (q.app = ra))⟩ w1 from ⟨y, _, h1, h2, (unhide BA).trans (h5.below (fun k e => by rw [e]; exact hBb) (by rw [al_size]; omega))⟩)
    have hz : w.heap.size ≤ w1.heap.size := Nat.le_trans hba.size h5.size
    clear h1 h2 h3 h4 h5
    go_wp2
    go_end0
    exact ⟨rfl, unhide HF, hz⟩
  by_cases k2 : rk = 2
  · subst k2
    go_enter Tryz.func49, Tryz.ntmps49
    go_wp2_with fail
    refine (unhide CE (by simp)).mono ?_
    rintro e w1 ⟨rfl, h1⟩
    have HF := hide (h1.of (unhide BA))
    have hz : w.heap.size ≤ w1.heap.size := by obtain ⟨_, _, _, _, hb⟩ := h1; exact Nat.le_trans hba.size hb.size
    clear h1
    go_wp2
    go_end0
    exact ⟨rfl, unhide HF, hz⟩
  rw [unhide E0 k0 k1 k2]
  have k0' : (rk == 0) = false := by simpa using k0
  have k1' : (rk == 1) = false := by simpa using k1
  have k2' : (rk == 2) = false := by simpa using k2
  have hz := hba.size
  go_enter Tryz.func49, Tryz.ntmps49
  go_wp2
  go_end0
  exact ⟨rfl, unhide HST, hz⟩
end Go.Proofs.YtkpmocbfedgfhaaGreat
